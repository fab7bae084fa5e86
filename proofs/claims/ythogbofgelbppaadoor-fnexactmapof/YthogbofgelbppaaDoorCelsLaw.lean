/-
  Cells in slices for the laws: the contracts of laws.szCellS, toCellS (a copy in new memory), eqCellS at what is the same, markCellS (written into memory of its own alone); and what a frame tells of cells that came in.
-/
import Derived.Test.YthogbofgelbppaaDoorMapRow
import Derived.Test.YthogbofgelbppaaDoorOwnZ
import Derived.Test.YthogbofgelbppaaDoorCellIn
import Derived.Test.YthogbofgelbppaaDoorCellLaw
import Derived.Deep.MidRow
import Derived.Deep.RegionHeld3
import Derived.Deep.SlicePairs
namespace Go.Proofs.YthogbofgelbppaaDoor
set_option maxRecDepth 100000
open Go.RowKit Go.ChangeShapes Go.WideShapes Go.ChangeAt
set_option linter.unusedVariables false
set_option linter.unusedSimpArgs false

def Cel.zero : Cel := ⟨0, 0, 0, 0⟩
/-- Four cells. -/
def Cell4 (w : World) (b o : Nat) (c : Cel) : Prop :=
  w.cell? ⟨b, o, none⟩ = some (.int .i64 c.k) ∧ w.cell? ⟨b, o + 1, none⟩ = some (.int .i64 c.a) ∧ w.cell? ⟨b, o + 2, none⟩ = some (.int .i64 c.b) ∧ w.cell? ⟨b, o + 3, none⟩ = some (.int .i64 c.n)
theorem Cell4.below {w w' : World} {b o : Nat} {c : Cel} (h : Cell4 w b o c) (hb : Below w.heap.size w w') (hl : b < w.heap.size) : Cell4 w' b o c :=
  ⟨(hb.cell (p := ⟨b, o, none⟩) hl).trans h.1, (hb.cell (p := ⟨b, o + 1, none⟩) hl).trans h.2.1, (hb.cell (p := ⟨b, o + 2, none⟩) hl).trans h.2.2.1, (hb.cell (p := ⟨b, o + 3, none⟩) hl).trans h.2.2.2⟩
/-- A slice of cells. -/
def RawCels (w : World) (v : Value) (cs : List Cel) : Prop :=
  cs.length ≤ 9223372036854775807 ∧ ∃ (a : Option Addr) (cap : Nat), v = .slice a cs.length cap ∧ (a = none → cap = 0) ∧
    (cs ≠ [] → ∃ b off, a = some ⟨b, off, none⟩ ∧ b < w.heap.size ∧ ∀ j, j < cs.length → Cell4 w b (off + j * 4) (cs.getD j Cel.zero))
theorem RawCels.below {w w' : World} {v : Value} {cs : List Cel} (h : RawCels w v cs) (hb : Below w.heap.size w w') : RawCels w' v cs := by
  obtain ⟨hl, a, cap, rfl, hn, hc⟩ := h
  refine ⟨hl, a, cap, rfl, hn, fun hne => ?_⟩
  obtain ⟨b, off, rfl, hbl, hcell⟩ := hc hne
  exact ⟨b, off, rfl, Nat.lt_of_lt_of_le hbl hb.size, fun j hj => (hcell j hj).below hb hbl⟩

/-- What is left of l behind so much, or -1. -/
def leftI (l : Int) (m : Nat) : Int := if (m : Int) ≤ l then l - m else -1
theorem left_yes {l : Int} {m : Nat} (h : (m : Int) ≤ l) : leftI l m = l - m := if_pos h
theorem left_no {l : Int} {m : Nat} (h : ¬ (m : Int) ≤ l) : leftI l m = -1 := if_neg h

theorem szCellS_any (a : Option Addr) (n cap : Nat) (l : Int) (w : World) (h0 : 0 ≤ l) (h1 : l ≤ 1048576) (hn : n ≤ 9223372036854775807) :
    Calls Tryd.prog 14 #[.slice a n cap, .int .i64 l] w fun e w' => e = .returned (.int .i64 (leftI l n)) ∧ w' = w := by
  by_cases h : (n : Int) ≤ l
  · have h2 : ¬ l - (n : Int) < 0 := by omega
    go_enter Tryd.func14, Tryd.ntmps14
    go_wp2
    go_ret
    exact ⟨ret_int (left_yes h).symm, rfl⟩
  · have h2 : l - (n : Int) < 0 := by omega
    go_enter Tryd.func14, Tryd.ntmps14
    go_wp2
    go_ret
    exact ⟨ret_int (left_no (by omega)).symm, rfl⟩
theorem size_setCells (b : Nat) : ∀ (vs : List Value) (o : Nat) (w : World), (w.setCells b o vs).heap.size = w.heap.size
  | [], _, _ => rfl
  | v :: r, o, w => by rw [World.setCells, size_setCells b r]; simp [World.setCell]
theorem bel_setCells {B : Nat} {a : World} (b : Nat) : ∀ (vs : List Value) (o : Nat) (w : World), Below B a w → B ≤ b → Below B a (w.setCells b o vs)
  | [], _, _, h, _ => h
  | v :: r, o, w, h, hb => by rw [World.setCells]; exact bel_setCells b r (o + 1) _ (h.setCell hb _) hb

theorem there_below {w w' : World} {b o n : Nat} (h : w.there b o n) (hb : Below w.heap.size w w') (hl : b < w.heap.size) : w'.there b o n := fun j hj =>
  ⟨by rw [hb.cell (p := ⟨b, o + j, none⟩) hl]; exact (h j hj).1, by rw [hb.frozen (p := ⟨b, o + j, none⟩) hl]; exact (h j hj).2⟩
theorem there_part {w : World} {b n : Nat} (h : w.there b 0 n) {o m : Nat} (hm : o + m ≤ n) : w.there b o m := fun j hj => by
  have := h (o + j) (by omega)
  rwa [Nat.zero_add] at this
theorem there_own {w : World} {base : Nat} {e : TypeId} {s g n cap : Nat} {xs : List Value} (h : w.ownsRow base e s (.slice (some ⟨g, 0, none⟩) n cap) n xs) : w.there g 0 (n * s) := fun j hj => by
  rw [Nat.zero_add]
  refine ⟨?_, h.frozenAt j⟩
  rw [h.cellAt j hj, List.getElem?_eq_getElem (by rw [h.1]; exact hj)]
  rfl
theorem own_lt {w : World} {base : Nat} {e : TypeId} {s g n cap : Nat} {xs : List Value} (h : w.ownsRow base e s (.slice (some ⟨g, 0, none⟩) n cap) n xs) : g < w.heap.size := (h.lt g rfl).2

theorem Cell4.range {w : World} {b o : Nat} {c : Cel} (h : Cell4 w b o c) : w.rangeAt b o [.int .i64 c.k, .int .i64 c.a, .int .i64 c.b, .int .i64 c.n] := by
  obtain ⟨c0, c1, c2, c3⟩ := h
  intro j v hv
  match j, hv with
  | 0, hv => simp at hv; subst hv; exact c0
  | 1, hv => simp at hv; subst hv; exact c1
  | 2, hv => simp at hv; subst hv; exact c2
  | 3, hv => simp at hv; subst hv; exact c3
  | n + 4, hv => simp at hv
theorem cell4_of {w : World} {b o : Nat} {c : Cel} (h : w.rangeAt b o [.int .i64 c.k, .int .i64 c.a, .int .i64 c.b, .int .i64 c.n]) : Cell4 w b o c := ⟨h 0 _ rfl, h 1 _ rfl, h 2 _ rfl, h 3 _ rfl⟩
theorem infoCell4 : (Tryd.prog.info? 32).map (fun i => (i.zero, i.size, i.bytes)) = some (some (.agg #[.int .i64 0, .int .i64 0, .int .i64 0, .int .i64 0]), 4, 32) := by kernel_rfl

set_option maxHeartbeats 1000000 in
theorem toCellS_some (b off cap : Nat) (cs : List Cel) (w : World) (hpos : 0 < cs.length) (hlim : cs.length ≤ 1048576) (hbw : b < w.heap.size)
    (hc : ∀ j, j < cs.length → Cell4 w b (off + j * 4) (cs.getD j Cel.zero)) :
    Calls Tryd.prog 16 #[.slice (some ⟨b, off, none⟩) cs.length cap] w fun e w' =>
      e = .returned (.slice (some ⟨w.heap.size, 0, none⟩) cs.length cs.length) ∧ w.heap.size < w'.heap.size ∧ w'.there w.heap.size 0 (cs.length * 4) ∧ (∀ j, j < cs.length → Cell4 w' w.heap.size (0 + j * 4) (cs.getD j Cel.zero)) ∧ Below w.heap.size w w' := by
  obtain ⟨i0, hi, hz0, hz1, hz2⟩ := info_parts infoCell4
  obtain ⟨n, hn⟩ : ∃ n, n = cs.length := ⟨_, rfl⟩
  have HN : Hid (n = cs.length) := hn
  rw [← hn] at hpos hlim hc ⊢
  clear hn
  have HC : Hid (∀ j, j < n → Cell4 w b (off + j * 4) (cs.getD j Cel.zero)) := hc
  clear hc
  go_enter Tryd.func16, Tryd.ntmps16
  go_wp2_with (at_make; refine wpList_make_full _ rfl _ _ 42 rfl w.heap.size 32 i0 (.agg #[.int .i64 0, .int .i64 0, .int .i64 0, .int .i64 0]) 4 Tryd.underlying42 hi hz0 hz1 _ _ _ _ n rfl rfl rfl rfl (by rw [hz2]; omega) (by unfold maxLen; omega) (Nat.le_refl _) ?_; intro w1 hown1 hgrow1)
  have HB1 : Hid (Below w.heap.size w w1) := (Below.refl _ _).grown hgrow1 (Nat.le_refl _) (by simp)
  have HT1 : Hid (w1.there w.heap.size 0 (n * 4)) := there_own hown1
  have hl1 : w.heap.size < w1.heap.size := own_lt hown1
  clear hown1 hgrow1 hi hz0 hz1 hz2
  go_loopw [4] (fun i wr => ∃ k : Nat, k ≤ n ∧ i = .int .i64 k ∧ Hid (w.heap.size < wr.heap.size) ∧ Hid (wr.there w.heap.size 0 (n * 4)) ∧ Hid (∀ j, j < k → Cell4 wr w.heap.size (0 + j * 4) (cs.getD j Cel.zero)) ∧ Hid (Below w.heap.size w wr))
    (fun i _ => n - (intOf i).toNat)
  case atStart => exact ⟨0, Nat.zero_le _, rfl, hl1, HT1.out, fun j hj => by omega, HB1.out⟩
  case round =>
    obtain ⟨k, hk, rfl, HL, HT, HD, HB⟩ := hrel
    clear HB1 HT1 hl1
    by_cases hlt : k < n
    · have h4 : Cell4 wr b (off + k * 4) (cs.getD k Cel.zero) := (HC.out k hlt).below HB.out hbw
      obtain ⟨c, hcc⟩ : ∃ c, cs.getD k Cel.zero = c := ⟨_, rfl⟩
      have HCC : Hid (cs.getD k Cel.zero = c) := hcc
      rw [hcc] at h4
      clear hcc
      obtain ⟨q, hq⟩ : ∃ q, k * 4 = q := ⟨_, rfl⟩
      rw [hq] at h4
      have HQ : Hid (k * 4 = q) := hq
      have HR : Hid (wr.rangeAt b (off + q) ([.int .i64 c.k, .int .i64 c.a, .int .i64 c.b, .int .i64 c.n] : List Value)) := h4.range
      have hil : (Tryd.prog.info? 24).map (·.size) = some ([.int .i64 c.k, .int .i64 c.a, .int .i64 c.b, .int .i64 c.n] : List Value).length := by kernel_rfl
      have hii : (Tryd.prog.info? 32).map (·.size) = some (#[.int .i64 c.k, .int .i64 c.a, .int .i64 c.b, .int .i64 c.n] : Array Value).size := by kernel_rfl
      have H1 : Hid ((#[.int .i64 c.k, .int .i64 c.a, .int .i64 c.b, .int .i64 c.n] : Array Value).all (·.oneCell') = true) := by show _ = _; simp [Value.oneCell']
      clear h4
      go_wp2_with (refine wpList_load_mid rfl 24 _ rfl b (off + q) rfl _ _ HR.out Tryd.underlying24 rfl hil ?_)
      refine (toCell_any _ _ _ _ _).mono ?_
      rintro e w2 ⟨rfl, hb2⟩
      have HT2 : Hid (w2.there w.heap.size 0 (n * 4)) := there_below HT.out hb2 HL.out
      have HT3 : Hid (w2.there w.heap.size q 4) := there_part HT2.out (by have := HQ.out; omega)
      have HL2 : Hid (w.heap.size < w2.heap.size) := Nat.lt_of_lt_of_le HL.out hb2.size
      have HB2 : Hid (Below w.heap.size w w2) := bel_then HB.out hb2
      have HD2 : Hid (∀ j, j < k → Cell4 w2 w.heap.size (0 + j * 4) (cs.getD j Cel.zero)) := fun j hj => (HD.out j hj).below hb2 HL.out
      clear hb2 HR hil HT HL HB HD
      go_wp2_with (refine wpList_store_mid rfl 32 _ _ rfl w.heap.size q #[.int .i64 c.k, .int .i64 c.a, .int .i64 c.b, .int .i64 c.n] rfl rfl HT3.out hii H1.out ?_)
      go_roundw
      case rel =>
        refine ⟨k + 1, by omega, by go_num, ?_, ?_, ?_, ?_⟩
        · show _ < _
          rw [size_setCells]; exact HL2.out
        · exact World.there_setCells HT2.out _ _ _
        · intro j hj
          by_cases hjk : j = k
          · subst hjk
            rw [HCC.out, Nat.zero_add, HQ.out]
            exact cell4_of (World.rangeAt_setCells_same _ _ _ _ HT3.out)
          · have hlt2 : j < k := by omega
            refine cell4_of (World.rangeAt_setCells_apart (HD2.out j hlt2).range _ _ _ (Or.inr (Or.inl ?_)))
            have := HQ.out
            simp
            omega
        · exact bel_setCells _ _ _ _ HB2.out (Nat.le_refl _)
      case measure => simp [intOf]; omega
    · have e : k = n := by omega
      subst e
      go_wp2
      go_ret
      exact ⟨rfl, HL.out, HT.out, HD.out, HB.out⟩

set_option maxHeartbeats 1000000 in
theorem toCellS_none (a : Option Addr) (cap : Nat) (w : World) :
    Calls Tryd.prog 16 #[.slice a 0 cap] w fun e w' => e = .returned (.slice (some ⟨w.heap.size, 0, none⟩) 0 0) ∧ Below w.heap.size w w' := by
  obtain ⟨i0, hi, hz0, hz1, hz2⟩ := info_parts infoCell4
  go_enter Tryd.func16, Tryd.ntmps16
  go_wp2_with (at_make; refine wpList_make_full _ rfl _ _ 42 rfl w.heap.size 32 i0 (.agg #[.int .i64 0, .int .i64 0, .int .i64 0, .int .i64 0]) 4 Tryd.underlying42 hi hz0 hz1 _ _ _ _ 0 rfl rfl rfl rfl (by rw [hz2]; omega) (by unfold maxLen; omega) (Nat.le_refl _) ?_; intro w1 hown1 hgrow1)
  have hb1 : Below w.heap.size w w1 := (Below.refl _ _).grown hgrow1 (Nat.le_refl _) (by simp)
  clear hown1 hgrow1 hi hz0 hz1 hz2
  refine wp_loop_rounds 1 ?_
  rw [rounds_succ]
  go_wp2
  go_ret
  exact ⟨rfl, hb1⟩


/-- Cells in memory of their own, from block lo up to hi. -/
def OwnC (w : World) (lo hi : Nat) (v : Value) (cs : List Cel) : Prop :=
  ∃ b, v = .slice (some ⟨b, 0, none⟩) cs.length cs.length ∧ (cs ≠ [] → lo ≤ b ∧ b < hi ∧ w.there b 0 (cs.length * 4) ∧ ∀ j, j < cs.length → Cell4 w b (0 + j * 4) (cs.getD j Cel.zero)) ∧ hi ≤ w.heap.size ∧ cs.length ≤ 1048576
theorem OwnC.raw {w : World} {lo hi : Nat} {v : Value} {cs : List Cel} (h : OwnC w lo hi v cs) : RawCels w v cs := by
  obtain ⟨b, rfl, hc, hs, hl⟩ := h
  refine ⟨by omega, _, _, rfl, fun e => by simp at e, fun hne => ?_⟩
  obtain ⟨h1, h2, _, h3⟩ := hc hne
  exact ⟨b, 0, rfl, by omega, h3⟩
theorem RawCels.cels {w : World} {v : Value} {cs : List Cel} (h : RawCels w v cs) : CelsAt w v cs := by
  obtain ⟨_, a, cap, rfl, _, hc⟩ := h
  exact ⟨a, cap, rfl, hc⟩
theorem OwnC.cels {w : World} {lo hi : Nat} {v : Value} {cs : List Cel} (h : OwnC w lo hi v cs) : CelsAt w v cs := h.raw.cels
theorem OwnC.keep' {w w' : World} {lo hi : Nat} {v : Value} {cs : List Cel} (h : OwnC w lo hi v cs) (hb : Below w.heap.size w w') : OwnC w' lo hi v cs := by
  obtain ⟨b, rfl, hc, hs, hl⟩ := h
  refine ⟨b, rfl, fun hne => ?_, Nat.le_trans hs hb.size, hl⟩
  obtain ⟨h1, h2, h3, h4⟩ := hc hne
  exact ⟨h1, h2, there_below h3 hb (by omega), fun j hj => (h4 j hj).below hb (by omega)⟩
theorem cell_same {w w' : World} {b o : Nat} (h : w'.heap[b]? = w.heap[b]?) : w'.cell? ⟨b, o, none⟩ = w.cell? ⟨b, o, none⟩ := by simp [World.cell?, h]
theorem frozen_same {w w' : World} {b o : Nat} (h : w'.heap[b]? = w.heap[b]?) : w'.frozen? ⟨b, o, none⟩ = w.frozen? ⟨b, o, none⟩ := by simp [World.frozen?, h]
theorem OwnC.only {w w' : World} {lo hi lo' hi' : Nat} {v : Value} {cs : List Cel} (h : OwnC w lo' hi' v cs) (k : Only lo hi w w') (ha : hi' ≤ lo ∨ hi ≤ lo') : OwnC w' lo' hi' v cs := by
  obtain ⟨b, rfl, hc, hs, hl⟩ := h
  refine ⟨b, rfl, fun hne => ?_, Nat.le_trans hs k.size, hl⟩
  obtain ⟨h1, h2, h3, h4⟩ := hc hne
  have e := k.block b (by omega) (by omega)
  refine ⟨h1, h2, fun j hj => ⟨?_, ?_⟩, fun j hj => ?_⟩
  · rw [cell_same e]; exact (h3 j hj).1
  · rw [frozen_same e]; exact (h3 j hj).2
  · obtain ⟨c0, c1, c2, c3⟩ := h4 j hj
    exact ⟨(cell_same e).trans c0, (cell_same e).trans c1, (cell_same e).trans c2, (cell_same e).trans c3⟩
/-- A copy of cells, in new memory. -/
theorem toCellS_any (v : Value) (cs : List Cel) (w : World) (h : RawCels w v cs) (hlim : cs.length ≤ 1048576) :
    Calls Tryd.prog 16 #[v] w fun e w' => ∃ v', e = .returned v' ∧ OwnC w' w.heap.size w'.heap.size v' cs ∧ Below w.heap.size w w' := by
  obtain ⟨hl, a, cap, rfl, _, hc⟩ := h
  by_cases hne : cs = []
  · subst hne
    exact (toCellS_none a cap w).mono fun e w' ⟨he, hb⟩ => ⟨_, he, ⟨_, rfl, fun h => absurd rfl h, Nat.le_refl _, by simp⟩, hb⟩
  · obtain ⟨b, off, rfl, hbw, hk⟩ := hc hne
    exact (toCellS_some b off cap cs w (List.length_pos_iff.2 hne) hlim hbw hk).mono fun e w' ⟨he, hs, ht, hd, hb⟩ => ⟨_, he, ⟨_, rfl, fun _ => ⟨Nat.le_refl _, hs, ht, hd⟩, Nat.le_refl _, hlim⟩, hb⟩

set_option maxHeartbeats 1000000 in
theorem eqCell_exact (c : Cel) (w : World) :
    Calls Tryd.prog 41 #[.agg #[.int .i64 c.k, .int .i64 c.a, .int .i64 c.b, .int .i64 c.n], .agg #[.int .i64 c.k, .int .i64 c.a, .int .i64 c.b, .int .i64 c.n]] w fun e w' => e = .returned (.bool true) ∧ w' = (w.alloc (.cells #[.int .i64 c.k, .int .i64 c.a, .int .i64 c.b, .int .i64 c.n] 32)).alloc (.cells #[.int .i64 c.k, .int .i64 c.a, .int .i64 c.b, .int .i64 c.n] 32) := by
  obtain ⟨k, a, b, n⟩ := c
  simp only
  go_enter Tryd.func41, Tryd.ntmps41
  go_wp2
  go_ret
  exact ⟨rfl, rfl⟩
theorem eqCell_same (c : Cel) (w : World) :
    Calls Tryd.prog 41 #[.agg #[.int .i64 c.k, .int .i64 c.a, .int .i64 c.b, .int .i64 c.n], .agg #[.int .i64 c.k, .int .i64 c.a, .int .i64 c.b, .int .i64 c.n]] w fun e w' => e = .returned (.bool true) ∧ Below w.heap.size w w' :=
  (eqCell_exact c w).mono fun e w' ⟨he, hw⟩ => ⟨he, by rw [hw]; exact bel_then (bel_alloc _) (bel_alloc _)⟩

theorem range_below {w w' : World} {b o : Nat} {cs : List Value} (h : w.rangeAt b o cs) (hb : Below w.heap.size w w') (hl : b < w.heap.size) : w'.rangeAt b o cs := fun j v hv => (hb.cell (p := ⟨b, o + j, none⟩) hl).trans (h j v hv)

set_option maxHeartbeats 1000000 in
theorem eqCellS_none (a a2 : Option Addr) (cap cap2 : Nat) (w : World) :
    Calls Tryd.prog 18 #[.slice a 0 cap, .slice a2 0 cap2] w fun e w' => e = .returned (.bool true) ∧ Below w.heap.size w w' := by
  go_enter Tryd.func18, Tryd.ntmps18
  go_wp2
  refine wp_loop_rounds 1 ?_
  rw [rounds_succ]
  go_wp2
  go_ret
  exact ⟨rfl, Below.refl _ _⟩

set_option maxHeartbeats 1000000 in
theorem eqCellS_some (b off cap b2 off2 cap2 : Nat) (cs : List Cel) (w : World) (hpos : 0 < cs.length) (hlim : cs.length ≤ 1048576) (hbw : b < w.heap.size) (hbw2 : b2 < w.heap.size)
    (hc : ∀ j, j < cs.length → Cell4 w b (off + j * 4) (cs.getD j Cel.zero)) (hc2 : ∀ j, j < cs.length → Cell4 w b2 (off2 + j * 4) (cs.getD j Cel.zero)) :
    Calls Tryd.prog 18 #[.slice (some ⟨b, off, none⟩) cs.length cap, .slice (some ⟨b2, off2, none⟩) cs.length cap2] w fun e w' => e = .returned (.bool true) ∧ Below w.heap.size w w' := by
  obtain ⟨n, hn⟩ : ∃ n, n = cs.length := ⟨_, rfl⟩
  rw [← hn] at hpos hlim hc hc2 ⊢
  clear hn
  have HC : Hid (∀ j, j < n → Cell4 w b (off + j * 4) (cs.getD j Cel.zero)) := hc
  have HC2 : Hid (∀ j, j < n → Cell4 w b2 (off2 + j * 4) (cs.getD j Cel.zero)) := hc2
  clear hc hc2
  go_enter Tryd.func18, Tryd.ntmps18
  go_wp2
  go_loopw [5] (fun i wr => ∃ k : Nat, k ≤ n ∧ i = .int .i64 k ∧ Hid (Below w.heap.size w wr)) (fun i _ => n - (intOf i).toNat)
  case atStart => exact ⟨0, Nat.zero_le _, rfl, Below.refl _ _⟩
  case round =>
    obtain ⟨k, hk, rfl, HB⟩ := hrel
    by_cases hlt : k < n
    · have h4 : Cell4 wr b (off + k * 4) (cs.getD k Cel.zero) := (HC.out k hlt).below HB.out hbw
      have h5 : Cell4 wr b2 (off2 + k * 4) (cs.getD k Cel.zero) := (HC2.out k hlt).below HB.out hbw2
      obtain ⟨c, hcc⟩ : ∃ c, cs.getD k Cel.zero = c := ⟨_, rfl⟩
      rw [hcc] at h4 h5
      clear hcc
      obtain ⟨q, hq⟩ : ∃ q, k * 4 = q := ⟨_, rfl⟩
      rw [hq] at h4 h5
      have HR : Hid (wr.rangeAt b (off + q) ([.int .i64 c.k, .int .i64 c.a, .int .i64 c.b, .int .i64 c.n] : List Value)) := h4.range
      have HR2 : Hid (wr.rangeAt b2 (off2 + q) ([.int .i64 c.k, .int .i64 c.a, .int .i64 c.b, .int .i64 c.n] : List Value)) := h5.range
      have hii : (Tryd.prog.info? 32).map (·.size) = some ([.int .i64 c.k, .int .i64 c.a, .int .i64 c.b, .int .i64 c.n] : List Value).length := by kernel_rfl
      clear h4 h5
      have HS1 : Hid (b < wr.heap.size) := Nat.lt_of_lt_of_le hbw HB.out.size
      have HS2 : Hid (b2 < wr.heap.size) := Nat.lt_of_lt_of_le hbw2 HB.out.size
      go_wp2_with fail
      refine wp_region_held_drew (S := (fun x => x.rangeAt b (off + q) ([.int .i64 c.k, .int .i64 c.a, .int .i64 c.b, .int .i64 c.n] : List Value) ∧ x.rangeAt b2 (off2 + q) ([.int .i64 c.k, .int .i64 c.a, .int .i64 c.b, .int .i64 c.n] : List Value))) (by kernel_rfl) ?_ (fun hHeld => ?_)
      · (try dsimp only); exact ⟨HR.out, HR2.out⟩
      refine wpAnyH_take (i := 0) (v := ?_) rfl (by kernel_rfl) (by kernel_rfl) (by kernel_rfl) (fun _ _ _ h => h) (Or.inl ⟨by rfl, ?_⟩) (by assumption) ?_
      rotate_left 1
      · intro w hSw; (try dsimp only at hSw); go_simp; try with_reducible rfl
      simp only [Act.put, List.getElem_toArray, List.getElem_cons_succ, List.getElem_cons_zero, List.setIfInBounds_toArray, List.set_cons_zero, List.set_cons_succ]
      refine wpAnyH_take (i := 1) (v := ?_) rfl (by kernel_rfl) (by kernel_rfl) (by kernel_rfl) (fun _ _ _ h => h) (Or.inl ⟨by rfl, ?_⟩) (by assumption) ?_
      rotate_left 1
      · intro w hSw; (try dsimp only at hSw); go_simp; try with_reducible rfl
      simp only [Act.put, List.getElem_toArray, List.getElem_cons_succ, List.getElem_cons_zero, List.setIfInBounds_toArray, List.set_cons_zero, List.set_cons_succ]
      refine wpAnyH_take (i := 2) (v := ?_) rfl (by kernel_rfl) (by kernel_rfl) (by kernel_rfl) (fun _ _ _ h => h) (Or.inl ⟨by rfl, ?_⟩) (by assumption) ?_
      rotate_left 1
      · intro w hSw; (try dsimp only at hSw); go_simp; try with_reducible rfl
      simp only [Act.put, List.getElem_toArray, List.getElem_cons_succ, List.getElem_cons_zero, List.setIfInBounds_toArray, List.set_cons_zero, List.set_cons_succ]
      refine wpAnyH_take (i := 3) (v := .agg ([.int .i64 c.k, .int .i64 c.a, .int .i64 c.b, .int .i64 c.n] : List Value).toArray) rfl (by kernel_rfl) (by kernel_rfl) (by kernel_rfl) (fun _ _ _ h => h) (yieldsIf_load_mid (by rfl) 32 _ rfl b (off + q) rfl [.int .i64 c.k, .int .i64 c.a, .int .i64 c.b, .int .i64 c.n] _ (fun x h => h.1) Tryd.underlying32 rfl hii) (by assumption) ?_
      simp only [Act.put, List.getElem_toArray, List.getElem_cons_succ, List.getElem_cons_zero, List.setIfInBounds_toArray, List.set_cons_zero, List.set_cons_succ]
      refine wpAnyH_take (i := 4) (v := ?_) rfl (by kernel_rfl) (by kernel_rfl) (by kernel_rfl) (fun _ _ _ h => h) (Or.inl ⟨by rfl, ?_⟩) (by assumption) ?_
      rotate_left 1
      · intro w hSw; (try dsimp only at hSw); go_simp; try with_reducible rfl
      simp only [Act.put, List.getElem_toArray, List.getElem_cons_succ, List.getElem_cons_zero, List.setIfInBounds_toArray, List.set_cons_zero, List.set_cons_succ]
      refine wpAnyH_take (i := 5) (v := ?_) rfl (by kernel_rfl) (by kernel_rfl) (by kernel_rfl) (fun _ _ _ h => h) (Or.inl ⟨by rfl, ?_⟩) (by assumption) ?_
      rotate_left 1
      · intro w hSw; (try dsimp only at hSw); go_simp; try with_reducible rfl
      simp only [Act.put, List.getElem_toArray, List.getElem_cons_succ, List.getElem_cons_zero, List.setIfInBounds_toArray, List.set_cons_zero, List.set_cons_succ]
      refine wpAnyH_take (i := 6) (v := ?_) rfl (by kernel_rfl) (by kernel_rfl) (by kernel_rfl) (fun _ _ _ h => h) (Or.inl ⟨by rfl, ?_⟩) (by assumption) ?_
      rotate_left 1
      · intro w hSw; (try dsimp only at hSw); go_simp; try with_reducible rfl
      simp only [Act.put, List.getElem_toArray, List.getElem_cons_succ, List.getElem_cons_zero, List.setIfInBounds_toArray, List.set_cons_zero, List.set_cons_succ]
      refine wpAnyH_take (i := 7) (v := .agg ([.int .i64 c.k, .int .i64 c.a, .int .i64 c.b, .int .i64 c.n] : List Value).toArray) rfl (by kernel_rfl) (by kernel_rfl) (by kernel_rfl) (fun _ _ _ h => h) (yieldsIf_load_mid (by rfl) 32 _ rfl b2 (off2 + q) rfl [.int .i64 c.k, .int .i64 c.a, .int .i64 c.b, .int .i64 c.n] _ (fun x h => h.2) Tryd.underlying32 rfl hii) (by assumption) ?_
      simp only [Act.put, List.getElem_toArray, List.getElem_cons_succ, List.getElem_cons_zero, List.setIfInBounds_toArray, List.set_cons_zero, List.set_cons_succ]
      refine wpAnyH_ready (rs := [8]) (by kernel_rfl) (by simp) ?_
      refine AllReadyH.cons rfl (fun K hK => ?_) AllReadyH.nil
      go_simp
      (refine (eqCell_same c _).mono ?_; rintro e w2 ⟨rfl, hb2⟩; have hb : Below wr.heap.size wr w2 := (by first | exact hb2 | exact (Below.drew (Below.refl _ _)).trans hb2); have Y2 : w2.rangeAt b (off + q) ([.int .i64 c.k, .int .i64 c.a, .int .i64 c.b, .int .i64 c.n] : List Value) ∧ w2.rangeAt b2 (off2 + q) ([.int .i64 c.k, .int .i64 c.a, .int .i64 c.b, .int .i64 c.n] : List Value) := ⟨range_below HR.out hb HS1.out, range_below HR2.out hb HS2.out⟩; have HB2 : Hid (Below w.heap.size w w2) := bel_then HB.out hb; clear hb2 hb)
      refine hK.out _ _ ?_ (fun hHeld => ?_)
      · (try dsimp only); exact Y2
      clear hK K
      try simp only [Act.put, List.getElem_toArray, List.getElem_cons_succ, List.getElem_cons_zero, List.setIfInBounds_toArray, List.set_cons_zero, List.set_cons_succ]
      refine wpAnyH_take (i := 9) (v := ?_) rfl (by kernel_rfl) (by kernel_rfl) (by kernel_rfl) (fun _ _ _ h => h) (Or.inl ⟨by rfl, ?_⟩) (by assumption) ?_
      rotate_left 1
      · intro w hSw; (try dsimp only at hSw); go_simp; try with_reducible rfl
      simp only [Act.put, List.getElem_toArray, List.getElem_cons_succ, List.getElem_cons_zero, List.setIfInBounds_toArray, List.set_cons_zero, List.set_cons_succ]
      refine wpAnyH_done (by kernel_rfl) ?_ _
      clear HR HR2 hii HB
      go_wp2
      go_roundw
      case rel => exact ⟨k + 1, by omega, by go_num, HB2.out⟩
      case measure => simp [intOf]; omega
    · have e : k = n := by omega
      subst e
      go_wp2
      go_ret
      exact ⟨rfl, HB.out⟩
theorem eqCellS_same (v v2 : Value) (cs : List Cel) (w : World) (h : RawCels w v cs) (h2 : RawCels w v2 cs) (hlim : cs.length ≤ 1048576) :
    Calls Tryd.prog 18 #[v, v2] w fun e w' => e = .returned (.bool true) ∧ Below w.heap.size w w' := by
  obtain ⟨_, a, cap, rfl, _, hc⟩ := h
  obtain ⟨_, a2, cap2, rfl, _, hc2⟩ := h2
  by_cases hne : cs = []
  · subst hne
    exact eqCellS_none a a2 cap cap2 w
  · obtain ⟨b, off, rfl, hbw, hk⟩ := hc hne
    obtain ⟨b2, off2, rfl, hbw2, hk2⟩ := hc2 hne
    exact eqCellS_some b off cap b2 off2 cap2 cs w (List.length_pos_iff.2 hne) hlim hbw hbw2 hk hk2


theorem there_set {w : World} {b' o' n : Nat} (h : w.there b' o' n) (b o : Nat) (v : Value) : (w.setCell ⟨b, o, none⟩ v).there b' o' n := World.there_setCells h b o [v]
set_option maxHeartbeats 2000000 in
theorem markCellS_any (v : Value) (lo hi : Nat) (cs : List Cel) (k : Int) (w : World) (hk0 : 0 ≤ k) (hk : k ≤ 4194304) (h : OwnC w lo hi v cs) :
    Calls Tryd.prog 19 #[v, .int .i64 k] w fun e w' => e = .returned (.int .i64 (k + 4 * cs.length)) ∧ Only lo hi w w' := by
  obtain ⟨b, rfl, hc, hs, hl⟩ := h
  by_cases hne : cs = []
  · subst hne
    clear hc
    simp only [List.length_nil]
    go_enter Tryd.func19, Tryd.ntmps19
    go_wp2
    refine wp_loop_rounds 1 ?_
    rw [rounds_succ]
    go_wp2
    go_ret
    exact ⟨by simp, Only.refl _ _ _⟩
  · obtain ⟨h1, h2, h3, _⟩ := hc hne
    have hpos := List.length_pos_iff.2 hne
    obtain ⟨n, hn⟩ : ∃ n, n = cs.length := ⟨_, rfl⟩
    rw [← hn] at h3 hl hpos ⊢
    clear hn hc hne
    have HT0 : Hid (w.there b 0 (n * 4)) := h3
    clear h3
    go_enter Tryd.func19, Tryd.ntmps19
    go_wp2
    go_loopw [1, 5] (fun q i wr => ∃ j : Nat, j ≤ n ∧ i = .int .i64 j ∧ q = .int .i64 (k + 4 * j) ∧ Hid (wr.there b 0 (n * 4)) ∧ Hid (Only lo hi w wr)) (fun _ i _ => n - (intOf i).toNat)
    case atStart => exact ⟨0, Nat.zero_le _, rfl, by simp, HT0.out, Only.refl _ _ _⟩
    case round =>
      obtain ⟨j, hj, rfl, rfl, HT, HO⟩ := hrel
      clear HT0
      by_cases hlt : j < n
      · have t0 := HT.out (j * 4) (by omega)
        have t1 := HT.out (j * 4 + 1) (by omega)
        have t2 := HT.out (j * 4 + 2) (by omega)
        have t3 := HT.out (j * 4 + 3) (by omega)
        simp only [Nat.zero_add] at t0 t1 t2 t3
        obtain ⟨⟨u0, c0⟩, f0⟩ := And.imp_left Option.isSome_iff_exists.1 t0
        obtain ⟨⟨u1, c1⟩, f1⟩ := And.imp_left Option.isSome_iff_exists.1 t1
        obtain ⟨⟨u2, c2⟩, f2⟩ := And.imp_left Option.isSome_iff_exists.1 t2
        obtain ⟨⟨u3, c3⟩, f3⟩ := And.imp_left Option.isSome_iff_exists.1 t3
        clear t0 t1 t2 t3
        go_wp2
        go_roundw
        case rel => exact ⟨j + 1, by omega, by go_num, by simp; omega, there_set (there_set (there_set (there_set HT.out _ _ _) _ _ _) _ _ _) _ _ _, (((HO.out.setCell h1 h2 _).setCell h1 h2 _).setCell h1 h2 _).setCell h1 h2 _⟩
        case measure => simp [intOf]; omega
      · have e : j = n := by omega
        subst e
        go_wp2
        go_ret
        exact ⟨rfl, HO.out⟩

/-- What a frame tells of cells that came in. -/
theorem raw_cels {H : Type} {enc : TypeId × Value → H} {w : World} {base : Nat} {spare : Nat → Bool} {held : Bool} {fuel : Nat} {v : Value} {x : DataW H × List MemPlace}
    (h : DataW.trod enc Tryd.prog w base spare held fuel 39 [v] = some x) : ∃ cs, RawCels w v cs := by
  rcases Go.Deep.open_slice Tryd.underlying39 h with ⟨hcs, _⟩ | ⟨a, len, cap, m, n, D, Pl, hcs, _, hl, hm, hmm, _, hx⟩
  · simp at hcs
    subst hcs
    exact ⟨[], by simp, none, 0, rfl, fun _ => rfl, fun h => absurd rfl h⟩
  · simp at hcs
    subst hcs
    have hmax : cap ≤ 9223372036854775807 := by have := hm; simp only [maxLen] at this; omega
    have hlm : len ≤ m := by rw [hmm]; split <;> omega
    have ce : Tryd.prog.cellsOf 24 = 4 := by kernel_rfl
    have each : ∀ j, j < len → ∃ c : Cel, w.cell? (a.add (j * 4)) = some (.int .i64 c.k) ∧ w.cell? ((a.add (j * 4)).add 1) = some (.int .i64 c.a) ∧ w.cell? ((a.add (j * 4)).add 2) = some (.int .i64 c.b) ∧ w.cell? ((a.add (j * 4)).add 3) = some (.int .i64 c.n) := by
      intro j hj
      obtain ⟨cs', h1, h2⟩ := hx j (by omega)
      rw [ce] at h1
      obtain ⟨_, hlen, hcell⟩ := World.cells?_some h1
      obtain ⟨c, rfl, _⟩ := cel_in h2
      have e0 := hcell 0 (by omega)
      have e1 := hcell 1 (by omega)
      have e2 := hcell 2 (by omega)
      have e3 := hcell 3 (by omega)
      exact ⟨c, by simpa [Addr.add] using e0, by simpa using e1, by simpa using e2, by simpa using e3⟩
    haveI : Inhabited Cel := ⟨Cel.zero⟩
    obtain ⟨q, hq⟩ := Go.Deep.choose_lt each
    have hzl : ((List.range len).map q).length = len := by simp
    have hg : ∀ j, j < len → ((List.range len).map q).getD j Cel.zero = q j := fun j hj => by simp [List.getD, hj]
    refine ⟨(List.range len).map q, by omega, some a, cap, by rw [hzl], fun h => by simp at h, fun hne => ?_⟩
    have h0 : 0 < len := by
      rcases Nat.eq_zero_or_pos len with h | h
      · subst h; simp at hne
      · exact h
    obtain ⟨b, off, spot⟩ := a
    have hc0 := (hq 0 h0).1
    have hspot : spot = none := by simpa [Addr.add] using World.cell?_spot hc0
    subst hspot
    refine ⟨b, off, rfl, lt_of_cell hc0, fun j hj => ?_⟩
    rw [hzl] at hj
    rw [hg j hj]
    obtain ⟨e0, e1, e2, e3⟩ := hq j hj
    simp only [Addr.add_lit] at e0 e1 e2 e3
    exact ⟨e0, e1, e2, e3⟩

end Go.Proofs.YthogbofgelbppaaDoor
