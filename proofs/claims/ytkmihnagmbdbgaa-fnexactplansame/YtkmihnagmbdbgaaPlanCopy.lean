/-
  The contracts of laws.toCell, toTest, toCellS, toIntS: copies in new memory; and what holds in every memory that agrees from a block on.
-/
import Derived.Test.YtkmihnagmbdbgaaPlanSz
import Derived.Test.YtkmihnagmbdbgaaInts
namespace Go.Proofs.Ytkmihnagmbdbgaa
set_option maxRecDepth 100000
open Go.RowKit
set_option linter.unusedVariables false

/-- A block of cells that are not frozen. -/
def Unf (w : World) (b : Nat) : Prop := ∃ c t, w.heap[b]? = some (.cells c t)
/-- From block lo on w' is as w was. -/
structure Ab (lo : Nat) (w w' : World) : Prop where
  size : w.heap.size ≤ w'.heap.size
  cell : ∀ b o, lo ≤ b → b < w.heap.size → w'.cell? ⟨b, o, none⟩ = w.cell? ⟨b, o, none⟩
  un : ∀ b, lo ≤ b → Unf w b → Unf w' b
theorem Unf.lt {w : World} {b : Nat} (h : Unf w b) : b < w.heap.size := by
  obtain ⟨c, t, h⟩ := h
  exact (Array.getElem?_eq_some_iff.1 h).1
theorem Unf.below {w w' : World} {b : Nat} (h : Unf w b) (hb : Below w.heap.size w w') : Unf w' b := by
  have hl := h.lt
  obtain ⟨c, t, h⟩ := h
  exact ⟨c, t, (hb.block b hl).trans h⟩
theorem Unf.set {w : World} {b : Nat} (h : Unf w b) (g o : Nat) (u : Value) : Unf (w.setCell ⟨g, o, none⟩ u) b := by
  obtain ⟨c, t, h⟩ := h
  by_cases e : b = g
  · subst e
    exact ⟨_, t, heap_setCell_same w b o c t u h⟩
  · exact ⟨c, t, (Below.heap_setCell w ⟨g, o, none⟩ u b e).trans h⟩
theorem Unf.sets {b : Nat} (g : Nat) : ∀ (vs : List Value) (o : Nat) {w : World}, Unf w b → Unf (w.setCells g o vs) b
  | [], _, _, h => h
  | v :: r, o, w, h => by rw [World.setCells]; exact Unf.sets g r (o + 1) (h.set g o v)
theorem Ab.refl (lo : Nat) (w : World) : Ab lo w w := ⟨Nat.le_refl _, fun _ _ _ _ => rfl, fun _ _ h => h⟩
theorem Ab.trans {lo : Nat} {a b c : World} (h : Ab lo a b) (k : Ab lo b c) : Ab lo a c :=
  ⟨Nat.le_trans h.size k.size, fun x o h1 h2 => (k.cell x o h1 (Nat.lt_of_lt_of_le h2 h.size)).trans (h.cell x o h1 h2), fun x h1 h2 => k.un x h1 (h.un x h1 h2)⟩
theorem Ab.mono {lo lo' : Nat} {a b : World} (h : Ab lo a b) (hl : lo ≤ lo') : Ab lo' a b := ⟨h.size, fun x o h1 h2 => h.cell x o (Nat.le_trans hl h1) h2, fun x h1 h2 => h.un x (Nat.le_trans hl h1) h2⟩
theorem ab_below {lo : Nat} {w w' : World} (h : Below w.heap.size w w') : Ab lo w w' := ⟨h.size, fun b o _ hb => h.cell (p := ⟨b, o, none⟩) hb, fun b _ hu => hu.below h⟩
theorem size_setCells (b : Nat) : ∀ (vs : List Value) (o : Nat) (w : World), (w.setCells b o vs).heap.size = w.heap.size
  | [], _, _ => rfl
  | v :: r, o, w => by rw [World.setCells, size_setCells b r]; simp [World.setCell]
theorem ab_setCells {lo : Nat} (w : World) (b o : Nat) (vs : List Value) (hb : b < lo) : Ab lo w (w.setCells b o vs) :=
  ⟨by rw [size_setCells]; exact Nat.le_refl _, fun x y hx _ => World.cell?_setCells_out b vs o w ⟨x, y, none⟩ fun e _ => by simp at e; omega, fun x _ h => h.sets b vs o⟩
theorem bel_setCells {B : Nat} {a : World} (b : Nat) : ∀ (vs : List Value) (o : Nat) (w : World), Below B a w → B ≤ b → Below B a (w.setCells b o vs)
  | [], _, _, h, _ => h
  | v :: r, o, w, h, hb => by rw [World.setCells]; exact bel_setCells b r (o + 1) _ (h.setCell hb _) hb

/-- The blocks in which kids lie, all the way down, are not frozen. -/
def KidsU : Nat → World → Value → Prop
  | 0 => fun w v => ∀ b off k c, v = .slice (some ⟨b, off, none⟩) k c → 0 < k → Unf w b
  | n + 1 => fun w v => ∀ b off k c, v = .slice (some ⟨b, off, none⟩) k c → 0 < k → Unf w b ∧ ∀ j, j < k → ∀ vd, w.cell? ⟨b, off + j * 19 + 18, none⟩ = some vd → KidsU n w vd
/-- It holds in every memory that agrees from lo on. -/
def Up (lo : Nat) (w : World) (X : World → Prop) : Prop := ∀ w', Ab lo w w' → X w'
theorem Up.here {lo : Nat} {w : World} {X : World → Prop} (h : Up lo w X) : X w := h w (Ab.refl _ _)
theorem Up.next {lo : Nat} {w w' : World} {X : World → Prop} (h : Up lo w X) (k : Ab lo w w') : Up lo w' X := fun w'' k' => h w'' (k.trans k')
theorem Up.mono {lo lo' : Nat} {w : World} {X : World → Prop} (h : Up lo w X) (hl : lo' ≤ lo) : Up lo' w X := fun w' k => h w' (k.mono hl)
theorem Up.bel {lo : Nat} {w w' : World} {X : World → Prop} (h : Up lo w X) (k : Below w.heap.size w w') : Up lo w' X := h.next (ab_below k)

theorem there_below {w w' : World} {b o n : Nat} (h : w.there b o n) (hb : Below w.heap.size w w') (hl : b < w.heap.size) : w'.there b o n := fun j hj =>
  ⟨by rw [hb.cell (p := ⟨b, o + j, none⟩) hl]; exact (h j hj).1, by rw [hb.frozen (p := ⟨b, o + j, none⟩) hl]; exact (h j hj).2⟩
theorem there_part {w : World} {b n : Nat} (h : w.there b 0 n) {o m : Nat} (hm : o + m ≤ n) : w.there b o m := fun j hj => by
  have := h (o + j) (by omega)
  rwa [Nat.zero_add] at this
theorem there_own {w : World} {base : Nat} {e : TypeId} {s g n cap : Nat} {xs : List Value} (h : w.ownsRow base e s (.slice (some ⟨g, 0, none⟩) n cap) n xs) : w.there g 0 (n * s) := fun j hj => by
  rw [Nat.zero_add]
  refine ⟨?_, h.frozenAt j⟩
  rw [h.cellAt j hj, List.getElem?_eq_getElem (by rw [h.1]; exact hj)]
  rfl
theorem own_lt {w : World} {base : Nat} {e : TypeId} {s g n cap : Nat} {xs : List Value} (h : w.ownsRow base e s (.slice (some ⟨g, 0, none⟩) n cap) n xs) : g < w.heap.size := (h.lt g rfl).2

set_option maxHeartbeats 1000000 in
theorem toCell_exact (k a b n : Int) (w : World) :
    Calls Try.prog 25 #[.agg #[.int .i64 k, .int .i64 a, .int .i64 b, .int .i64 n]] w fun e w' => e = .returned (.agg #[.int .i64 k, .int .i64 a, .int .i64 b, .int .i64 n]) ∧ w' = ((w.alloc (.cells #[.int .i64 k, .int .i64 a, .int .i64 b, .int .i64 n] 23)).alloc (.cells #[.int .i64 k, .int .i64 a, .int .i64 b, .int .i64 n] 33)).alloc (.cells #[.int .i64 k, .int .i64 a, .int .i64 b, .int .i64 n] 33) := by
  go_enter Try.func25, Try.ntmps25
  go_wp2
  exact bodyPost_ret (v := .agg #[.int .i64 k, .int .i64 a, .int .i64 b, .int .i64 n]) (by simp [results, Try.results25, go_sem]) rfl ⟨rfl, rfl⟩
theorem toCell_any (k a b n : Int) (w : World) :
    Calls Try.prog 25 #[.agg #[.int .i64 k, .int .i64 a, .int .i64 b, .int .i64 n]] w fun e w' => e = .returned (.agg #[.int .i64 k, .int .i64 a, .int .i64 b, .int .i64 n]) ∧ Below w.heap.size w w' := by
  refine (toCell_exact k a b n w).mono fun e w' ⟨he, hw⟩ => ⟨he, ?_⟩
  subst hw
  exact bel_then (bel_then (bel_alloc _) (bel_alloc _)) (bel_alloc _)

set_option maxHeartbeats 1000000 in
theorem toTest_any (t : Tst) (w : World) :
    Calls Try.prog 13 #[.agg #[.int .i64 t.k, .bool t.no, .int .i64 t.l.k, .int .i64 t.l.a, .int .i64 t.l.b, .int .i64 t.l.n, .int .i64 t.r.k, .int .i64 t.r.a, .int .i64 t.r.b, .int .i64 t.r.n]] w fun e w' => e = .returned (.agg #[.int .i64 t.k, .bool t.no, .int .i64 t.l.k, .int .i64 t.l.a, .int .i64 t.l.b, .int .i64 t.l.n, .int .i64 t.r.k, .int .i64 t.r.a, .int .i64 t.r.b, .int .i64 t.r.n]) ∧ Below w.heap.size w w' := by
  obtain ⟨k, no, l, r⟩ := t
  simp only
  go_enter Try.func13, Try.ntmps13
  go_wp2_with fail
  refine (toCell_exact _ _ _ _ _).mono ?_
  rintro e w1 ⟨rfl, rfl⟩
  go_wp2_with fail
  refine (toCell_exact _ _ _ _ _).mono ?_
  rintro e w1 ⟨rfl, rfl⟩
  go_wp2
  refine bodyPost_ret (v := .agg #[.int .i64 k, .bool no, .int .i64 l.k, .int .i64 l.a, .int .i64 l.b, .int .i64 l.n, .int .i64 r.k, .int .i64 r.a, .int .i64 r.b, .int .i64 r.n]) (by simp [results, Try.results13, go_sem]) rfl ⟨rfl, ?_⟩
  repeat (first | exact bel_alloc _ | refine bel_then ?_ (bel_alloc _))

theorem Cell4.range {w : World} {b o : Nat} {c : Cel} (h : Cell4 w b o c) : w.rangeAt b o [.int .i64 c.k, .int .i64 c.a, .int .i64 c.b, .int .i64 c.n] := by
  obtain ⟨c0, c1, c2, c3⟩ := h
  intro j v hv
  match j, hv with
  | 0, hv => simp at hv; subst hv; exact c0
  | 1, hv => simp at hv; subst hv; exact c1
  | 2, hv => simp at hv; subst hv; exact c2
  | 3, hv => simp at hv; subst hv; exact c3
  | n + 4, hv => simp at hv
theorem cell4_of {w : World} {b o : Nat} {c : Cel} (h : w.rangeAt b o [.int .i64 c.k, .int .i64 c.a, .int .i64 c.b, .int .i64 c.n]) : Cell4 w b o c := ⟨h 0 _ rfl, h 1 _ rfl, h 2 _ rfl, h 3 _ rfl⟩
theorem infoCell4 : (Try.prog.info? 33).map (fun i => (i.zero, i.size, i.bytes)) = some (some (.agg #[.int .i64 0, .int .i64 0, .int .i64 0, .int .i64 0]), 4, 32) := by kernel_rfl

set_option maxHeartbeats 1000000 in
theorem toCellS_some (b off cap : Nat) (cs : List Cel) (w : World) (hpos : 0 < cs.length) (hlim : cs.length ≤ 1048576) (hbw : b < w.heap.size)
    (hc : ∀ j, j < cs.length → Cell4 w b (off + j * 4) (cs.getD j Cel.zero)) :
    Calls Try.prog 14 #[.slice (some ⟨b, off, none⟩) cs.length cap] w fun e w' =>
      e = .returned (.slice (some ⟨w.heap.size, 0, none⟩) cs.length cs.length) ∧ w.heap.size < w'.heap.size ∧ (∀ j, j < cs.length → Cell4 w' w.heap.size (0 + j * 4) (cs.getD j Cel.zero)) ∧ Below w.heap.size w w' := by
  obtain ⟨i0, hi, hz0, hz1, hz2⟩ := info_parts infoCell4
  obtain ⟨n, hn⟩ : ∃ n, n = cs.length := ⟨_, rfl⟩
  have HN : Hid (n = cs.length) := hn
  rw [← hn] at hpos hlim hc ⊢
  clear hn
  have HC : Hid (∀ j, j < n → Cell4 w b (off + j * 4) (cs.getD j Cel.zero)) := hc
  clear hc
  go_enter Try.func14, Try.ntmps14
  go_wp2_with (at_make; refine wpList_make_full _ rfl _ _ 36 rfl w.heap.size 33 i0 (.agg #[.int .i64 0, .int .i64 0, .int .i64 0, .int .i64 0]) 4 Try.underlying36 hi hz0 hz1 _ _ _ _ n rfl rfl rfl rfl (by rw [hz2]; omega) (by unfold maxLen; omega) (Nat.le_refl _) ?_; intro w1 hown1 hgrow1)
  have HB1 : Hid (Below w.heap.size w w1) := (Below.refl _ _).grown hgrow1 (Nat.le_refl _) (by simp)
  have HT1 : Hid (w1.there w.heap.size 0 (n * 4)) := there_own hown1
  have hl1 : w.heap.size < w1.heap.size := own_lt hown1
  clear hown1 hgrow1 hi hz0 hz1 hz2
  go_loopw [4] (fun i wr => ∃ k : Nat, k ≤ n ∧ i = .int .i64 k ∧ Hid (w.heap.size < wr.heap.size) ∧ Hid (wr.there w.heap.size 0 (n * 4)) ∧ Hid (∀ j, j < k → Cell4 wr w.heap.size (0 + j * 4) (cs.getD j Cel.zero)) ∧ Hid (Below w.heap.size w wr))
    (fun i _ => n - (intOf i).toNat)
  case atStart => exact ⟨0, Nat.zero_le _, rfl, hl1, HT1.out, fun j hj => by omega, HB1.out⟩
  case round =>
    obtain ⟨k, hk, rfl, HL, HT, HD, HB⟩ := hrel
    clear HB1 HT1 hl1
    by_cases hlt : k < n
    · have h4 : Cell4 wr b (off + k * 4) (cs.getD k Cel.zero) := (HC.out k hlt).below HB.out hbw
      obtain ⟨c, hcc⟩ : ∃ c, cs.getD k Cel.zero = c := ⟨_, rfl⟩
      have HCC : Hid (cs.getD k Cel.zero = c) := hcc
      rw [hcc] at h4
      clear hcc
      obtain ⟨q, hq⟩ : ∃ q, k * 4 = q := ⟨_, rfl⟩
      rw [hq] at h4
      have HQ : Hid (k * 4 = q) := hq
      have HR : Hid (wr.rangeAt b (off + q) ([.int .i64 c.k, .int .i64 c.a, .int .i64 c.b, .int .i64 c.n] : List Value)) := h4.range
      have hil : (Try.prog.info? 23).map (·.size) = some ([.int .i64 c.k, .int .i64 c.a, .int .i64 c.b, .int .i64 c.n] : List Value).length := by kernel_rfl
      have hii : (Try.prog.info? 33).map (·.size) = some (#[.int .i64 c.k, .int .i64 c.a, .int .i64 c.b, .int .i64 c.n] : Array Value).size := by kernel_rfl
      have H1 : Hid ((#[.int .i64 c.k, .int .i64 c.a, .int .i64 c.b, .int .i64 c.n] : Array Value).all (·.oneCell') = true) := by show _ = _; simp [Value.oneCell']
      clear h4
      go_wp2_with (refine wpList_load_mid rfl 23 _ rfl b (off + q) rfl _ _ HR.out Try.underlying23 rfl hil ?_)
      refine (toCell_any _ _ _ _ _).mono ?_
      rintro e w2 ⟨rfl, hb2⟩
      have HT2 : Hid (w2.there w.heap.size 0 (n * 4)) := there_below HT.out hb2 HL.out
      have HT3 : Hid (w2.there w.heap.size q 4) := there_part HT2.out (by have := HQ.out; omega)
      have HL2 : Hid (w.heap.size < w2.heap.size) := Nat.lt_of_lt_of_le HL.out hb2.size
      have HB2 : Hid (Below w.heap.size w w2) := bel_then HB.out hb2
      have HD2 : Hid (∀ j, j < k → Cell4 w2 w.heap.size (0 + j * 4) (cs.getD j Cel.zero)) := fun j hj => (HD.out j hj).below hb2 HL.out
      clear hb2 HR hil HT HL HB HD
      go_wp2_with (refine wpList_store_mid rfl 33 _ _ rfl w.heap.size q #[.int .i64 c.k, .int .i64 c.a, .int .i64 c.b, .int .i64 c.n] rfl rfl HT3.out hii H1.out ?_)
      go_roundw
      case rel =>
        refine ⟨k + 1, by omega, by go_num, ?_, ?_, ?_, ?_⟩
        · show _ < _
          rw [size_setCells]; exact HL2.out
        · exact World.there_setCells HT2.out _ _ _
        · intro j hj
          by_cases hjk : j = k
          · subst hjk
            rw [HCC.out, Nat.zero_add, HQ.out]
            exact cell4_of (World.rangeAt_setCells_same _ _ _ _ HT3.out)
          · have hlt2 : j < k := by omega
            refine cell4_of (World.rangeAt_setCells_apart (HD2.out j hlt2).range _ _ _ (Or.inr (Or.inl ?_)))
            have := HQ.out
            simp
            omega
        · exact bel_setCells _ _ _ _ HB2.out (Nat.le_refl _)
      case measure => simp [intOf]; omega
    · have e : k = n := by omega
      subst e
      go_wp2
      go_ret
      exact ⟨rfl, HL.out, HD.out, HB.out⟩

set_option maxHeartbeats 1000000 in
theorem toCellS_none (a : Option Addr) (cap : Nat) (w : World) :
    Calls Try.prog 14 #[.slice a 0 cap] w fun e w' => e = .returned (.slice (some ⟨w.heap.size, 0, none⟩) 0 0) ∧ Below w.heap.size w w' := by
  obtain ⟨i0, hi, hz0, hz1, hz2⟩ := info_parts infoCell4
  go_enter Try.func14, Try.ntmps14
  go_wp2_with (at_make; refine wpList_make_full _ rfl _ _ 36 rfl w.heap.size 33 i0 (.agg #[.int .i64 0, .int .i64 0, .int .i64 0, .int .i64 0]) 4 Try.underlying36 hi hz0 hz1 _ _ _ _ 0 rfl rfl rfl rfl (by rw [hz2]; omega) (by unfold maxLen; omega) (Nat.le_refl _) ?_; intro w1 hown1 hgrow1)
  have hb1 : Below w.heap.size w w1 := (Below.refl _ _).grown hgrow1 (Nat.le_refl _) (by simp)
  clear hown1 hgrow1 hi hz0 hz1 hz2
  refine wp_loop_rounds 1 ?_
  rw [rounds_succ]
  go_wp2
  go_ret
  exact ⟨rfl, hb1⟩

/-- A copy of cells, in new memory. -/
theorem toCellS_any (v : Value) (cs : List Cel) (w : World) (h : RawCels w v cs) (hlim : cs.length ≤ 1048576) :
    Calls Try.prog 14 #[v] w fun e w' => ∃ a, e = .returned (.slice (some a) cs.length cs.length) ∧ Up w.heap.size w' (fun x => RawCels x (.slice (some a) cs.length cs.length) cs) ∧ Below w.heap.size w w' := by
  obtain ⟨hl, a, cap, rfl, _, hc⟩ := h
  by_cases hne : cs = []
  · subst hne
    refine (toCellS_none a cap w).mono fun e w' ⟨he, hb⟩ => ⟨_, he, fun x _ => ⟨by simp, _, _, rfl, fun h => by simp at h, fun h => absurd rfl h⟩, hb⟩
  · obtain ⟨b, off, rfl, hbw, hk⟩ := hc hne
    refine (toCellS_some b off cap cs w (List.length_pos_iff.2 hne) hlim hbw hk).mono fun e w' ⟨he, hs, hd, hb⟩ => ⟨_, he, fun x hx => ?_, hb⟩
    refine ⟨hl, _, _, rfl, fun h => by simp at h, fun _ => ⟨_, _, rfl, Nat.lt_of_lt_of_le hs hx.size, fun j hj => ?_⟩⟩
    have k := hd j hj
    have kk : ∀ o, x.cell? ⟨w.heap.size, o, none⟩ = w'.cell? ⟨w.heap.size, o, none⟩ := fun o => hx.cell _ o (Nat.le_refl _) hs
    exact ⟨(kk _).trans k.1, (kk _).trans k.2.1, (kk _).trans k.2.2.1, (kk _).trans k.2.2.2⟩

/-- A copy of numbers, in new memory. -/
theorem toIntS_up (v : Value) (xs : List Int) (w : World) (h : RawInts w v xs) (hlim : xs.length ≤ 1048576) :
    Calls Try.prog 15 #[v] w fun e w' => ∃ a, e = .returned (.slice (some a) xs.length xs.length) ∧ Up w.heap.size w' (fun x => RawInts x (.slice (some a) xs.length xs.length) xs) ∧ Below w.heap.size w w' := by
  refine (toIntS_any v xs w (h.ints (by omega)) hlim).mono fun e w' ⟨he, ho, hb⟩ => ⟨_, he, fun x hx => ?_, hb⟩
  refine ⟨by omega, _, _, rfl, fun h => by simp at h, fun hne => ⟨_, _, rfl, Nat.lt_of_lt_of_le (own_lt ho) hx.size, fun j hj => ?_⟩⟩
  rw [Nat.zero_add, hx.cell _ j (Nat.le_refl _) (own_lt ho), ho.cellAt j (by omega), List.getElem?_map, List.getElem?_eq_getElem hj]
  simp [List.getD, hj]

end Go.Proofs.Ytkmihnagmbdbgaa
