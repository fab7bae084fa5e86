/-
  Texts of this claim put behind one another: TextMap, Near, GroupMath, TotalsG, AggSpec, GroupFacts, GroupSpec, Groups, GroupRows, TotalOf, GroupImpl, GroupNear, GrpBase, GrpKeys, GrpVals, GrpSum, GrpPart, LaidPart, LawFnGroupPart.
-/
import Derived.Test.YtflbdfpgaeeleaaGreatDoorCellsAt
import Derived.Test.YtflbdfpgaeeleaaGreatDoorPutWalk
import Derived.Maps.Own
import Derived.Maps.Views
import Derived.Maps.Keyed
import Derived.StringKeys
import Derived.Test.YtflbdfpgaeeleaaGreatDoorMerge
import Derived.Test.YtflbdfpgaeeleaaGreatDoorCopy
import Derived.Test.YtflbdfpgaeeleaaGreatDoorAddSpec
import Derived.Test.YtflbdfpgaeeleaaGreatDoorKeysMath
import Derived.Test.YtflbdfpgaeeleaaGreatDoorPutMath
import Derived.Test.YtflbdfpgaeeleaaGreatDoorKeys
import Derived.Maps.RangeWalk
import Derived.Test.YtflbdfpgaeeleaaGreatDoorGatherSort
import Derived.Test.YtflbdfpgaeeleaaGreatDoorZFacts
import Derived.Test.YtflbdfpgaeeleaaGreatDoorPosFacts
import Derived.Test.YtflbdfpgaeeleaaGreatDoorZVals
import Derived.Test.YtflbdfpgaeeleaaGreatDoorLaidTab
import Derived.Test.YtflbdfpgaeeleaaGreatDoorCellsFnGroupPart
import Derived.Test.YtflbdfpgaeeleaaGreatDoorText
import Derived.Test.YtflbdfpgaeeleaaGreatDoorLaidSent
import Derived.Stop.LaidErr
import Derived.Test.YtflbdfpgaeeleaaGreatDoorDrawGroup
import Derived.Deep.DeepCutAuto

/-
  A map from a text to a number, of the call's own: what is looked up, and what a store leaves; the contract of impl.groupTexts: how many rows there are of each group.
-/
namespace Go.Proofs.YtflbdfpgaeeleaaGreatDoor
set_option maxRecDepth 100000
open Go.RowKit Go.Maps
attribute [local go_sem ↓] Go.wp_at_zero Go.wp_at_succ

/-- An element is held as it is. -/
def heldT (v : Value) : Option (DataW Value × List MemPlace) := some (.held v, [])
def CMap (w : World) (t : TypeId) (mb n : Nat) (C : List UInt8 → Int) : Prop :=
  ∃ D : DataW Value, w.ownsMap Tryz.prog 9 heldT mb n D ∧ (∀ s, D.atKey (.string s) (.held (.int .i64 0)) = .held (.int .i64 (C s))) ∧ Tryz.prog.underlying t = some (.map 9 3)
theorem isMapT {w : World} {mb n : Nat} {D : DataW Value} (h : w.ownsMap Tryz.prog 9 heldT mb n D) : IsMap D := by
  obtain ⟨es, _, _, _, _, hD⟩ := h
  exact ⟨_, hD⟩
theorem cmap_made (w : World) (t : TypeId) (ht : Tryz.prog.underlying t = some (.map 9 3)) : CMap (w.alloc (.map #[] 0)) t w.heap.size 0 (fun _ => 0) :=
  ⟨.map [], World.ownsMap_made w _ _ _, fun _ => rfl, ht⟩
theorem CMap.grown {w w' : World} {t : TypeId} {mb n : Nat} {C : List UInt8 → Int} (h : CMap w t mb n C) (hb : Below w.heap.size w w') : CMap w' t mb n C := by
  obtain ⟨D, h1, h2, h3⟩ := h
  have hg : w.grownBy w' none := ⟨hb.os, hb.tape, hb.output, hb.size, fun k hk _ => hb.block k hk⟩
  exact ⟨D, h1.kept hg (by simp), h2, h3⟩
theorem CMap.look {w : World} {t : TypeId} {mb n : Nat} {C : List UInt8 → Int} (h : CMap w t mb n C) {s : ByteArray} (hs : s.size ≤ maxLen) (hn : n < maxLen) :
    (Instr.lookup t (.map (some mb)) (.string s) false).run Tryz.prog w = .ok (.int .i64 (C s.data.toList)) w ∧
      ∀ c : Int, ∃ w2, (Instr.mapUpdate t (.map (some mb)) (.string s) (.int .i64 c)).run Tryz.prog w = .ok () w2 ∧ CMap w2 t mb (n + 1) (fun q => if q = s.data.toList then c else C q) ∧ w.grownBy w2 (some mb) := by
  obtain ⟨D, h1, h2, h3⟩ := h
  have K : Keyed Tryz.prog 9 := string_keyed Tryz.underlying9
  have hk : keyOf Tryz.prog 9 (.string s) = some (.string s.data.toList) := Go.WideMaps.keyOf_string_mk Tryz.underlying9 hs
  refine ⟨?_, fun c => ?_⟩
  · obtain ⟨v, ps, hrun, hv⟩ := h1.lookup K h3 (z := .int .i64 0) (Tryz.zeroValue3 _) (zd := .held (.int .i64 0)) (zp := []) rfl hk
    have : v = .int .i64 (C s.data.toList) := by
      simp only [heldT, h2] at hv
      injection hv with hv
      injection hv with hv _
      injection hv
    rw [hrun, this]
  · obtain ⟨w2, hrun, hm2, hg2⟩ := h1.update K h3 hn hk (val := .int .i64 c) (d := .held (.int .i64 c)) (ps := []) rfl
    refine ⟨w2, hrun, ⟨_, hm2, fun q => ?_, h3⟩, hg2⟩
    by_cases hq : q = s.data.toList
    · subst hq
      simp only [if_true]
      exact atKey_put_same (isMapT h1) (by simp [WideAt.IsKeyLit]) _ _
    · simp only [if_neg hq]
      rw [← h2 q]
      exact atKey_put_other (fun e => hq (by simpa using e)) _ _

/-- How many rows of a list have this text at the keys. -/
def cntT (d : List It) (ks : List Int) (s : List UInt8) : Int := ((d.filter fun q => decide (rowTx (keyZ q.1 ks) = s)).length : Int)
theorem cnt_take {d : List It} {ks : List Int} {k : Nat} (hk : k < d.length) : cntT (d.take (k + 1)) ks = fun s => if s = rowTx (keyZ (d.getD k ([], 0)).1 ks) then cntT (d.take k) ks s + 1 else cntT (d.take k) ks s := by
  funext s
  unfold cntT
  have e : d.getD k ([], 0) = d[k] := by simp [List.getD, hk]
  rw [List.take_succ_eq_append_getElem hk, List.filter_append, List.length_append, e, List.filter_cons, List.filter_nil]
  by_cases h : rowTx (keyZ d[k].1 ks) = s
  · rw [if_pos (decide_eq_true h), if_pos h.symm]; rfl
  · rw [if_neg (by simpa using h), if_neg (fun e => h e.symm)]; rfl
theorem cnt_le (d : List It) (ks : List Int) (s : List UInt8) : 0 ≤ cntT d ks s ∧ cntT d ks s ≤ d.length := by
  unfold cntT
  have := List.length_filter_le (fun q : It => decide (rowTx (keyZ q.1 ks) = s)) d
  omega
/-- A row has a text that is counted just if it is near. -/
theorem cnt_near {d : List It} {ks : List Int} (hd : zOkB d = true) (hkd : haveAll d ks = true) {r : List Int} (hr : rowOkB r = true) (hkr : ∀ k ∈ ks, 0 ≤ k ∧ k < (r.length : Int)) : decide (0 < cntT d ks (rowTx (keyZ r ks))) = isNear d ks r := by
  cases hn : isNear d ks r with
  | true =>
    unfold isNear at hn
    rw [List.any_eq_true] at hn
    obtain ⟨q, hq, e⟩ := hn
    have hm : q ∈ d.filter fun q => decide (rowTx (keyZ q.1 ks) = rowTx (keyZ r ks)) := List.mem_filter.2 ⟨hq, by rw [of_decide_eq_true e]; simp⟩
    have := List.length_pos_of_mem hm
    unfold cntT
    exact decide_eq_true (by omega)
  | false =>
    unfold isNear at hn
    rw [List.any_eq_false] at hn
    have : (d.filter fun q => decide (rowTx (keyZ q.1 ks) = rowTx (keyZ r ks))) = [] := by
      rw [List.filter_eq_nil_iff]
      intro q hq h
      refine hn q hq (decide_eq_true ?_)
      have hqr : rowOkB q.1 = true := by
        obtain ⟨j, hj, e⟩ := mem_getD (d := ([], 0)) hq
        rw [← e]; exact (zOk_row hd hj).1
      exact rowTx_inj (keyZ_cells hqr fun k hk => have_iff.1 hkd k hk q hq) (keyZ_cells hr hkr) (by rw [keyZ_len, keyZ_len]) (of_decide_eq_true h)
    unfold cntT
    rw [this]; rfl
theorem tx_small {r ks : List Int} (hr : rowOkB r = true) (hk : ∀ k ∈ ks, 0 ≤ k ∧ k < (r.length : Int)) (hl : ks.length ≤ 6) {s : ByteArray} (hs : s.data.toList = rowTx (keyZ r ks)) : s.size ≤ maxLen := by
  have h1 := rowTx_le _ (cells_wf (keyZ_cells hr hk))
  rw [keyZ_len] at h1
  have h2 : s.size = s.data.toList.length := by rw [Array.length_toList]; rfl
  rw [h2, hs]
  unfold maxLen
  omega


end Go.Proofs.YtflbdfpgaeeleaaGreatDoor

/-
  The contracts of impl.near, impl.canBeNear, impl.DeltaNear, spec.l6In, spec.l6Near and spec.DeltaNear: the items of a list that are in a group of any of another list.
-/
namespace Go.Proofs.YtflbdfpgaeeleaaGreatDoor
set_option maxRecDepth 100000
open Go.RowKit
attribute [local go_sem ↓] Go.wp_at_zero Go.wp_at_succ

theorem near_take {z d : List It} {ks : List Int} {k : Nat} (hk : k < z.length) : nearZ (z.take (k + 1)) d ks = nearZ (z.take k) d ks ++ (if isNear d ks (z.getD k ([], 0)).1 then [((z.getD k ([], 0)).1, (z.getD k ([], 0)).2)] else []) := by
  unfold nearZ
  have e : z.getD k ([], 0) = z[k] := by simp [List.getD, hk]
  rw [List.take_succ_eq_append_getElem hk, List.filter_append, e, List.filter_cons, List.filter_nil]
theorem spine_nilN (w : World) (lo : Nat) : Spine w lo w.heap.size (.slice none 0 0) (prs []) := ⟨⟨rfl, .inl ⟨rfl, rfl⟩⟩, fun k hk => by simp [Value.ownBlock] at hk, by simp [prs], Nat.le_refl _⟩
theorem nearZ_len (z d : List It) (ks : List Int) : (nearZ z d ks).length ≤ z.length := List.length_filter_le _ _
theorem nearZ_mem {z d : List It} {ks : List Int} {p : It} (h : p ∈ nearZ z d ks) : p ∈ z := (List.mem_filter.1 h).1


theorem near_not {z d : List It} {ks : List Int} (h : nearOk z d ks = false) : nearOut z d ks = [] := by unfold nearOut; rw [h]; rfl
theorem near_parts {z d : List It} {ks : List Int} (h : nearCan z d ks = true) : keysB ks 6 = true ∧ haveAll z ks = true ∧ haveAll d ks = true := by
  unfold nearCan at h
  simp only [Bool.and_eq_true] at h
  exact ⟨h.1.1, h.1.2, h.2⟩
theorem near_mild {z : List It} (d : List It) (ks : List Int) (hz : zOkB z = true) : (nearZ z d ks).length ≤ 100 ∧ ∀ j, j < (nearZ z d ks).length → ((nearZ z d ks).getD j ([], 0)).1.length ≤ 8796093022208 := by
  refine ⟨by have := nearZ_len z d ks; have := zOk_le hz; omega, fun j hj => ?_⟩
  have := zOk_mem hz (nearZ_mem (getZ_mem hj))
  omega



end Go.Proofs.YtflbdfpgaeeleaaGreatDoor

/-
  Plain facts on groups: the items that are there whose cells at the keys are so, and what is reckoned of them.
-/
namespace Go.Proofs.YtflbdfpgaeeleaaGreatDoor

def cntG : List It → Int
  | [] => 0
  | p :: g => p.2 + cntG g
def sumC (col : Nat) : List It → Int
  | [] => 0
  | p :: g => p.2 * p.1.getD col 0 + sumC col g
def leastC (col : Nat) : List It → Int
  | [] => 0
  | p :: g => g.foldl (fun n q => min n (q.1.getD col 0)) (p.1.getD col 0)
def mostC (col : Nat) : List It → Int
  | [] => 0
  | p :: g => g.foldl (fun n q => max n (q.1.getD col 0)) (p.1.getD col 0)
def aggB (agg : Int) : Bool := decide (0 ≤ agg ∧ agg ≤ 3)
def aggZ (agg : Int) (col : Nat) (g : List It) : Int := if agg = 0 then cntG g else if agg = 1 then sumC col g else if agg = 2 then leastC col g else mostC col g
theorem cntG_app : ∀ (a b : List It), cntG (a ++ b) = cntG a + cntG b
  | [], b => by simp [cntG]
  | p :: a, b => by rw [List.cons_append, cntG, cntG, cntG_app a]; omega
theorem sumC_app (col : Nat) : ∀ (a b : List It), sumC col (a ++ b) = sumC col a + sumC col b
  | [], b => by simp [sumC]
  | p :: a, b => by rw [List.cons_append, sumC, sumC, sumC_app col a]; omega
theorem take_one {g : List It} {k : Nat} (hk : k < g.length) : g.take (k + 1) = g.take k ++ [g.getD k ([], 0)] := by
  rw [List.take_succ_eq_append_getElem hk]
  simp [List.getD, hk]
theorem cnt_step {g : List It} {k : Nat} (hk : k < g.length) : cntG (g.take (k + 1)) = cntG (g.take k) + (g.getD k ([], 0)).2 := by
  rw [take_one hk, cntG_app]; simp [cntG]
theorem sum_step {col : Nat} {g : List It} {k : Nat} (hk : k < g.length) : sumC col (g.take (k + 1)) = sumC col (g.take k) + (g.getD k ([], 0)).2 * (g.getD k ([], 0)).1.getD col 0 := by
  rw [take_one hk, sumC_app]; simp [sumC]
theorem least_one {col : Nat} {g : List It} (hk : 0 < g.length) : leastC col (g.take 1) = (g.getD 0 ([], 0)).1.getD col 0 := by
  match g with
  | p :: g => simp [leastC]
theorem most_one {col : Nat} {g : List It} (hk : 0 < g.length) : mostC col (g.take 1) = (g.getD 0 ([], 0)).1.getD col 0 := by
  match g with
  | p :: g => simp [mostC]
theorem least_step {col : Nat} {g : List It} {k : Nat} (hk : k < g.length) (h0 : 0 < k) : leastC col (g.take (k + 1)) = min (leastC col (g.take k)) ((g.getD k ([], 0)).1.getD col 0) := by
  rw [take_one hk]
  match g, k with
  | p :: g, k + 1 => simp [leastC, List.foldl_append]
theorem most_step {col : Nat} {g : List It} {k : Nat} (hk : k < g.length) (h0 : 0 < k) : mostC col (g.take (k + 1)) = max (mostC col (g.take k)) ((g.getD k ([], 0)).1.getD col 0) := by
  rw [take_one hk]
  match g, k with
  | p :: g, k + 1 => simp [mostC, List.foldl_append]
/-- Items of a group: few, small, and each has the place. -/
def Fine (g : List It) (col : Nat) : Prop := g.length ≤ 100 ∧ ∀ p ∈ g, (-10000 ≤ p.2 ∧ p.2 ≤ 10000) ∧ col < p.1.length ∧ (-1000000000 ≤ p.1.getD col 0 ∧ p.1.getD col 0 ≤ 1000000000)
theorem Fine.at {g : List It} {col : Nat} (h : Fine g col) {k : Nat} (hk : k < g.length) : (-10000 ≤ (g.getD k ([], 0)).2 ∧ (g.getD k ([], 0)).2 ≤ 10000) ∧ col < (g.getD k ([], 0)).1.length ∧ (-1000000000 ≤ (g.getD k ([], 0)).1.getD col 0 ∧ (g.getD k ([], 0)).1.getD col 0 ≤ 1000000000) :=
  h.2 _ (by simp [List.getD, hk])
theorem cnt_in {g : List It} {col : Nat} (h : Fine g col) : ∀ k, k ≤ g.length → -(10000 * (k : Int)) ≤ cntG (g.take k) ∧ cntG (g.take k) ≤ 10000 * (k : Int)
  | 0, _ => by simp [cntG]
  | k + 1, hk => by
    have ih := cnt_in h k (by omega)
    have h1 := (h.at (show k < g.length by omega)).1
    rw [cnt_step (show k < g.length by omega)]
    omega
theorem sum_in {g : List It} {col : Nat} (h : Fine g col) : ∀ k, k ≤ g.length → -(10000000000000 * (k : Int)) ≤ sumC col (g.take k) ∧ sumC col (g.take k) ≤ 10000000000000 * (k : Int)
  | 0, _ => by simp [sumC]
  | k + 1, hk => by
    have ih := sum_in h k (by omega)
    have h1 := h.at (show k < g.length by omega)
    have h2 := mul_in (A := 10000) (B := 1000000000) h1.1 h1.2.2 (by omega) (by omega)
    rw [sum_step (show k < g.length by omega)]
    omega

end Go.Proofs.YtflbdfpgaeeleaaGreatDoor

/-
  The contracts of the totals of a group (impl.countTotal, sumTotal, leastTotal, mostTotal), spec.l5Agg, impl.cellFits and spec.l1Cell.
-/
namespace Go.Proofs.YtflbdfpgaeeleaaGreatDoor
set_option maxRecDepth 100000
open Go.RowKit
attribute [local go_sem ↓] Go.wp_at_zero Go.wp_at_succ

theorem reti {a b : Int} (h : a = b) : Ending.returned (.int .i64 a) = Ending.returned (.int .i64 b) := by rw [h]
theorem nil_of_len {g : List It} (h : ¬ 0 < g.length) : g = [] := List.length_eq_zero_iff.1 (by omega)
theorem upto_one {col : Nat} {g : List It} {k : Nat} (hk : k < g.length) : leastC col (g.take (max (k + 1) 1)) = min (leastC col (g.take (max k 1))) ((g.getD k ([], 0)).1.getD col 0) := by
  rcases Nat.eq_zero_or_pos k with h | h
  · subst h
    show leastC col (g.take 1) = min (leastC col (g.take 1)) _
    rw [least_one hk]; omega
  · rw [show max (k + 1) 1 = k + 1 by omega, show max k 1 = k by omega, least_step hk h]
theorem upto_oneM {col : Nat} {g : List It} {k : Nat} (hk : k < g.length) : mostC col (g.take (max (k + 1) 1)) = max (mostC col (g.take (max k 1))) ((g.getD k ([], 0)).1.getD col 0) := by
  rcases Nat.eq_zero_or_pos k with h | h
  · subst h
    show mostC col (g.take 1) = max (mostC col (g.take 1)) _
    rw [most_one hk]; omega
  · rw [show max (k + 1) 1 = k + 1 by omega, show max k 1 = k by omega, most_step hk h]
theorem ints_at {w : World} {rv : Value} {x : List Int} (h : IntsAt w rv x) {col : Nat} (hc : col < x.length) : ∃ b off cap, rv = .slice (some ⟨b, off, none⟩) x.length cap ∧ b < w.heap.size ∧ w.cell? ⟨b, off + col, none⟩ = some (.int .i64 (x.getD col 0)) := by
  rcases h.cases with ⟨a, cap, rfl, rfl⟩ | ⟨b, off, cap, _, _, rfl, hb, hcell⟩
  · simp at hc
  · exact ⟨b, off, cap, rfl, hb, hcell col hc⟩
set_option maxHeartbeats 4000000 in
theorem count_any (u rc : Value) (g : List It) (col : Nat) (w : World) (h : ItemsAt w u g) (hf : Fine g col) (hpos : 0 < g.length) (hrc : rc = .agg #[]) :
    Calls Tryz.prog 132 #[rc, u, .int .i64 col] w fun e w' => e = .returned (.int .i64 (cntG g)) ∧ Below w.heap.size w w' := by
  subst hrc
  rcases h.cases with ⟨a, cap, rfl, rfl⟩ | ⟨b, off, cap, _, hlim, rfl, hbw, hc⟩
  · simp at hpos
  · clear h
    obtain ⟨n, hn⟩ : ∃ n, n = g.length := ⟨_, rfl⟩
    have HN : Hid (n = g.length) := hn
    have hn100 : n ≤ 100 := by rw [hn]; exact hf.1
    rw [← hn] at hpos hlim hc ⊢
    have HF : Hid (Fine g col) := hf
    clear hn hf
    go_enter Tryz.func132, Tryz.ntmps132
    go_wp2
    go_loopw [7, 12] (fun s i wr => ∃ k : Nat, k ≤ n ∧ i = .int .i64 k ∧ s = .int .i64 (cntG (g.take k)) ∧ Hid (Below w.heap.size w wr)) (fun _ i _ => n - (intOf i).toNat)
    case atStart => exact ⟨0, Nat.zero_le _, rfl, by simp [cntG], below_alloc _⟩
    case round =>
      obtain ⟨k, hk, rfl, rfl, HW⟩ := hrel
      by_cases hlt : k < n
      · have hlt' : k < g.length := by rw [← HN.out]; exact hlt
        have HB := HW.out
        obtain ⟨rv, hrv0, hwt0, hix0⟩ := hc k hlt
        obtain ⟨b1, o1, cp1, rfl, hb1, hx0⟩ := ints_at hix0 (HF.out.at hlt').2.1
        have hrv := (HB.cell (p := ⟨b, off + k * 2, none⟩) hbw).trans hrv0
        have hwt := (HB.cell (p := ⟨b, off + k * 2 + 1, none⟩) hbw).trans hwt0
        have hx := (HB.cell (p := ⟨b1, o1 + col, none⟩) hb1).trans hx0
        have hb1r : b1 < wr.heap.size := Nat.lt_of_lt_of_le hb1 HB.size
        have hfk := HF.out.at hlt'
        have HS : Hid (cntG (g.take (k + 1)) = cntG (g.take k) + (g.getD k ([], 0)).2) := cnt_step hlt'
        have hin := cnt_in HF.out k (by omega)
        obtain ⟨m, HM⟩ : ∃ m, Hid (m = (g.getD k ([], 0)).1.length) := ⟨_, rfl⟩
        obtain ⟨y, HY⟩ : ∃ y, Hid (y = (g.getD k ([], 0)).2) := ⟨_, rfl⟩
        obtain ⟨z, HZ⟩ : ∃ z, Hid (z = (g.getD k ([], 0)).1.getD col 0) := ⟨_, rfl⟩
        obtain ⟨s0, HS0⟩ : ∃ s, Hid (s = cntG (g.take k)) := ⟨_, rfl⟩
        rw [← HM.out] at hrv hfk
        rw [← HY.out] at hwt hfk HS
        rw [← HZ.out] at hx hfk
        rw [← HS0.out] at HS hin ⊢
        clear hrv0 hwt0 hix0 hx0 hc
        have hwrap : IntKind.i64.wrap (s0 + y) = s0 + y := by rw [IntKind.wrap_i64]; omega
        go_wp2
        go_roundw
        case rel => exact ⟨k + 1, by omega, by go_num, by rw [HS.out], below_then HW.out (below_alloc _)⟩
        case measure => simp [intOf]; omega
      · obtain rfl : k = n := by omega
        have HE : Hid (cntG (g.take k) = cntG g) := by
          show _ = _
          rw [HN.out, List.take_length]
        obtain ⟨s0, HS0⟩ : ∃ s, Hid (s = cntG (g.take k)) := ⟨_, rfl⟩
        rw [← HS0.out] at HE ⊢
        clear hc
        go_wp2
        go_ret
        exact ⟨reti HE.out, HW.out⟩
set_option maxHeartbeats 4000000 in
theorem sum_any (u rc : Value) (g : List It) (col : Nat) (w : World) (h : ItemsAt w u g) (hf : Fine g col) (hpos : 0 < g.length) (hrc : rc = .agg #[]) :
    Calls Tryz.prog 133 #[rc, u, .int .i64 col] w fun e w' => e = .returned (.int .i64 (sumC col g)) ∧ Below w.heap.size w w' := by
  subst hrc
  rcases h.cases with ⟨a, cap, rfl, rfl⟩ | ⟨b, off, cap, _, hlim, rfl, hbw, hc⟩
  · simp at hpos
  · clear h
    obtain ⟨n, hn⟩ : ∃ n, n = g.length := ⟨_, rfl⟩
    have HN : Hid (n = g.length) := hn
    have hn100 : n ≤ 100 := by rw [hn]; exact hf.1
    rw [← hn] at hpos hlim hc ⊢
    have HF : Hid (Fine g col) := hf
    clear hn hf
    go_enter Tryz.func133, Tryz.ntmps133
    go_wp2
    go_loopw [7, 12] (fun s i wr => ∃ k : Nat, k ≤ n ∧ i = .int .i64 k ∧ s = .int .i64 (sumC col (g.take k)) ∧ Hid (Below w.heap.size w wr)) (fun _ i _ => n - (intOf i).toNat)
    case atStart => exact ⟨0, Nat.zero_le _, rfl, by simp [sumC], below_alloc _⟩
    case round =>
      obtain ⟨k, hk, rfl, rfl, HW⟩ := hrel
      by_cases hlt : k < n
      · have hlt' : k < g.length := by rw [← HN.out]; exact hlt
        have HB := HW.out
        obtain ⟨rv, hrv0, hwt0, hix0⟩ := hc k hlt
        obtain ⟨b1, o1, cp1, rfl, hb1, hx0⟩ := ints_at hix0 (HF.out.at hlt').2.1
        have hrv := (HB.cell (p := ⟨b, off + k * 2, none⟩) hbw).trans hrv0
        have hwt := (HB.cell (p := ⟨b, off + k * 2 + 1, none⟩) hbw).trans hwt0
        have hx := (HB.cell (p := ⟨b1, o1 + col, none⟩) hb1).trans hx0
        have hb1r : b1 < wr.heap.size := Nat.lt_of_lt_of_le hb1 HB.size
        have hfk := HF.out.at hlt'
        have HS : Hid (sumC col (g.take (k + 1)) = sumC col (g.take k) + (g.getD k ([], 0)).2 * (g.getD k ([], 0)).1.getD col 0) := sum_step hlt'
        have hin := sum_in HF.out k (by omega)
        obtain ⟨m, HM⟩ : ∃ m, Hid (m = (g.getD k ([], 0)).1.length) := ⟨_, rfl⟩
        obtain ⟨y, HY⟩ : ∃ y, Hid (y = (g.getD k ([], 0)).2) := ⟨_, rfl⟩
        obtain ⟨z, HZ⟩ : ∃ z, Hid (z = (g.getD k ([], 0)).1.getD col 0) := ⟨_, rfl⟩
        obtain ⟨s0, HS0⟩ : ∃ s, Hid (s = sumC col (g.take k)) := ⟨_, rfl⟩
        rw [← HM.out] at hrv hfk
        rw [← HY.out] at hwt hfk HS
        rw [← HZ.out] at hx hfk HS
        rw [← HS0.out] at HS hin ⊢
        clear hrv0 hwt0 hix0 hx0 hc
        have hml := mul_in (A := 1000000000) (B := 10000) hfk.2.2 hfk.1 (by omega) (by omega)
        have hcm : z * y = y * z := Int.mul_comm _ _
        have hwrap1 : IntKind.i64.wrap (z * y) = z * y := by rw [IntKind.wrap_i64]; omega
        have hwrap : IntKind.i64.wrap (s0 + z * y) = s0 + z * y := by rw [IntKind.wrap_i64]; omega
        rw [← hcm] at HS
        have hcl : col < m := hfk.2.1
        clear hcm hml
        go_wp2
        go_quiet (fail)
        go_wp2
        go_roundw
        case rel => exact ⟨k + 1, by omega, by go_num, by rw [HS.out], below_drewN (below_then HW.out (below_alloc _)) _⟩
        case measure => simp [intOf]; omega
      · obtain rfl : k = n := by omega
        have HE : Hid (sumC col (g.take k) = sumC col g) := by
          show _ = _
          rw [HN.out, List.take_length]
        obtain ⟨s0, HS0⟩ : ∃ s, Hid (s = sumC col (g.take k)) := ⟨_, rfl⟩
        rw [← HS0.out] at HE ⊢
        clear hc
        go_wp2
        go_ret
        exact ⟨reti HE.out, HW.out⟩
set_option maxHeartbeats 4000000 in
theorem least_any (u rc : Value) (g : List It) (col : Nat) (w : World) (h : ItemsAt w u g) (hf : Fine g col) (hpos : 0 < g.length) (hrc : rc = .agg #[]) :
    Calls Tryz.prog 134 #[rc, u, .int .i64 col] w fun e w' => e = .returned (.int .i64 (leastC col g)) ∧ Below w.heap.size w w' := by
  subst hrc
  rcases h.cases with ⟨a, cap, rfl, rfl⟩ | ⟨b, off, cap, _, hlim, rfl, hbw, hc⟩
  · simp at hpos
  · clear h
    obtain ⟨n, hn⟩ : ∃ n, n = g.length := ⟨_, rfl⟩
    have HN : Hid (n = g.length) := hn
    have hn100 : n ≤ 100 := by rw [hn]; exact hf.1
    rw [← hn] at hpos hlim hc ⊢
    have HF : Hid (Fine g col) := hf
    clear hn hf
    obtain ⟨rv0, d0, _, dix⟩ := hc 0 hpos
    have hp0 : 0 < g.length := by rw [← HN.out]; exact hpos
    obtain ⟨b0, o0, cp0, rfl, hb0, d1⟩ := ints_at dix (HF.out.at hp0).2.1
    have HV0 : Hid (leastC col (g.take (max 0 1)) = (g.getD 0 ([], 0)).1.getD col 0) := least_one hp0
    obtain ⟨m0, HM0⟩ : ∃ m, Hid (m = (g.getD 0 ([], 0)).1.length) := ⟨_, rfl⟩
    have hcm0 : col < m0 := by rw [HM0.out]; exact (HF.out.at hp0).2.1
    obtain ⟨v0, HV⟩ : ∃ v, Hid (v = (g.getD 0 ([], 0)).1.getD col 0) := ⟨_, rfl⟩
    rw [← HM0.out] at d0
    rw [← HV.out] at d1 HV0
    simp only [Nat.zero_mul, Nat.add_zero] at d0
    have hnI : (0 : Int) < (n : Int) := by omega
    have hbx : Below w.heap.size w (w.alloc (.cells #[] 79)) := below_alloc _
    go_enter Tryz.func134, Tryz.ntmps134
    go_wp2
    go_loopw [7, 19] (fun s i wr => ∃ k : Nat, k ≤ n ∧ i = .int .i64 k ∧ s = .int .i64 (leastC col (g.take (max k 1))) ∧ Hid (Below w.heap.size w wr)) (fun _ i _ => n - (intOf i).toNat)
    case atStart => exact ⟨0, Nat.zero_le _, rfl, by rw [HV0.out], below_alloc _⟩
    case round =>
      obtain ⟨k, hk, rfl, rfl, HW⟩ := hrel
      by_cases hlt : k < n
      · have hlt' : k < g.length := by rw [← HN.out]; exact hlt
        have HB := HW.out
        obtain ⟨rv, hrv0, hwt0, hix0⟩ := hc k hlt
        obtain ⟨b1, o1, cp1, rfl, hb1, hx0⟩ := ints_at hix0 (HF.out.at hlt').2.1
        have hrv := (HB.cell (p := ⟨b, off + k * 2, none⟩) hbw).trans hrv0
        have hwt := (HB.cell (p := ⟨b, off + k * 2 + 1, none⟩) hbw).trans hwt0
        have hx := (HB.cell (p := ⟨b1, o1 + col, none⟩) hb1).trans hx0
        have hb1r : b1 < wr.heap.size := Nat.lt_of_lt_of_le hb1 HB.size
        have hfk := HF.out.at hlt'
        have HS : Hid (leastC col (g.take (max (k + 1) 1)) = min (leastC col (g.take (max k 1))) ((g.getD k ([], 0)).1.getD col 0)) := upto_one hlt'
        have hin := hfk
        obtain ⟨m, HM⟩ : ∃ m, Hid (m = (g.getD k ([], 0)).1.length) := ⟨_, rfl⟩
        obtain ⟨y, HY⟩ : ∃ y, Hid (y = (g.getD k ([], 0)).2) := ⟨_, rfl⟩
        obtain ⟨z, HZ⟩ : ∃ z, Hid (z = (g.getD k ([], 0)).1.getD col 0) := ⟨_, rfl⟩
        obtain ⟨s0, HS0⟩ : ∃ s, Hid (s = leastC col (g.take (max k 1))) := ⟨_, rfl⟩
        rw [← HM.out] at hrv hfk
        rw [← HY.out] at hwt hfk
        rw [← HZ.out] at hx hfk HS
        rw [← HS0.out] at HS ⊢
        clear hrv0 hwt0 hix0 hx0 hc
        have hcl : col < m := hfk.2.1
        go_wp2
        go_roundw
        case rel => exact ⟨k + 1, by omega, by go_num, by rw [HS.out]; first | rfl | (simp; omega) | skip, below_then HW.out (below_alloc _)⟩
        case measure => simp [intOf]; omega
      · obtain rfl : k = n := by omega
        have HE : Hid (leastC col (g.take (max k 1)) = leastC col g) := by
          show _ = _
          rw [show max k 1 = k by omega, HN.out, List.take_length]
        obtain ⟨s0, HS0⟩ : ∃ s, Hid (s = leastC col (g.take (max k 1))) := ⟨_, rfl⟩
        rw [← HS0.out] at HE ⊢
        clear hc
        go_wp2
        go_ret
        exact ⟨reti HE.out, HW.out⟩
set_option maxHeartbeats 4000000 in
theorem most_any (u rc : Value) (g : List It) (col : Nat) (w : World) (h : ItemsAt w u g) (hf : Fine g col) (hpos : 0 < g.length) (hrc : rc = .agg #[]) :
    Calls Tryz.prog 135 #[rc, u, .int .i64 col] w fun e w' => e = .returned (.int .i64 (mostC col g)) ∧ Below w.heap.size w w' := by
  subst hrc
  rcases h.cases with ⟨a, cap, rfl, rfl⟩ | ⟨b, off, cap, _, hlim, rfl, hbw, hc⟩
  · simp at hpos
  · clear h
    obtain ⟨n, hn⟩ : ∃ n, n = g.length := ⟨_, rfl⟩
    have HN : Hid (n = g.length) := hn
    have hn100 : n ≤ 100 := by rw [hn]; exact hf.1
    rw [← hn] at hpos hlim hc ⊢
    have HF : Hid (Fine g col) := hf
    clear hn hf
    obtain ⟨rv0, d0, _, dix⟩ := hc 0 hpos
    have hp0 : 0 < g.length := by rw [← HN.out]; exact hpos
    obtain ⟨b0, o0, cp0, rfl, hb0, d1⟩ := ints_at dix (HF.out.at hp0).2.1
    have HV0 : Hid (mostC col (g.take (max 0 1)) = (g.getD 0 ([], 0)).1.getD col 0) := most_one hp0
    obtain ⟨m0, HM0⟩ : ∃ m, Hid (m = (g.getD 0 ([], 0)).1.length) := ⟨_, rfl⟩
    have hcm0 : col < m0 := by rw [HM0.out]; exact (HF.out.at hp0).2.1
    obtain ⟨v0, HV⟩ : ∃ v, Hid (v = (g.getD 0 ([], 0)).1.getD col 0) := ⟨_, rfl⟩
    rw [← HM0.out] at d0
    rw [← HV.out] at d1 HV0
    simp only [Nat.zero_mul, Nat.add_zero] at d0
    have hnI : (0 : Int) < (n : Int) := by omega
    have hbx : Below w.heap.size w (w.alloc (.cells #[] 80)) := below_alloc _
    go_enter Tryz.func135, Tryz.ntmps135
    go_wp2
    go_loopw [7, 19] (fun s i wr => ∃ k : Nat, k ≤ n ∧ i = .int .i64 k ∧ s = .int .i64 (mostC col (g.take (max k 1))) ∧ Hid (Below w.heap.size w wr)) (fun _ i _ => n - (intOf i).toNat)
    case atStart => exact ⟨0, Nat.zero_le _, rfl, by rw [HV0.out], below_alloc _⟩
    case round =>
      obtain ⟨k, hk, rfl, rfl, HW⟩ := hrel
      by_cases hlt : k < n
      · have hlt' : k < g.length := by rw [← HN.out]; exact hlt
        have HB := HW.out
        obtain ⟨rv, hrv0, hwt0, hix0⟩ := hc k hlt
        obtain ⟨b1, o1, cp1, rfl, hb1, hx0⟩ := ints_at hix0 (HF.out.at hlt').2.1
        have hrv := (HB.cell (p := ⟨b, off + k * 2, none⟩) hbw).trans hrv0
        have hwt := (HB.cell (p := ⟨b, off + k * 2 + 1, none⟩) hbw).trans hwt0
        have hx := (HB.cell (p := ⟨b1, o1 + col, none⟩) hb1).trans hx0
        have hb1r : b1 < wr.heap.size := Nat.lt_of_lt_of_le hb1 HB.size
        have hfk := HF.out.at hlt'
        have HS : Hid (mostC col (g.take (max (k + 1) 1)) = max (mostC col (g.take (max k 1))) ((g.getD k ([], 0)).1.getD col 0)) := upto_oneM hlt'
        have hin := hfk
        obtain ⟨m, HM⟩ : ∃ m, Hid (m = (g.getD k ([], 0)).1.length) := ⟨_, rfl⟩
        obtain ⟨y, HY⟩ : ∃ y, Hid (y = (g.getD k ([], 0)).2) := ⟨_, rfl⟩
        obtain ⟨z, HZ⟩ : ∃ z, Hid (z = (g.getD k ([], 0)).1.getD col 0) := ⟨_, rfl⟩
        obtain ⟨s0, HS0⟩ : ∃ s, Hid (s = mostC col (g.take (max k 1))) := ⟨_, rfl⟩
        rw [← HM.out] at hrv hfk
        rw [← HY.out] at hwt hfk
        rw [← HZ.out] at hx hfk HS
        rw [← HS0.out] at HS ⊢
        clear hrv0 hwt0 hix0 hx0 hc
        have hcl : col < m := hfk.2.1
        go_wp2
        go_roundw
        case rel => exact ⟨k + 1, by omega, by go_num, by rw [HS.out]; first | rfl | (simp; omega) | skip, below_then HW.out (below_alloc _)⟩
        case measure => simp [intOf]; omega
      · obtain rfl : k = n := by omega
        have HE : Hid (mostC col (g.take (max k 1)) = mostC col g) := by
          show _ = _
          rw [show max k 1 = k by omega, HN.out, List.take_length]
        obtain ⟨s0, HS0⟩ : ∃ s, Hid (s = mostC col (g.take (max k 1))) := ⟨_, rfl⟩
        rw [← HS0.out] at HE ⊢
        clear hc
        go_wp2
        go_ret
        exact ⟨reti HE.out, HW.out⟩
end Go.Proofs.YtflbdfpgaeeleaaGreatDoor

/-
  The contracts of spec.l5Agg and spec.l5Of: what is reckoned of a group; the items of a group.
-/
namespace Go.Proofs.YtflbdfpgaeeleaaGreatDoor
set_option maxRecDepth 100000
open Go.RowKit
attribute [local go_sem ↓] Go.wp_at_zero Go.wp_at_succ

/-- The items that are there whose cells at the keys are so. -/
def grpZ (z : List It) (ks key : List Int) : List It := z.filter fun p => decide (0 < p.2) && decide (keyZ p.1 ks = key)
theorem grp_take {z : List It} {ks key : List Int} {k : Nat} (hk : k < z.length) : grpZ (z.take (k + 1)) ks key = grpZ (z.take k) ks key ++ (if decide (0 < (z.getD k ([], 0)).2) && decide (keyZ (z.getD k ([], 0)).1 ks = key) then [((z.getD k ([], 0)).1, (z.getD k ([], 0)).2)] else []) := by
  unfold grpZ
  have e : z.getD k ([], 0) = z[k] := by simp [List.getD, hk]
  rw [List.take_succ_eq_append_getElem hk, List.filter_append, e, List.filter_cons, List.filter_nil]
theorem grpZ_len (z : List It) (ks key : List Int) : (grpZ z ks key).length ≤ z.length := List.length_filter_le _ _
set_option maxHeartbeats 4000000 in
theorem l5Agg_0 (u : Value) (g : List It) (col : Nat) (w : World) (h : ItemsAt w u g) (hf : Fine g col) (hpos : 0 < g.length) :
    Calls Tryz.prog 29 #[u, .int .i64 0, .int .i64 col] w fun e w' => e = .returned (.int .i64 (cntG g)) ∧ w' = w := by
  rcases h.cases with ⟨a, cap, rfl, rfl⟩ | ⟨b, off, cap, _, hlim, rfl, hbw, hc⟩
  · simp at hpos
  · clear h
    obtain ⟨n, hn⟩ : ∃ n, n = g.length := ⟨_, rfl⟩
    have HN : Hid (n = g.length) := hn
    have hn100 : n ≤ 100 := by rw [hn]; exact hf.1
    rw [← hn] at hpos hlim hc ⊢
    have HF : Hid (Fine g col) := hf
    clear hn hf
    go_enter Tryz.func29, Tryz.ntmps29
    go_wp2
    go_loopw [7, 8] (fun s i wr => ∃ k : Nat, k ≤ n ∧ i = .int .i64 k ∧ s = .int .i64 (cntG (g.take k)) ∧ wr = w) (fun _ i _ => n - (intOf i).toNat)
    case atStart => exact ⟨0, Nat.zero_le _, rfl, by simp [cntG], rfl⟩
    case round =>
      obtain ⟨k, hk, rfl, rfl, rfl⟩ := hrel
      by_cases hlt : k < n
      · have hlt' : k < g.length := by rw [← HN.out]; exact hlt
        obtain ⟨rv, hrv, hwt, hix⟩ := hc k hlt
        obtain ⟨b1, o1, cp1, rfl, hb1, hx⟩ := ints_at hix (HF.out.at hlt').2.1
        have hfk := HF.out.at hlt'
        have HS : Hid (cntG (g.take (k + 1)) = cntG (g.take k) + (g.getD k ([], 0)).2) := cnt_step hlt'
        have hin := cnt_in HF.out k (by omega)
        obtain ⟨m, HM⟩ : ∃ m, Hid (m = (g.getD k ([], 0)).1.length) := ⟨_, rfl⟩
        obtain ⟨y, HY⟩ : ∃ y, Hid (y = (g.getD k ([], 0)).2) := ⟨_, rfl⟩
        obtain ⟨z, HZ⟩ : ∃ z, Hid (z = (g.getD k ([], 0)).1.getD col 0) := ⟨_, rfl⟩
        obtain ⟨s0, HS0⟩ : ∃ s, Hid (s = cntG (g.take k)) := ⟨_, rfl⟩
        rw [← HM.out] at hrv hfk
        rw [← HY.out] at hwt hfk HS
        rw [← HZ.out] at hx hfk
        rw [← HS0.out] at HS hin ⊢
        have hcl : col < m := hfk.2.1
        clear hix hc
        have hwrap : IntKind.i64.wrap (s0 + y) = s0 + y := by rw [IntKind.wrap_i64]; omega
        go_wp2
        go_roundw
        case rel => exact ⟨k + 1, by omega, by go_num, by rw [HS.out], by first | rfl | trivial⟩
        case measure => simp [intOf]; omega
      · obtain rfl : k = n := by omega
        have HE : Hid (cntG (g.take k) = cntG g) := by
          show _ = _
          rw [HN.out, List.take_length]
        obtain ⟨s0, HS0⟩ : ∃ s, Hid (s = cntG (g.take k)) := ⟨_, rfl⟩
        rw [← HS0.out] at HE ⊢
        clear hc
        go_wp2
        go_ret
        exact ⟨reti HE.out, rfl⟩
set_option maxHeartbeats 4000000 in
theorem l5Agg_1 (u : Value) (g : List It) (col : Nat) (w : World) (h : ItemsAt w u g) (hf : Fine g col) (hpos : 0 < g.length) :
    Calls Tryz.prog 29 #[u, .int .i64 1, .int .i64 col] w fun e w' => e = .returned (.int .i64 (sumC col g)) ∧ w' = w := by
  rcases h.cases with ⟨a, cap, rfl, rfl⟩ | ⟨b, off, cap, _, hlim, rfl, hbw, hc⟩
  · simp at hpos
  · clear h
    obtain ⟨n, hn⟩ : ∃ n, n = g.length := ⟨_, rfl⟩
    have HN : Hid (n = g.length) := hn
    have hn100 : n ≤ 100 := by rw [hn]; exact hf.1
    rw [← hn] at hpos hlim hc ⊢
    have HF : Hid (Fine g col) := hf
    clear hn hf
    go_enter Tryz.func29, Tryz.ntmps29
    go_wp2
    go_loopw [7, 8] (fun s i wr => ∃ k : Nat, k ≤ n ∧ i = .int .i64 k ∧ s = .int .i64 (sumC col (g.take k)) ∧ wr = w) (fun _ i _ => n - (intOf i).toNat)
    case atStart => exact ⟨0, Nat.zero_le _, rfl, by simp [sumC], rfl⟩
    case round =>
      obtain ⟨k, hk, rfl, rfl, rfl⟩ := hrel
      by_cases hlt : k < n
      · have hlt' : k < g.length := by rw [← HN.out]; exact hlt
        obtain ⟨rv, hrv, hwt, hix⟩ := hc k hlt
        obtain ⟨b1, o1, cp1, rfl, hb1, hx⟩ := ints_at hix (HF.out.at hlt').2.1
        have hfk := HF.out.at hlt'
        have HS : Hid (sumC col (g.take (k + 1)) = sumC col (g.take k) + (g.getD k ([], 0)).2 * (g.getD k ([], 0)).1.getD col 0) := sum_step hlt'
        have hin := sum_in HF.out k (by omega)
        obtain ⟨m, HM⟩ : ∃ m, Hid (m = (g.getD k ([], 0)).1.length) := ⟨_, rfl⟩
        obtain ⟨y, HY⟩ : ∃ y, Hid (y = (g.getD k ([], 0)).2) := ⟨_, rfl⟩
        obtain ⟨z, HZ⟩ : ∃ z, Hid (z = (g.getD k ([], 0)).1.getD col 0) := ⟨_, rfl⟩
        obtain ⟨s0, HS0⟩ : ∃ s, Hid (s = sumC col (g.take k)) := ⟨_, rfl⟩
        rw [← HM.out] at hrv hfk
        rw [← HY.out] at hwt hfk HS
        rw [← HZ.out] at hx hfk HS
        rw [← HS0.out] at HS hin ⊢
        have hcl : col < m := hfk.2.1
        clear hix hc
        have hml := mul_in (A := 10000) (B := 1000000000) hfk.1 hfk.2.2 (by omega) (by omega)
        have hwrap1 : IntKind.i64.wrap (y * z) = y * z := by rw [IntKind.wrap_i64]; omega
        have hwrap : IntKind.i64.wrap (s0 + y * z) = s0 + y * z := by rw [IntKind.wrap_i64]; omega
        clear hml
        go_wp2
        go_roundw
        case rel => exact ⟨k + 1, by omega, by go_num, by rw [HS.out], by first | rfl | trivial⟩
        case measure => simp [intOf]; omega
      · obtain rfl : k = n := by omega
        have HE : Hid (sumC col (g.take k) = sumC col g) := by
          show _ = _
          rw [HN.out, List.take_length]
        obtain ⟨s0, HS0⟩ : ∃ s, Hid (s = sumC col (g.take k)) := ⟨_, rfl⟩
        rw [← HS0.out] at HE ⊢
        clear hc
        go_wp2
        go_ret
        exact ⟨reti HE.out, rfl⟩
set_option maxHeartbeats 4000000 in
theorem l5Agg_2 (u : Value) (g : List It) (col : Nat) (w : World) (h : ItemsAt w u g) (hf : Fine g col) (hpos : 0 < g.length) :
    Calls Tryz.prog 29 #[u, .int .i64 2, .int .i64 col] w fun e w' => e = .returned (.int .i64 (leastC col g)) ∧ w' = w := by
  rcases h.cases with ⟨a, cap, rfl, rfl⟩ | ⟨b, off, cap, _, hlim, rfl, hbw, hc⟩
  · simp at hpos
  · clear h
    obtain ⟨n, hn⟩ : ∃ n, n = g.length := ⟨_, rfl⟩
    have HN : Hid (n = g.length) := hn
    have hn100 : n ≤ 100 := by rw [hn]; exact hf.1
    rw [← hn] at hpos hlim hc ⊢
    have HF : Hid (Fine g col) := hf
    clear hn hf
    go_enter Tryz.func29, Tryz.ntmps29
    go_wp2
    go_loopw [7, 8] (fun s i wr => ∃ k : Nat, k ≤ n ∧ i = .int .i64 k ∧ s = .int .i64 (leastC col (g.take k)) ∧ wr = w) (fun _ i _ => n - (intOf i).toNat)
    case atStart => exact ⟨0, Nat.zero_le _, rfl, by simp [leastC], rfl⟩
    case round =>
      obtain ⟨k, hk, rfl, rfl, rfl⟩ := hrel
      by_cases hlt : k < n
      · have hlt' : k < g.length := by rw [← HN.out]; exact hlt
        obtain ⟨rv, hrv, hwt, hix⟩ := hc k hlt
        obtain ⟨b1, o1, cp1, rfl, hb1, hx⟩ := ints_at hix (HF.out.at hlt').2.1
        have hfk := HF.out.at hlt'
        have HS : Hid (0 < k → leastC col (g.take (k + 1)) = min (leastC col (g.take k)) ((g.getD k ([], 0)).1.getD col 0)) := fun h0 => least_step hlt' h0
        have HS1 : Hid (k = 0 → leastC col (g.take (k + 1)) = (g.getD k ([], 0)).1.getD col 0) := fun h0 => by subst h0; exact least_one hlt'
        obtain ⟨m, HM⟩ : ∃ m, Hid (m = (g.getD k ([], 0)).1.length) := ⟨_, rfl⟩
        obtain ⟨y, HY⟩ : ∃ y, Hid (y = (g.getD k ([], 0)).2) := ⟨_, rfl⟩
        obtain ⟨z, HZ⟩ : ∃ z, Hid (z = (g.getD k ([], 0)).1.getD col 0) := ⟨_, rfl⟩
        obtain ⟨s0, HS0⟩ : ∃ s, Hid (s = leastC col (g.take k)) := ⟨_, rfl⟩
        rw [← HM.out] at hrv hfk
        rw [← HY.out] at hwt hfk
        rw [← HZ.out] at hx hfk HS HS1
        rw [← HS0.out] at HS ⊢
        have hcl : col < m := hfk.2.1
        clear hix hc
        by_cases hk0 : k = 0
        · have HE : Hid _ := HS1.out hk0
          have hkt : ((k : Int) == 0) = true := by simp [hk0]
          clear hk0
          go_wp2
          go_roundw
          case rel => exact ⟨k + 1, by omega, by go_num, by rw [HE.out], by first | rfl | trivial⟩
          case measure => simp [intOf]; omega
        · have HE : Hid _ := HS.out (by omega)
          have hkf : ((k : Int) == 0) = false := by simp; omega
          by_cases hv : z < s0
          · have HE2 : Hid (_ = z) := HE.out.trans (Int.min_eq_right (by omega))
            go_wp2
            go_roundw
            case rel => exact ⟨k + 1, by omega, by go_num, by rw [HE2.out], by first | rfl | trivial⟩
            case measure => simp [intOf]; omega
          · have HE2 : Hid (_ = s0) := HE.out.trans (Int.min_eq_left (by omega))
            go_wp2
            go_roundw
            case rel => exact ⟨k + 1, by omega, by go_num, by rw [HE2.out], by first | rfl | trivial⟩
            case measure => simp [intOf]; omega
      · obtain rfl : k = n := by omega
        have HE : Hid (leastC col (g.take k) = leastC col g) := by
          show _ = _
          rw [HN.out, List.take_length]
        obtain ⟨s0, HS0⟩ : ∃ s, Hid (s = leastC col (g.take k)) := ⟨_, rfl⟩
        rw [← HS0.out] at HE ⊢
        clear hc
        go_wp2
        go_ret
        exact ⟨reti HE.out, rfl⟩
set_option maxHeartbeats 4000000 in
theorem l5Agg_3 (u : Value) (g : List It) (col : Nat) (w : World) (h : ItemsAt w u g) (hf : Fine g col) (hpos : 0 < g.length) :
    Calls Tryz.prog 29 #[u, .int .i64 3, .int .i64 col] w fun e w' => e = .returned (.int .i64 (mostC col g)) ∧ w' = w := by
  rcases h.cases with ⟨a, cap, rfl, rfl⟩ | ⟨b, off, cap, _, hlim, rfl, hbw, hc⟩
  · simp at hpos
  · clear h
    obtain ⟨n, hn⟩ : ∃ n, n = g.length := ⟨_, rfl⟩
    have HN : Hid (n = g.length) := hn
    have hn100 : n ≤ 100 := by rw [hn]; exact hf.1
    rw [← hn] at hpos hlim hc ⊢
    have HF : Hid (Fine g col) := hf
    clear hn hf
    go_enter Tryz.func29, Tryz.ntmps29
    go_wp2
    go_loopw [7, 8] (fun s i wr => ∃ k : Nat, k ≤ n ∧ i = .int .i64 k ∧ s = .int .i64 (mostC col (g.take k)) ∧ wr = w) (fun _ i _ => n - (intOf i).toNat)
    case atStart => exact ⟨0, Nat.zero_le _, rfl, by simp [mostC], rfl⟩
    case round =>
      obtain ⟨k, hk, rfl, rfl, rfl⟩ := hrel
      by_cases hlt : k < n
      · have hlt' : k < g.length := by rw [← HN.out]; exact hlt
        obtain ⟨rv, hrv, hwt, hix⟩ := hc k hlt
        obtain ⟨b1, o1, cp1, rfl, hb1, hx⟩ := ints_at hix (HF.out.at hlt').2.1
        have hfk := HF.out.at hlt'
        have HS : Hid (0 < k → mostC col (g.take (k + 1)) = max (mostC col (g.take k)) ((g.getD k ([], 0)).1.getD col 0)) := fun h0 => most_step hlt' h0
        have HS1 : Hid (k = 0 → mostC col (g.take (k + 1)) = (g.getD k ([], 0)).1.getD col 0) := fun h0 => by subst h0; exact most_one hlt'
        obtain ⟨m, HM⟩ : ∃ m, Hid (m = (g.getD k ([], 0)).1.length) := ⟨_, rfl⟩
        obtain ⟨y, HY⟩ : ∃ y, Hid (y = (g.getD k ([], 0)).2) := ⟨_, rfl⟩
        obtain ⟨z, HZ⟩ : ∃ z, Hid (z = (g.getD k ([], 0)).1.getD col 0) := ⟨_, rfl⟩
        obtain ⟨s0, HS0⟩ : ∃ s, Hid (s = mostC col (g.take k)) := ⟨_, rfl⟩
        rw [← HM.out] at hrv hfk
        rw [← HY.out] at hwt hfk
        rw [← HZ.out] at hx hfk HS HS1
        rw [← HS0.out] at HS ⊢
        have hcl : col < m := hfk.2.1
        clear hix hc
        by_cases hk0 : k = 0
        · have HE : Hid _ := HS1.out hk0
          have hkt : ((k : Int) == 0) = true := by simp [hk0]
          clear hk0
          go_wp2
          go_roundw
          case rel => exact ⟨k + 1, by omega, by go_num, by rw [HE.out], by first | rfl | trivial⟩
          case measure => simp [intOf]; omega
        · have HE : Hid _ := HS.out (by omega)
          have hkf : ((k : Int) == 0) = false := by simp; omega
          by_cases hv : s0 < z
          · have HE2 : Hid (_ = z) := HE.out.trans (Int.max_eq_right (by omega))
            go_wp2
            go_roundw
            case rel => exact ⟨k + 1, by omega, by go_num, by rw [HE2.out], by first | rfl | trivial⟩
            case measure => simp [intOf]; omega
          · have HE2 : Hid (_ = s0) := HE.out.trans (Int.max_eq_left (by omega))
            go_wp2
            go_roundw
            case rel => exact ⟨k + 1, by omega, by go_num, by rw [HE2.out], by first | rfl | trivial⟩
            case measure => simp [intOf]; omega
      · obtain rfl : k = n := by omega
        have HE : Hid (mostC col (g.take k) = mostC col g) := by
          show _ = _
          rw [HN.out, List.take_length]
        obtain ⟨s0, HS0⟩ : ∃ s, Hid (s = mostC col (g.take k)) := ⟨_, rfl⟩
        rw [← HS0.out] at HE ⊢
        clear hc
        go_wp2
        go_ret
        exact ⟨reti HE.out, rfl⟩
theorem l5Agg_any (u : Value) (g : List It) (agg : Int) (col : Nat) (w : World) (h : ItemsAt w u g) (hf : Fine g col) (hpos : 0 < g.length) (ha : aggB agg = true) :
    Calls Tryz.prog 29 #[u, .int .i64 agg, .int .i64 col] w fun e w' => e = .returned (.int .i64 (aggZ agg col g)) ∧ w' = w := by
  have h1 := of_decide_eq_true ha
  rcases (by omega : agg = 0 ∨ agg = 1 ∨ agg = 2 ∨ agg = 3) with rfl | rfl | rfl | rfl
  · exact l5Agg_0 u g col w h hf hpos
  · exact l5Agg_1 u g col w h hf hpos
  · exact l5Agg_2 u g col w h hf hpos
  · exact l5Agg_3 u g col w h hf hpos
set_option maxHeartbeats 8000000 in
theorem l5Of_any (v u kv : Value) (z : List It) (ks key : List Int) (w : World) (h : ItemsAt w v z) (h2 : IntsAt w u ks) (h3 : IntsAt w kv key) (hz : zOkB z = true) (hkz : haveAll z ks = true) (hl : ks.length ≤ 6) :
    Calls Tryz.prog 30 #[v, u, kv] w fun e w' => ∃ v', e = .returned v' ∧ ItemsAt w' v' (grpZ z ks key) ∧ Below w.heap.size w w' := by
  obtain ⟨i0, hi0, hz0, hz1, hz2⟩ := info_parts infoItem
  have hrow : ∀ k, k < z.length → ∀ q ∈ ks, 0 ≤ q ∧ q < ((z.getD k ([], 0)).1.length : Int) := fun k hk q hq => have_iff.1 hkz q hq _ (by simp [List.getD, hk])
  have hz100 := zOk_le hz
  have HK2 : Hid (IntsAt w u ks) := h2
  have HK3 : Hid (IntsAt w kv key) := h3
  obtain ⟨ua, un, uc, rfl⟩ := h2.shape
  obtain ⟨ka, kn, kc, rfl⟩ := h3.shape
  clear h2 h3 hz hkz
  rcases h.cases with ⟨a, cap, rfl, rfl⟩ | ⟨b, off, cap, hpos, hlim, rfl, hbw, hc⟩
  · clear h hrow
    go_enter Tryz.func30, Tryz.ntmps30
    go_wp2
    refine wp_loop_rounds 1 ?_
    rw [rounds_succ]
    go_wp2
    go_ret
    exact ⟨_, rfl, (lit_ownZ w).items, below_alloc _⟩
  · clear h
    obtain ⟨n, hn⟩ : ∃ n, n = z.length := ⟨_, rfl⟩
    have HN : Hid (n = z.length) := hn
    rw [← hn] at hpos hlim hc hrow hz100 ⊢
    clear hn
    have hS0 : Spine (w.alloc (.cells #[] 36)) w.heap.size (w.alloc (.cells #[] 36)).heap.size (.slice (some ⟨w.heap.size, 0, none⟩) 0 0) (prs []) := by
      obtain ⟨l, hl2, S, _, _⟩ := (lit_ownZ w).opened
      have : l = [] := List.length_eq_zero_iff.1 (by rw [← its_length, ← hl2]; rfl)
      subst this
      exact S
    have HS0 : Hid _ := hS0
    clear hS0
    go_enter Tryz.func30, Tryz.ntmps30
    go_wp2
    go_loopw [7, 8] (fun s i wr => ∃ (k : Nat) (l : List Rw), k ≤ n ∧ i = .int .i64 k ∧ Hid (its l = grpZ (z.take k) ks key) ∧ Hid (Spine wr w.heap.size wr.heap.size s (prs l)) ∧ Hid (RowsIn w l) ∧ Hid (Below w.heap.size w wr)) (fun _ i _ => n - (intOf i).toNat)
    case atStart => exact ⟨0, [], Nat.zero_le _, rfl, rfl, HS0.out, fun x hx => by simp at hx, below_alloc _⟩
    case round =>
      obtain ⟨k, l, hk, rfl, HL, HS, HR, HW⟩ := hrel
      clear HS0
      by_cases hlt : k < n
      · have hlt' : k < z.length := by rw [← HN.out]; exact hlt
        have HB := HW.out
        obtain ⟨rv, hrv0, hwt0, hix0⟩ := hc k hlt
        have hrv := (HB.cell (p := ⟨b, off + k * 2, none⟩) hbw).trans hrv0
        have hwt := (HB.cell (p := ⟨b, off + k * 2 + 1, none⟩) hbw).trans hwt0
        have hix := hix0.below HB
        have hr2 := hrow k hlt
        have HT : Hid (grpZ (z.take (k + 1)) ks key = _) := grp_take (ks := ks) (key := key) hlt'
        have hll : l.length ≤ 100 := by
          have h1 : (its l).length = (grpZ (z.take k) ks key).length := by rw [HL.out]
          have h2 := grpZ_len (z.take k) ks key
          rw [its_length] at h1
          rw [List.length_take] at h2
          omega
        obtain ⟨x, HX⟩ : ∃ x, Hid (x = (z.getD k ([], 0)).1) := ⟨_, rfl⟩
        obtain ⟨y, HY⟩ : ∃ y, Hid (y = (z.getD k ([], 0)).2) := ⟨_, rfl⟩
        rw [← HX.out] at hix hr2 HT hix0
        rw [← HY.out] at hwt HT
        obtain ⟨xa, xn, xc, rfl⟩ := hix.shape
        have HIX : Hid (IntsAt w (.slice xa xn xc) x) := hix0
        have hbr : b < wr.heap.size := Nat.lt_of_lt_of_le hbw HB.size
        have hsw := HB.size
        clear hc hrow hrv0 hwt0 hix0
        by_cases hy : 0 < y
        · go_wp2_with fail
          refine (l5Key_any _ _ x ks _ hix (HK2.out.below HB) hr2 hl).mono ?_
          rintro e w2 ⟨v2, rfl, O2, hb2⟩
          have hk2 := below_then HB hb2
          go_wp2_with fail
          refine (specRowSame_any v2 _ (keyZ x ks) key _ O2.ints (HK3.out.below hk2)).mono ?_
          rw [same_iff]
          rintro e w3 ⟨rfl, hb3⟩
          have hk3 := below_then hk2 hb3
          have hw3 : Below wr.heap.size wr w3 := below_then hb2 hb3
          have hs3 := hk3.size
          have hrv3 := cell_is (p := ⟨b, off + k * 2, none⟩) hw3 hbr hrv
          have hwt3 := cell_is (p := ⟨b, off + k * 2 + 1, none⟩) hw3 hbr hwt
          have S3 : Spine w3 w.heap.size wr.heap.size u7 (prs l) := HS.out.keep' hw3
          have HKB3 : Hid (Below w.heap.size w w3) := hk3
          clear hrv hwt hix hb2 hb3 hk2 hk3 O2 HB HW HS hr2
          by_cases hs : keyZ x ks = key
          · rw [decide_eq_true hs]
            have HTT : Hid (its (l ++ [(.slice xa xn xc, (x, y))]) = grpZ (z.take (k + 1)) ks key) := by
              show _ = _
              rw [HT.out, decide_eq_true hy, decide_eq_true hs, its_append, HL.out]; rfl
            have HR2 : Hid (RowsIn w (l ++ [(.slice xa xn xc, (x, y))])) := fun q hq => by
              rcases List.mem_append.1 hq with e | e
              · exact HR.out q e
              · simp at e; subst e; exact HIX.out
            obtain ⟨hspW, hprW, hfin⟩ := merge_ready (xv := .slice xa xn xc) y S3 ⟨_, _, _, rfl⟩ (by omega) (by omega)
            have hpl : (prs l).length ≤ 100 := by rw [prs_length]; exact hll
            clear HT HL HR S3 hs
            go_wp2_with (at_builtin; (refine wpList_append_pairs rfl _ _ 23 rfl w.heap.size 36 i0 Tryz.underlying23 hi0 hz0 hz1 hz2 u7 (prs l) rfl hspW _ _ rfl hprW (by simp; omega) (by simp; omega) ?_; intro v4 w4 hown4 hg4 _))
            obtain ⟨S4, B4⟩ := hfin v4 w4 x hown4 hg4
            have HS4 : Hid (Spine w4 w.heap.size w4.heap.size v4 (prs (l ++ [(.slice xa xn xc, (x, y))]))) := S4
            have HK4 : Hid (Below w.heap.size w w4) := HKB3.out.trans B4
            clear hfin hown4 hg4 hspW hprW B4 S4 hrv3 hwt3 hw3
            go_wp2
            go_roundw
            case rel => exact ⟨k + 1, _, by omega, by go_num, HTT.out, HS4.out, HR2.out, HK4.out⟩
            case measure => simp [intOf]; omega
          · rw [decide_eq_false hs]
            have HTT : Hid (its l = grpZ (z.take (k + 1)) ks key) := by
              show _ = _
              rw [HT.out, decide_eq_false hs, Bool.and_false, HL.out]; simp
            have HS4 : Hid (Spine w3 w.heap.size w3.heap.size u7 (prs l)) := S3.wide (Nat.le_refl _) hw3.size (Nat.le_refl _)
            clear HT HL S3 hs hrv3 hwt3 hw3
            go_wp2
            go_roundw
            case rel => exact ⟨k + 1, _, by omega, by go_num, HTT.out, HS4.out, HR.out, HKB3.out⟩
            case measure => simp [intOf]; omega
        · have HTT : Hid (its l = grpZ (z.take (k + 1)) ks key) := by
            show _ = _
            rw [HT.out, decide_eq_false hy, Bool.false_and, HL.out]; simp
          clear HT HL hr2 hix
          go_wp2
          go_roundw
          case rel => exact ⟨k + 1, _, by omega, by go_num, HTT.out, HS.out, HR.out, HW.out⟩
          case measure => simp [intOf]; omega
      · obtain rfl : k = n := by omega
        have hI : ItemsAt wr u7 (its l) := (HS.out.pairs HR.out.shape).itemsOf (HR.out.below HW.out)
        rw [HL.out, HN.out, List.take_length] at hI
        clear hc hrow
        go_wp2
        go_ret
        exact ⟨_, rfl, hI, HW.out⟩

end Go.Proofs.YtflbdfpgaeeleaaGreatDoor

/-
  Plain facts on the rows that are told of groups: each once, in order.
-/
namespace Go.Proofs.YtflbdfpgaeeleaaGreatDoor

def rowG (z : List It) (ks : List Int) (agg : Int) (col : Nat) (p : It) : List Int := keyZ p.1 ks ++ [aggZ agg col (grpZ z ks (keyZ p.1 ks))]
def oneG (R : It → List Int) (out : List It) (p : It) : List It := if p.2 < 0 then out else if getZ out (R p) = 0 then putZ out (R p) 1 else out
def grpTo (R : It → List Int) (zs : List It) : List It := zs.foldl (oneG R) []
def hasG (R : It → List Int) (zs : List It) (q : List Int) : Bool := zs.any fun p => !decide (p.2 < 0) && decide (R p = q)
def grpCan (z : List It) (ks : List Int) (agg col : Int) : Bool := zOkB z && aggB agg && keysB ks 6 && (haveAll z ks && hasAt col z)
def toldG (z : List It) (ks : List Int) (agg : Int) (col : Nat) (p : It) : Bool := decide (p.2 < 0) || cellB (aggZ agg col (grpZ z ks (keyZ p.1 ks)))
def grpTold (z : List It) (ks : List Int) (agg : Int) (col : Nat) : Bool := z.all (toldG z ks agg col)
def grpOk (z : List It) (ks : List Int) (agg col : Int) : Bool := grpCan z ks agg col && grpTold z ks agg col.toNat
def grpOut (z : List It) (ks : List Int) (agg col : Int) : List It := if grpOk z ks agg col then grpTo (rowG z ks agg col.toNat) z else []

theorem grpTo_snoc (R : It → List Int) (zs : List It) (p : It) : grpTo R (zs ++ [p]) = oneG R (grpTo R zs) p := by simp [grpTo, List.foldl_append]
theorem hasG_snoc (R : It → List Int) (zs : List It) (p : It) (q : List Int) : hasG R (zs ++ [p]) q = (hasG R zs q || (!decide (p.2 < 0) && decide (R p = q))) := by simp [hasG, List.any_append]
/-- What is told: in order, each once. -/
def IsG (out : List It) (H : List Int → Bool) : Prop := Srt out ∧ Nz out ∧ ∀ q, getZ out q = if H q then 1 else 0
theorem isG_nil : IsG [] (fun _ => false) := ⟨Srt.nil, fun p hp => by simp at hp, fun q => by simp [getZ_nil]⟩
theorem isG_one {R : It → List Int} {out : List It} {H : List Int → Bool} (h : IsG out H) (p : It) : IsG (oneG R out p) (fun q => H q || (!decide (p.2 < 0) && decide (R p = q))) := by
  unfold oneG
  by_cases hp : p.2 < 0
  · rw [if_pos hp]
    simpa [hp] using h
  · rw [if_neg hp]
    by_cases h0 : getZ out (R p) = 0
    · rw [if_pos h0]
      refine ⟨srt_put h.1, nz_put h.2.1, fun q => ?_⟩
      rw [getZ_put h.1]
      by_cases e : R p = q
      · rw [if_pos e, ← e, h0]; simp [hp]
      · rw [if_neg e, h.2.2 q]; simp [e]
    · rw [if_neg h0]
      refine ⟨h.1, h.2.1, fun q => ?_⟩
      have h1 := h.2.2 (R p)
      have h2 : H (R p) = true := by
        cases hh : H (R p) with
        | true => rfl
        | false => rw [hh] at h1; exact absurd h1 h0
      rw [h.2.2 q]
      by_cases e : R p = q
      · subst e; simp [h2]
      · simp [e]
theorem isG_to (R : It → List Int) (zs : List It) : IsG (grpTo R zs) (hasG R zs) := by
  have key : ∀ (zs out : List It) (H : List Int → Bool), IsG out H → IsG (zs.foldl (oneG R) out) (fun q => H q || hasG R zs q) := by
    intro zs
    induction zs with
    | nil => intro out H h; simpa [hasG] using h
    | cons p zs ih =>
      intro out H h
      have := ih _ _ (isG_one (R := R) h p)
      rw [List.foldl_cons]
      have e : (fun q => H q || hasG R (p :: zs) q) = fun q => (H q || (!decide (p.2 < 0) && decide (R p = q))) || hasG R zs q := by
        funext q
        simp [hasG, List.any_cons, Bool.or_assoc]
      rw [e]
      exact this
  have := key zs [] _ isG_nil
  simpa [grpTo] using this
theorem getZ_ownG : ∀ {zs : List It}, Srt zs → ∀ p ∈ zs, getZ zs p.1 = p.2
  | q :: zs, h, p, hp => by
    rw [getZ_cons]
    rcases List.mem_cons.1 hp with rfl | hp
    · rw [if_pos rfl]
    · rw [if_neg (ordL_ne ((Srt.cons.1 h).1 p hp))]
      exact getZ_ownG (Srt.cons.1 h).2 p hp
theorem IsG.mem {out : List It} {H : List Int → Bool} (h : IsG out H) {q : It} (hq : q ∈ out) : q.2 = 1 ∧ H q.1 = true := by
  have h1 := getZ_ownG h.1 q hq
  have h2 := h.2.1 q hq
  rw [h.2.2] at h1
  cases hh : H q.1 with
  | true => rw [hh] at h1; exact ⟨h1.symm, rfl⟩
  | false => rw [hh] at h1; exact absurd h1.symm h2
theorem one_len (R : It → List Int) (out : List It) (p : It) : (oneG R out p).length ≤ out.length + 1 := by
  unfold oneG
  by_cases hp : p.2 < 0
  · rw [if_pos hp]; omega
  · rw [if_neg hp]
    by_cases h0 : getZ out (R p) = 0
    · rw [if_pos h0]; exact put_len _ _ _
    · rw [if_neg h0]; omega
theorem grpTo_len (R : It → List Int) (zs : List It) : (grpTo R zs).length ≤ zs.length := by
  have key : ∀ (zs out : List It), (zs.foldl (oneG R) out).length ≤ out.length + zs.length := by
    intro zs
    induction zs with
    | nil => intro out; simp
    | cons p zs ih =>
      intro out
      have h1 := ih (oneG R out p)
      have h2 := one_len R out p
      rw [List.foldl_cons, List.length_cons]; omega
  have := key zs []
  simpa [grpTo] using this
theorem zOk_mkG {zs : List It} (hl : zs.length ≤ 100) (hp : ∀ p ∈ zs, rowOkB p.1 = true ∧ wB p.2 = true) (hs : Srt zs) : zOkB zs = true := by
  refine zOk_all hl fun j hj => ?_
  have h1 := hp _ (getZ_mem hj)
  unfold stepB
  rw [h1.1, h1.2]
  rcases Nat.eq_zero_or_pos j with e | e
  · simp [e]
  · have hj1 : j - 1 < zs.length := by omega
    have h2 := (List.pairwise_iff_getElem.1 hs) (j - 1) j hj1 hj (by omega)
    have h3 : rowLessB (zs.getD (j - 1) ([], 0)).1 (zs.getD j ([], 0)).1 = true := less_of (by simpa [List.getD, hj, hj1] using h2)
    rw [h3]; simp
theorem hasG_mem {R : It → List Int} {zs : List It} {q : List Int} (h : hasG R zs q = true) : ∃ p ∈ zs, ¬ p.2 < 0 ∧ R p = q := by
  unfold hasG at h
  rw [List.any_eq_true] at h
  obtain ⟨p, hp, h2⟩ := h
  rw [Bool.and_eq_true] at h2
  exact ⟨p, hp, by simpa using h2.1, of_decide_eq_true h2.2⟩
theorem zOk_item {z : List It} (hz : zOkB z = true) {p : It} (hp : p ∈ z) : rowOkB p.1 = true ∧ wB p.2 = true := by
  obtain ⟨j, hj, e⟩ := mem_getD (d := ([], 0)) hp
  rw [← e]; exact zOk_row hz hj
theorem rowG_ok {z : List It} {ks : List Int} {agg : Int} {col : Nat} (hz : zOkB z = true) (hk6 : keysB ks 6 = true) (hkz : haveAll z ks = true) {p : It} (hp : p ∈ z) (hc : cellB (aggZ agg col (grpZ z ks (keyZ p.1 ks))) = true) : rowOkB (rowG z ks agg col p) = true := by
  have h1 := keyZ_cells (zOk_item hz hp).1 (fun k hk => have_iff.1 hkz k hk p hp)
  have h2 := (keys_parts hk6).1
  unfold rowG rowOkB
  rw [List.length_append, keyZ_len, List.all_append, h1]
  simp [hc]
  omega
theorem grpTo_ok {z : List It} {ks : List Int} {agg : Int} {col : Nat} (hz : zOkB z = true) (hk6 : keysB ks 6 = true) (hkz : haveAll z ks = true) {zs : List It} (hsub : ∀ p ∈ zs, p ∈ z) (hl : zs.length ≤ 100) (ht : ∀ p ∈ zs, toldG z ks agg col p = true) : zOkB (grpTo (rowG z ks agg col) zs) = true := by
  have hG := isG_to (rowG z ks agg col) zs
  refine zOk_mkG (by have := grpTo_len (rowG z ks agg col) zs; omega) (fun q hq => ?_) hG.1
  obtain ⟨h1, h2⟩ := hG.mem hq
  obtain ⟨p, hp, h3, h4⟩ := hasG_mem h2
  rw [h1, ← h4]
  have h5 := ht p hp
  unfold toldG at h5
  rw [decide_eq_false h3, Bool.false_or] at h5
  exact ⟨rowG_ok hz hk6 hkz (hsub p hp) h5, by decide⟩
theorem grp_fine {z : List It} {col : Nat} (hz : zOkB z = true) (hc : hasAt col z = true) (ks key : List Int) : Fine (grpZ z ks key) col := by
  refine ⟨by have := grpZ_len z ks key; have := zOk_le hz; omega, fun p hp => ?_⟩
  have hpz : p ∈ z := (List.mem_filter.1 hp).1
  obtain ⟨h1, h2⟩ := zOk_item hz hpz
  have h3 := has_iff.1 hc p hpz
  have hlt : col < p.1.length := by omega
  refine ⟨(wB_in h2).2, hlt, ?_⟩
  simp only [rowOkB, Bool.and_eq_true, List.all_eq_true] at h1
  have h4 := h1.2 p.1[col] (List.getElem_mem hlt)
  simp [cellB] at h4
  simpa [List.getD, hlt] using h4
theorem grp_some {z : List It} {p : It} (hp : p ∈ z) (hw : 0 < p.2) (ks : List Int) : 0 < (grpZ z ks (keyZ p.1 ks)).length :=
  List.length_pos_of_mem (List.mem_filter.2 ⟨hp, by simp [hw]⟩)
theorem grp_not {z : List It} {ks : List Int} {agg col : Int} (h : grpOk z ks agg col = false) : grpOut z ks agg col = [] := by unfold grpOut; rw [h]; rfl

end Go.Proofs.YtflbdfpgaeeleaaGreatDoor

/-
  The contract of spec.GroupOf.
-/
namespace Go.Proofs.YtflbdfpgaeeleaaGreatDoor
set_option maxRecDepth 100000
open Go.RowKit
attribute [local go_sem ↓] Go.wp_at_zero Go.wp_at_succ

theorem told_no {z : List It} {ks : List Int} {agg : Int} {col k : Nat} (hk : k < z.length) (h : toldG z ks agg col (z.getD k ([], 0)) = false) : grpTold z ks agg col = false := by
  unfold grpTold
  rw [List.all_eq_false]
  exact ⟨z.getD k ([], 0), by simp [List.getD, hk], by rw [h]; exact Bool.false_ne_true⟩
theorem told_all {z : List It} {ks : List Int} {agg : Int} {col : Nat} (h : ∀ k, k < z.length → toldG z ks agg col (z.getD k ([], 0)) = true) : grpTold z ks agg col = true := by
  unfold grpTold
  rw [List.all_eq_true]
  intro p hp
  obtain ⟨j, hj, e⟩ := mem_getD (d := ([], 0)) hp
  rw [← e]; exact h j hj
theorem to_take (R : It → List Int) {z : List It} {k : Nat} (hk : k < z.length) : grpTo R (z.take (k + 1)) = oneG R (grpTo R (z.take k)) (z.getD k ([], 0)) := by
  rw [take_one hk, grpTo_snoc]

set_option maxHeartbeats 16000000 in
theorem specGroup_any (v u : Value) (z : List It) (ks : List Int) (agg col : Int) (w : World) (h : ItemsAt w v z) (h2 : IntsAt w u ks) :
    Calls Tryz.prog 7 #[v, u, .int .i64 agg, .int .i64 col] w fun e w' => ∃ v', e = .returned (.tuple #[v', .bool (grpOk z ks agg col)]) ∧ OwnZ w' w.heap.size w'.heap.size v' (grpOut z ks agg col) ∧ Below w.heap.size w w' := by
  cases hz : zOkB z with
  | false =>
    have e0 : grpOk z ks agg col = false := by unfold grpOk grpCan; rw [hz]; rfl
    rw [e0, grp_not e0]
    clear e0
    go_enter Tryz.func7, Tryz.ntmps7
    go_wp2_with fail
    refine (specZOk_any v z _ h).mono ?_
    rw [hz]
    rintro e w1 ⟨rfl, b1⟩
    have k1 := b1.below
    clear b1
    have HK : Hid (Below w.heap.size w w1) := k1
    clear h h2 k1
    go_wp2
    go_ret2
    exact ⟨_, rfl, (lit_ownZ w1).wide HK.out.size (Nat.le_refl _) (Nat.le_refl _), below_then HK.out (below_alloc _)⟩
  | true =>
    by_cases ha1 : agg < 0
    · skip
      have e0 : grpOk z ks agg col = false := by unfold grpOk grpCan aggB; rw [decide_eq_false (by omega)]; simp
      rw [e0, grp_not e0]
      clear e0
      go_enter Tryz.func7, Tryz.ntmps7
      go_wp2_with fail
      refine (specZOk_any v z _ h).mono ?_
      rw [hz]
      rintro e w1 ⟨rfl, b1⟩
      have k1 := b1.below
      clear b1
      have HK : Hid (Below w.heap.size w w1) := k1
      clear h h2 k1
      go_wp2
      go_ret2
      exact ⟨_, rfl, (lit_ownZ w1).wide HK.out.size (Nat.le_refl _) (Nat.le_refl _), below_then HK.out (below_alloc _)⟩
    by_cases ha2 : 3 < agg
    · skip
      have e0 : grpOk z ks agg col = false := by unfold grpOk grpCan aggB; rw [decide_eq_false (by omega)]; simp
      rw [e0, grp_not e0]
      clear e0
      go_enter Tryz.func7, Tryz.ntmps7
      go_wp2_with fail
      refine (specZOk_any v z _ h).mono ?_
      rw [hz]
      rintro e w1 ⟨rfl, b1⟩
      have k1 := b1.below
      clear b1
      have HK : Hid (Below w.heap.size w w1) := k1
      clear h h2 k1
      go_wp2
      go_ret2
      exact ⟨_, rfl, (lit_ownZ w1).wide HK.out.size (Nat.le_refl _) (Nat.le_refl _), below_then HK.out (below_alloc _)⟩
    have hag : aggB agg = true := decide_eq_true (by omega)
    cases hk : keysB ks 6 with
    | false =>
      have e0 : grpOk z ks agg col = false := by unfold grpOk grpCan; rw [hk]; simp
      rw [e0, grp_not e0]
      clear e0
      go_enter Tryz.func7, Tryz.ntmps7
      go_wp2_with fail
      refine (specZOk_any v z _ h).mono ?_
      rw [hz]
      rintro e w1 ⟨rfl, b1⟩
      have k1 := b1.below
      clear b1
      go_wp2_with fail
      refine (l4Keys_any u ks 6 _ (h2.below k1) (by omega)).mono ?_
      rw [hk]
      rintro e w2 ⟨rfl, b2⟩
      have k2 := below_then k1 b2
      clear b2 k1
      have HK : Hid (Below w.heap.size w w2) := k2
      clear h h2 k2
      go_wp2
      go_ret2
      exact ⟨_, rfl, (lit_ownZ w2).wide HK.out.size (Nat.le_refl _) (Nat.le_refl _), below_then HK.out (below_alloc _)⟩
    | true =>
      have hw1 : ∀ k, k < z.length → (z.getD k ([], 0)).1.length ≤ 6 := fun k hk => rowOk_le (zOk_row hz hk).1
      have hfh := fits_have (zs := z) hk col
      cases f1 : fitsB z ks col with
      | false =>
        have e0 : grpOk z ks agg col = false := by unfold grpOk grpCan; rw [← hfh, f1]; simp
        rw [e0, grp_not e0]
        clear e0
        go_enter Tryz.func7, Tryz.ntmps7
        go_wp2_with fail
        refine (specZOk_any v z _ h).mono ?_
        rw [hz]
        rintro e w1 ⟨rfl, b1⟩
        have k1 := b1.below
        clear b1
        go_wp2_with fail
        refine (l4Keys_any u ks 6 _ (h2.below k1) (by omega)).mono ?_
        rw [hk]
        rintro e w2 ⟨rfl, b2⟩
        have k2 := below_then k1 b2
        clear b2 k1
        go_wp2_with fail
        refine (l5Fits_any v u z ks col _ (h.below k2) (h2.below k2) hw1).mono ?_
        rw [f1]
        rintro e w3 ⟨rfl, b3⟩
        have k3 := below_then k2 b3
        clear b3 k2
        have HK : Hid (Below w.heap.size w w3) := k3
        clear h h2 k3
        go_wp2
        go_ret2
        exact ⟨_, rfl, (lit_ownZ w3).wide HK.out.size (Nat.le_refl _) (Nat.le_refl _), below_then HK.out (below_alloc _)⟩
      | true =>
        rw [f1] at hfh
        obtain ⟨hkz, hcz⟩ : haveAll z ks = true ∧ hasAt col z = true := by have := hfh.symm; rw [Bool.and_eq_true] at this; exact this
        have hcan : grpCan z ks agg col = true := by unfold grpCan; rw [hz, hag, hk, hkz, hcz]; rfl
        have hl : ks.length ≤ 6 := by have := (keys_parts hk).1; omega
        obtain ⟨os, HO⟩ : ∃ os, Hid (os = grpOut z ks agg col) := ⟨_, rfl⟩
        obtain ⟨c, HC⟩ : ∃ c, Hid (c = grpOk z ks agg col) := ⟨_, rfl⟩
        have HCC : Hid (c = grpTold z ks agg col.toNat) := by show _ = _; rw [HC.out]; unfold grpOk; rw [hcan]; rfl
        have HOO : Hid (os = if c then grpTo (rowG z ks agg col.toNat) z else []) := by show _ = _; rw [HO.out, HC.out]; rfl
        rw [← HO.out, ← HC.out]
        clear hfh hcan
        have hi := info_parts infoInt
        obtain ⟨i0, hi1, hj0, hj1, hj2⟩ := hi
        go_enter Tryz.func7, Tryz.ntmps7
        go_wp2_with fail
        refine (specZOk_any v z _ h).mono ?_
        rw [hz]
        rintro e w1 ⟨rfl, b1⟩
        have k1 := b1.below
        clear b1
        go_wp2_with fail
        refine (l4Keys_any u ks 6 _ (h2.below k1) (by omega)).mono ?_
        rw [hk]
        rintro e w2 ⟨rfl, b2⟩
        have k2 := below_then k1 b2
        clear b2 k1
        go_wp2_with fail
        refine (l5Fits_any v u z ks col _ (h.below k2) (h2.below k2) hw1).mono ?_
        rw [f1]
        rintro e w3 ⟨rfl, b3⟩
        have k3 := below_then k2 b3
        clear b3 k2
        have s3 := k3.size
        have HK3 : Hid (Below w.heap.size w w3) := k3
        rcases h.cases with ⟨a, cap, rfl, rfl⟩ | ⟨b, off, cap, hpos, hlim, rfl, hbw, hc⟩
        · obtain rfl : c = true := by rw [HCC.out]; rfl
          obtain rfl : os = [] := by rw [HOO.out]; rfl
          clear h h2 k3
          go_wp2
          refine wp_loop_rounds 1 ?_
          rw [rounds_succ]
          go_wp2_with fail
          refine (l2Told_any _ [] w3.heap.size (w3.alloc (.cells #[] 36)).heap.size _ (lit_ownZ w3) (by simp)).mono ?_
          rintro e w5 ⟨v5, rfl, Z5, b5⟩
          have HK5 : Hid (Below w.heap.size w w5) := below_then (below_then HK3.out (below_alloc _)) b5
          have R : Hid (OwnZ w5 w.heap.size w5.heap.size v5 []) := by have := Z5.wide s3 (Nat.le_refl _) (Nat.le_refl _); show OwnZ _ _ _ _ _; simpa [zOkB] using this
          clear Z5 b5
          go_wp2
          go_ret2
          exact ⟨_, rfl, R.out, HK5.out⟩
        · obtain ⟨cn, rfl⟩ : ∃ cn : Nat, col = (cn : Int) := by
            have := has_iff.1 hcz (z.getD 0 ([], 0)) (by simp [List.getD, hpos])
            exact ⟨col.toNat, by omega⟩
          simp only [Int.toNat_natCast] at HCC HOO
          have HI : Hid (ItemsAt w (.slice (some ⟨b, off, none⟩) z.length cap) z) := h
          have HI2 : Hid (IntsAt w u ks) := h2
          obtain ⟨ua, un, uc, rfl⟩ := h2.shape
          have hz100 := zOk_le hz
          have hrow : ∀ k, k < z.length → rowOkB (z.getD k ([], 0)).1 = true ∧ wB (z.getD k ([], 0)).2 = true ∧ z.getD k ([], 0) ∈ z ∧ ∀ q ∈ ks, 0 ≤ q ∧ q < ((z.getD k ([], 0)).1.length : Int) := fun k hk2 => ⟨(zOk_row hz hk2).1, (zOk_row hz hk2).2, getZ_mem hk2, fun q hq => have_iff.1 hkz q hq _ (getZ_mem hk2)⟩
          have HZ : Hid (zOkB z = true) := hz
          have HKZ : Hid (haveAll z ks = true) := hkz
          have HKK : Hid (keysB ks 6 = true) := hk
          have HCZ : Hid (hasAt (cn : Int) z = true) := hcz
          have HTA : Hid (∀ k, k ≤ z.length → (∀ j, j < k → toldG z ks agg cn (z.getD j ([], 0)) = true) → zOkB (grpTo (rowG z ks agg cn) (z.take k)) = true) := fun k hk2 ht => grpTo_ok hz hk hkz (fun p hp => List.mem_of_mem_take hp) (by rw [List.length_take]; omega) (fun p hp => by
            obtain ⟨j, hj, e⟩ := List.mem_take_iff_getElem.1 hp
            have := ht j (by omega)
            rw [← e]
            simpa [List.getD, show j < z.length by omega] using this)
          have HTN : Hid (∀ k, k < z.length → toldG z ks agg cn (z.getD k ([], 0)) = false → c = false) := fun k hk2 hn => by rw [HCC.out]; exact told_no hk2 hn
          have HTY : Hid ((∀ k, k < z.length → toldG z ks agg cn (z.getD k ([], 0)) = true) → c = true) := fun ht => by rw [HCC.out]; exact told_all ht
          obtain ⟨n, hn⟩ : ∃ n, n = z.length := ⟨_, rfl⟩
          have HN : Hid (n = z.length) := hn
          rw [← hn] at hpos hlim hc hrow hz100 HTA HTN HTY ⊢
          rw [← hn] at HI
          clear hn h h2 hz hkz hk hcz hw1 k3
          go_wp2
          go_loopw [10, 11] (fun s i wr => ∃ k : Nat, k ≤ n ∧ i = .int .i64 k ∧ Hid (OwnZ wr w.heap.size wr.heap.size s (grpTo (rowG z ks agg cn) (z.take k))) ∧ Hid (∀ j, j < k → toldG z ks agg cn (z.getD j ([], 0)) = true) ∧ Hid (Below w.heap.size w wr)) (fun _ i _ => n - (intOf i).toNat)
          case atStart => exact ⟨0, Nat.zero_le _, rfl, (lit_ownZ w3).wide s3 (Nat.le_refl _) (Nat.le_refl _), fun j hj => by omega, below_then HK3.out (below_alloc _)⟩
          case round =>
            obtain ⟨k, hk, rfl, HS, HA, HW⟩ := hrel
            clear HK3
            by_cases hlt : k < n
            · have hlt' : k < z.length := by rw [← HN.out]; exact hlt
              have HB := HW.out
              obtain ⟨rv, hrv0, hwt0, hix0⟩ := hc k hlt
              have hrv := (HB.cell (p := ⟨b, off + k * 2, none⟩) hbw).trans hrv0
              have hwt := (HB.cell (p := ⟨b, off + k * 2 + 1, none⟩) hbw).trans hwt0
              have hix := hix0.below HB
              obtain ⟨hr1, hr2, hr3, hr4⟩ := hrow k hlt
              have HT : Hid (grpTo (rowG z ks agg cn) (z.take (k + 1)) = oneG (rowG z ks agg cn) (grpTo (rowG z ks agg cn) (z.take k)) (z.getD k ([], 0))) := to_take _ hlt'
              have htn := HTN.out k hlt
              have hzok := HTA.out k (by omega) HA.out
              have HAS : Hid (toldG z ks agg cn (z.getD k ([], 0)) = true → ∀ j, j < k + 1 → toldG z ks agg cn (z.getD j ([], 0)) = true) := fun ht j hj => by
                rcases Nat.lt_succ_iff_lt_or_eq.1 hj with h | h
                · exact HA.out j h
                · rw [h]; exact ht
              obtain ⟨p, hp⟩ : ∃ p, p = z.getD k ([], 0) := ⟨_, rfl⟩
              rw [← hp] at hwt hix hr1 hr2 hr3 hr4 HT htn HAS
              clear hp
              obtain ⟨x, y⟩ := p
              simp only at hwt hix hr1 hr2 hr4
              have hy0 := (wB_in hr2).1
              obtain ⟨xa, xn, xc, rfl⟩ := hix.shape
              have hsw := HB.size
              clear hrv0 hwt0 hix0
              by_cases hy : y < 0
              · have HTT : Hid (grpTo (rowG z ks agg cn) (z.take (k + 1)) = grpTo (rowG z ks agg cn) (z.take k)) := by show _ = _; rw [HT.out]; unfold oneG; rw [if_pos hy]
                have HA2 := HAS.out (by unfold toldG; rw [decide_eq_true hy]; rfl)
                have HA3 : Hid _ := HA2
                clear HT htn hzok HAS HA2 hr1 hr2 hr3 hr4 hc hrow hix
                go_wp2
                go_roundw
                case rel => exact ⟨k + 1, by omega, by go_num, by show OwnZ _ _ _ _ _; rw [HTT.out]; exact HS.out, HA3.out, HW.out⟩
                case measure => simp [intOf]; omega
              · have hyp : 0 < y := by omega
                have hsome := grp_some hr3 hyp ks
                have hfine := grp_fine HZ.out HCZ.out ks (keyZ x ks)
                simp only at hsome
                have htold : toldG z ks agg cn (x, y) = cellB (aggZ agg cn (grpZ z ks (keyZ x ks))) := by unfold toldG; rw [decide_eq_false hy]; rfl
                rw [htold] at htn HAS
                have HRG : Hid (rowG z ks agg cn (x, y) = keyZ x ks ++ [aggZ agg cn (grpZ z ks (keyZ x ks))]) := rfl
                clear hc hrow htold
                go_wp2_with fail
                refine (l5Key_any _ _ x ks _ hix (HI2.out.below HB) hr4 hl).mono ?_
                rintro e w4 ⟨v4, rfl, O4, b4⟩
                have k4 := below_then HB b4
                go_wp2_with fail
                refine (l5Of_any _ _ v4 z ks (keyZ x ks) _ (HI.out.below k4) (HI2.out.below k4) O4.ints HZ.out HKZ.out hl).mono ?_
                rintro e w5 ⟨v5, rfl, I5, b5⟩
                have k5 := below_then k4 b5
                have O5 := O4.keep' b5
                have s4 := b4.size
                have s5 := b5.size
                have S5 := (HS.out.keep' b4).keep' b5
                clear hrv hwt hix b4 b5 k4 O4 HB HW HS
                go_wp2_with fail
                refine (l5Agg_any v5 (grpZ z ks (keyZ x ks)) agg cn _ I5 hfine hsome hag).mono ?_
                obtain ⟨m, HM⟩ : ∃ m, Hid (m = aggZ agg cn (grpZ z ks (keyZ x ks))) := ⟨_, rfl⟩
                rw [← HM.out]
                rw [← HM.out] at htn HAS HRG
                rintro e w6 ⟨rfl, rfl⟩
                clear I5 hfine hsome
                go_wp2_with fail
                refine (l1Cell_any m _).mono ?_
                rintro e w6 ⟨rfl, rfl⟩
                cases hcm : cellB m with
                | false =>
                  obtain rfl : c = false := htn hcm
                  obtain rfl : os = [] := by rw [HOO.out]; rfl
                  have HK6 : Hid (Below w.heap.size w w6) := k5
                  clear htn HAS HT hzok S5 O5 k5 hr4
                  go_wp2
                  go_ret2
                  exact ⟨_, rfl, (lit_ownZ w6).wide HK6.out.size (Nat.le_refl _) (Nat.le_refl _), below_then HK6.out (below_alloc _)⟩
                | true =>
                  have HA3 : Hid _ := HAS.out hcm
                  have hkl : (keyZ x ks).length ≤ 6 := by rw [keyZ_len]; exact hl
                  have hal : Below w6.heap.size w6 (w6.alloc (.cells #[.int .i64 m] 3)) := below_alloc _
                  have O6 := O5.keep' hal
                  have S6 := S5.keep' hal
                  have k6 := below_then k5 hal
                  have s6 := k5.size
                  have s6a := hal.size
                  clear htn HAS O5 S5 hr4 hcm
                  go_wp2_with (at_builtin; refine wpList_append_ints rfl _ _ 24 rfl wr.heap.size 3 i0 Tryz.underlying24 hi1 hj0 hj1 hj2 v4 _ _ rfl O6.1 _ [m] rfl (int_litK w6 m) (by simp; omega) (by simp; omega) ?_; intro v7 w7 hown7 hg7 _)
                  have O7 : Own w7 wr.heap.size w7.heap.size v7 (keyZ x ks ++ [m]) := own_new (xs := keyZ x ks ++ [m]) (by simpa using hown7) (by simp; omega)
                  have hlow : ∀ i, v4.ownBlock = some i → wr.heap.size ≤ i ∧ i < w4.heap.size := fun i e => ⟨(O6.1.lt i e).1, O6.2.1 i e⟩
                  have B7 : Below wr.heap.size (w6.alloc (.cells #[.int .i64 m] 3)) w7 := (Below.refl _ _).grown hg7 (by have := hal.size; omega) (fun i e => (hlow i e).1)
                  have S7 := S6.only (Only.of_grown hg7 hlow) (.inl (Nat.le_refl _))
                  have k7 : Below w.heap.size w w7 := k6.trans (B7.mono hsw)
                  have s7 := hg7.size
                  rw [← HRG.out] at O7
                  clear hown7 hg7 O6 S6 hal k6 k5 hlow B7
                  obtain ⟨r, HRR⟩ : ∃ r, Hid (r = rowG z ks agg cn (x, y)) := ⟨_, rfl⟩
                  have hrl : r.length ≤ 7 := by rw [HRR.out, HRG.out]; simp; omega
                  rw [← HRR.out] at O7
                  obtain ⟨G, HG⟩ : ∃ G, Hid (G = grpTo (rowG z ks agg cn) (z.take k)) := ⟨_, rfl⟩
                  rw [← HG.out] at S7 hzok HT
                  have hGl : G.length ≤ 100 := zOk_le hzok
                  have HTT : Hid (grpTo (rowG z ks agg cn) (z.take (k + 1)) = if getZ G r = 0 then putZ G r 1 else G) := by show _ = _; rw [HT.out, HRR.out]; unfold oneG; rw [if_neg (by show ¬ y < 0; omega)]
                  have hG1 : ∀ j, j < G.length → -4611686018427387904 ≤ (G.getD j ([], 0)).2 ∧ (G.getD j ([], 0)).2 ≤ 4611686018427387903 := fun j hj => by
                    have := (wB_in (zOk_row hzok hj).2).2
                    omega
                  clear HT
                  go_wp2_with fail
                  refine (specZGet_any _ G v7 r _ S7.items O7.ints).mono ?_
                  rw [hzok]
                  simp only [if_true]
                  rintro e w8 ⟨rfl, b8⟩
                  have k8 := below_then k7 b8
                  have S8 := S7.keep' b8
                  have O8 := O7.keep' b8
                  have s8 := b8.size
                  clear S7 O7 b8 k7
                  by_cases hg0 : getZ G r = 0
                  · rw [hg0]
                    go_wp2_with fail
                    refine (l2Put_any _ w.heap.size wr.heap.size G _ r 1 _ S8 hsw O8.ints (by omega) (by omega) hG1 (by omega)).mono ?_
                    rintro e w9 ⟨v9, rfl, Z9, O9⟩
                    have HK9 : Hid (Below w.heap.size w w9) := O9.below k8 (Nat.le_refl _) k8.size
                    have HZ9 : Hid (OwnZ w9 w.heap.size w9.heap.size v9 (grpTo (rowG z ks agg cn) (z.take (k + 1)))) := by show OwnZ _ _ _ _ _; rw [HTT.out, if_pos hg0]; exact Z9
                    clear Z9 O9 k8 S8 O8 hG1
                    go_wp2
                    go_roundw
                    case rel => exact ⟨k + 1, by omega, by go_num, HZ9.out, HA3.out, HK9.out⟩
                    case measure => simp [intOf]; omega
                  · have hgf : (getZ G r == 0) = false := by simp [hg0]
                    have HZ9 : Hid (OwnZ w8 w.heap.size w8.heap.size u10 (grpTo (rowG z ks agg cn) (z.take (k + 1)))) := by show OwnZ _ _ _ _ _; rw [HTT.out, if_neg hg0]; exact S8.wide (Nat.le_refl _) (by omega) (Nat.le_refl _)
                    have HK9 : Hid (Below w.heap.size w w8) := k8
                    clear k8 S8 O8 hG1
                    go_wp2
                    go_roundw
                    case rel => exact ⟨k + 1, by omega, by go_num, HZ9.out, HA3.out, HK9.out⟩
                    case measure => simp [intOf]; omega
            · obtain rfl : k = n := by omega
              obtain rfl : c = true := HTY.out HA.out
              have hzok := HTA.out k (Nat.le_refl _) HA.out
              have hS := HS.out
              rw [HN.out, List.take_length] at hS hzok
              have hos : os = grpTo (rowG z ks agg cn) z := by rw [HOO.out]; rfl
              rw [← hos] at hS hzok
              have hsw := HW.out.size
              clear hc hrow
              go_wp2_with fail
              refine (l2Told_any _ os _ _ _ hS hsw).mono ?_
              rw [hzok]
              simp only [if_true]
              rintro e w5 ⟨v5, rfl, Z5, b5⟩
              have HK5 : Hid (Below w.heap.size w w5) := below_then HW.out b5
              have R : Hid (OwnZ w5 w.heap.size w5.heap.size v5 os) := Z5
              clear Z5 b5 hS
              go_wp2
              go_ret2
              exact ⟨_, rfl, R.out, HK5.out⟩
end Go.Proofs.YtflbdfpgaeeleaaGreatDoor

/-
  A map from a text to items of the call's own: for each text the triples that lie in its slice; no two texts' slices lie in one block; the contract of impl.groups.
-/
namespace Go.Proofs.YtflbdfpgaeeleaaGreatDoor
set_option maxRecDepth 100000
open Go.RowKit Go.Maps
attribute [local go_sem ↓] Go.wp_at_zero Go.wp_at_succ

/-- append of pairs, and where the new slice lies. -/
theorem wpList_append_at {P : Program} {w : World} {ops : Array Oper} {rest : List Oper} {o : Oper} {a : Act} {Q : Exit → Act → World → Prop}
    (hg : o.guard = none) (s x : Operand) (t : TypeId) (hop : o.op = Op.call { callee := Callee.builtin Builtin.append, args := #[s, x], argTypes := #[t, t] })
    (base : Nat) (e : TypeId) (i : TypeInfo) (ht : P.underlying t = some (.slice e)) (hi : P.info? e = some i) (hz : i.zero = some (.agg #[.slice none 0 0, .int .i64 0]))
    (hsize : i.size = 2) (hby : i.bytes = 32)
    (v : Value) (ps : List (Value × Int)) (hs : a.eval s = v) (hown : w.ownsRow base e 2 v ps.length (cells2 ps))
    (ad : Addr) (m c : Nat) (qs : List (Value × Int)) (hx : a.eval x = .slice (some ad) m c) (hp : PairsAt w (.slice (some ad) m c) qs)
    (hbytes : (ps.length + qs.length) * 32 ≤ 140737488355328) (hbase : base ≤ w.heap.size)
    (hK : ∀ v' w', w'.ownsRow base e 2 v' (ps ++ qs).length (cells2 (ps ++ qs)) → w.grownBy w' v.ownBlock → (v'.ownBlock = v.ownBlock ∨ v'.ownBlock = some w.heap.size) → wpList P ops Q rest (a.put o.dst v') w') :
    wpList P ops Q (o :: rest) a w := by
  obtain ⟨hm, hnews, hsl⟩ := hp.news
  refine wpList_plain hg fun K' hK' => ?_
  subst hm
  obtain ⟨v', w', hrun, r1, r2, _, r3⟩ := run_append_own_at (P := P) w base t o.type e i (.agg #[.slice none 0 0, .int .i64 0]) 2 32 ht hi hz hsize hby rfl (by decide) v ps.length (cells2 ps) hown ad qs.length c (cells2 qs) (by rw [cells2_length]) hnews (cells2_one hsl) (by unfold maxLen; omega) hbytes hbase
  unfold Oper.wp
  simp [execOp, hop, resolve, invoke, builtin, hs, hx, hrun, Result.andThen]
  rw [← cells2_append] at r1
  exact hK' _ _ (hK v' w' (by rw [List.length_append]; exact r1) r2 r3)

def SMap (w : World) (t : TypeId) (mb lo n : Nat) (G : List UInt8 → List Rw) : Prop :=
  ∃ (D : DataW Value) (V : List UInt8 → Value), w.ownsMap Tryz.prog 9 heldT mb n D ∧ (∀ c, D.atKey (.string c) (.held vn) = .held (V c)) ∧ (∀ c, Spine w lo w.heap.size (V c) (prs (G c))) ∧
    (∀ c d, c ≠ d → (V c).ownBlock = none ∨ (V c).ownBlock ≠ (V d).ownBlock) ∧ mb < lo ∧ Tryz.prog.underlying t = some (.map 9 23) ∧ ∀ c, has D (.string c) = !(G c).isEmpty
theorem spine_nilS (w : World) (lo : Nat) : Spine w lo w.heap.size vn (prs []) := ⟨⟨rfl, .inl ⟨rfl, rfl⟩⟩, fun k hk => by simp [vn, Value.ownBlock] at hk, by simp [prs], Nat.le_refl _⟩
theorem smap_made (w : World) (t : TypeId) (ht : Tryz.prog.underlying t = some (.map 9 23)) : SMap (w.alloc (.map #[] 0)) t w.heap.size (w.heap.size + 1) 0 (fun _ => []) :=
  ⟨.map [], fun _ => vn, World.ownsMap_made w _ _ _, fun _ => rfl, fun _ => spine_nilS _ _, fun _ _ _ => .inl rfl, Nat.lt_succ_self _, ht, fun _ => rfl⟩
theorem SMap.grown {w w' : World} {t : TypeId} {mb lo n : Nat} {G : List UInt8 → List Rw} (h : SMap w t mb lo n G) (hb : Below w.heap.size w w') : SMap w' t mb lo n G := by
  obtain ⟨D, V, h1, h2, h3, h4, h5, h6, h7⟩ := h
  have hg : w.grownBy w' none := ⟨hb.os, hb.tape, hb.output, hb.size, fun k hk _ => hb.block k hk⟩
  exact ⟨D, V, h1.kept hg (by simp), h2, fun c => ((h3 c).keep' hb).wide (Nat.le_refl _) hb.size (Nat.le_refl _), h4, h5, h6, h7⟩
/-- What is looked up at a key, and the way back behind an append. -/
theorem SMap.look {w : World} {t : TypeId} {mb lo n : Nat} {G : List UInt8 → List Rw} (h : SMap w t mb lo n G) {s : ByteArray} (hs0 : s.size ≤ maxLen) (hn : n < maxLen) :
    ∃ v, (∀ w', w.grownBy w' none → (Instr.lookup t (.map (some mb)) (.string s) false).run Tryz.prog w' = .ok v w') ∧ Spine w lo w.heap.size v (prs (G s.data.toList)) ∧
      ∀ (w1 : World) (v' : Value) (L : List Rw), L ≠ [] → w.grownBy w1 v.ownBlock → Spine w1 lo w1.heap.size v' (prs L) → (v'.ownBlock = v.ownBlock ∨ ∃ g, v'.ownBlock = some g ∧ w.heap.size ≤ g) →
        ∃ w2, (Instr.mapUpdate t (.map (some mb)) (.string s) v').run Tryz.prog w1 = .ok () w2 ∧ SMap w2 t mb lo (n + 1) (fun d => if d = s.data.toList then L else G d) ∧ w1.grownBy w2 (some mb) := by
  obtain ⟨D, V, h1, h2, h3, h4, h5, h6, h7⟩ := h
  obtain ⟨c, hcs⟩ : ∃ c, c = s.data.toList := ⟨_, rfl⟩
  rw [← hcs]
  have K : Keyed Tryz.prog 9 := string_keyed Tryz.underlying9
  have hk : keyOf Tryz.prog 9 (.string s) = some (.string c) := by rw [hcs]; exact Go.WideMaps.keyOf_string_mk Tryz.underlying9 hs0
  refine ⟨V c, fun w' hg => ?_, h3 c, fun w1 v' L hL hg hs hloc => ?_⟩
  · have h1' := h1.kept hg (by simp)
    obtain ⟨v, ps, hrun, hv⟩ := h1'.lookup K h6 (z := vn) (Tryz.zeroValue23 _) (zd := .held vn) (zp := []) rfl hk
    have : v = V c := by
      simp only [heldT, h2 c] at hv
      injection hv with hv
      injection hv with hv _
      injection hv
    rw [hrun, this]
  · have hne : some mb ≠ (V c).ownBlock := fun e => by
      have := ((h3 c).1.lt mb e.symm).1
      omega
    have h1' := h1.kept hg hne
    obtain ⟨w2, hrun, hm2, hg2⟩ := h1'.update K h6 hn hk (val := v') (d := .held v') (ps := []) rfl
    have own_lo : ∀ {u : Value} {ps : List (Value × Int)} {W : World}, Spine W lo W.heap.size u ps → u.ownBlock = none ∨ u.ownBlock ≠ some mb := fun {u ps W} ho => by
      cases hu : u.ownBlock with
      | none => exact .inl rfl
      | some g =>
        refine .inr (fun e => ?_)
        have := (ho.1.lt g hu).1
        simp at e
        omega
    have old_new : ∀ d, d ≠ c → (V d).ownBlock = none ∨ (V d).ownBlock ≠ v'.ownBlock := fun d hd => by
      rcases hloc with e | ⟨g, e, hgl⟩
      · rw [e]; exact h4 d c hd
      · cases hd' : (V d).ownBlock with
        | none => exact .inl rfl
        | some gd =>
          refine .inr (fun e1 => ?_)
          have := (h3 d).2.1 gd hd'
          rw [e] at e1
          simp at e1
          omega
    refine ⟨w2, hrun, ⟨D.put (Lit.string c) (.held v'), fun d => if d = c then v' else V d, hm2, fun d => ?_, fun d => ?_, fun d f hdf => ?_, h5, h6, fun d => ?_⟩, hg2⟩
    · show _ = DataW.held (if d = c then v' else V d)
      by_cases hd : d = c
      · subst hd
        rw [if_pos rfl]
        exact atKey_put_same (k := .string d) (isMapT h1) (by simp [WideAt.IsKeyLit]) _ _
      · rw [if_neg hd, ← h2 d]
        exact atKey_put_other (fun e => hd (by simpa using e)) _ _
    · by_cases hd : d = c
      · simp only [if_pos hd]
        exact (hs.kept hg2 (own_lo hs)).wide (Nat.le_refl _) hg2.size (Nat.le_refl _)
      · simp only [if_neg hd]
        have s1 : Spine w1 lo w1.heap.size (V d) (prs (G d)) := ((h3 d).kept hg (h4 d c hd)).wide (Nat.le_refl _) hg.size (Nat.le_refl _)
        exact (s1.kept hg2 (own_lo s1)).wide (Nat.le_refl _) hg2.size (Nat.le_refl _)
    · by_cases hd : d = c
      · by_cases hf : f = c
        · exact absurd (hd.trans hf.symm) hdf
        · simp only [if_pos hd, if_neg hf]
          rcases old_new f hf with e | e
          · cases hv : v'.ownBlock with
            | none => exact .inl rfl
            | some g => exact .inr (fun e2 => by rw [e] at e2; cases e2)
          · exact .inr (fun e2 => e e2.symm)
      · by_cases hf : f = c
        · simp only [if_neg hd, if_pos hf]
          exact old_new d hd
        · simp only [if_neg hd, if_neg hf]
          exact h4 d f hdf
    · show has (D.put (Lit.string c) (.held v')) (.string d) = !(if d = c then L else G d).isEmpty
      by_cases hd : d = c
      · subst hd
        rw [if_pos rfl, has_put_same (isMapT h1) (by simp [WideAt.IsKeyLit])]
        cases L with
        | nil => exact absurd rfl hL
        | cons _ _ => rfl
      · rw [if_neg hd, has_put_other (fun e => hd (by simpa using e)), h7 d]

/-- The items that are there whose text at the keys is so. -/
def grpT (z : List It) (ks : List Int) (s : List UInt8) : List It := z.filter fun p => decide (0 < p.2) && decide (rowTx (keyZ p.1 ks) = s)
theorem grpT_take {z : List It} {ks : List Int} {k : Nat} (hk : k < z.length) (s : List UInt8) : grpT (z.take (k + 1)) ks s = grpT (z.take k) ks s ++ (if decide (0 < (z.getD k ([], 0)).2) && decide (rowTx (keyZ (z.getD k ([], 0)).1 ks) = s) then [((z.getD k ([], 0)).1, (z.getD k ([], 0)).2)] else []) := by
  unfold grpT
  have e : z.getD k ([], 0) = z[k] := by simp [List.getD, hk]
  rw [List.take_succ_eq_append_getElem hk, List.filter_append, e, List.filter_cons, List.filter_nil]
theorem grpT_len (z : List It) (ks : List Int) (s : List UInt8) : (grpT z ks s).length ≤ z.length := List.length_filter_le _ _

set_option maxHeartbeats 8000000 in
theorem groups_any (v u : Value) (z : List It) (ks : List Int) (w : World) (htab : Tab w) (h : ItemsAt w v z) (h2 : IntsAt w u ks) (hz : zOkB z = true) (hkz : haveAll z ks = true) (hl : ks.length ≤ 6) :
    Calls Tryz.prog 20 #[v, u] w fun e w' => ∃ (n : Nat) (G : List UInt8 → List Rw), e = .returned (.map (some w.heap.size)) ∧ SMap w' 54 w.heap.size (w.heap.size + 1) n G ∧ (∀ s, its (G s) = grpT z ks s) ∧ (∀ s, RowsIn w (G s)) ∧ n ≤ 100 ∧ Below w.heap.size w w' := by
  have ht : Tryz.prog.underlying 54 = some (.map 9 23) := Tryz.underlying54
  obtain ⟨i0, hi0, hz0, hz1, hz2⟩ := info_parts infoItem
  have hrow : ∀ k, k < z.length → rowOkB (z.getD k ([], 0)).1 = true ∧ (∀ q ∈ ks, 0 ≤ q ∧ q < ((z.getD k ([], 0)).1.length : Int)) := fun k hk => ⟨(zOk_row hz hk).1, fun q hq => have_iff.1 hkz q hq _ (by simp [List.getD, hk])⟩
  have hz100 := zOk_le hz
  have HC0 : Hid (SMap (w.alloc (.map #[] 0)) 54 w.heap.size (w.heap.size + 1) 0 (fun _ => [])) := smap_made w _ ht
  have HB0 : Hid (Below w.heap.size w (w.alloc (.map #[] 0))) := below_alloc _
  have HTAB : Hid (Tab w) := htab
  have HK2 : Hid (IntsAt w u ks) := h2
  obtain ⟨ua, un, uc, rfl⟩ := h2.shape
  clear htab h2 hz hkz
  have hmm := @run_makeMap Tryz.prog
  rcases h.cases with ⟨a, cap, rfl, rfl⟩ | ⟨b, off, cap, hpos, hlim, rfl, hbw, hc⟩
  · clear h hrow
    go_enter Tryz.func20, Tryz.ntmps20
    go_wp2
    clear hmm
    refine wp_loop_rounds 1 ?_
    rw [rounds_succ]
    go_wp2
    go_ret
    exact ⟨0, _, rfl, HC0.out, fun _ => rfl, fun s x hx => by simp at hx, by omega, HB0.out⟩
  · clear h
    obtain ⟨n, hn⟩ : ∃ n, n = z.length := ⟨_, rfl⟩
    have HN : Hid (n = z.length) := hn
    rw [← hn] at hpos hlim hc hrow hz100 ⊢
    clear hn
    go_enter Tryz.func20, Tryz.ntmps20
    go_wp2
    clear hmm
    go_loopw [12] (fun i wr => ∃ (k m : Nat) (G : List UInt8 → List Rw), k ≤ n ∧ m ≤ k ∧ i = .int .i64 k ∧ Hid (SMap wr 54 w.heap.size (w.heap.size + 1) m G) ∧ Hid (∀ s, its (G s) = grpT (z.take k) ks s) ∧ Hid (∀ s, RowsIn w (G s)) ∧ Hid (Below w.heap.size w wr)) (fun i _ => n - (intOf i).toNat)
    case atStart => exact ⟨0, 0, _, Nat.zero_le _, Nat.le_refl _, rfl, HC0.out, fun _ => rfl, fun s x hx => by simp at hx, HB0.out⟩
    case round =>
      obtain ⟨k, m, G, hk, hmk, rfl, HC, HG, HR, HW⟩ := hrel
      clear HC0 HB0
      by_cases hlt : k < n
      · have hlt' : k < z.length := by rw [← HN.out]; exact hlt
        have HB := HW.out
        obtain ⟨rv, hrv0, hwt0, hix0⟩ := hc k hlt
        have hrv := (HB.cell (p := ⟨b, off + k * 2, none⟩) hbw).trans hrv0
        have hwt := (HB.cell (p := ⟨b, off + k * 2 + 1, none⟩) hbw).trans hwt0
        have hix := hix0.below HB
        obtain ⟨hr1, hr2⟩ := hrow k hlt
        have HT : Hid (∀ s, grpT (z.take (k + 1)) ks s = _) := fun s => grpT_take (ks := ks) hlt' s
        have hGl : ∀ s, (G s).length ≤ 100 := fun s => by
          have h1 : (its (G s)).length = (grpT (z.take k) ks s).length := by rw [HG.out]
          have h2 := grpT_len (z.take k) ks s
          rw [its_length] at h1
          rw [List.length_take] at h2
          omega
        obtain ⟨x, HX⟩ : ∃ x, Hid (x = (z.getD k ([], 0)).1) := ⟨_, rfl⟩
        obtain ⟨y, HY⟩ : ∃ y, Hid (y = (z.getD k ([], 0)).2) := ⟨_, rfl⟩
        rw [← HX.out] at hix hr1 hr2 HT hix0
        rw [← HY.out] at hwt HT
        obtain ⟨xa, xn, xc, rfl⟩ := hix.shape
        have HIX : Hid (IntsAt w (.slice xa xn xc) x) := hix0
        obtain ⟨wa, hwa⟩ : ∃ wa, wa = wr.alloc (.cells #[.slice xa xn xc, .int .i64 y] 36) := ⟨_, rfl⟩
        have hba : Below wr.heap.size wr wa := by rw [hwa]; exact below_alloc _
        have hbl : wr.heap.size < wa.heap.size := by rw [hwa]; simp
        have t0 : wa.cell? ⟨wr.heap.size, 0, none⟩ = some (.slice xa xn xc) := by rw [hwa]; simp [go_sem]
        have t1 : wa.cell? ⟨wr.heap.size, 1, none⟩ = some (.int .i64 y) := by rw [hwa]; simp [go_sem]
        have hka := below_then HB hba
        have hsw := HB.size
        have hixa := hix.below hba
        have hCa := HC.out.grown hba
        clear hc hrow hrv0 hwt0 hix0
        by_cases hy : 0 < y
        · go_wp2_with fail
          rw [← hwa]
          refine (groupText_any _ _ x ks _ (HTAB.out.below hka) hixa (HK2.out.below hka) hr2 hl hr1).mono ?_
          rintro e w2 ⟨s, rfl, hs, hb2⟩
          have hk2 := below_then hka hb2
          have hw2 := hk2.size
          obtain ⟨sv, hlook, S2, hput⟩ := (hCa.grown hb2).look (tx_small hr1 hr2 hl hs) (by unfold maxLen; omega)
          rw [hs] at S2 hput
          have hlook2 := hlook w2 (grown_refl _ _)
          have r0 := cell_is (p := ⟨wr.heap.size, 0, none⟩) hb2 hbl t0
          have r1 := cell_is (p := ⟨wr.heap.size, 1, none⟩) hb2 hbl t1
          obtain ⟨tx, HTX⟩ : ∃ tx, Hid (tx = rowTx (keyZ x ks)) := ⟨_, rfl⟩
          rw [← HTX.out] at S2 hput HT
          have hls : w.heap.size + 1 ≤ w2.heap.size := by have := hb2.size; omega
          obtain ⟨hspW, hprW, hfin⟩ := merge_ready (xv := .slice xa xn xc) y S2 ⟨_, _, _, rfl⟩ hls (by have := hGl tx; omega)
          have hpl : (prs (G tx)).length ≤ 100 := by rw [prs_length]; exact hGl tx
          have HK2' : Hid (Below w.heap.size w w2) := hk2
          clear hrv hwt HB HW HC hba hka hb2 hk2 hs hixa hix hr1 hr2 hwa t0 t1 hCa hlook
          go_wp2_with (at_builtin; (refine wpList_append_at rfl _ _ 23 rfl (w.heap.size + 1) 36 i0 Tryz.underlying23 hi0 hz0 hz1 hz2 sv (prs (G tx)) rfl hspW _ _ _ [(.slice xa xn xc, y)] rfl hprW (by simp; omega) (by simp; omega) ?_; intro v3 w3 hown3 hg3 hat3; obtain ⟨S3, B3⟩ := hfin v3 w3 x hown3 hg3; obtain ⟨w4, hrun4, hC4, hg4⟩ := hput w3 v3 (G tx ++ [(.slice xa xn xc, (x, y))]) (by simp) (grown_trans (World.grownBy_alloc w2 _ _) hg3) S3 (hat3.elim Or.inl (fun e => Or.inr ⟨_, e, by simp⟩))))
          have HC4 : Hid (SMap w4 54 w.heap.size (w.heap.size + 1) (m + 1) (fun d => if d = tx then G tx ++ [(.slice xa xn xc, (x, y))] else G d)) := hC4
          have k3 : Below w.heap.size w w3 := HK2'.out.trans (B3.mono (by omega))
          have HK4 : Hid (Below w.heap.size w w4) := k3.grown hg4 k3.size (fun i e => by simp at e; omega)
          have HG4 : Hid (∀ d, its (if d = tx then G tx ++ [(.slice xa xn xc, (x, y))] else G d) = grpT (z.take (k + 1)) ks d) := fun d => by
            rw [HT.out d, decide_eq_true hy, Bool.true_and]
            by_cases hd : d = tx
            · subst hd
              rw [if_pos rfl, if_pos (decide_eq_true rfl), its_append, HG.out]; rfl
            · rw [if_neg hd, if_neg (by simpa using fun e => hd e.symm), HG.out, List.append_nil]
          have HR4 : Hid (∀ d, RowsIn w (if d = tx then G tx ++ [(.slice xa xn xc, (x, y))] else G d)) := fun d => by
            by_cases hd : d = tx
            · rw [if_pos hd]
              intro q hq
              rcases List.mem_append.1 hq with e | e
              · exact HR.out tx q e
              · simp at e; subst e; exact HIX.out
            · rw [if_neg hd]; exact HR.out d
          clear hC4 k3 hg4 hfin hown3 hg3 hat3 hspW hprW B3 S3 S2 hput r0 r1 hlook2 HT HG HR
          go_wp2
          go_roundw
          case rel => exact ⟨k + 1, m + 1, _, by omega, by omega, by go_num, HC4.out, HG4.out, HR4.out, HK4.out⟩
          case measure => simp [intOf]; omega
        · have HG4 : Hid (∀ d, its (G d) = grpT (z.take (k + 1)) ks d) := fun d => by
            rw [HT.out d, decide_eq_false hy, Bool.false_and, HG.out]; simp
          have HC4 : Hid (SMap wa 54 w.heap.size (w.heap.size + 1) m G) := hCa
          have HK4 : Hid (Below w.heap.size w wa) := hka
          clear hCa hka HT HG HB HW HC hba hix hixa hr1 hr2
          go_wp2
          rw [← hwa]
          go_roundw
          case rel => exact ⟨k + 1, m, _, by omega, by omega, by go_num, HC4.out, HG4.out, HR.out, HK4.out⟩
          case measure => simp [intOf]; omega
      · obtain rfl : k = n := by omega
        have hG := HG.out
        rw [HN.out, List.take_length] at hG
        have HG9 : Hid _ := hG
        clear hc hrow hG
        go_wp2
        go_ret
        exact ⟨m, G, rfl, HC.out, HG9.out, HR.out, by omega, HW.out⟩

end Go.Proofs.YtflbdfpgaeeleaaGreatDoor

/-
  Plain facts on the groups by their texts: each text's row; the texts of all groups, once each, and their rows in order are what is told.
-/
namespace Go.Proofs.YtflbdfpgaeeleaaGreatDoor
open Go.RowKit

/-- The row that is told of a text's group. -/
def rowT (z : List It) (ks : List Int) (agg : Int) (col : Nat) (s : List UInt8) : List Int := keyZ ((grpT z ks s).getD 0 ([], 0)).1 ks ++ [aggZ agg col (grpT z ks s)]
theorem grpT_mem {z : List It} {ks : List Int} {s : List UInt8} {p : It} : p ∈ grpT z ks s ↔ p ∈ z ∧ 0 < p.2 ∧ rowTx (keyZ p.1 ks) = s := by
  unfold grpT
  rw [List.mem_filter]
  simp
theorem key_inj {z : List It} {ks : List Int} (hz : zOkB z = true) (hkz : haveAll z ks = true) {p q : It} (hp : p ∈ z) (hq : q ∈ z) (h : rowTx (keyZ p.1 ks) = rowTx (keyZ q.1 ks)) : keyZ p.1 ks = keyZ q.1 ks :=
  rowTx_inj (keyZ_cells (zOk_item hz hp).1 fun k hk => have_iff.1 hkz k hk p hp) (keyZ_cells (zOk_item hz hq).1 fun k hk => have_iff.1 hkz k hk q hq) (by rw [keyZ_len, keyZ_len]) h
theorem grpT_is {z : List It} {ks : List Int} (hz : zOkB z = true) (hkz : haveAll z ks = true) {p : It} (hp : p ∈ z) : grpT z ks (rowTx (keyZ p.1 ks)) = grpZ z ks (keyZ p.1 ks) := by
  unfold grpT grpZ
  refine List.filter_congr fun q hq => ?_
  congr 1
  by_cases e : keyZ q.1 ks = keyZ p.1 ks
  · rw [e]; simp
  · rw [decide_eq_false e, decide_eq_false fun h => e (key_inj hz hkz hq hp h)]
theorem first_mem {z : List It} {ks : List Int} {s : List UInt8} (h : grpT z ks s ≠ []) : (grpT z ks s).getD 0 ([], 0) ∈ grpT z ks s := by
  cases e : grpT z ks s with
  | nil => exact absurd e h
  | cons p l => simp
/-- The text of the group of the row that is told of it. -/
theorem first_is {z : List It} {ks : List Int} {s : List UInt8} (h : grpT z ks s ≠ []) : rowTx (keyZ ((grpT z ks s).getD 0 ([], 0)).1 ks) = s := (grpT_mem.1 (first_mem h)).2.2
theorem rowT_is {z : List It} {ks : List Int} (agg : Int) (col : Nat) (hz : zOkB z = true) (hkz : haveAll z ks = true) {p : It} (hp : p ∈ z) (hw : 0 < p.2) : rowT z ks agg col (rowTx (keyZ p.1 ks)) = rowG z ks agg col p := by
  have hm : p ∈ grpT z ks (rowTx (keyZ p.1 ks)) := grpT_mem.2 ⟨hp, hw, rfl⟩
  have hne : grpT z ks (rowTx (keyZ p.1 ks)) ≠ [] := fun e => by rw [e] at hm; simp at hm
  have h0 := grpT_mem.1 (first_mem hne)
  unfold rowT rowG
  rw [key_inj hz hkz h0.1 hp h0.2.2, grpT_is hz hkz hp]
theorem rowT_first {z : List It} {ks : List Int} {agg : Int} {col : Nat} (hz : zOkB z = true) (hkz : haveAll z ks = true) {s : List UInt8} (h : grpT z ks s ≠ []) : ∃ p ∈ z, 0 < p.2 ∧ rowTx (keyZ p.1 ks) = s ∧ rowT z ks agg col s = rowG z ks agg col p ∧ grpT z ks s = grpZ z ks (keyZ p.1 ks) := by
  have h0 := grpT_mem.1 (first_mem h)
  have h1 := rowT_is agg col hz hkz h0.1 h0.2.1
  have h2 := grpT_is hz hkz h0.1
  rw [h0.2.2] at h1 h2
  exact ⟨_, h0.1, h0.2.1, h0.2.2, h1, h2⟩
theorem rowT_inj {z : List It} {ks : List Int} {agg : Int} {col : Nat} {s t : List UInt8} (hs : grpT z ks s ≠ []) (ht : grpT z ks t ≠ []) (h : rowT z ks agg col s = rowT z ks agg col t) : s = t := by
  unfold rowT at h
  have := (List.append_inj' h rfl).1
  rw [← first_is hs, ← first_is ht, this]
theorem texts_no {z : List It} {ks : List Int} {agg : Int} {col : Nat} (hz : zOkB z = true) (hkz : haveAll z ks = true) {s : List UInt8} (h : grpT z ks s ≠ []) (hc : cellB (aggZ agg col (grpT z ks s)) = false) : grpTold z ks agg col = false := by
  obtain ⟨p, hp, hw, _, _, e⟩ := rowT_first (agg := agg) (col := col) hz hkz h
  unfold grpTold
  rw [List.all_eq_false]
  refine ⟨p, hp, ?_⟩
  unfold toldG
  rw [← e, hc, decide_eq_false (by omega)]; decide
theorem texts_yes {z : List It} {ks : List Int} {agg : Int} {col : Nat} (hz : zOkB z = true) (hkz : haveAll z ks = true) {D : List (List UInt8)} (hD : ∀ s, grpT z ks s ≠ [] → s ∈ D) (hc : ∀ s ∈ D, cellB (aggZ agg col (grpT z ks s)) = true) : grpTold z ks agg col = true := by
  unfold grpTold
  rw [List.all_eq_true]
  intro p hp
  unfold toldG
  by_cases hw : p.2 < 0
  · rw [decide_eq_true hw]; rfl
  · have hnz := zOk_nz hz p hp
    have hm : p ∈ grpT z ks (rowTx (keyZ p.1 ks)) := grpT_mem.2 ⟨hp, by omega, rfl⟩
    have h1 := hc _ (hD (rowTx (keyZ p.1 ks)) (fun e => by rw [e] at hm; simp at hm))
    rw [grpT_is hz hkz hp] at h1
    rw [h1]; simp
/-- The rows of all texts, each once, in order, are what is told. -/
theorem rows_told {z : List It} {ks : List Int} {agg : Int} {col : Nat} (hz : zOkB z = true) (hkz : haveAll z ks = true) {D : List (List UInt8)} (hnd : D.Nodup) (hD : ∀ s, s ∈ D ↔ grpT z ks s ≠ []) {m : List It} (hp : (D.map fun s => (rowT z ks agg col s, (1 : Int))).Perm m) (ha : Asc m) : m = grpTo (rowG z ks agg col) z := by
  have hG := isG_to (rowG z ks agg col) z
  have hrows : (D.map fun s => (rowT z ks agg col s, (1 : Int))).Pairwise fun p q => p.1 ≠ q.1 := by
    rw [List.pairwise_map]
    refine List.Pairwise.imp_of_mem ?_ hnd
    intro s t hs ht hne e
    exact hne (rowT_inj ((hD s).1 hs) ((hD t).1 ht) e)
  have hrm : m.Pairwise fun p q => p.1 ≠ q.1 := (hp.pairwise_iff (fun h e => h e.symm)).1 hrows
  have hsrt : Srt m := by
    refine (List.pairwise_and_iff.2 ⟨ha, hrm⟩).imp ?_
    intro p q h
    exact ordL_flip h.1 (fun e => h.2 e.symm)
  have hone : ∀ p ∈ m, p.2 = 1 := fun p hpm => by
    obtain ⟨s, _, rfl⟩ := List.mem_map.1 (hp.symm.subset hpm)
    rfl
  refine canon hsrt (fun p hpm => by rw [hone p hpm]; decide) hG.1 hG.2.1 fun q => ?_
  rw [hG.2.2]
  by_cases hq : ∃ p ∈ m, p.1 = q
  · obtain ⟨p, hpm, rfl⟩ := hq
    rw [getZ_ownG hsrt p hpm, hone p hpm]
    obtain ⟨s, hs, rfl⟩ := List.mem_map.1 (hp.symm.subset hpm)
    obtain ⟨x, hx, hw, _, e, _⟩ := rowT_first (agg := agg) (col := col) hz hkz ((hD s).1 hs)
    have : hasG (rowG z ks agg col) z (rowT z ks agg col s) = true := by
      unfold hasG
      rw [List.any_eq_true]
      exact ⟨x, hx, by rw [e]; simp; omega⟩
    rw [if_pos this]
  · have : hasG (rowG z ks agg col) z q = false := by
      cases hh : hasG (rowG z ks agg col) z q with
      | false => rfl
      | true =>
        obtain ⟨p, hpz, h1, h2⟩ := hasG_mem hh
        have hnz := zOk_nz hz p hpz
        have hw : 0 < p.2 := by omega
        have hm : p ∈ grpT z ks (rowTx (keyZ p.1 ks)) := grpT_mem.2 ⟨hpz, hw, rfl⟩
        have hd := (hD (rowTx (keyZ p.1 ks))).2 (fun e => by rw [e] at hm; simp at hm)
        refine absurd ⟨(rowT z ks agg col (rowTx (keyZ p.1 ks)), 1), hp.subset (List.mem_map.2 ⟨_, hd, rfl⟩), ?_⟩ hq
        rw [← h2]
        exact rowT_is agg col hz hkz hpz hw
    rw [this, getZ_zero fun p hpm e => hq ⟨p, hpm, e⟩]; rfl

end Go.Proofs.YtflbdfpgaeeleaaGreatDoor

/-
  The contracts of impl.totalOf and of what it answers, and of impl.canGroup.
-/
namespace Go.Proofs.YtflbdfpgaeeleaaGreatDoor
set_option maxRecDepth 100000
open Go.RowKit
attribute [local go_sem ↓] Go.wp_at_zero Go.wp_at_succ

theorem invOf_count (v : Value) (w : World) : (Go.method 318 77 v "loop.example/milldam/impl.of").run Tryz.prog w = .ok (132, v) w := by kernel_rfl
theorem invOf_sum (v : Value) (w : World) : (Go.method 318 78 v "loop.example/milldam/impl.of").run Tryz.prog w = .ok (133, v) w := by kernel_rfl
theorem invOf_least (v : Value) (w : World) : (Go.method 318 79 v "loop.example/milldam/impl.of").run Tryz.prog w = .ok (134, v) w := by kernel_rfl
theorem invOf_most (v : Value) (w : World) : (Go.method 318 80 v "loop.example/milldam/impl.of").run Tryz.prog w = .ok (135, v) w := by kernel_rfl

/-- A type and a function that reckon so of a group. -/
def IsTotal (agg : Int) (tid : TypeId) (fn : Nat) : Prop :=
  (∀ (v : Value) (w : World), (Go.method 318 tid v "loop.example/milldam/impl.of").run Tryz.prog w = .ok (fn, v) w) ∧ (∀ args w, (callFunc fn args).run Tryz.prog w = .ok (.enter fn args) w) ∧
    ∀ (u : Value) (g : List It) (col : Nat) (w : World), ItemsAt w u g → Fine g col → 0 < g.length → Calls Tryz.prog fn #[.agg #[], u, .int .i64 col] w fun e w' => e = .returned (.int .i64 (aggZ agg col g)) ∧ Below w.heap.size w w'
theorem totalOf_yes (agg : Int) (h : aggB agg = true) : ∃ tid fn, IsTotal agg tid fn ∧ ∀ w : World, Calls Tryz.prog 16 #[.int .i64 agg] w fun e w' => e = .returned (.tuple #[.iface tid (.agg #[]), .bool true]) ∧ w = w' := by
  have h0 := of_decide_eq_true h
  have hc : agg = 0 ∨ agg = 1 ∨ agg = 2 ∨ agg = 3 := by omega
  clear h h0
  rcases hc with rfl | rfl | rfl | rfl
  · refine ⟨77, 132, ⟨invOf_count, enters_of Tryz.func132 (by kernel_rfl) rfl, fun u g col w h hf hp => count_any u _ g col w h hf hp rfl⟩, fun w => ?_⟩
    go_enter Tryz.func16, Tryz.ntmps16
    go_wp2
    go_ret2
    exact ⟨rfl, rfl⟩
  · refine ⟨78, 133, ⟨invOf_sum, enters_of Tryz.func133 (by kernel_rfl) rfl, fun u g col w h hf hp => sum_any u _ g col w h hf hp rfl⟩, fun w => ?_⟩
    go_enter Tryz.func16, Tryz.ntmps16
    go_wp2
    go_ret2
    exact ⟨rfl, rfl⟩
  · refine ⟨79, 134, ⟨invOf_least, enters_of Tryz.func134 (by kernel_rfl) rfl, fun u g col w h hf hp => least_any u _ g col w h hf hp rfl⟩, fun w => ?_⟩
    go_enter Tryz.func16, Tryz.ntmps16
    go_wp2
    go_ret2
    exact ⟨rfl, rfl⟩
  · refine ⟨80, 135, ⟨invOf_most, enters_of Tryz.func135 (by kernel_rfl) rfl, fun u g col w h hf hp => most_any u _ g col w h hf hp rfl⟩, fun w => ?_⟩
    go_enter Tryz.func16, Tryz.ntmps16
    go_wp2
    go_ret2
    exact ⟨rfl, rfl⟩
theorem totalOf_no (agg : Int) (w : World) (h : aggB agg = false) : Calls Tryz.prog 16 #[.int .i64 agg] w fun e w' => e = .returned (.tuple #[.nilIface, .bool false]) ∧ w = w' := by
  have h0 := of_decide_eq_false h
  have h1 : (agg == 0) = false := by simp; omega
  have h2 : (agg == 1) = false := by simp; omega
  have h3 : (agg == 2) = false := by simp; omega
  have h4 : (agg == 3) = false := by simp; omega
  clear h h0
  go_enter Tryz.func16, Tryz.ntmps16
  go_wp2
  go_ret2
  exact ⟨rfl, rfl⟩
theorem canGroup_any (v u : Value) (z : List It) (ks : List Int) (col : Int) (w : World) (h : ItemsAt w v z) (h2 : IntsAt w u ks) :
    Calls Tryz.prog 19 #[v, u, .int .i64 col] w fun e w' => e = .returned (.bool (haveAll z ks && hasAt col z)) ∧ Below w.heap.size w w' := by
  obtain ⟨c, HC⟩ : ∃ c, Hid (c = haveAll z ks) := ⟨_, rfl⟩
  obtain ⟨d, HD⟩ : ∃ d, Hid (d = hasAt col z) := ⟨_, rfl⟩
  rw [← HC.out, ← HD.out]
  have HZ : Hid (ItemsAt w v z) := h
  go_enter Tryz.func19, Tryz.ntmps19
  go_wp2_with fail
  refine (allHaveKeys_any v u z ks _ h h2).mono ?_
  rw [← HC.out]
  rintro e w1 ⟨rfl, hb1⟩
  have HB1 : Hid (Below w.heap.size w w1) := hb1
  clear h h2 hb1
  cases c with
  | false =>
    go_wp2
    go_ret
    exact ⟨rfl, HB1.out⟩
  | true =>
    go_wp2_with fail
    refine (allHave_any v z col _ (HZ.out.below HB1.out)).mono ?_
    rw [← HD.out]
    rintro e w2 ⟨rfl, hb2⟩
    have HB2 : Hid (Below w.heap.size w w2) := below_then HB1.out hb2
    clear hb2 HB1
    go_wp2
    go_ret
    exact ⟨rfl, HB2.out⟩

end Go.Proofs.YtflbdfpgaeeleaaGreatDoor

/-
  The contract of impl.GroupOf: the map of groups is read out in an order that nobody knows, each group once; what is told of it is put in order at the end.
-/
namespace Go.Proofs.YtflbdfpgaeeleaaGreatDoor
set_option maxRecDepth 100000
open Go.RowKit Go.Maps
attribute [local go_sem ↓] Go.wp_at_zero Go.wp_at_succ

/-- The texts that have come: each once; what is left is what the map has besides. -/
def Got (D : DataW Value) (left : Lit → Bool) (ss : List (List UInt8)) : Prop := ss.Nodup ∧ (∀ s, left (.string s) = (has D (.string s) && !decide (s ∈ ss))) ∧ ∀ s ∈ ss, has D (.string s) = true
theorem got_start (D : DataW Value) : Got D (has D) [] := ⟨List.nodup_nil, fun s => by simp, fun s hs => by simp at hs⟩
theorem Got.step {D : DataW Value} {left : Lit → Bool} {ss : List (List UInt8)} (h : Got D left ss) {x : List UInt8} (hx : left (.string x) = true) : Got D (fun z => left z && !z.sameKey (.string x)) (ss ++ [x]) := by
  have h0 := h.2.1 x
  rw [hx] at h0
  have h1 : has D (.string x) = true ∧ x ∉ ss := by
    have := h0.symm
    rw [Bool.and_eq_true] at this
    exact ⟨this.1, by simpa using this.2⟩
  refine ⟨List.nodup_append.2 ⟨h.1, by simp, fun a ha b hb e => ?_⟩, fun s => ?_, fun s hs => ?_⟩
  · simp at hb
    subst hb
    exact h1.2 (by rw [← e]; exact ha)
  · show (left (.string s) && !(Lit.string s).sameKey (.string x)) = _
    rw [h.2.1 s]
    by_cases e : s = x
    · subst e; simp [Lit.sameKey]
    · simp [Lit.sameKey, e]
  · rcases List.mem_append.1 hs with e | e
    · exact h.2.2 s e
    · simp at e; rw [e]; exact h1.1
theorem Got.all {D : DataW Value} {left : Lit → Bool} {ss : List (List UInt8)} (h : Got D left ss) (hl : ∀ kl, left kl = false) (s : List UInt8) : s ∈ ss ↔ has D (.string s) = true := by
  refine ⟨h.2.2 s, fun hs => ?_⟩
  have h0 := h.2.1 s
  rw [hl, hs] at h0
  simpa using h0
theorem ranges_at {H : Type} {P : Program} {k : TypeId} {R : Value → Option (DataW H × List MemPlace)} {w w' : World} {b r n : Nat} {D : DataW H} {left : Lit → Bool} {cnt : Nat} (h : w.ranges P k R b r n D left cnt) (hb : w'.heap[b]? = w.heap[b]?) (hr : w'.heap[r]? = w.heap[r]?) : w'.ranges P k R b r n D left cnt := by
  obtain ⟨es, clock, since, seen, c0, h1, F, hs, hD, h2, rest⟩ := h
  exact ⟨es, clock, since, seen, c0, hb.trans h1, F, hs, hD, hr.trans h2, rest⟩
theorem grown_thenB {a b c : World} {r : Option Nat} (h : a.grownBy b r) (hb : Below a.heap.size b c) : a.grownBy c r :=
  ⟨hb.os.trans h.os, hb.tape.trans h.tape, hb.output.trans h.output, Nat.le_trans h.size hb.size, fun k hk hne => (hb.block k hk).trans (h.block k hk hne)⟩
theorem spine_items {w : World} {lo hi : Nat} {v : Value} {l : List Rw} (S : Spine w lo hi v (prs l)) (hr : RowsIn w l) : ItemsAt w v (its l) := by
  refine items_of_spine (by simp [prs, its]) S fun j hj => ?_
  rw [prs_length] at hj
  have := hr l[j] (List.getElem_mem hj)
  simpa [prs, its, List.getD, hj] using this

set_option maxHeartbeats 16000000 in
theorem implGroup_any (v u : Value) (z : List It) (ks : List Int) (agg col : Int) (w : World) (htab : Tab w) (h : ItemsAt w v z) (h2 : TailI w u ks) :
    Calls Tryz.prog 6 #[v, u, .int .i64 agg, .int .i64 col] w fun e w' => ∃ v', e = .returned (.tuple #[v', .bool (grpOk z ks agg col)]) ∧ OwnZ w' w.heap.size w'.heap.size v' (grpOut z ks agg col) ∧ Below w.heap.size w w' := by
  obtain ⟨i0, hi0, hz0, hz1, hz2⟩ := info_parts infoItem
  obtain ⟨i1, hi1, hj0, hj1, hj2⟩ := info_parts infoInt
  have hnot : grpCan z ks agg col = false → grpOk z ks agg col = false ∧ grpOut z ks agg col = [] := fun e => by
    have : grpOk z ks agg col = false := by unfold grpOk; rw [e]; rfl
    exact ⟨this, grp_not this⟩
  obtain ⟨ua, un, uc, rfl⟩ := h2.1.shape
  cases ha : aggB agg with
  | false =>
    obtain ⟨e0, e1⟩ := hnot (by unfold grpCan; rw [ha]; simp)
    rw [e0, e1]
    clear hnot e0 e1 h2 htab
    go_enter Tryz.func6, Tryz.ntmps6
    go_wp2_with fail
    refine (totalOf_no agg _ ha).mono ?_
    rintro e w0 ⟨rfl, rfl⟩
    go_wp2_with fail
    refine (implZOk_any v z _ h).mono ?_
    rintro e w1 ⟨rfl, hb1⟩
    clear h
    cases zOkB z with
    | false =>
      go_wp2
      go_ret2
      exact ⟨_, rfl, nil_ownZ _ _, hb1⟩
    | true =>
      go_wp2
      go_ret2
      exact ⟨_, rfl, nil_ownZ _ _, hb1⟩
  | true =>
  obtain ⟨tid, fn, htot, htof⟩ := totalOf_yes agg ha
  cases hz : zOkB z with
  | false =>
    obtain ⟨e0, e1⟩ := hnot (by unfold grpCan; rw [hz]; simp)
    rw [e0, e1]
    clear hnot e0 e1 h2 htab htot
    go_enter Tryz.func6, Tryz.ntmps6
    go_wp2_with fail
    refine (htof _).mono ?_
    rintro e w0 ⟨rfl, rfl⟩
    clear htof
    go_wp2_with fail
    refine (implZOk_any v z _ h).mono ?_
    rw [hz]
    rintro e w1 ⟨rfl, hb1⟩
    clear h
    go_wp2
    go_ret2
    exact ⟨_, rfl, nil_ownZ _ _, hb1⟩
  | true =>
  cases hk6 : keysB ks 6 with
  | false =>
    obtain ⟨e0, e1⟩ := hnot (by unfold grpCan; rw [hk6]; simp)
    rw [e0, e1]
    clear hnot e0 e1 htab htot
    go_enter Tryz.func6, Tryz.ntmps6
    go_wp2_with fail
    refine (htof _).mono ?_
    rintro e w0 ⟨rfl, rfl⟩
    clear htof
    go_wp2_with fail
    refine (implZOk_any v z _ h).mono ?_
    rw [hz]
    rintro e w1 ⟨rfl, hb1⟩
    go_wp2_with fail
    refine (areKeys_any _ ks 6 _ (h2.below hb1)).mono ?_
    rw [hk6]
    rintro e w2 ⟨rfl, rfl⟩
    clear h h2
    go_wp2
    go_ret2
    exact ⟨_, rfl, nil_ownZ _ _, hb1⟩
  | true =>
  cases hcg : (haveAll z ks && hasAt col z) with
  | false =>
    obtain ⟨e0, e1⟩ := hnot (by unfold grpCan; rw [hcg]; simp)
    rw [e0, e1]
    clear hnot e0 e1 htab htot
    go_enter Tryz.func6, Tryz.ntmps6
    go_wp2_with fail
    refine (htof _).mono ?_
    rintro e w0 ⟨rfl, rfl⟩
    clear htof
    go_wp2_with fail
    refine (implZOk_any v z _ h).mono ?_
    rw [hz]
    rintro e w1 ⟨rfl, hb1⟩
    go_wp2_with fail
    refine (areKeys_any _ ks 6 _ (h2.below hb1)).mono ?_
    rw [hk6]
    rintro e w2 ⟨rfl, rfl⟩
    go_wp2_with fail
    refine (canGroup_any v _ z ks col _ (h.below hb1) (h2.below hb1).1).mono ?_
    rw [hcg]
    rintro e w2 ⟨rfl, hb2⟩
    have HK : Hid (Below w.heap.size w w2) := below_then hb1 hb2
    clear h h2 hb1 hb2
    go_wp2
    go_ret2
    exact ⟨_, rfl, nil_ownZ _ _, HK.out⟩
  | true =>
  have hcan : grpCan z ks agg col = true := by unfold grpCan; rw [hz, ha, hk6, hcg]; rfl
  have hkz : haveAll z ks = true := (Bool.and_eq_true _ _ ▸ hcg).1
  have hcz : hasAt col z = true := (Bool.and_eq_true _ _ ▸ hcg).2
  have hk5 := (keys_parts hk6).1
  obtain ⟨cn, HCN⟩ : ∃ cn, Hid (cn = col.toNat) := ⟨_, rfl⟩
  obtain ⟨os, HO⟩ : ∃ os, Hid (os = grpOut z ks agg col) := ⟨_, rfl⟩
  obtain ⟨d, HD⟩ : ∃ d, Hid (d = grpOk z ks agg col) := ⟨_, rfl⟩
  have HYES : Hid (grpTold z ks agg cn = true → d = true ∧ os = grpTo (rowG z ks agg cn) z) := fun e => by
    rw [HCN.out] at e ⊢
    have e0 : grpOk z ks agg col = true := by unfold grpOk; rw [hcan, e]; rfl
    exact ⟨HD.out.trans e0, by rw [HO.out]; unfold grpOut; rw [e0]; rfl⟩
  have HNO : Hid (grpTold z ks agg cn = false → d = false ∧ os = []) := fun e => by
    rw [HCN.out] at e
    have e0 : grpOk z ks agg col = false := by unfold grpOk; rw [e, Bool.and_false]
    exact ⟨HD.out.trans e0, HO.out.trans (grp_not e0)⟩
  rw [← HO.out, ← HD.out]
  clear hnot hcan
  go_enter Tryz.func6, Tryz.ntmps6
  go_wp2_with fail
  refine (htof _).mono ?_
  rintro e w0 ⟨rfl, rfl⟩
  clear htof
  go_wp2_with fail
  refine (implZOk_any v z _ h).mono ?_
  rw [hz]
  rintro e w1 ⟨rfl, hb1⟩
  go_wp2_with fail
  refine (areKeys_any _ ks 6 _ (h2.below hb1)).mono ?_
  rw [hk6]
  rintro e w1' ⟨rfl, hw1⟩
  obtain rfl := hw1.symm
  go_wp2_with fail
  refine (canGroup_any v _ z ks col _ (h.below hb1) (h2.below hb1).1).mono ?_
  rw [hcg]
  rintro e w2 ⟨rfl, hb2⟩
  have hk2 := below_then hb1 hb2
  go_wp2_with fail
  refine (groups_any v _ z ks _ (htab.below hk2) (h.below hk2) (h2.below hk2).1 hz hkz (by omega)).mono ?_
  rintro e w3 ⟨n, G, rfl, ⟨D, V, hm1, hm2, hm3, hm4, hm5, hm6, hm7⟩, hG, hR, hn100, hb3⟩
  have hk3 := below_then hk2 hb3
  have HK2 : Hid (IntsAt w (.slice ua un uc) ks) := h2.1
  have HR : Hid (∀ s, RowsIn w2 (G s)) := hR
  have HG : Hid (∀ s, its (G s) = grpT z ks s) := hG
  have HV : Hid (∀ c, D.atKey (.string c) (.held vn) = .held (V c)) := hm2
  have HH : Hid (∀ c, has D (.string c) = !(G c).isEmpty) := hm7
  have HS3 : Hid (∀ c, Spine w3 (w2.heap.size + 1) w3.heap.size (V c) (prs (G c))) := hm3
  have HB3 : Hid (Below w2.heap.size w2 w3) := hb3
  have HB2 : Hid (Below w.heap.size w w2) := hk2
  have HZ : Hid (zOkB z = true) := hz
  have HKZ : Hid (haveAll z ks = true) := hkz
  have HCZ : Hid (hasAt col z = true) := hcz
  have HTOT : Hid (IsTotal agg tid fn) := htot
  have hmt := htot.1
  have hen0 := htot.2.1
  have hszD := hm1.size_le
  have hmb : w2.heap.size < w3.heap.size := by have := hm1.lt; exact this
  have hs32 := hb3.size
  have hs2w := hk2.size
  have K : Keyed Tryz.prog 9 := string_keyed Tryz.underlying9
  clear h h2 hb1 hb2 hk2 htab hG hR hm2 hm3 hm4 hm7 hz hkz hcz hcg hk6 hb3 hk3 htot ha
  go_wp2_with (first
    | (at_range; go_loud (refine wpList_range_own _ rfl _ 54 rfl 9 23 K hm6 _ w2.heap.size n D rfl hm1 ?_; intro w0 hrg0 hg0 hs0))
    | go_in)
  go_frame
  have HB0 : Hid (Below w2.heap.size w2 w0) := HB3.out.grown hg0 hs32 (fun j hj => by cases hj)
  have HS0 : Hid (∀ c, Spine w0 (w2.heap.size + 1) w3.heap.size (V c) (prs (G c))) := fun c => (HS3.out c).kept hg0 (by cases (V c).ownBlock <;> simp)
  have HRG0 : Hid (w0.ranges Tryz.prog 9 heldT w2.heap.size w3.heap.size n D (has D) (Maps.size D)) := hrg0
  have HM1 : Hid (w3.ownsMap Tryz.prog 9 heldT w2.heap.size n D) := hm1
  have HW0 : Hid (Below w.heap.size w w0) := HB2.out.trans (HB0.out.mono hs2w)
  clear hrg0 hg0 HB3 HS3 hm1 hm6 hm5
  go_loopw [12] (fun s wr => ∃ (left : Lit → Bool) (cnt : Nat) (ss : List (List UInt8)), Hid (wr.ranges Tryz.prog 9 heldT w2.heap.size w3.heap.size n D left cnt) ∧ Hid (Got D left ss) ∧ ss.length + cnt ≤ 100 ∧ Hid (OwnZ wr w0.heap.size wr.heap.size s (ss.map fun s => (rowT z ks agg cn s, (1 : Int)))) ∧ Hid (w0.grownBy wr (some w3.heap.size)) ∧ Hid (∀ s ∈ ss, cellB (aggZ agg cn (grpT z ks s)) = true))
    (fun _ wr => wr.rangeLeft w2.heap.size w3.heap.size)
  case atStart => exact ⟨_, _, [], HRG0.out, got_start D, by simp; omega, nil_ownZ _ _, grown_refl _ _, fun s hs => by simp at hs⟩
  case round =>
    obtain ⟨left, cnt, ss, HRG, HGOT, hlen, HT, HGR, HCE⟩ := hrel
    clear HRG0
    have hrg := HRG.out
    go_wp2_with (first
      | (at_next; go_loud (refine wpList_next_ranges _ rfl _ rfl 9 K heldT Value.string id (fun key kl hk => by obtain ⟨x, hx, _⟩ := Go.WideMaps.string_of_keyOf Tryz.underlying9 hk; exact ⟨x, hx⟩) (fun v y _ => ⟨v, rfl⟩) w2.heap.size w3.heap.size n D left cnt rfl hrg ?_ ?_))
      | go_in)
    · intro hc0 hl0
      have hD : ∀ s, s ∈ ss ↔ grpT z ks s ≠ [] := fun s => by
        rw [HGOT.out.all hl0 s, HH.out s, ← HG.out s]
        cases G s with
        | nil => simp [its]
        | cons a l => simp [its]
      have htold := texts_yes HZ.out HKZ.out (fun s hs => (hD s).2 hs) HCE.out
      obtain ⟨hd, hos⟩ := HYES.out htold
      obtain ⟨l, hl, S, R, AP⟩ := HT.out.opened
      have hll : l.length ≤ 100 := by
        have := congrArg List.length hl
        rw [its_length, List.length_map] at this
        omega
      have HEND : Hid (∀ l' : List Rw, l.Perm l' → Asc (its l') → its l' = os) := fun l' hp ha => by
        rw [hos]
        exact rows_told HZ.out HKZ.out HGOT.out.1 hD (by rw [hl]; exact hp.map _) ha
      have hszr := HGR.out.size
      have HBR : Hid (Below w.heap.size w wr) := HW0.out.grown HGR.out (by omega) (fun k hk => by simp at hk; omega)
      subst hd
      clear hrg hos htold hD hl0 hc0 hl HRG
      go_wp2_with fail
      refine (sort_any u12 w0.heap.size wr.heap.size l _ S R (by omega)).mono ?_
      rintro e w4 ⟨rfl, l', hp, hasc, S1, R1, O1⟩
      have HZ4 : Hid (OwnZ w4 w.heap.size w4.heap.size u12 os) := by
        rw [Hid, ← HEND.out l' hp hasc]
        exact (OwnZ.closed S1 R1 (apart_perm AP hp)).wide (by omega) O1.size (Nat.le_refl _)
      have HB4 : Hid (Below w.heap.size w w4) := O1.below HBR.out (by omega) (by omega)
      clear S R AP S1 R1 O1 hp hasc HEND
      go_wp2
      go_ret2
      exact ⟨_, rfl, HZ4.out, HB4.out⟩
    · intro x c kl y yb w4 cnt1 hkey hleft hRc hat hrg4 hlt hg4 hs4 hen
      obtain ⟨x', hx', hkl, hxs⟩ := Go.WideMaps.string_of_keyOf Tryz.underlying9 hkey
      obtain ⟨s, hsx⟩ : ∃ s, s = x.data.toList := ⟨_, rfl⟩
      have ex : x' = x := by injection hx' with e; exact e.symm
      rw [ex, ← hsx] at hkl
      have hcV : c = V s := by
        have h1 := hat (.held vn)
        rw [hkl, HV.out s] at h1
        unfold heldT at hRc
        injection hRc with h2
        injection h2 with h2 _
        rw [← h2] at h1
        injection h1 with h1
        exact h1.symm
      subst hkl
      have hgot := HGOT.out.2.1 s
      rw [hleft] at hgot
      have hhas : has D (.string s) = true := by
        have := hgot.symm
        rw [Bool.and_eq_true] at this
        exact this.1
      have hTne : grpT z ks s ≠ [] := fun e => by
        have h1 := HH.out s
        have h2 := HG.out s
        rw [e] at h2
        rw [hhas] at h1
        cases hg : G s with
        | nil => rw [hg] at h1; simp at h1
        | cons a l => rw [hg] at h2; simp [its] at h2
      have HGOT2 : Hid (Got D (fun z => left z && !z.sameKey (.string s)) (ss ++ [s])) := HGOT.out.step hleft
      obtain ⟨p, hp, hw, _, hrt, hgz⟩ := rowT_first (agg := agg) (col := cn) HZ.out HKZ.out hTne
      have hc0 : 0 ≤ col := (has_iff.1 HCZ.out p hp).1
      have hcc : ((cn : Nat) : Int) = col := by rw [HCN.out]; omega
      have hfine : Fine (grpT z ks s) cn := by rw [hgz]; exact grp_fine HZ.out (by rw [hcc]; exact HCZ.out) ks _
      have hszr := HGR.out.size
      have hgr4 : w0.grownBy w4 (some w3.heap.size) := grown_trans HGR.out hg4
      have hw4 : Below w.heap.size w w4 := HW0.out.grown hgr4 (by omega) (fun k hk => by simp at hk; omega)
      have hw42 : Below w2.heap.size w2 w4 := HB0.out.grown hgr4 (by omega) (fun k hk => by simp at hk; omega)
      have S4 : Spine w4 (w2.heap.size + 1) w3.heap.size (V s) (prs (G s)) := (HS0.out s).kept hgr4 (by
        cases ho : (V s).ownBlock with
        | none => exact .inl rfl
        | some k =>
          have := (HS0.out s).2.1 k ho
          exact .inr (fun e => by simp at e; omega))
      have IA : ItemsAt w4 c (grpT z ks s) := by rw [← HG.out s, hcV]; exact spine_items S4 ((HR.out s).below hw42)
      have hfirst := first_mem hTne
      have hfz := (grpT_mem.1 hfirst).1
      have hkk : ∀ k ∈ ks, 0 ≤ k ∧ k < ((((grpT z ks s).getD 0 ([], 0)).1.length : Nat) : Int) := fun k hk => have_iff.1 HKZ.out k hk _ hfz
      have htno := texts_no (agg := agg) (col := cn) HZ.out HKZ.out hTne
      have HROW : Hid (rowT z ks agg cn s = keyZ ((grpT z ks s).getD 0 ([], 0)).1 ks ++ [aggZ agg cn (grpT z ks s)]) := rfl
      have HRG4 : Hid (w4.ranges Tryz.prog 9 heldT w2.heap.size w3.heap.size n D (fun z => left z && !z.sameKey (.string s)) cnt1) := hrg4
      have HG4 : Hid (w0.grownBy w4 (some w3.heap.size)) := hgr4
      have HW4 : Hid (Below w.heap.size w w4) := hw4
      have HT4 : Hid (OwnZ w4 w0.heap.size wr.heap.size u12 (ss.map fun s => (rowT z ks agg cn s, (1 : Int)))) := HT.out.only (lo := w3.heap.size) (hi := w3.heap.size + 1) (Only.of_grown hg4 (fun k hk => by simp at hk; omega)) (.inr (by omega))
      have HLT : Hid (cnt1 < cnt) := hlt
      clear hat hRc hkey hx' hcV hgot hhas hfirst hfz hgz hrt hp hw S4 hw42 hgr4 hrg4 hg4 hsx ex hxs HT hleft
      have HCE2 : Hid (cellB (aggZ agg cn (grpT z ks s)) = true → ∀ t ∈ ss ++ [s], cellB (aggZ agg cn (grpT z ks t)) = true) := fun e t ht => by
        rcases List.mem_append.1 ht with h1 | h1
        · exact HCE.out t h1
        · simp at h1; rw [h1]; exact e
      obtain ⟨gt, HGT⟩ : ∃ gt, Hid (gt = grpT z ks s) := ⟨_, rfl⟩
      rw [← HGT.out] at IA hfine hkk htno HROW HCE2 hTne
      rcases IA.cases with ⟨a, cap, rfl, hnil⟩ | ⟨b, off, cap, hpos, hlim, rfl, hbw, hcell⟩
      · exact absurd rfl hTne
      clear hTne
      have hcall := HTOT.out.2.2 _ gt cn w4 IA hfine hpos
      rw [hcc] at hcall
      obtain ⟨rv, c0, _, hix0⟩ := hcell 0 hpos
      obtain ⟨nv, HNV⟩ : ∃ nv, Hid (nv = aggZ agg cn gt) := ⟨_, rfl⟩
      rw [← HNV.out] at hcall htno HROW HCE2
      obtain ⟨x0, HX0⟩ : ∃ x0, Hid (x0 = (gt.getD 0 ([], 0)).1) := ⟨_, rfl⟩
      rw [← HX0.out] at hix0 hkk HROW
      clear IA hfine hcell
      go_wp2_with fail
      refine hcall.mono ?_
      rintro e w5 ⟨rfl, hb5⟩
      have hk5w := below_then HW4.out hb5
      have c05 := (hb5.cell (p := ⟨b, off + 0 * 2, none⟩) hbw).trans c0
      rw [Nat.zero_mul, Nat.add_zero] at c05
      have hix5 := hix0.below hb5
      have HT5 : Hid (OwnZ w5 w0.heap.size wr.heap.size u12 (ss.map fun s => (rowT z ks agg cn s, (1 : Int)))) := HT4.out.keep' hb5
      have HB5 : Hid (Below w4.heap.size w4 w5) := hb5
      have hs5 := hb5.size
      have hbw5 : b < w5.heap.size := by omega
      have hposi : (0 : Int) < (gt.length : Int) := by omega
      obtain ⟨m, HM⟩ : ∃ m, Hid (m = gt.length) := ⟨_, rfl⟩
      rw [← HM.out] at hpos hlim hposi ⊢
      clear hcall c0 hix0 hb5 hmt hen0 hen hrg
      go_wp2_with fail
      refine (cellFits_any nv _).mono ?_
      rintro e w5' ⟨rfl, hw5⟩
      obtain rfl := hw5.symm
      cases hcb : cellB nv with
      | false =>
        obtain ⟨hd, hos⟩ := HNO.out (htno hcb)
        have HK : Hid (Below w.heap.size w w5) := hk5w
        subst hd hos
        clear hcb htno hix5 c05 hk5w
        go_wp2
        go_ret2
        exact ⟨_, rfl, nil_ownZ _ _, HK.out⟩
      | true =>
        have HCE3 := HCE2.out hcb
        have HCE4 : Hid (∀ t ∈ ss ++ [s], cellB (aggZ agg cn (grpT z ks t)) = true) := HCE3
        obtain ⟨ra, rn, rc, rfl⟩ := hix5.shape
        have hku := HK2.out.below hk5w
        clear htno HCE3 HCE2 hk5w
        go_wp2_with fail
        refine (cellsAt_any _ _ x0 ks _ hix5 hku hkk (by omega)).mono ?_
        rintro e w6 ⟨v6, rfl, O6, hb6⟩
        have hs6 := hb6.size
        have hO6 := O6.keep' (below_alloc (w := w6) (.cells #[.int .i64 nv] 3))
        have hkl6 : (keyZ x0 ks).length ≤ 6 := by rw [keyZ_len]; omega
        have HB6 : Hid (Below w5.heap.size w5 w6) := hb6
        clear hix5 hku c05 hb6 O6 hkk hcb
        have hb67 : Below w5.heap.size w5 (w6.alloc (.cells #[.int .i64 nv] 3)) := HB6.out.trans ((below_alloc (w := w6) (.cells #[.int .i64 nv] 3)).mono hs6)
        have hs67 : w5.heap.size ≤ (w6.alloc (.cells #[.int .i64 nv] 3)).heap.size := by simp; omega
        have key7 : ∀ v7 w7, w7.ownsRow w5.heap.size 3 1 v7 (keyZ x0 ks ++ [nv]).length ((keyZ x0 ks ++ [nv]).map (Value.int .i64)) → (w6.alloc (.cells #[.int .i64 nv] 3)).grownBy w7 v6.ownBlock → Own w7 w5.heap.size w7.heap.size v7 (rowT z ks agg cn s) ∧ Below w5.heap.size w5 w7 := fun v7 w7 hown7 hg7 => by
          rw [HROW.out]
          exact ⟨own_new (xs := keyZ x0 ks ++ [nv]) (by simpa using hown7) (by simp; omega), hb67.grown hg7 hs67 (fun i hi' => (hO6.1.lt i hi').1)⟩
        have HK7 : Hid _ := key7
        clear hb67 key7
        go_wp2_with (first
          | (at_builtin; refine wpList_append_ints rfl _ _ 24 rfl w5.heap.size 3 i1 Tryz.underlying24 hi1 hj0 hj1 hj2 v6 _ _ rfl hO6.1 _ [nv] rfl (int_litK w6 nv) (by simp; omega) (by simp; omega) ?_; intro v7 w7 hown7 hg7 _; obtain ⟨O7, hb7⟩ := HK7.out v7 w7 (by simpa using hown7) hg7; have hs7 := hb7.size; obtain ⟨ra7, rn7, rc7, rfl⟩ := O7.ints.shape; obtain ⟨ps, hpsl, hspW, hprW, hfin⟩ := (HT5.out.keep' hb7).ready 1 O7 (by omega) (by omega) (by omega) (by simp; omega); have hpl2 : ps.length ≤ 100 := by (rw [hpsl, List.length_map]; omega))
          | (at_builtin; go_loud (refine wpList_append_pairs rfl _ _ 23 rfl w0.heap.size 36 i0 Tryz.underlying23 hi0 hz0 hz1 hz2 u12 ps rfl hspW _ _ rfl hprW (by simp; omega) (by simp; omega) ?_; intro v8 w8 hown8 hg8 _)))
        obtain ⟨Z8, B8⟩ := hfin v8 w8 hown8 hg8
        have HZ8 : Hid (OwnZ w8 w0.heap.size w8.heap.size v8 ((ss ++ [s]).map fun s => (rowT z ks agg cn s, (1 : Int)))) := by rw [Hid, List.map_append]; exact Z8
        have hB48 : Below w0.heap.size w4 w8 := (HB5.out.mono (by omega)).trans ((hb7.mono (by omega)).trans B8)
        have HG8 : Hid (w0.grownBy w8 (some w3.heap.size)) := grown_thenB HG4.out hB48
        have HRG8 : Hid (w8.ranges Tryz.prog 9 heldT w2.heap.size w3.heap.size n D (fun z => left z && !z.sameKey (.string s)) cnt1) := ranges_at HRG4.out (hB48.block _ (by omega)) (hB48.block _ (by omega))
        clear hfin hown8 hg8 hspW hprW Z8 B8 hB48 O7 hb7 hO6 hown7 hg7 HK7
        go_wp2
        go_roundw
        case rel => exact ⟨_, cnt1, ss ++ [s], HRG8.out, HGOT2.out, by have := HLT.out; simp; omega, HZ8.out, HG8.out, HCE4.out⟩
        case measure => rw [HRG8.out.left_eq, HRG.out.left_eq]; exact HLT.out

end Go.Proofs.YtflbdfpgaeeleaaGreatDoor

/-
  Plain facts on groups: of what is gone there are none; what is near something is grouped alone as among all; by how much groups are turned.
-/
namespace Go.Proofs.YtflbdfpgaeeleaaGreatDoor
open Go.RowKit

theorem grp_parts {z : List It} {ks : List Int} {agg col : Int} (h : grpOk z ks agg col = true) : zOkB z = true ∧ aggB agg = true ∧ keysB ks 6 = true ∧ haveAll z ks = true ∧ hasAt col z = true ∧ (∀ p ∈ z, toldG z ks agg col.toNat p = true) ∧ grpOut z ks agg col = grpTo (rowG z ks agg col.toNat) z := by
  have h0 := h
  unfold grpOk grpCan grpTold at h0
  simp only [Bool.and_eq_true] at h0
  obtain ⟨⟨⟨⟨hz, ha⟩, hk6⟩, hkz, hcz⟩, ht⟩ := h0
  rw [List.all_eq_true] at ht
  exact ⟨hz, ha, hk6, hkz, hcz, ht, by unfold grpOut; rw [h]; rfl⟩
theorem grp_mk {z : List It} {ks : List Int} {agg col : Int} (hz : zOkB z = true) (ha : aggB agg = true) (hk6 : keysB ks 6 = true) (hkz : haveAll z ks = true) (hcz : hasAt col z = true) (ht : ∀ p ∈ z, toldG z ks agg col.toNat p = true) : grpOk z ks agg col = true := by
  unfold grpOk grpCan grpTold
  rw [hz, ha, hk6, hkz, hcz, List.all_eq_true.2 ht]; rfl
/-- Of what is all gone there is no group. -/
theorem grpTo_gone {R : It → List Int} : ∀ {z : List It}, (∀ p ∈ z, p.2 < 0) → grpTo R z = []
  | [], _ => rfl
  | p :: z, h => by
    have ih : z.foldl (oneG R) [] = [] := grpTo_gone (R := R) (z := z) (fun q hq => h q (by simp [hq]))
    unfold grpTo
    rw [List.foldl_cons]
    have : oneG R [] p = [] := by unfold oneG; rw [if_pos (h p (by simp))]
    rw [this]; exact ih
theorem grp_gone {z y : List It} {ks : List Int} {agg col : Int} (h : grpOk z ks agg col = true) (hy : zOkB y = true) (hneg : ∀ p ∈ y, p.2 < 0) (hrow : ∀ p ∈ y, ∃ q ∈ z, q.1 = p.1) : grpOk y ks agg col = true ∧ grpOut y ks agg col = [] := by
  obtain ⟨hz, ha, hk6, hkz, hcz, _, _⟩ := grp_parts h
  have hok : grpOk y ks agg col = true := grp_mk hy ha hk6 (have_iff.2 fun k hk p hp => by
    obtain ⟨q, hq, e⟩ := hrow p hp
    rw [← e]; exact have_iff.1 hkz k hk q hq) (has_iff.2 fun p hp => by
    obtain ⟨q, hq, e⟩ := hrow p hp
    rw [← e]; exact has_iff.1 hcz q hq) (fun p hp => by unfold toldG; rw [decide_eq_true (hneg p hp)]; rfl)
  exact ⟨hok, by rw [(grp_parts hok).2.2.2.2.2.2]; exact grpTo_gone hneg⟩
/-- With all that is there taken away no group is there. -/
theorem grp_back {z : List It} {ks : List Int} {agg col : Int} (h : grpOk z ks agg col = true) : grpOk (negZ (posZ z)) ks agg col = true ∧ grpOut (negZ (posZ z)) ks agg col = [] := by
  have hz := (grp_parts h).1
  have hmem : ∀ p ∈ negZ (posZ z), p.2 < 0 ∧ ∃ q ∈ z, q.1 = p.1 := fun p hp => by
    unfold negZ posZ at hp
    obtain ⟨q, hq, rfl⟩ := List.mem_map.1 hp
    obtain ⟨x, hx, rfl⟩ := List.mem_map.1 hq
    exact ⟨by show (-1 : Int) < 0; decide, x, (List.mem_filter.1 hx).1, rfl⟩
  exact grp_gone h (by rw [zOk_neg]; exact zOk_posD hz) (fun p hp => (hmem p hp).1) (fun p hp => (hmem p hp).2)
theorem grp_none {z : List It} {ks : List Int} {agg col : Int} (h : grpOk z ks agg col = true) : grpOk [] ks agg col = true ∧ grpOut [] ks agg col = [] :=
  grp_gone h rfl (fun p hp => by simp at hp) (fun p hp => by simp at hp)
theorem zOk_lost {z : List It} (h : zOkB z = true) : zOkB (z.filter fun p => decide (p.2 < 0)) = true :=
  zOk_mkG (by have := zOk_le h; have := List.length_filter_le (fun p : It => decide (p.2 < 0)) z; omega) (fun p hp => zOk_item h (List.mem_filter.1 hp).1) ((zOk_srt h).sublist List.filter_sublist)
theorem grp_lost {z : List It} {ks : List Int} {agg col : Int} (h : grpOk z ks agg col = true) : grpOk (z.filter fun p => decide (p.2 < 0)) ks agg col = true ∧ grpOut (z.filter fun p => decide (p.2 < 0)) ks agg col = [] :=
  grp_gone h (zOk_lost (grp_parts h).1) (fun p hp => by simpa using (List.mem_filter.1 hp).2) (fun p hp => ⟨p, (List.mem_filter.1 hp).1, rfl⟩)

/-- What is kept by its row. -/
theorem getZ_keep (f : List Int → Bool) (q : List Int) : ∀ zs : List It, getZ (zs.filter fun p => f p.1) q = if f q then getZ zs q else 0
  | [] => by simp [getZ_nil]
  | p :: zs => by
    have ih := getZ_keep f q zs
    rw [List.filter_cons]
    by_cases hp : f p.1 = true
    · rw [if_pos hp, getZ_cons, getZ_cons, ih]
      by_cases e : p.1 = q
      · rw [if_pos e, if_pos e, if_pos (by rw [← e]; exact hp)]
      · rw [if_neg e, if_neg e]
    · rw [if_neg hp, ih, getZ_cons]
      by_cases e : p.1 = q
      · rw [if_pos e, if_neg (by rw [← e]; exact hp), if_neg (by rw [← e]; exact hp)]
      · rw [if_neg e]
def keyNear (d : List It) (ks key : List Int) : Bool := d.any fun q => decide (keyZ q.1 ks = key)
theorem isNear_key (d : List It) (ks r : List Int) : isNear d ks r = keyNear d ks (keyZ r ks) := rfl
/-- A group that is near is in what is near as among all; others are not. -/
theorem grp_near (z d : List It) (ks key : List Int) : grpZ (nearZ z d ks) ks key = if keyNear d ks key then grpZ z ks key else [] := by
  unfold grpZ nearZ
  rw [List.filter_filter]
  by_cases h : keyNear d ks key = true
  · rw [if_pos h]
    refine List.filter_congr fun p _ => ?_
    by_cases e : keyZ p.1 ks = key
    · rw [isNear_key, e, h]; simp
    · rw [decide_eq_false e]; simp
  · rw [if_neg h, List.filter_eq_nil_iff]
    intro p _ hc
    simp only [Bool.and_eq_true, decide_eq_true_eq] at hc
    rw [isNear_key, hc.1.2] at hc
    exact h hc.2
/-- What is turned elsewhere leaves a group as it was. -/
theorem grp_far {z d : List It} {ks key : List Int} (hz : zOkB z = true) (hd : zOkB d = true) (h : keyNear d ks key = false) : grpZ (addZ z d) ks key = grpZ z ks key := by
  have split : ∀ y : List It, grpZ y ks key = (y.filter fun p => decide (keyZ p.1 ks = key)).filter fun p => decide (0 < p.2) := fun y => by
    unfold grpZ; rw [List.filter_filter]
  rw [split, split]
  congr 1
  have sz := zOk_srt hz
  have nz := zOk_nz hz
  refine canon ((srt_add sz).sublist List.filter_sublist) (fun p hp => nz_add nz p (List.mem_filter.1 hp).1) (sz.sublist List.filter_sublist) (fun p hp => nz p (List.mem_filter.1 hp).1) fun q => ?_
  rw [getZ_keep (fun r => decide (keyZ r ks = key)), getZ_keep (fun r => decide (keyZ r ks = key)), getZ_add sz (zOk_srt hd)]
  by_cases e : keyZ q ks = key
  · rw [if_pos (decide_eq_true e), if_pos (decide_eq_true e)]
    have : getZ d q = 0 := getZ_zero fun p hp e2 => by
      unfold keyNear at h
      rw [List.any_eq_false] at h
      exact h p hp (by rw [e2]; exact decide_eq_true e)
    omega
  · rw [if_neg (by simpa using e), if_neg (by simpa using e)]

end Go.Proofs.YtflbdfpgaeeleaaGreatDoor

/-
  Plain facts on groups: which rows they have, a row a key.
-/
namespace Go.Proofs.YtflbdfpgaeeleaaGreatDoor
open Go.RowKit
set_option linter.unusedVariables false

def b2i (b : Bool) : Int := if b then 1 else 0
theorem hasG_iff {R : It → List Int} {zs : List It} {q : List Int} : hasG R zs q = true ↔ ∃ p ∈ zs, ¬ p.2 < 0 ∧ R p = q := by
  constructor
  · exact hasG_mem
  · rintro ⟨p, hp, h1, h2⟩
    unfold hasG
    rw [List.any_eq_true]
    exact ⟨p, hp, by simp [h2]; omega⟩
theorem hasG_eq {R S : It → List Int} {zs ys : List It} {q : List Int} (h1 : ∀ p ∈ zs, ¬ p.2 < 0 → R p = q → ∃ r ∈ ys, ¬ r.2 < 0 ∧ S r = q) (h2 : ∀ p ∈ ys, ¬ p.2 < 0 → S p = q → ∃ r ∈ zs, ¬ r.2 < 0 ∧ R r = q) : hasG R zs q = hasG S ys q := by
  rw [Bool.eq_iff_iff, hasG_iff, hasG_iff]
  constructor
  · rintro ⟨p, hp, a, b⟩
    exact h1 p hp a b
  · rintro ⟨p, hp, a, b⟩
    exact h2 p hp a b
/-- Whether the groups of z have this row. -/
def hG (z : List It) (ks : List Int) (agg : Int) (col : Nat) (q : List Int) : Bool := hasG (rowG z ks agg col) z q
theorem rowG_key {z : List It} {ks : List Int} {agg : Int} {col : Nat} {p : It} {q : List Int} (h : rowG z ks agg col p = q) : q.take ks.length = keyZ p.1 ks := by
  rw [← h]
  unfold rowG
  rw [List.take_append_of_le_length (by rw [keyZ_len]; exact Nat.le_refl _), List.take_of_length_le (by rw [keyZ_len]; exact Nat.le_refl _)]
theorem mem_getZ {r : List Int} {y : Int} (hy : y ≠ 0) : ∀ {z : List It}, getZ z r = y → (r, y) ∈ z
  | [], h => by rw [getZ_nil] at h; exact absurd h.symm hy
  | p :: z, h => by
    rw [getZ_cons] at h
    by_cases e : p.1 = r
    · rw [if_pos e] at h
      rw [← e, ← h]
      exact List.mem_cons_self ..
    · rw [if_neg e] at h
      exact List.mem_cons_of_mem _ (mem_getZ hy h)
theorem isG_out {z : List It} {ks : List Int} {agg col : Int} (h : grpOk z ks agg col = true) : Srt (grpOut z ks agg col) ∧ ∀ q, getZ (grpOut z ks agg col) q = b2i (hasG (rowG z ks agg col.toNat) z q) := by
  obtain ⟨_, _, _, _, _, _, e⟩ := grp_parts h
  rw [e]
  have := isG_to (rowG z ks agg col.toNat) z
  exact ⟨this.1, fun q => by rw [this.2.2 q]; rfl⟩
/-- As many as there are keys. -/
theorem len_by {f g : It → List Int} : ∀ {a b : List It}, a.Pairwise (fun x y => f x ≠ f y) → (∀ p ∈ a, ∃ q ∈ b, g q = f p) → a.length ≤ b.length
  | [], _, _, _ => Nat.zero_le _
  | p :: a, b, hp, h => by
    obtain ⟨h1, h2⟩ := List.pairwise_cons.1 hp
    have hlt : (b.filter fun q => decide (g q ≠ f p)).length < b.length := by
      rw [List.length_filter_lt_length_iff_exists]
      obtain ⟨q, hq, e⟩ := h p (List.mem_cons_self ..)
      exact ⟨q, hq, by simp [e]⟩
    have := len_by (a := a) (b := b.filter fun q => decide (g q ≠ f p)) h2 fun x hx => by
      obtain ⟨q, hq, e⟩ := h x (List.mem_cons_of_mem _ hx)
      exact ⟨q, List.mem_filter.2 ⟨hq, by rw [e]; exact decide_eq_true (fun e2 => h1 x hx e2.symm)⟩, e⟩
    simp only [List.length_cons]
    omega
theorem grp_zok {z : List It} {ks : List Int} {agg col : Int} (h : grpOk z ks agg col = true) : zOkB (grpOut z ks agg col) = true := by
  obtain ⟨hz, _, hk6, hkz, _, ht, e⟩ := grp_parts h
  rw [e]
  exact grpTo_ok hz hk6 hkz (fun p hp => hp) (zOk_le hz) ht
theorem grp_zokA (z : List It) (ks : List Int) (agg col : Int) : zOkB (grpOut z ks agg col) = true := by
  cases h : grpOk z ks agg col with
  | false => rw [grp_not h]; exact zOk_nil
  | true => exact grp_zok h
theorem grp_row {z : List It} {ks : List Int} {agg col : Int} (h : grpOk z ks agg col = true) {x : It} (hx : x ∈ grpOut z ks agg col) : x.2 = 1 ∧ ∃ p ∈ z, ¬ p.2 < 0 ∧ rowG z ks agg col.toNat p = x.1 := by
  rw [(grp_parts h).2.2.2.2.2.2] at hx
  have := (isG_to (rowG z ks agg col.toNat) z).mem hx
  exact ⟨this.1, hasG_mem this.2⟩
theorem rowG_same {z : List It} {ks : List Int} {agg : Int} {col : Nat} {p q : It} (h : keyZ p.1 ks = keyZ q.1 ks) : rowG z ks agg col p = rowG z ks agg col q := by
  unfold rowG; rw [h]
theorem grp_keys {z : List It} {ks : List Int} {agg col : Int} (h : grpOk z ks agg col = true) : (grpOut z ks agg col).Pairwise fun x y => x.1.take ks.length ≠ y.1.take ks.length := by
  have S : Srt (grpOut z ks agg col) := zOk_srt (grp_zok h)
  refine List.Pairwise.imp_of_mem (fun {x y} hx hy hlt e => ?_) S
  obtain ⟨_, p, _, _, hp⟩ := grp_row h hx
  obtain ⟨_, q, _, _, hq⟩ := grp_row h hy
  refine ordL_ne hlt ?_
  rw [rowG_key hp, rowG_key hq] at e
  rw [← hp, ← hq, rowG_same e]
theorem neg_mem {d : List It} {p : It} (h : p ∈ negZ d) : ∃ q ∈ d, q.1 = p.1 := by
  unfold negZ at h
  obtain ⟨q, hq, rfl⟩ := List.mem_map.1 h
  exact ⟨q, hq, rfl⟩
theorem has_of {x : Int} {y z : List It} (h : hasAt x z = true) (hr : ∀ p ∈ y, ∃ q ∈ z, q.1 = p.1) : hasAt x y = true := has_iff.2 fun p hp => by
  obtain ⟨q, hq, e⟩ := hr p hp
  rw [← e]; exact has_iff.1 h q hq
theorem have_of {ks : List Int} {y z : List It} (h : haveAll z ks = true) (hr : ∀ p ∈ y, ∃ q ∈ z, q.1 = p.1) : haveAll y ks = true := have_iff.2 fun k hk p hp => by
  obtain ⟨q, hq, e⟩ := hr p hp
  rw [← e]; exact have_iff.1 h k hk q hq

end Go.Proofs.YtflbdfpgaeeleaaGreatDoor

/-
  Plain facts on groups: a row for each key, in the order of the keys; what is there alone, the least and the most, all groups together.
-/
namespace Go.Proofs.YtflbdfpgaeeleaaGreatDoor
open Go.RowKit
set_option linter.unusedVariables false

theorem ordL_front : ∀ {a b : List Int} (x y : List Int), a.length = b.length → ordL a b = -1 → ordL (a ++ x) (b ++ y) = -1
  | [], [], _, _, _, h => by simp [ordL] at h
  | [], _ :: _, _, _, hl, _ => by simp at hl
  | _ :: _, [], _, _, hl, _ => by simp at hl
  | p :: a, q :: b, x, y, hl, h => by
    rw [List.cons_append, List.cons_append]
    unfold ordL at h ⊢
    by_cases h1 : p < q
    · rw [if_pos h1]
    · rw [if_neg h1] at h ⊢
      by_cases h2 : q < p
      · rw [if_pos h2] at h; simp at h
      · rw [if_neg h2] at h ⊢
        exact ordL_front x y (by simpa using hl) h
/-- The keys of what is there, in order, each once. -/
def keysOf (z : List It) (ks : List Int) : List (List Int) := (grpTo (fun p => keyZ p.1 ks) z).map (·.1)
theorem keysOf_mem {z : List It} {ks key : List Int} : key ∈ keysOf z ks ↔ ∃ p ∈ z, ¬ p.2 < 0 ∧ keyZ p.1 ks = key := by
  have h := isG_to (fun p : It => keyZ p.1 ks) z
  constructor
  · intro hk
    obtain ⟨x, hx, rfl⟩ := List.mem_map.1 hk
    exact hasG_mem (h.mem hx).2
  · intro hk
    have h1 := h.2.2 key
    rw [hasG_iff.2 hk, if_pos rfl] at h1
    exact List.mem_map.2 ⟨(key, 1), mem_getZ (by decide) h1, rfl⟩
theorem keysOf_len {z : List It} {ks key : List Int} (h : key ∈ keysOf z ks) : key.length = ks.length := by
  obtain ⟨p, _, _, rfl⟩ := keysOf_mem.1 h
  exact keyZ_len _ _
theorem keysOf_srt (z : List It) (ks : List Int) : (keysOf z ks).Pairwise fun a b => ordL a b = -1 := by
  unfold keysOf
  rw [List.pairwise_map]
  exact (isG_to (fun p : It => keyZ p.1 ks) z).1
/-- What is told of a key. -/
def atKey (z : List It) (ks : List Int) (agg : Int) (col : Nat) (key : List Int) : It := (key ++ [aggZ agg col (grpZ z ks key)], 1)
theorem grp_shape {z : List It} {ks : List Int} {agg col : Int} (h : grpOk z ks agg col = true) : grpOut z ks agg col = (keysOf z ks).map (atKey z ks agg col.toNat) := by
  have zo := grp_zok h
  have S : Srt ((keysOf z ks).map (atKey z ks agg col.toNat)) := by
    unfold Srt
    rw [List.pairwise_map]
    refine List.Pairwise.imp_of_mem (fun {a b} ha hb hlt => ?_) (keysOf_srt z ks)
    exact ordL_front _ _ ((keysOf_len ha).trans (keysOf_len hb).symm) hlt
  have N : Nz ((keysOf z ks).map (atKey z ks agg col.toNat)) := fun p hp => by
    obtain ⟨k, _, rfl⟩ := List.mem_map.1 hp
    show (1 : Int) ≠ 0
    decide
  refine canon (zOk_srt zo) (zOk_nz zo) S N fun q => ?_
  rw [(isG_out h).2]
  cases hh : hasG (rowG z ks agg col.toNat) z q with
  | true =>
    obtain ⟨p, hp, hw, e⟩ := hasG_mem hh
    have hm : atKey z ks agg col.toNat (keyZ p.1 ks) ∈ (keysOf z ks).map (atKey z ks agg col.toNat) := List.mem_map.2 ⟨_, keysOf_mem.2 ⟨p, hp, hw, rfl⟩, rfl⟩
    have hg := getZ_selfD S _ hm
    have e2 : (atKey z ks agg col.toNat (keyZ p.1 ks)).1 = q := e
    rw [e2] at hg
    rw [hg]; rfl
  | false =>
    symm
    refine getZ_zero fun x hx e => ?_
    obtain ⟨k, hk, rfl⟩ := List.mem_map.1 hx
    obtain ⟨p, hp, hw, rfl⟩ := keysOf_mem.1 hk
    have : hasG (rowG z ks agg col.toNat) z q = true := hasG_iff.2 ⟨p, hp, hw, e⟩
    rw [hh] at this
    exact Bool.false_ne_true this
theorem grp_many {z : List It} {ks : List Int} {agg col : Int} (h : grpOk z ks agg col = true) : (grpOut z ks agg col).length = (keysOf z ks).length := by
  rw [grp_shape h, List.length_map]
theorem grp_at {z : List It} {ks : List Int} {agg col : Int} (h : grpOk z ks agg col = true) {k : Nat} (hk : k < (keysOf z ks).length) : (grpOut z ks agg col).getD k ([], 0) = atKey z ks agg col.toNat ((keysOf z ks).getD k []) := by
  rw [grp_shape h]
  simp [List.getD, hk]
theorem keysOf_at {z : List It} {ks : List Int} {k : Nat} (hk : k < (keysOf z ks).length) : (keysOf z ks).getD k [] ∈ keysOf z ks := by
  simp [List.getD, hk]
/-- What is there. -/
def thereZ (z : List It) : List It := z.filter fun p => decide (0 < p.2)
theorem there_take {z : List It} {k : Nat} (hk : k < z.length) : thereZ (z.take (k + 1)) = thereZ (z.take k) ++ (if 0 < (z.getD k ([], 0)).2 then [((z.getD k ([], 0)).1, (z.getD k ([], 0)).2)] else []) := by
  unfold thereZ
  have e : z.getD k ([], 0) = z[k] := by simp [List.getD, hk]
  rw [List.take_succ_eq_append_getElem hk, List.filter_append, e, List.filter_cons, List.filter_nil]
  by_cases h : 0 < z[k].2
  · rw [if_pos h, if_pos (decide_eq_true h)]
  · rw [if_neg h, if_neg (by simpa using h)]
theorem zOk_there {z : List It} (h : zOkB z = true) : zOkB (thereZ z) = true :=
  zOk_mkG (by have := zOk_le h; have := List.length_filter_le (fun p : It => decide (0 < p.2)) z; unfold thereZ; omega) (fun p hp => zOk_item h (List.mem_filter.1 hp).1) ((zOk_srt h).sublist List.filter_sublist)
theorem grpZ_there (z : List It) (ks key : List Int) : grpZ (thereZ z) ks key = grpZ z ks key := by
  unfold grpZ thereZ
  rw [List.filter_filter]
  refine List.filter_congr fun p _ => ?_
  cases decide (0 < p.2) <;> simp
theorem keysOf_there {z : List It} (h : zOkB z = true) (ks : List Int) : keysOf (thereZ z) ks = keysOf z ks := by
  have hp : ∀ p ∈ z, (¬ p.2 < 0 ↔ 0 < p.2) := fun p hp => by have := zOk_nz h p hp; omega
  unfold keysOf
  congr 1
  have a := isG_to (fun p : It => keyZ p.1 ks) (thereZ z)
  have b := isG_to (fun p : It => keyZ p.1 ks) z
  refine canon a.1 a.2.1 b.1 b.2.1 fun q => ?_
  rw [a.2.2, b.2.2]
  have : hasG (fun p : It => keyZ p.1 ks) (thereZ z) q = hasG (fun p : It => keyZ p.1 ks) z q := by
    refine hasG_eq (fun p hp' h1 h2 => ⟨p, (List.mem_filter.1 hp').1, h1, h2⟩) (fun p hp' h1 h2 => ⟨p, List.mem_filter.2 ⟨hp', by simpa using (hp p hp').1 h1⟩, h1, h2⟩)
  rw [this]
theorem told_of {z : List It} {ks : List Int} {agg : Int} {col : Nat} (h : ∀ key ∈ keysOf z ks, cellB (aggZ agg col (grpZ z ks key)) = true) : ∀ p ∈ z, toldG z ks agg col p = true := fun p hp => by
  unfold toldG
  by_cases hw : p.2 < 0
  · rw [decide_eq_true hw]; rfl
  · rw [h _ (keysOf_mem.2 ⟨p, hp, hw, rfl⟩), Bool.or_true]
theorem of_told {z : List It} {ks : List Int} {agg : Int} {col : Nat} (h : ∀ p ∈ z, toldG z ks agg col p = true) : ∀ key ∈ keysOf z ks, cellB (aggZ agg col (grpZ z ks key)) = true := fun key hk => by
  obtain ⟨p, hp, hw, rfl⟩ := keysOf_mem.1 hk
  have := h p hp
  unfold toldG at this
  rw [decide_eq_false hw, Bool.false_or] at this
  exact this
theorem grp_there {z : List It} {ks : List Int} {agg col : Int} (h : grpOk z ks agg col = true) : grpOk (thereZ z) ks agg col = true ∧ grpOut (thereZ z) ks agg col = grpOut z ks agg col := by
  obtain ⟨hz, ha, hk6, hkz, hcz, ht, _⟩ := grp_parts h
  have hsub : ∀ p ∈ thereZ z, ∃ q ∈ z, q.1 = p.1 := fun p hp => ⟨p, (List.mem_filter.1 hp).1, rfl⟩
  have hok : grpOk (thereZ z) ks agg col = true := grp_mk (zOk_there hz) ha hk6 (have_of hkz hsub) (has_of hcz hsub) (told_of fun key hk => by
    rw [keysOf_there hz] at hk
    rw [grpZ_there]
    exact of_told ht key hk)
  refine ⟨hok, ?_⟩
  rw [grp_shape hok, grp_shape h, keysOf_there hz]
  refine List.map_congr_left fun key _ => ?_
  unfold atKey
  rw [grpZ_there]
theorem grpZ_mem {z : List It} {ks key : List Int} (h : key ∈ keysOf z ks) (hz : zOkB z = true) : ∃ p, p ∈ grpZ z ks key := by
  obtain ⟨p, hp, hw, rfl⟩ := keysOf_mem.1 h
  have := zOk_nz hz p hp
  exact ⟨p, List.mem_filter.2 ⟨hp, by simp; omega⟩⟩
theorem fold_min_le : ∀ (g : List It) (col : Nat) (n : Int), g.foldl (fun n q => min n (q.1.getD col 0)) n ≤ n
  | [], _, _ => Int.le_refl _
  | p :: g, col, n => by
    rw [List.foldl_cons]
    have := fold_min_le g col (min n (p.1.getD col 0))
    omega
theorem fold_max_le : ∀ (g : List It) (col : Nat) (n : Int), n ≤ g.foldl (fun n q => max n (q.1.getD col 0)) n
  | [], _, _ => Int.le_refl _
  | p :: g, col, n => by
    rw [List.foldl_cons]
    have := fold_max_le g col (max n (p.1.getD col 0))
    omega
theorem fold_min_mem : ∀ (g : List It) (col : Nat) (n : Int), g.foldl (fun n q => min n (q.1.getD col 0)) n = n ∨ ∃ p ∈ g, g.foldl (fun n q => min n (q.1.getD col 0)) n = p.1.getD col 0
  | [], _, _ => .inl rfl
  | p :: g, col, n => by
    rw [List.foldl_cons]
    rcases fold_min_mem g col (min n (p.1.getD col 0)) with h | ⟨q, hq, h⟩
    · rw [h]
      by_cases hc : n ≤ p.1.getD col 0
      · exact .inl (by omega)
      · exact .inr ⟨p, List.mem_cons_self .., by omega⟩
    · exact .inr ⟨q, List.mem_cons_of_mem _ hq, h⟩
theorem fold_max_mem : ∀ (g : List It) (col : Nat) (n : Int), g.foldl (fun n q => max n (q.1.getD col 0)) n = n ∨ ∃ p ∈ g, g.foldl (fun n q => max n (q.1.getD col 0)) n = p.1.getD col 0
  | [], _, _ => .inl rfl
  | p :: g, col, n => by
    rw [List.foldl_cons]
    rcases fold_max_mem g col (max n (p.1.getD col 0)) with h | ⟨q, hq, h⟩
    · rw [h]
      by_cases hc : p.1.getD col 0 ≤ n
      · exact .inl (by omega)
      · exact .inr ⟨p, List.mem_cons_self .., by omega⟩
    · exact .inr ⟨q, List.mem_cons_of_mem _ hq, h⟩
theorem least_mem {g : List It} (h : g ≠ []) (col : Nat) : ∃ p ∈ g, leastC col g = p.1.getD col 0 := by
  match g, h with
  | p :: g, _ =>
    rcases fold_min_mem g col (p.1.getD col 0) with h | ⟨q, hq, h⟩
    · exact ⟨p, List.mem_cons_self .., h⟩
    · exact ⟨q, List.mem_cons_of_mem _ hq, h⟩
theorem most_mem {g : List It} (h : g ≠ []) (col : Nat) : ∃ p ∈ g, mostC col g = p.1.getD col 0 := by
  match g, h with
  | p :: g, _ =>
    rcases fold_max_mem g col (p.1.getD col 0) with h | ⟨q, hq, h⟩
    · exact ⟨p, List.mem_cons_self .., h⟩
    · exact ⟨q, List.mem_cons_of_mem _ hq, h⟩
theorem least_most (g : List It) (col : Nat) : leastC col g ≤ mostC col g := by
  match g with
  | [] => exact Int.le_refl _
  | p :: g =>
    have a := fold_min_le g col (p.1.getD col 0)
    have b := fold_max_le g col (p.1.getD col 0)
    show g.foldl (fun n q => min n (q.1.getD col 0)) (p.1.getD col 0) ≤ g.foldl (fun n q => max n (q.1.getD col 0)) (p.1.getD col 0)
    omega
theorem cell_of {z : List It} {col : Int} (hz : zOkB z = true) (hc : hasAt col z = true) {p : It} (hp : p ∈ z) : cellB (p.1.getD col.toNat 0) = true := by
  obtain ⟨h0, h1⟩ := has_iff.1 hc p hp
  have hr := (zOk_item hz hp).1
  have hm : p.1.getD col.toNat 0 ∈ p.1 := by
    have : col.toNat < p.1.length := by omega
    simp [List.getD, this]
  unfold rowOkB at hr
  simp only [Bool.and_eq_true, List.all_eq_true] at hr
  exact hr.2 _ hm
/-- The least and the most can be told wherever anything can. -/
theorem grp_lm {z : List It} {ks : List Int} {agg col : Int} (h : grpOk z ks agg col = true) : grpOk z ks 2 col = true ∧ grpOk z ks 3 col = true := by
  obtain ⟨hz, ha, hk6, hkz, hcz, ht, _⟩ := grp_parts h
  refine ⟨grp_mk hz (by decide) hk6 hkz hcz (told_of fun key hk => ?_), grp_mk hz (by decide) hk6 hkz hcz (told_of fun key hk => ?_)⟩
  · obtain ⟨p, hp⟩ := grpZ_mem hk hz
    obtain ⟨q, hq, e⟩ := least_mem (List.ne_nil_of_mem hp) col.toNat
    show cellB (leastC col.toNat (grpZ z ks key)) = true
    rw [e]
    exact cell_of hz hcz (List.mem_filter.1 hq).1
  · obtain ⟨p, hp⟩ := grpZ_mem hk hz
    obtain ⟨q, hq, e⟩ := most_mem (List.ne_nil_of_mem hp) col.toNat
    show cellB (mostC col.toNat (grpZ z ks key)) = true
    rw [e]
    exact cell_of hz hcz (List.mem_filter.1 hq).1
theorem keysOf_none {z : List It} {ks : List Int} (hz : zOkB z = true) : keysOf z ks = [] ↔ thereZ z = [] := by
  constructor
  · intro h
    unfold thereZ
    rw [List.filter_eq_nil_iff]
    intro p hp hw
    have : keyZ p.1 ks ∈ keysOf z ks := keysOf_mem.2 ⟨p, hp, by simp at hw; omega, rfl⟩
    rw [h] at this
    simp at this
  · intro h
    match hk : keysOf z ks with
    | [] => rfl
    | key :: _ =>
      have : key ∈ keysOf z ks := by rw [hk]; exact List.mem_cons_self ..
      obtain ⟨p, hp⟩ := grpZ_mem this hz
      have h2 : p ∈ thereZ z := List.mem_filter.2 ⟨(List.mem_filter.1 hp).1, by have := (List.mem_filter.1 hp).2; simp at this; simp; exact this.1⟩
      rw [h] at h2
      simp at h2
theorem keysOf_le {z : List It} (ks : List Int) (hz : zOkB z = true) : (keysOf z ks).length ≤ (thereZ z).length := by
  rw [← keysOf_there hz]
  unfold keysOf
  rw [List.length_map]
  exact grpTo_len _ _
theorem keysOf_nil (z : List It) : (keysOf z []).length ≤ 1 := by
  have hs := keysOf_srt z []
  match hk : keysOf z [] with
  | [] => simp
  | [_] => simp
  | a :: b :: r =>
    rw [hk] at hs
    have h1 := (List.pairwise_cons.1 hs).1 b (List.mem_cons_self ..)
    have ha : a.length = 0 := keysOf_len (z := z) (ks := []) (by rw [hk]; simp)
    have hb : b.length = 0 := keysOf_len (z := z) (ks := []) (by rw [hk]; simp)
    rw [List.length_eq_zero_iff.1 ha, List.length_eq_zero_iff.1 hb] at h1
    simp [ordL] at h1
/-- All groups together. -/
theorem sum_keys (f : It → Int) (K : It → List Int) : ∀ {Ks : List (List Int)} {g : List It}, Ks.Pairwise (fun a b => ordL a b = -1) → (∀ p ∈ g, K p ∈ Ks) →
    (Ks.map fun key => ((g.filter fun p => decide (K p = key)).map f).sum).sum = (g.map f).sum
  | Ks, [], _, _ => by
    have : ∀ Ks : List (List Int), (Ks.map fun key => ((([] : List It).filter fun p => decide (K p = key)).map f).sum).sum = 0 := fun Ks => by
      induction Ks with
      | nil => rfl
      | cons a Ks ih => rw [List.map_cons, List.sum_cons, ih]; rfl
    rw [this Ks]; rfl
  | Ks, p :: g, hs, h => by
    have ih := sum_keys f K (Ks := Ks) (g := g) hs fun q hq => h q (List.mem_cons_of_mem _ hq)
    have one : ∀ Ks : List (List Int), Ks.Pairwise (fun a b => ordL a b = -1) →
        (Ks.map fun key => (((p :: g).filter fun q => decide (K q = key)).map f).sum).sum = (if K p ∈ Ks then f p else 0) + (Ks.map fun key => ((g.filter fun q => decide (K q = key)).map f).sum).sum := fun Ks => by
      induction Ks with
      | nil => intro _; simp
      | cons a Ks ih2 =>
        intro hs
        obtain ⟨h1, h2⟩ := List.pairwise_cons.1 hs
        rw [List.map_cons, List.sum_cons, List.map_cons, List.sum_cons, ih2 h2, List.filter_cons]
        by_cases e : K p = a
        · have hn : K p ∉ Ks := fun hm => ordL_ne (h1 _ hm) e.symm
          rw [if_pos (decide_eq_true e), if_neg hn, if_pos (by rw [e]; exact List.mem_cons_self ..), List.map_cons, List.sum_cons]
          omega
        · rw [if_neg (by simpa using e)]
          by_cases hm : K p ∈ Ks
          · rw [if_pos hm, if_pos (List.mem_cons_of_mem _ hm)]; omega
          · rw [if_neg hm, if_neg (by simp [e, hm])]; omega
    rw [one Ks hs, if_pos (h p (List.mem_cons_self ..)), ih, List.map_cons, List.sum_cons]
theorem cntG_sum : ∀ g : List It, cntG g = (g.map (·.2)).sum
  | [] => rfl
  | p :: g => by rw [cntG, cntG_sum g, List.map_cons, List.sum_cons]
theorem sumC_sum (col : Nat) : ∀ g : List It, sumC col g = (g.map fun p => p.2 * p.1.getD col 0).sum
  | [] => rfl
  | p :: g => by rw [sumC, sumC_sum col g, List.map_cons, List.sum_cons]
theorem grpZ_of (z : List It) (ks key : List Int) : grpZ z ks key = (thereZ z).filter fun p => decide (keyZ p.1 ks = key) := by
  unfold grpZ thereZ
  rw [List.filter_filter]
  refine List.filter_congr fun p _ => ?_
  rw [Bool.and_comm]
theorem there_keys {z : List It} {ks : List Int} : ∀ p ∈ thereZ z, keyZ p.1 ks ∈ keysOf z ks := fun p hp => by
  have h := List.mem_filter.1 hp
  exact keysOf_mem.2 ⟨p, h.1, by have := h.2; simp at this; omega, rfl⟩
theorem cnt_keys (z : List It) (ks : List Int) : ((keysOf z ks).map fun key => cntG (grpZ z ks key)).sum = cntG (thereZ z) := by
  rw [cntG_sum, ← sum_keys (fun p : It => p.2) (fun p => keyZ p.1 ks) (keysOf_srt z ks) there_keys]
  congr 1
  refine List.map_congr_left fun key _ => ?_
  rw [cntG_sum, grpZ_of]
theorem sum_keysC (z : List It) (ks : List Int) (col : Nat) : ((keysOf z ks).map fun key => sumC col (grpZ z ks key)).sum = sumC col (thereZ z) := by
  rw [sumC_sum, ← sum_keys (fun p : It => p.2 * p.1.getD col 0) (fun p => keyZ p.1 ks) (keysOf_srt z ks) there_keys]
  congr 1
  refine List.map_congr_left fun key _ => ?_
  rw [sumC_sum, grpZ_of]

end Go.Proofs.YtflbdfpgaeeleaaGreatDoor

/-
  The contracts of groups at a told answer.
-/
namespace Go.Proofs.YtflbdfpgaeeleaaGreatDoor
open Go.RowKit
set_option linter.unusedVariables false

theorem grpV {v kv : Value} {z os : List It} {ks : List Int} {agg col : Int} {c : Bool} {w : World} (hc : grpOk z ks agg col = c) (ho : grpOut z ks agg col = os) (ht : Tab w) (h : ItemsAt w v z) (hk : TailI w kv ks) :
    Calls Tryz.prog 6 #[v, kv, .int .i64 agg, .int .i64 col] w fun e w' => ∃ v', e = .returned (.tuple #[v', .bool c]) ∧ TailZ w' v' os ∧ Below w.heap.size w w' := by
  subst hc ho
  refine (implGroup_any v kv z ks agg col w ht h hk).mono ?_
  rintro e w' ⟨v', he, hz, hb⟩
  exact ⟨v', he, hz.tail, hb⟩
theorem specGrpV {v kv : Value} {z os : List It} {ks : List Int} {agg col : Int} {c : Bool} {w : World} (hc : grpOk z ks agg col = c) (ho : grpOut z ks agg col = os) (h : ItemsAt w v z) (hk : TailI w kv ks) :
    Calls Tryz.prog 7 #[v, kv, .int .i64 agg, .int .i64 col] w fun e w' => ∃ v', e = .returned (.tuple #[v', .bool c]) ∧ TailZ w' v' os ∧ Below w.heap.size w w' := by
  subst hc ho
  refine (specGroup_any v kv z ks agg col w h hk.1).mono ?_
  rintro e w' ⟨v', he, hz, hb⟩
  exact ⟨v', he, hz.tail, hb⟩
theorem TailZ.atV {w : World} {a : Option Addr} {n cap : Nat} {zs : List It} (h : TailZ w (.slice a n cap) zs) {k : Nat} (hk : k < zs.length) :
    ∃ b off xa xn xc, a = some ⟨b, off, none⟩ ∧ b < w.heap.size ∧ w.cell? ⟨b, off + k * 2, none⟩ = some (.slice xa xn xc) ∧ w.cell? ⟨b, off + k * 2 + 1, none⟩ = some (.int .i64 (zs.getD k ([], 0)).2) ∧ IntsAt w (.slice xa xn xc) (zs.getD k ([], 0)).1 := by
  obtain ⟨_, a', c', e, _, hc⟩ := h.items
  obtain ⟨b, off, rfl, hb, hcell⟩ := hc (fun e => by rw [e] at hk; simp at hk)
  obtain ⟨rv, c0, c1, c2⟩ := hcell k hk
  obtain ⟨xa, xn, xc, rfl⟩ := c2.shape
  simp at e
  exact ⟨b, off, xa, xn, xc, e.1, hb, c0, c1, c2⟩
theorem TailZ.shapeV {w : World} {v : Value} {zs : List It} (h : TailZ w v zs) : ∃ a c, v = .slice a zs.length c := by
  obtain ⟨_, a, c, e, _⟩ := h.items
  exact ⟨a, c, e⟩

end Go.Proofs.YtflbdfpgaeeleaaGreatDoor

/-
  Plain facts on groups: what is counted and summed of all of them, step by step, and how great it can be.
-/
namespace Go.Proofs.YtflbdfpgaeeleaaGreatDoor
open Go.RowKit
set_option linter.unusedVariables false

theorem fine_of {z g : List It} {col : Nat} (hz : zOkB z = true) (hc : hasAt col z = true) (hsub : ∀ p ∈ g, p ∈ z) (hl : g.length ≤ 100) : Fine g col :=
  ⟨hl, fun p hp => by
    have hm := hsub p hp
    obtain ⟨h0, h1⟩ := has_iff.1 hc p hm
    have hw := (zOk_item hz hm).2
    have hcell := cell_of (col := (col : Int)) hz hc hm
    simp only [Int.toNat_natCast] at hcell
    unfold wB at hw
    unfold cellB at hcell
    simp only [decide_eq_true_eq] at hw hcell
    omega⟩
theorem fine_there {z : List It} {col : Nat} (hz : zOkB z = true) (hc : hasAt col z = true) (k : Nat) : Fine (thereZ (z.take k)) col :=
  fine_of hz hc (fun p hp => List.mem_of_mem_take (List.mem_filter.1 hp).1) (by
    have h1 := zOk_le hz
    have h2 := List.length_filter_le (fun p : It => decide (0 < p.2)) (z.take k)
    have h3 : (z.take k).length ≤ z.length := List.length_take_le' ..
    unfold thereZ
    omega)
theorem fine_grp {z : List It} {col : Nat} (hz : zOkB z = true) (hc : hasAt col z = true) (ks key : List Int) : Fine (grpZ z ks key) col :=
  fine_of hz hc (fun p hp => (List.mem_filter.1 hp).1) (by
    have h1 := zOk_le hz
    have h2 := List.length_filter_le (fun p : It => decide (0 < p.2) && decide (keyZ p.1 ks = key)) z
    unfold grpZ
    omega)
theorem cnt_all {g : List It} {col : Nat} (h : Fine g col) : -1000000 ≤ cntG g ∧ cntG g ≤ 1000000 := by
  have h1 := cnt_in h g.length (Nat.le_refl _)
  rw [List.take_length] at h1
  have h2 := h.1
  omega
theorem sum_all {g : List It} {col : Nat} (h : Fine g col) : -1000000000000000 ≤ sumC col g ∧ sumC col g ≤ 1000000000000000 := by
  have h1 := sum_in h g.length (Nat.le_refl _)
  rw [List.take_length] at h1
  have h2 := h.1
  omega
theorem cnt_there {z : List It} {k : Nat} (hk : k < z.length) : cntG (thereZ (z.take (k + 1))) = cntG (thereZ (z.take k)) + (if 0 < (z.getD k ([], 0)).2 then (z.getD k ([], 0)).2 else 0) := by
  rw [there_take hk, cntG_app]
  split <;> simp [cntG]
theorem sum_there {z : List It} {k : Nat} (col : Nat) (hk : k < z.length) : sumC col (thereZ (z.take (k + 1))) = sumC col (thereZ (z.take k)) + (if 0 < (z.getD k ([], 0)).2 then (z.getD k ([], 0)).2 * (z.getD k ([], 0)).1.getD col 0 else 0) := by
  rw [there_take hk, sumC_app]
  split <;> simp [sumC]
/-- A sum over the first keys. -/
def upK (f : List Int → Int) (Ks : List (List Int)) (k : Nat) : Int := ((Ks.take k).map f).sum
theorem upK_zero (f : List Int → Int) (Ks : List (List Int)) : upK f Ks 0 = 0 := by simp [upK]
theorem upK_succ (f : List Int → Int) {Ks : List (List Int)} {k : Nat} (hk : k < Ks.length) : upK f Ks (k + 1) = upK f Ks k + f (Ks.getD k []) := by
  unfold upK
  rw [List.take_succ_eq_append_getElem hk, List.map_append, List.sum_append]
  simp [List.getD, hk]
theorem upK_all (f : List Int → Int) (Ks : List (List Int)) : upK f Ks Ks.length = (Ks.map f).sum := by
  unfold upK; rw [List.take_length]
theorem upK_in {f : List Int → Int} {Ks : List (List Int)} {B : Int} (h : ∀ key ∈ Ks, -B ≤ f key ∧ f key ≤ B) : ∀ k, k ≤ Ks.length → -(B * k) ≤ upK f Ks k ∧ upK f Ks k ≤ B * k
  | 0, _ => by rw [upK_zero]; simp
  | k + 1, hk => by
    have ih := upK_in h k (by omega)
    have h1 := h (Ks.getD k []) (by simp [List.getD, show k < Ks.length by omega])
    rw [upK_succ f (show k < Ks.length by omega)]
    have : B * ((k + 1 : Nat) : Int) = B * k + B := by rw [Int.natCast_add, Int.mul_add]; simp
    omega
theorem keysOf_100 {z : List It} (ks : List Int) (hz : zOkB z = true) : (keysOf z ks).length ≤ 100 := by
  have h1 := keysOf_le ks hz
  have h2 := List.length_filter_le (fun p : It => decide (0 < p.2)) z
  have h3 := zOk_le hz
  unfold thereZ at h1
  omega
/-- All that is counted of the groups is all that is there. -/
theorem cnt_left {z : List It} (ks : List Int) : cntG (thereZ z) - upK (fun key => cntG (grpZ z ks key)) (keysOf z ks) (keysOf z ks).length = 0 := by
  rw [upK_all, cnt_keys]; omega
theorem sum_left {z : List It} (ks : List Int) (col : Nat) : sumC col (thereZ z) - upK (fun key => sumC col (grpZ z ks key)) (keysOf z ks) (keysOf z ks).length = 0 := by
  rw [upK_all, sum_keysC]; omega
theorem cnt_small {z : List It} {col : Nat} (ks : List Int) (hz : zOkB z = true) (hc : hasAt col z = true) {k : Nat} (hk : k ≤ (keysOf z ks).length) : -101000000 ≤ cntG (thereZ z) - upK (fun key => cntG (grpZ z ks key)) (keysOf z ks) k ∧ cntG (thereZ z) - upK (fun key => cntG (grpZ z ks key)) (keysOf z ks) k ≤ 101000000 := by
  have h1 := upK_in (f := fun key => cntG (grpZ z ks key)) (Ks := keysOf z ks) (B := 1000000) (fun key _ => cnt_all (fine_grp hz hc ks key)) k hk
  have h2 := keysOf_100 ks hz
  have h3 := cnt_all (fine_there hz hc z.length)
  rw [List.take_length] at h3
  omega
theorem sum_small {z : List It} {col : Nat} (ks : List Int) (hz : zOkB z = true) (hc : hasAt col z = true) {k : Nat} (hk : k ≤ (keysOf z ks).length) : -101000000000000000 ≤ sumC col (thereZ z) - upK (fun key => sumC col (grpZ z ks key)) (keysOf z ks) k ∧ sumC col (thereZ z) - upK (fun key => sumC col (grpZ z ks key)) (keysOf z ks) k ≤ 101000000000000000 := by
  have h1 := upK_in (f := fun key => sumC col (grpZ z ks key)) (Ks := keysOf z ks) (B := 1000000000000000) (fun key _ => sum_all (fine_grp hz hc ks key)) k hk
  have h2 := keysOf_100 ks hz
  have h3 := sum_all (fine_there hz hc z.length)
  rw [List.take_length] at h3
  omega
/-- The row that is told of a key: its key, and what is reckoned. -/
theorem row_at {z : List It} {ks : List Int} {agg col : Int} (h : grpOk z ks agg col = true) {k : Nat} (hk : k < (keysOf z ks).length) :
    ((grpOut z ks agg col).getD k ([], 0)).1 = (keysOf z ks).getD k [] ++ [aggZ agg col.toNat (grpZ z ks ((keysOf z ks).getD k []))] ∧ ((grpOut z ks agg col).getD k ([], 0)).2 = 1 := by
  rw [grp_at h hk]
  exact ⟨rfl, rfl⟩
theorem row_lenK {z : List It} {ks : List Int} {agg col : Int} (h : grpOk z ks agg col = true) {k : Nat} (hk : k < (keysOf z ks).length) : ((grpOut z ks agg col).getD k ([], 0)).1.length = ks.length + 1 := by
  rw [(row_at h hk).1, List.length_append, keysOf_len (keysOf_at hk)]; rfl
theorem row_last {z : List It} {ks : List Int} {agg col : Int} (h : grpOk z ks agg col = true) {k : Nat} (hk : k < (keysOf z ks).length) : ((grpOut z ks agg col).getD k ([], 0)).1.getD ks.length 0 = aggZ agg col.toNat (grpZ z ks ((keysOf z ks).getD k [])) := by
  rw [(row_at h hk).1]
  have := keysOf_len (keysOf_at hk)
  simp [List.getD, ← this]
/-- The last cell of a row in memory. -/
theorem ints_last {w : World} {xa : Option Addr} {xn xc m : Nat} {r : List Int} (h : IntsAt w (.slice xa xn xc) r) (hl : r.length = m + 1) : ∃ b off, xa = some ⟨b, off, none⟩ ∧ xn = m + 1 ∧ b < w.heap.size ∧ w.cell? ⟨b, off + m, none⟩ = some (.int .i64 (r.getD m 0)) := by
  obtain ⟨_, a', c', e, _, hc⟩ := h
  simp only [Value.slice.injEq] at e
  obtain ⟨rfl, rfl, rfl⟩ := e
  obtain ⟨b, off, rfl, hb, hcell⟩ := hc (fun e => by rw [e] at hl; simp at hl)
  exact ⟨b, off, rfl, hl, hb, hcell m (by omega)⟩
theorem ints_atK {w : World} {xa : Option Addr} {xn xc m : Nat} {r : List Int} (h : IntsAt w (.slice xa xn xc) r) (hl : m < r.length) : ∃ b off, xa = some ⟨b, off, none⟩ ∧ xn = r.length ∧ b < w.heap.size ∧ w.cell? ⟨b, off + m, none⟩ = some (.int .i64 (r.getD m 0)) := by
  obtain ⟨_, a', c', e, _, hc⟩ := h
  simp only [Value.slice.injEq] at e
  obtain ⟨rfl, rfl, rfl⟩ := e
  obtain ⟨b, off, rfl, hb, hcell⟩ := hc (fun e => by rw [e] at hl; simp at hl)
  exact ⟨b, off, rfl, rfl, hb, hcell m hl⟩

end Go.Proofs.YtflbdfpgaeeleaaGreatDoor

/-
  Plain facts on groups of what is so of a key: they are the groups of which it is so; the least of a group is somebody's.
-/
namespace Go.Proofs.YtflbdfpgaeeleaaGreatDoor
open Go.RowKit
set_option linter.unusedVariables false

/-- Whether a cell is below 2. -/
def lessT (k : Int) : Tst := ⟨1, false, ⟨1, k, 0, 0⟩, ⟨2, 0, 0, 2⟩⟩
theorem less_val {k : Int} {r : List Int} (h : (lessT k).toldB r = true) : (lessT k).valB r = decide (r.getD k.toNat 0 < 2) := by
  unfold Tst.valB
  rw [h, Bool.true_and]
  show ((if (1 : Int) = 1 then decide ((lessT k).l.num r < (lessT k).r.num r) else decide ((lessT k).l.num r = (lessT k).r.num r)) != false) = _
  rw [if_pos rfl]
  have e1 : (lessT k).l.num r = r.getD k.toNat 0 := rfl
  have e2 : (lessT k).r.num r = 2 := rfl
  rw [e1, e2]
  simp
/-- Whether the first cell of a key is below 2. -/
def lowK (key : List Int) : Bool := decide (key.getD 0 0 < 2)
theorem low_key {k : Int} {ks r : List Int} : lowK (keyZ r (k :: ks)) = decide (r.getD k.toNat 0 < 2) := rfl
theorem grp_low {z : List It} {k : Int} {ks : List Int} (hz : ∀ p ∈ z, (lessT k).toldB p.1 = true) (key : List Int) : grpZ (whereZ (lessT k) z) (k :: ks) key = if lowK key then grpZ z (k :: ks) key else [] := by
  unfold grpZ whereZ
  rw [List.filter_filter]
  by_cases h : lowK key = true
  · rw [if_pos h]
    refine List.filter_congr fun p hp => ?_
    by_cases e : keyZ p.1 (k :: ks) = key
    · rw [less_val (hz p hp), ← low_key (ks := ks), e, h]; simp
    · rw [decide_eq_false e]; simp
  · rw [if_neg h, List.filter_eq_nil_iff]
    intro p hp hc
    simp only [Bool.and_eq_true, decide_eq_true_eq] at hc
    rw [less_val (hz p hp), ← low_key (ks := ks), hc.1.2] at hc
    exact h hc.2
theorem row_first {z : List It} {k : Int} {ks : List Int} {agg : Int} {col : Nat} {p : It} {q : List Int} (h : rowG z (k :: ks) agg col p = q) : q.getD 0 0 = (keyZ p.1 (k :: ks)).getD 0 0 := by
  rw [← h]; rfl
theorem low_has {z : List It} {k : Int} {ks : List Int} (hz : ∀ p ∈ z, (lessT k).toldB p.1 = true) (agg : Int) (col : Nat) (q : List Int) :
    hasG (rowG (whereZ (lessT k) z) (k :: ks) agg col) (whereZ (lessT k) z) q = (decide (q.getD 0 0 < 2) && hasG (rowG z (k :: ks) agg col) z q) := by
  have hrow : ∀ p : It, lowK (keyZ p.1 (k :: ks)) = true → rowG (whereZ (lessT k) z) (k :: ks) agg col p = rowG z (k :: ks) agg col p := fun p h => by
    unfold rowG; rw [grp_low hz, if_pos h]
  rw [Bool.eq_iff_iff, Bool.and_eq_true, hasG_iff, hasG_iff]
  constructor
  · rintro ⟨p, hp, h1, h2⟩
    have hm := List.mem_filter.1 hp
    have hl : lowK (keyZ p.1 (k :: ks)) = true := by rw [low_key, ← less_val (hz p hm.1)]; simpa using hm.2
    have h3 := (hrow p hl).symm.trans h2
    exact ⟨by rw [row_first h3]; exact hl, p, hm.1, h1, h3⟩
  · rintro ⟨hl, p, hp, h1, h2⟩
    rw [row_first h2] at hl
    refine ⟨p, List.mem_filter.2 ⟨hp, ?_⟩, h1, (hrow p hl).trans h2⟩
    rw [less_val (hz p hp), ← low_key (ks := ks)]
    exact hl
/-- The groups of what is so are the groups of which it is so. -/
theorem part_same {z : List It} {k : Int} {ks : List Int} {agg col : Int} (h0 : grpOk z (k :: ks) agg col = true) (h1 : whereOk (lessT k) z = true) (h2 : grpOk (whereOut (lessT k) z) (k :: ks) agg col = true) (h3 : whereOk (lessT 0) (grpOut z (k :: ks) agg col) = true) :
    grpOut (whereOut (lessT k) z) (k :: ks) agg col = whereOut (lessT 0) (grpOut z (k :: ks) agg col) := by
  obtain ⟨hz, ht, e1⟩ := where_true h1
  obtain ⟨hg, hu, e3⟩ := where_true h3
  rw [e1] at h2 ⊢
  rw [e3]
  have zo := grp_zok h2
  have zw := whereZ_ok (t := lessT 0) hg
  refine canon (zOk_srt zo) (zOk_nz zo) (zOk_srt zw) (zOk_nz zw) fun q => ?_
  rw [(isG_out h2).2, low_has ht]
  unfold whereZ
  rw [getZ_where (fun r => (lessT 0).valB r), (isG_out h0).2]
  cases hh : hasG (rowG z (k :: ks) agg col.toNat) z q with
  | false =>
    rw [Bool.and_false]
    split <;> rfl
  | true =>
    have hm : (q, 1) ∈ grpOut z (k :: ks) agg col := mem_getZ (by decide) (by rw [(isG_out h0).2, hh]; rfl)
    have hv := less_val (hu _ hm)
    simp only at hv
    rw [hv, Bool.and_true]
    have e0 : (0 : Int).toNat = 0 := rfl
    rw [e0]
    cases decide (q.getD 0 0 < 2) <;> rfl
/-- Whether an item is there, with this cell, of this group. -/
def someB (col k0 : Nat) (v h : Int) (p : It) : Bool := decide (0 < p.2) && decide (p.1.getD col 0 = v) && decide (p.1.getD k0 0 = h)
theorem least_some {z : List It} {k0 : Nat} {ks : List Int} {agg : Int} {cn : Nat} (h : grpOk z ((k0 : Int) :: ks) agg cn = true) {j : Nat} (hj : j < (keysOf z ((k0 : Int) :: ks)).length) :
    z.any (someB cn k0 (((grpOut z ((k0 : Int) :: ks) 2 cn).getD j ([], 0)).1.getD (ks.length + 1) 0) (((grpOut z ((k0 : Int) :: ks) 2 cn).getD j ([], 0)).1.getD 0 0)) = true := by
  have hl := (grp_lm h).1
  have hz := (grp_parts h).1
  have hr := (row_at hl hj).1
  have hlast := row_last hl hj
  rw [show ((k0 : Int) :: ks).length = ks.length + 1 from rfl] at hlast
  rw [hlast, hr]
  have hkm := keysOf_at hj
  obtain ⟨key, ek⟩ : ∃ key, key = (keysOf z ((k0 : Int) :: ks)).getD j [] := ⟨_, rfl⟩
  rw [← ek] at hkm ⊢
  obtain ⟨p, hp⟩ := grpZ_mem hkm hz
  obtain ⟨q, hq, e⟩ := least_mem (List.ne_nil_of_mem hp) cn
  have hqm := List.mem_filter.1 hq
  simp only [Bool.and_eq_true, decide_eq_true_eq] at hqm
  rw [List.any_eq_true]
  refine ⟨q, hqm.1, ?_⟩
  unfold someB
  rw [decide_eq_true hqm.2.1]
  have h1 : aggZ 2 (cn : Int).toNat (grpZ z ((k0 : Int) :: ks) key) = q.1.getD cn 0 := e
  have h2 : (key ++ [aggZ 2 (cn : Int).toNat (grpZ z ((k0 : Int) :: ks) key)]).getD 0 0 = q.1.getD k0 0 := by
    rw [← hqm.2.2]; rfl
  rw [h1, decide_eq_true rfl]
  rw [h1] at h2
  rw [h2, decide_eq_true rfl]; rfl
theorem any_take {f : It → Bool} {z : List It} {k : Nat} (hk : k < z.length) : (z.take (k + 1)).any f = ((z.take k).any f || f (z.getD k ([], 0))) := by
  rw [List.take_succ_eq_append_getElem hk, List.any_append]
  simp [List.getD, hk]

end Go.Proofs.YtflbdfpgaeeleaaGreatDoor

/-
  From the condition that the library's tables and the error of chapter 3 are laid to what groups and tests read.
-/
namespace Go.Proofs.YtflbdfpgaeeleaaGreatDoor
open Go.RowKit

theorem part_of_laid {W : World} (h : laidMet Tryz.prog [("math/bits.deBruijn32tab", Rows.laid_math_bits_deBruijn32tab), ("math/bits.deBruijn64tab", Rows.laid_math_bits_deBruijn64tab), ("internal/strconv.uint64pow10", Rows.laid_internal_strconv_uint64pow10), ("loop.example/milldam/impl.errNotReckoned", Rows.laid_loop_example_milldam_impl_errNotReckoned)] W) : Tab W ∧ HasSent W :=
  ⟨Lib.tabIs_of_head (g := 1) (t := 180) (e := 116) (n := 20) (by kernel_rfl) (by kernel_rfl) (by kernel_rfl) (by kernel_rfl) (by kernel_rfl) (by kernel_rfl) h.tail.tail, sent_of_laid h.tail.tail.tail⟩

end Go.Proofs.YtflbdfpgaeeleaaGreatDoor

/-
  The walk of laws.FnGroupPart, out of the contracts: whatever the bytes are, it answers true, and nothing that was there is written. Condition: the tables of the library read as they were laid.
-/
namespace Go.Proofs.YtflbdfpgaeeleaaGreatDoor
open Go.RowKit
set_option linter.unusedVariables false
attribute [local go_sem ↓] Go.wp_at_zero Go.wp_at_succ

theorem hidV {p : Prop} (h : p) : Hid p := h
/-- The first of the keys lies here. -/
def KeyC (w : World) (b o : Nat) (k : Nat) : Prop := b < w.heap.size ∧ w.cell? ⟨b, o, none⟩ = some (.int .i64 (k : Int))
theorem KeyC.below {w w' : World} {b o k : Nat} (h : KeyC w b o k) (hb : Below w.heap.size w w') : KeyC w' b o k := ⟨Nat.lt_of_lt_of_le h.1 hb.size, cell_is (p := ⟨b, o, none⟩) hb h.1 h.2⟩

set_option maxRecDepth 100000 in
set_option maxHeartbeats 16000000 in
theorem lawFnGroupPart (a : Option Addr) (len cap : Nat) (bs : List Int) (w : World) (h : IsRow .u8 w a len cap bs) (htab : Tab w ∧ HasSent w) :
    Calls Tryz.prog 3 #[.slice a len cap] w fun e w' => e = .returned (.bool true) ∧ Below w.heap.size w w' := by
  by_cases hbig : (1048576 : Int) < (len : Int)
  · go_enter Tryz.func3, Tryz.ntmps3
    go_wp2
    go_ret
    exact ⟨rfl, Below.refl _ _⟩
  obtain ⟨i0, hi0, hz0, hz1, hz2⟩ := info_parts infoItem
  obtain ⟨htab, ps, hps⟩ := htab
  have HTAB : Hid (Tab w) := htab
  have HP : Hid (Sent w ps) := hps
  clear htab hps
  go_enter Tryz.func3, Tryz.ntmps3
  go_wp2_with fail
  refine (drawGroupOf_any a len cap bs _ h).mono ?_
  rintro e w1 ⟨v, kv, z, ks, agg, col, rfl, hgz, hkl, hki, hag, hcl, TZ1, OK1, hk1⟩
  have TK1 := OK1.tailI
  obtain ⟨cn, rfl⟩ := Int.eq_ofNat_of_zero_le hcl.1
  clear h hgz hag hcl OK1
  obtain ⟨c0, Hc0⟩ : ∃ c : Bool, Hid (c = grpOk z ks agg cn) := ⟨_, rfl⟩
  go_wp2_with fail
  refine (grpV Hc0.out.symm rfl (HTAB.out.below hk1) TZ1.items TK1).mono ?_
  rintro e w2 ⟨vx, rfl, TX, hb2⟩
  have hk2 := below_then hk1 hb2
  have Z_2 := TZ1.below hb2
  have K_2 := TK1.below hb2
  clear hb2 hk1 TZ1 TK1
  go_wp2_with fail
  refine (specGrpV Hc0.out.symm rfl Z_2.items K_2).mono ?_
  rintro e w3 ⟨vy, rfl, TY, hb3⟩
  have hk3 := below_then hk2 hb3
  have Z_3 := Z_2.below hb3
  have K_3 := K_2.below hb3
  have M_3 := TX.below hb3
  clear hb3 hk2 Z_2 K_2 TX
  go_wp2_with fail
  refine (zsame_val (zsB_refl _) M_3 TY).mono ?_
  rintro e w4 ⟨rfl, hb4⟩
  have hk4 := below_then hk3 hb4
  have Z_4 := Z_3.below hb4
  have K_4 := K_3.below hb4
  have M_4 := M_3.below hb4
  have Y_4 := TY.below hb4
  clear hb4 hk3 Z_3 K_3 M_3 TY
  cases c0 with
  | false =>
    go_wp2_with fail
    refine (zsame_val (zsB_refl _) M_4 Y_4).mono ?_
    rintro e w5 ⟨rfl, hb5⟩
    have hk5 := below_then hk4 hb5
    have Z_5 := Z_4.below hb5
    have K_5 := K_4.below hb5
    have M_5 := M_4.below hb5
    have Y_5 := Y_4.below hb5
    clear hb5 hk4 Z_4 K_4 M_4 Y_4
    clear Z_5 K_5 M_5 Y_5
    go_wp2
    go_ret
    exact ⟨rfl, hk5⟩
  | true =>
    obtain ⟨-, ka, kc, rfl, hkc1, hkc2⟩ := id K_4
    cases ks with
    | nil =>
      simp only [List.length_nil]
      go_wp2_with fail
      refine (zsame_val (zsB_refl _) M_4 Y_4).mono ?_
      rintro e w5 ⟨rfl, hb5⟩
      have hk5 := below_then hk4 hb5
      have Z_5 := Z_4.below hb5
      have K_5 := K_4.below hb5
      have M_5 := M_4.below hb5
      have Y_5 := Y_4.below hb5
      clear hb5 hk4 Z_4 K_4 M_4 Y_4
      clear Z_5 K_5 M_5 Y_5
      go_wp2
      go_ret
      exact ⟨rfl, hk5⟩
    | cons k0 ks =>
      clear Y_4
      obtain ⟨kk, rfl⟩ := Int.eq_ofNat_of_zero_le (hki k0 (by simp)).1
      have HOK := hidV Hc0.out.symm
      have hkk : kk ≤ 3 := by have := (hki (kk : Int) (by simp)).2; omega
      obtain ⟨kb, ko, rfl, hkn, hkb, hk0⟩ := ints_atK (m := 0) K_4.1 (by simp)
      rw [Nat.add_zero] at hk0
      simp only [List.getD_cons_zero] at hk0
      obtain ⟨kn, HKN⟩ : ∃ n, Hid (n = ((kk : Int) :: ks).length) := ⟨_, rfl⟩
      have hkn2 : kn = ks.length + 1 := HKN.out
      have hkn0 : ((kn : Int) == 0) = false := by simp; omega
      have hkn1 : ¬ (kn : Int) = 0 := by omega
      have hkn3 : 0 < kn := by omega
      rw [← HKN.out] at hkl hkc1 K_4 ⊢
      clear hki hkn hkn2
      have hbt : Below w4.heap.size w4 ((w4.alloc (.cells #[.int .i64 1, .bool false, .int .i64 1, .int .i64 kk, .int .i64 0, .int .i64 0, .int .i64 2, .int .i64 0, .int .i64 0, .int .i64 2] 33)).alloc (.cells #[.int .i64 1, .bool false, .int .i64 1, .int .i64 0, .int .i64 0, .int .i64 0, .int .i64 2, .int .i64 0, .int .i64 0, .int .i64 2] 33)) := below_then (below_alloc _) (below_alloc _)
      have XT : Box10 ((w4.alloc (.cells #[.int .i64 1, .bool false, .int .i64 1, .int .i64 kk, .int .i64 0, .int .i64 0, .int .i64 2, .int .i64 0, .int .i64 0, .int .i64 2] 33)).alloc (.cells #[.int .i64 1, .bool false, .int .i64 1, .int .i64 0, .int .i64 0, .int .i64 0, .int .i64 2, .int .i64 0, .int .i64 0, .int .i64 2] 33)) w4.heap.size (⟨1, false, ⟨1, kk, 0, 0⟩, ⟨2, 0, 0, 2⟩⟩ : Tst) := (Box10.start w4 (⟨1, false, ⟨1, kk, 0, 0⟩, ⟨2, 0, 0, 2⟩⟩ : Tst) _).below (below_alloc _)
      have XU : Box10 ((w4.alloc (.cells #[.int .i64 1, .bool false, .int .i64 1, .int .i64 kk, .int .i64 0, .int .i64 0, .int .i64 2, .int .i64 0, .int .i64 0, .int .i64 2] 33)).alloc (.cells #[.int .i64 1, .bool false, .int .i64 1, .int .i64 0, .int .i64 0, .int .i64 0, .int .i64 2, .int .i64 0, .int .i64 0, .int .i64 2] 33)) (w4.heap.size + 1) (⟨1, false, ⟨1, 0, 0, 0⟩, ⟨2, 0, 0, 2⟩⟩ : Tst) := by have := Box10.start (w4.alloc (.cells #[.int .i64 1, .bool false, .int .i64 1, .int .i64 kk, .int .i64 0, .int .i64 0, .int .i64 2, .int .i64 0, .int .i64 0, .int .i64 2] 33)) (⟨1, false, ⟨1, 0, 0, 0⟩, ⟨2, 0, 0, 2⟩⟩ : Tst) 33; rw [show (w4.alloc (.cells #[.int .i64 1, .bool false, .int .i64 1, .int .i64 kk, .int .i64 0, .int .i64 0, .int .i64 2, .int .i64 0, .int .i64 0, .int .i64 2] 33)).heap.size = w4.heap.size + 1 by simp] at this; exact this
      have hk5 := below_then hk4 hbt
      have Z_5 := Z_4.below hbt
      have K_5 := K_4.below hbt
      have M_5 := M_4.below hbt
      have hkc := cell_is (p := ⟨kb, ko, none⟩) hbt hkb hk0
      have hkbx := Nat.lt_of_lt_of_le hkb hbt.size
      clear hbt hkb hk4 Z_4 K_4 M_4
      clear XT
      obtain ⟨c1, Hc1⟩ : ∃ c : Bool, Hid (c = whereOk (lessT kk) z) := ⟨_, rfl⟩
      obtain ⟨c2, Hc2⟩ : ∃ c : Bool, Hid (c = grpOk (whereOut (lessT kk) z) ((kk : Int) :: ks) agg cn) := ⟨_, rfl⟩
      obtain ⟨c3, Hc3⟩ : ∃ c : Bool, Hid (c = whereOk (lessT 0) (grpOut z ((kk : Int) :: ks) agg cn)) := ⟨_, rfl⟩
      have HKC : KeyC _ kb ko kk := ⟨hkbx, hkc⟩
      clear hkc hkbx
      go_wp2_with fail
      refine (where_val (t := (⟨1, false, ⟨1, kk, 0, 0⟩, ⟨2, 0, 0, 2⟩⟩ : Tst)) Hc1.out.symm rfl (HP.out.below hk5) Z_5).mono ?_
      rintro e w6 ⟨va, rfl, TA, hb6⟩
      have hk6 := below_then hk5 hb6
      have Z_6 := Z_5.below hb6
      have K_6 := K_5.below hb6
      have M_6 := M_5.below hb6
      have X_6 := XU.below hb6
      have KC_6 := HKC.below hb6
      clear hb6 hk5 Z_5 K_5 M_5 XU HKC
      go_wp2_with fail
      refine (grpV Hc2.out.symm rfl (HTAB.out.below hk6) TA.items K_6).mono ?_
      rintro e w7 ⟨vb, rfl, TB, hb7⟩
      have hk7 := below_then hk6 hb7
      have Z_7 := Z_6.below hb7
      have K_7 := K_6.below hb7
      have M_7 := M_6.below hb7
      have X_7 := X_6.below hb7
      have KC_7 := KC_6.below hb7
      have A_7 := TA.below hb7
      clear hb7 hk6 Z_6 K_6 M_6 X_6 KC_6 TA
      clear A_7
      obtain ⟨⟨c0, c1, c2, c3, c4⟩, c5, c6, c7, c8, c9⟩ := box_cells X_7
      simp only at c0 c1 c2 c3 c4 c5 c6 c7 c8 c9
      go_wp2_with fail
      refine (where_val (t := (⟨1, false, ⟨1, 0, 0, 0⟩, ⟨2, 0, 0, 2⟩⟩ : Tst)) Hc3.out.symm rfl (HP.out.below hk7) M_7).mono ?_
      rintro e w8 ⟨vc, rfl, TC, hb8⟩
      clear c0 c1 c2 c3 c4 c5 c6 c7 c8 c9
      have hk8 := below_then hk7 hb8
      have Z_8 := Z_7.below hb8
      have K_8 := K_7.below hb8
      have M_8 := M_7.below hb8
      have X_8 := X_7.below hb8
      have KC_8 := KC_7.below hb8
      have Bq_8 := TB.below hb8
      clear hb8 hk7 Z_7 K_7 M_7 X_7 KC_7 TB
      clear M_8
      clear X_8
      go_upto_region 14 with fail
      go_cut [117] (fun c wx => c = .bool false ∧ Hid (Below w8.heap.size w8 wx))
      case first =>
        cases c1 with
        | false =>
          clear Z_8 K_8 KC_8 Bq_8 TC
          go_wp2_with fail
          go_meet
          case rel => exact ⟨rfl, Below.refl _ _⟩
        | true =>
          cases c2 with
          | false =>
            clear Z_8 K_8 KC_8 Bq_8 TC
            go_wp2_with fail
            go_meet
            case rel => exact ⟨rfl, Below.refl _ _⟩
          | true =>
            cases c3 with
            | false =>
              clear Z_8 K_8 KC_8 Bq_8 TC
              go_wp2_with fail
              go_meet
              case rel => exact ⟨rfl, Below.refl _ _⟩
            | true =>
              have hs : zsB (grpOut (whereOut (lessT kk) z) ((kk : Int) :: ks) agg cn) (whereOut (lessT 0) (grpOut z ((kk : Int) :: ks) agg cn)) = true := by rw [part_same HOK.out Hc1.out.symm Hc2.out.symm Hc3.out.symm]; exact zsB_refl _
              go_wp2_with fail
              refine (zsame_val hs Bq_8 TC).mono ?_
              rintro e wz ⟨rfl, hbz⟩
              clear Z_8 K_8 KC_8 Bq_8 TC
              go_wp2_with fail
              go_meet
              case rel => exact ⟨rfl, hbz⟩
      case rest =>
        obtain ⟨rfl, hcb⟩ := hcut
        have hb9 := hcb.out
        have hk9 := below_then hk8 hb9
        have Z_9 := Z_8.below hb9
        have K_9 := K_8.below hb9
        have KC_9 := KC_8.below hb9
        have Bq_9 := Bq_8.below hb9
        have Cw_9 := TC.below hb9
        clear hb9 hcb hk8 Z_8 K_8 KC_8 Bq_8 TC
        clear Bq_9
        clear Cw_9
        have HLM := hidV (grp_lm HOK.out).1
        go_wp2_with fail
        refine (grpV HLM.out rfl (HTAB.out.below hk9) Z_9.items K_9).mono ?_
        rintro e w10 ⟨vl, rfl, TL, hb10⟩
        have hk10 := below_then hk9 hb10
        have Z_10 := Z_9.below hb10
        have K_10 := K_9.below hb10
        have KC_10 := KC_9.below hb10
        clear hb10 hk9 Z_9 K_9 KC_9
        clear K_10
        obtain ⟨za, zc, rfl⟩ := Z_10.shapeV
        obtain ⟨la, lc, rfl⟩ := TL.shapeV
        obtain ⟨hzok, -, -, hkz, hcz, -, -⟩ := grp_parts HOK.out
        have hz100 := zOk_le hzok
        have hm100 := keysOf_100 ((kk : Int) :: ks) hzok
        have HHK : Hid (∀ p ∈ z, kk < p.1.length ∧ cn < p.1.length) := fun p hp => by
          have h1 := have_iff.1 hkz (kk : Int) (by simp) p hp
          have h2 := has_iff.1 hcz p hp
          omega
        obtain ⟨n, HN⟩ : ∃ n, Hid (n = z.length) := ⟨_, rfl⟩
        obtain ⟨m, HM⟩ : ∃ m, Hid (m = (keysOf z ((kk : Int) :: ks)).length) := ⟨_, rfl⟩
        have hll : (grpOut z ((kk : Int) :: ks) 2 cn).length = m := by rw [HM.out]; exact grp_many HLM.out
        have HTZ : Hid (TailZ w10 (.slice za n zc) z) := by show TailZ _ _ _; rw [HN.out]; exact Z_10
        have HTL : Hid (TailZ w10 (.slice la m lc) (grpOut z ((kk : Int) :: ks) 2 cn)) := by show TailZ _ _ _; rw [← hll]; exact TL
        have HKC2 := hidV KC_10
        have HB2 : Hid (Below w.heap.size w w10) := hk10
        rw [← HN.out] at hz100
        rw [← HM.out] at hm100
        rw [← HN.out, hll]
        clear hll hzok hkz hcz Z_10 TL KC_10 hk10
        go_wp2
        go_loopw [21] (fun i wr => ∃ j : Nat, j ≤ m ∧ i = .int .i64 j ∧ Hid (Below w10.heap.size w10 wr)) (fun i _ => m - (intOf i).toNat)
        case atStart => exact ⟨0, Nat.zero_le _, rfl, Below.refl _ _⟩
        case round =>
          obtain ⟨j, hj, rfl, HW⟩ := hrel
          obtain ⟨wd, hwd⟩ : ∃ wd, wd = wr := ⟨_, rfl⟩
          have hBW := HW.out
          rw [← hwd] at hBW ⊢
          clear hwd HW
          by_cases hlt : j < m
          · have hjz : j < (keysOf z ((kk : Int) :: ks)).length := by rw [← HM.out]; exact hlt
            have hjg : j < (grpOut z ((kk : Int) :: ks) 2 cn).length := by rw [grp_many HLM.out]; exact hjz
            have hsome := least_some HOK.out hjz
            have hrl := row_lenK HLM.out hjz
            rw [← HKN.out] at hrl
            rw [show ks.length + 1 = kn from HKN.out.symm] at hsome
            obtain ⟨rw', HRW⟩ : ∃ r, Hid (r = ((grpOut z ((kk : Int) :: ks) 2 cn).getD j ([], 0)).1) := ⟨_, rfl⟩
            rw [← HRW.out] at hsome hrl
            obtain ⟨vv, HV⟩ : ∃ x, Hid (x = rw'.getD kn 0) := ⟨_, rfl⟩
            obtain ⟨hh, HH0⟩ : ∃ x, Hid (x = rw'.getD 0 0) := ⟨_, rfl⟩
            rw [← HV.out, ← HH0.out] at hsome
            have HSOME := hidV hsome
            have HRL := hidV hrl
            clear hsome hrl
            go_wp2
            go_loopw [22, 23] (fun s k wr => ∃ k0 : Nat, k0 ≤ n ∧ s = .bool ((z.take k0).any (someB cn kk vv hh)) ∧ k = .int .i64 k0 ∧ Hid (Below w10.heap.size w10 wr)) (fun _ k _ => n - (intOf k).toNat)
            case atStart => exact ⟨0, Nat.zero_le _, rfl, rfl, hBW⟩
            case round =>
              obtain ⟨k, hk, rfl, rfl, HW⟩ := hrel
              by_cases hlk : k < n
              · have hkz : k < z.length := by rw [← HN.out]; exact hlk
                obtain ⟨b, off, xa, xn, xc, rfl, hb, c0, c1, hix⟩ := (HTZ.out.below HW.out).atV hkz
                obtain ⟨lb, lo, ya, yn, yc, rfl, hlb, d0, -, hiy⟩ := (HTL.out.below HW.out).atV hjg
                obtain ⟨hkb, hkc⟩ := HKC2.out.below HW.out
                obtain ⟨hr1, hr2⟩ := HHK.out _ (getZ_mem hkz)
                have hany := any_take (f := someB cn kk vv hh) hkz
                rw [← HRW.out] at hiy
                obtain ⟨x, HX⟩ : ∃ x, Hid (x = (z.getD k ([], 0)).1) := ⟨_, rfl⟩
                obtain ⟨y, HY⟩ : ∃ y, Hid (y = (z.getD k ([], 0)).2) := ⟨_, rfl⟩
                have hsb : someB cn kk vv hh (z.getD k ([], 0)) = (decide (0 < y) && decide (x.getD cn 0 = vv) && decide (x.getD kk 0 = hh)) := by rw [HX.out, HY.out]; rfl
                rw [hsb] at hany
                rw [← HX.out] at hix hr1 hr2
                rw [← HY.out] at c1
                obtain ⟨rb, ro, hxa, hxn, hrb, cr1⟩ := ints_atK (m := cn) hix hr2
                obtain ⟨rb', ro', e1, -, -, cr2⟩ := ints_atK (m := kk) hix hr1
                obtain ⟨sb, so, hya, hyn, hsb2, cs1⟩ := ints_atK (m := kn) hiy (by rw [HRL.out]; omega)
                obtain ⟨sb', so', e2, -, -, cs2⟩ := ints_atK (m := 0) hiy (by rw [HRL.out]; omega)
                rw [hxa] at e1
                rw [hya] at e2
                simp only [Option.some.injEq, Addr.mk.injEq, and_true] at e1 e2
                obtain ⟨rfl, rfl⟩ := e1
                obtain ⟨rfl, rfl⟩ := e2
                rw [← HV.out] at cs1
                rw [Nat.add_zero, ← HH0.out] at cs2
                rw [HRL.out] at hyn
                have hxl2 : x.length ≤ 140737488355328 := hix.1
                obtain ⟨xl, HXL⟩ : ∃ xl, Hid (xl = x.length) := ⟨_, rfl⟩
                rw [← HXL.out] at hxn hr1 hr2 hxl2
                subst hxa hya hxn hyn
                obtain ⟨u1, HU1⟩ : ∃ q, Hid (q = x.getD cn 0) := ⟨_, rfl⟩
                obtain ⟨u2, HU2⟩ : ∃ q, Hid (q = x.getD kk 0) := ⟨_, rfl⟩
                rw [← HU1.out] at cr1 hany
                rw [← HU2.out] at cr2 hany
                obtain ⟨s0, HS0⟩ : ∃ s, Hid (s = (z.take k).any (someB cn kk vv hh)) := ⟨_, rfl⟩
                rw [← HS0.out] at hany ⊢
                have r1I : (cn : Int) < (xn : Int) := by omega
                have r2I : (kk : Int) < (xn : Int) := by omega
                have HANY := hidV hany
                have HK : Hid (∀ i, Below w10.heap.size w10 (wr.drewN i)) := fun i => below_drewN HW.out i
                have h0m : 0 < m := by omega
                clear hix hiy hany hsb hb hlb hkb hrb hsb2
                cases s0 with
                | true =>
                  go_wp2
                  go_quiet (fail)
                  go_wp2
                  go_roundw
                  case rel => exact ⟨k + 1, by omega, by rw [HANY.out]; rfl, by go_num, HK.out _⟩
                  case measure => simp [intOf]; omega
                | false =>
                  by_cases hy : 0 < y
                  · by_cases h1 : u1 = vv
                    · subst h1
                      by_cases h2 : u2 = hh
                      · subst h2
                        go_wp2
                        go_quiet (fail)
                        go_wp2
                        go_roundw
                        case rel => exact ⟨k + 1, by omega, by rw [HANY.out]; simp [hy], by go_num, HK.out _⟩
                        case measure => simp [intOf]; omega
                      · have h2f : (u2 == hh) = false := by simp [h2]
                        go_wp2
                        go_quiet (fail)
                        go_wp2
                        go_roundw
                        case rel => exact ⟨k + 1, by omega, by rw [HANY.out]; simp [hy, h2], by go_num, HK.out _⟩
                        case measure => simp [intOf]; omega
                    · have h1f : (u1 == vv) = false := by simp [h1]
                      go_wp2
                      go_quiet (fail)
                      go_wp2
                      go_roundw
                      case rel => exact ⟨k + 1, by omega, by rw [HANY.out]; simp [hy, h1], by go_num, HK.out _⟩
                      case measure => simp [intOf]; omega
                  · have hyf : decide (0 < y) = false := decide_eq_false hy
                    go_wp2
                    go_quiet (fail)
                    go_wp2
                    go_roundw
                    case rel => exact ⟨k + 1, by omega, by rw [HANY.out, hyf]; rfl, by go_num, HK.out _⟩
                    case measure => simp [intOf]; omega
              · obtain rfl : k = n := by omega
                have hT : (z.take k).any (someB cn kk vv hh) = true := by rw [HN.out, List.take_length]; exact HSOME.out
                rw [hT]
                clear hT
                go_wp2
                go_roundw
                case rel => exact ⟨j + 1, by omega, by go_num, HW.out⟩
                case measure => simp [intOf]; omega
          · have hltI : ¬ (j : Int) < (m : Int) := by omega
            have hk9 := hidV (below_then HB2.out hBW)
            clear HTZ HTL HKC2 HB2 hBW
            go_wp2
            go_ret
            exact ⟨rfl, hk9.out⟩

end Go.Proofs.YtflbdfpgaeeleaaGreatDoor
