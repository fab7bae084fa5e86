/-
  Plain facts on runs: what they have together (sumR), whether they are right (runOkB), how much lists are that are put together of right ones (Light).
-/
import Derived.Test.YtfmgohoddaobmaaItemsMidFnExactFlowSame
namespace Go.Proofs.Ytfmgohoddaobmaa

def sumR (zss : List (List It)) : List It := zss.foldl addZ []
theorem sumR_nil : sumR [] = [] := rfl
theorem sumR_snoc (zss : List (List It)) (z : List It) : sumR (zss ++ [z]) = addZ (sumR zss) z := by simp [sumR, List.foldl_append]
theorem take_getR {zss : List (List It)} {k : Nat} (hk : k < zss.length) : zss.take (k + 1) = zss.take k ++ [zss.getD k []] := by
  rw [List.take_succ_eq_append_getElem hk]
  simp [List.getD, hk]
theorem sumR_take {zss : List (List It)} {k : Nat} (hk : k < zss.length) : sumR (zss.take (k + 1)) = addZ (sumR (zss.take k)) (zss.getD k []) := by
  rw [take_getR hk, sumR_snoc]

/-- What is asked at place k. -/
def stepR (zss : List (List It)) (k : Nat) : Bool := zOkB (zss.getD k []) && decide (zss.getD k [] ≠ []) && zOkB (sumR (zss.take (k + 1)))
/-- Runs that are right. -/
def runOkB (zss : List (List It)) : Bool := decide (zss.length ≤ 5) && (List.range zss.length).all (stepR zss)
theorem runOk_len {zss : List (List It)} (h : ¬ zss.length ≤ 5) : runOkB zss = false := by simp [runOkB, h]
theorem runOk_miss {zss : List (List It)} {k : Nat} (hk : k < zss.length) (h : stepR zss k = false) : runOkB zss = false := by
  have : (List.range zss.length).all (stepR zss) = false := by
    rw [List.all_eq_false]
    exact ⟨k, List.mem_range.2 hk, by simp [h]⟩
  simp [runOkB, this]
theorem runOk_all {zss : List (List It)} (hl : zss.length ≤ 5) (h : ∀ j, j < zss.length → stepR zss j = true) : runOkB zss = true := by
  have : (List.range zss.length).all (stepR zss) = true := by
    rw [List.all_eq_true]
    exact fun k hk => h k (List.mem_range.1 hk)
  simp [runOkB, this, hl]
theorem runOk_le {zss : List (List It)} (h : runOkB zss = true) : zss.length ≤ 5 := by
  simp [runOkB] at h
  exact h.1
theorem runOk_step {zss : List (List It)} (h : runOkB zss = true) {k : Nat} (hk : k < zss.length) : stepR zss k = true := by
  unfold runOkB at h
  rw [Bool.and_eq_true, List.all_eq_true] at h
  exact h.2 k (List.mem_range.2 hk)
theorem stepR_true {zss : List (List It)} {k : Nat} (h : stepR zss k = true) : zOkB (zss.getD k []) = true ∧ zss.getD k [] ≠ [] ∧ zOkB (sumR (zss.take (k + 1))) = true := by
  unfold stepR at h
  rw [Bool.and_eq_true, Bool.and_eq_true] at h
  exact ⟨h.1.1, by simpa using h.1.2, h.2⟩
theorem stepR_yes {zss : List (List It)} {k : Nat} (h1 : zOkB (zss.getD k []) = true) (h2 : zss.getD k [] ≠ []) (h3 : zOkB (sumR (zss.take (k + 1))) = true) : stepR zss k = true := by
  unfold stepR
  rw [h1, h3, decide_eq_true h2]
  rfl
theorem stepR_no1 {zss : List (List It)} {k : Nat} (h1 : zOkB (zss.getD k []) = false) : stepR zss k = false := by
  unfold stepR
  rw [h1]
  rfl
theorem stepR_no2 {zss : List (List It)} {k : Nat} (h1 : zss.getD k [] = []) : stepR zss k = false := by
  unfold stepR
  rw [h1]
  simp
theorem stepR_no3 {zss : List (List It)} {k : Nat} (h1 : zOkB (sumR (zss.take (k + 1))) = false) : stepR zss k = false := by simp [stepR, h1]
theorem sum_ok_of {zss : List (List It)} {k : Nat} (hk : k ≤ zss.length) (h : ∀ j, j < k → stepR zss j = true) : zOkB (sumR (zss.take k)) = true := by
  cases k with
  | zero => simp [sumR, zOkB]
  | succ k => exact (stepR_true (h k (by omega))).2.2
theorem sum_ok {zss : List (List It)} (h : runOkB zss = true) : zOkB (sumR zss) = true := by
  have := sum_ok_of (zss := zss) (Nat.le_refl _) (fun j hj => runOk_step h hj)
  rwa [List.take_length] at this
theorem each_ok {zss : List (List It)} (h : runOkB zss = true) {k : Nat} (hk : k < zss.length) : zOkB (zss.getD k []) = true := (stepR_true (runOk_step h hk)).1

theorem getZ_self : ∀ {z : List It} {p : It}, Srt z → p ∈ z → getZ z p.1 = p.2
  | x :: z, p, hs, hp => by
    rw [getZ_cons]
    rcases List.mem_cons.1 hp with h | h
    · subst h; simp
    · rw [if_neg (ordL_ne ((Srt.cons.1 hs).1 p h))]
      exact getZ_self (Srt.cons.1 hs).2 h
theorem getZ_bound {B : Int} (hB : 0 ≤ B) (q : List Int) : ∀ {z : List It}, (∀ p ∈ z, -B ≤ p.2 ∧ p.2 ≤ B) → -B ≤ getZ z q ∧ getZ z q ≤ B
  | [], _ => by rw [getZ_nil]; omega
  | x :: z, h => by
    rw [getZ_cons]
    split
    · exact h x (by simp)
    · exact getZ_bound hB q fun p hp => h p (by simp [hp])

/-- As much as k right lists together. -/
def Light (k : Nat) (z : List It) : Prop := Srt z ∧ Nz z ∧ z.length ≤ 100 * k ∧ (∀ p ∈ z, p.1.length ≤ 6) ∧ ∀ p ∈ z, -(10000 * (k : Int)) ≤ p.2 ∧ p.2 ≤ 10000 * k
theorem Light.nil : Light 0 [] := ⟨Srt.nil, nz_nil, by simp, fun p hp => by simp at hp, fun p hp => by simp at hp⟩
theorem wB_true {n : Int} (h : wB n = true) : n ≠ 0 ∧ -10000 ≤ n ∧ n ≤ 10000 := by simpa [wB] using h
theorem zOk_w {z : List It} (h : zOkB z = true) : ∀ p ∈ z, -10000 ≤ p.2 ∧ p.2 ≤ 10000 := by
  intro p hp
  obtain ⟨j, hj, rfl⟩ := mem_getD (d := ([], 0)) hp
  unfold zOkB at h
  rw [Bool.and_eq_true, List.all_eq_true] at h
  have := h.2 j (List.mem_range.2 hj)
  unfold stepB at this
  rw [Bool.and_eq_true, Bool.and_eq_true] at this
  exact (wB_true this.1.2).2
theorem light_ok {z : List It} (h : zOkB z = true) : Light 1 z :=
  ⟨zOk_srt h, zOk_nz h, by have := zOk_le h; omega, fun p hp => zOk_mem h hp, fun p hp => by have := zOk_w h p hp; omega⟩
theorem Light.mono {k m : Nat} {z : List It} (h : Light k z) (hk : k ≤ m) : Light m z :=
  ⟨h.1, h.2.1, by have := h.2.2.1; omega, h.2.2.2.1, fun p hp => by have := h.2.2.2.2 p hp; omega⟩
theorem Light.add {k m : Nat} {a b : List It} (ha : Light k a) (hb : Light m b) : Light (k + m) (addZ a b) := by
  refine ⟨srt_add ha.1, nz_add ha.2.1, ?_, fun p hp => ?_, fun p hp => ?_⟩
  · have := add_len b a
    have := ha.2.2.1
    have := hb.2.2.1
    omega
  · rcases add_rows hp with ⟨q, hq, e⟩ | ⟨q, hq, e⟩
    · rw [e]; exact ha.2.2.2.1 q hq
    · rw [e]; exact hb.2.2.2.1 q hq
  · rw [← getZ_self (srt_add ha.1) hp, getZ_add ha.1 hb.1]
    have h1 := getZ_bound (B := 10000 * (k : Int)) (by omega) p.1 ha.2.2.2.2
    have h2 := getZ_bound (B := 10000 * (m : Int)) (by omega) p.1 hb.2.2.2.2
    omega
theorem Light.mild {k : Nat} {z : List It} (h : Light k z) (hk : k ≤ 1000) : Mild z :=
  ⟨by have := h.2.2.1; omega, fun j hj => by have := h.2.2.2.1 _ (getZ_mem hj); omega, fun p hp => by have := h.2.2.2.2 p hp; omega⟩
theorem light_sum {zss : List (List It)} (h : ∀ j, j < zss.length → zOkB (zss.getD j []) = true) : ∀ k, k ≤ zss.length → Light k (sumR (zss.take k))
  | 0, _ => by rw [List.take_zero, sumR_nil]; exact Light.nil
  | k + 1, hk => by
    rw [sumR_take (by omega)]
    exact (light_sum h k (by omega)).add (light_ok (h k (by omega)))

end Go.Proofs.Ytfmgohoddaobmaa
