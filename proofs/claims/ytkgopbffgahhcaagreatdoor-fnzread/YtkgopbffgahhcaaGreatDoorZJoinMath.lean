/-
  Two texts of items with a blank between: it is read just if the one's last row is ahead of the other's first and there are not too many, and then as both put together.
-/
import Derived.Test.YtkgopbffgahhcaaGreatDoorZReadMath
import Derived.Test.YtkgopbffgahhcaaGreatDoorZFacts
namespace Go.Proofs.YtkgopbffgahhcaaGreatDoor

theorem itemTx_len {p : It} (h : okIt p) : (itemTx p).length ≤ 84 := by
  have h1 := row_len h.1
  have h2 := itoa_len (wB_cell h.2)
  simp only [itemTx, List.length_append, List.length_cons]
  omega
theorem zTail_len : ∀ {zs : List It}, (∀ p ∈ zs, okIt p) → (zTail zs).length ≤ 85 * zs.length
  | [], _ => by simp [zTail]
  | p :: zs, h => by
    have h1 := itemTx_len (h p (by simp))
    have h2 := zTail_len (zs := zs) fun q hq => h q (by simp [hq])
    simp only [zTail, List.length_append, List.length_cons]
    omega
theorem zTx_len {zs : List It} (h : zOkB zs = true) : (zTx zs).length ≤ 9000 := by
  have hl := zOk_le h
  have ho := zOk_okIt h
  cases zs with
  | nil => simp [zTx]
  | cons p zs =>
    have h1 := itemTx_len (ho p (by simp))
    have h2 := zTail_len (zs := zs) fun q hq => ho q (by simp [hq])
    simp only [zTx, List.length_append]
    simp only [List.length_cons] at hl
    omega
theorem zTail_app : ∀ (a b : List It), zTail (a ++ b) = zTail a ++ zTail b
  | [], b => by simp [zTail]
  | p :: a, b => by simp [zTail, zTail_app a b]
theorem zTx_join {a b : List It} (ha : a ≠ []) (hb : b ≠ []) : zTx (a ++ b) = zTx a ++ 32 :: zTx b := by
  match a, b, ha, hb with
  | p :: a, q :: b, _, _ => simp [zTx, zTail_app, zTail]
theorem getZ_app {q : List Int} : ∀ {a b : List It}, Srt (a ++ b) → getZ (a ++ b) q = getZ a q + getZ b q
  | [], b, _ => by simp [getZ_nil]
  | x :: a, b, h => by
    rw [List.cons_append] at h
    obtain ⟨h1, h2⟩ := Srt.cons.1 h
    rw [List.cons_append, getZ_cons, getZ_cons, getZ_app h2]
    by_cases hx : x.1 = q
    · have h0 : getZ b q = 0 := getZ_zero fun p hp e => by
        have := ordL_ne (h1 p (by simp [hp]))
        exact this (hx.trans e.symm)
      simp [hx, h0]
    · simp [hx]
theorem add_app {a b : List It} (h : zOkB (a ++ b) = true) (ha : zOkB a = true) (hb : zOkB b = true) : addZ a b = a ++ b :=
  canon (srt_add (zOk_srt ha)) (nz_add (zOk_nz ha)) (zOk_srt h) (zOk_nz h) fun q => by rw [getZ_add (zOk_srt ha) (zOk_srt hb), getZ_app (zOk_srt h)]
theorem getD_left {a b : List It} {j : Nat} (h : j < a.length) : (a ++ b).getD j ([], 0) = a.getD j ([], 0) := by
  simp [List.getD, List.getElem?_append, h]
theorem getD_right {a b : List It} {j : Nat} (h : a.length ≤ j) : (a ++ b).getD j ([], 0) = b.getD (j - a.length) ([], 0) := by
  simp [List.getD, List.getElem?_append, Nat.not_lt.2 h]
theorem zOk_at {zs : List It} (h : zOkB zs = true) {j : Nat} (hj : j < zs.length) : stepB zs j = true := by
  unfold zOkB at h
  simp only [Bool.and_eq_true, List.all_eq_true] at h
  exact h.2 j (List.mem_range.2 hj)
/-- Both put behind each other are right just if they are not too many and the one's last row is ahead of the other's first. -/
theorem ok_app {a b : List It} (ha : zOkB a = true) (hb : zOkB b = true) (ha0 : a ≠ []) (hb0 : b ≠ []) :
    zOkB (a ++ b) = (rowLessB (a.getD (a.length - 1) ([], 0)).1 (b.getD 0 ([], 0)).1 && decide (a.length + b.length ≤ 100)) := by
  have hal : 0 < a.length := List.length_pos_iff.2 ha0
  have hbl : 0 < b.length := List.length_pos_iff.2 hb0
  have hseam : stepB (a ++ b) a.length = (rowOkB (b.getD 0 ([], 0)).1 && wB (b.getD 0 ([], 0)).2 && rowLessB (a.getD (a.length - 1) ([], 0)).1 (b.getD 0 ([], 0)).1) := by
    unfold stepB
    rw [getD_right (Nat.le_refl _), Nat.sub_self, getD_left (by omega)]
    simp [show ¬ a.length = 0 by omega]
  have hb1 := zOk_at hb hbl
  have hb2 : rowOkB (b.getD 0 ([], 0)).1 = true ∧ wB (b.getD 0 ([], 0)).2 = true := by
    unfold stepB at hb1
    simp only [Bool.and_eq_true] at hb1
    exact hb1.1
  rw [hb2.1, hb2.2] at hseam
  by_cases hl : a.length + b.length ≤ 100
  · cases hr : rowLessB (a.getD (a.length - 1) ([], 0)).1 (b.getD 0 ([], 0)).1
    · rw [hr] at hseam
      simp [zOk_miss (zs := a ++ b) (k := a.length) (by rw [List.length_append]; omega) (by rw [hseam]; rfl)]
    · rw [hr] at hseam
      simp only [hl, decide_true, Bool.and_true]
      refine zOk_all (by rw [List.length_append]; exact hl) fun j hj => ?_
      rw [List.length_append] at hj
      rcases Nat.lt_trichotomy j a.length with h | h | h
      · have := zOk_at ha h
        unfold stepB at this ⊢
        rw [getD_left h, getD_left (by omega)]
        exact this
      · subst h
        rw [hseam]; rfl
      · have := zOk_at hb (j := j - a.length) (by omega)
        unfold stepB at this ⊢
        rw [getD_right (by omega), getD_right (by omega), show j - 1 - a.length = j - a.length - 1 by omega]
        simp only [Bool.and_eq_true, Bool.or_eq_true, decide_eq_true_eq] at this ⊢
        refine ⟨this.1, .inr ?_⟩
        rcases this.2 with h2 | h2
        · omega
        · exact h2
  · simp [zOk_len (zs := a ++ b) (by rw [List.length_append]; exact hl), hl]
theorem read_app {a b : List It} (ha : zOkB a = true) (hb : zOkB b = true) (ha0 : a ≠ []) (hb0 : b ≠ []) :
    readZ (zTx a ++ 32 :: zTx b) = if zOkB (a ++ b) = true then some (a ++ b) else none := by
  rw [← zTx_join ha0 hb0]
  split
  · rename_i h
    exact readZ_items h (zTx_len h)
  · rename_i h
    cases hr : readZ (zTx (a ++ b)) with
    | none => rfl
    | some ys =>
      obtain ⟨h1, h2, _⟩ := readZ_back hr
      have h3 : a ++ b = ys := zTx_inj (fun p hp => by
        rcases List.mem_append.1 hp with h | h
        · exact zOk_okIt ha p h
        · exact zOk_okIt hb p h) (zOk_okIt h1) h2
      rw [h3] at h
      exact absurd h1 h

end Go.Proofs.YtkgopbffgahhcaaGreatDoor
