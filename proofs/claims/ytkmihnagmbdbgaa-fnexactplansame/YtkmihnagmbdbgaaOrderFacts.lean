/-
  Plain facts on the order of lists: total, antisymmetric, transitive; a list is ahead of what begins with it; two lists are one just if they stand equal.
-/
import Derived.Test.YtkmihnagmbdbgaaOrder
namespace Go.Proofs.Ytkmihnagmbdbgaa

theorem ordL_cases : ∀ xs ys : List Int, (ordL xs ys = -1 ∧ ordL ys xs = 1) ∨ (ordL xs ys = 0 ∧ ordL ys xs = 0 ∧ xs = ys) ∨ (ordL xs ys = 1 ∧ ordL ys xs = -1)
  | [], [] => .inr (.inl ⟨rfl, rfl, rfl⟩)
  | [], _ :: _ => .inl ⟨rfl, rfl⟩
  | _ :: _, [] => .inr (.inr ⟨rfl, rfl⟩)
  | x :: xs, y :: ys => by
    simp only [ordL]
    by_cases h1 : x < y
    · have h2 : ¬ y < x := by omega
      simp [h1, h2]
    · by_cases h2 : y < x
      · simp [h1, h2]
      · have e : x = y := by omega
        subst e
        simp only [h1, if_false]
        rcases ordL_cases xs ys with h | ⟨a, b, c⟩ | h
        · exact .inl h
        · exact .inr (.inl ⟨a, b, by rw [c]⟩)
        · exact .inr (.inr h)

theorem ordL_self (xs : List Int) : ordL xs xs = 0 := by
  rcases ordL_cases xs xs with h | h | h
  · omega
  · exact h.1
  · omega

theorem ordL_trans : ∀ xs ys zs : List Int, ordL xs ys = -1 → ordL ys zs = -1 → ordL xs zs = -1
  | [], [], _, h, _ => by simp [ordL] at h
  | [], _ :: _, [], _, h => by simp [ordL] at h
  | [], _ :: _, _ :: _, _, _ => rfl
  | _ :: _, [], _, h, _ => by simp [ordL] at h
  | _ :: _, _ :: _, [], _, h => by simp [ordL] at h
  | x :: xs, y :: ys, z :: zs, h1, h2 => by
    simp only [ordL] at h1 h2 ⊢
    by_cases a : x < y
    · by_cases b : y < z
      · rw [if_pos (by omega)]
      · by_cases c : z < y
        · simp [b, c] at h2
        · have e : y = z := by omega
          subst e
          rw [if_pos a]
    · by_cases a2 : y < x
      · simp [a, a2] at h1
      · have e : x = y := by omega
        subst e
        simp only [a, if_false] at h1
        by_cases b : x < z
        · rw [if_pos b]
        · by_cases c : z < x
          · simp [b, c] at h2
          · simp only [b, c, if_false] at h2 ⊢
            exact ordL_trans xs ys zs h1 h2

theorem ordL_append : ∀ (xs ys : List Int), ys ≠ [] → ordL xs (xs ++ ys) = -1
  | [], [], h => absurd rfl h
  | [], _ :: _, _ => rfl
  | x :: xs, ys, h => by
    simp only [List.cons_append, ordL]
    have : ¬ x < x := by omega
    simp only [this, if_false]
    exact ordL_append xs ys h

theorem same_iff (xs ys : List Int) : rowSameB xs ys = decide (xs = ys) := by
  unfold rowSameB
  rcases ordL_cases xs ys with h | h | h
  · have : xs ≠ ys := fun e => by subst e; rw [ordL_self] at h; omega
    simp [h.1, this]
  · simp [h.2.2, ordL_self]
  · have : xs ≠ ys := fun e => by subst e; rw [ordL_self] at h; omega
    simp [h.1, this]
theorem same_self (xs : List Int) : rowSameB xs xs = true := by rw [same_iff]; simp
/-- One of three: ahead, the same, behind. -/
theorem three (xs ys : List Int) : (rowLessB xs ys = true ∧ rowLessB ys xs = false ∧ rowSameB xs ys = false) ∨ (rowLessB xs ys = false ∧ rowLessB ys xs = false ∧ rowSameB xs ys = true ∧ xs = ys) ∨ (rowLessB xs ys = false ∧ rowLessB ys xs = true ∧ rowSameB xs ys = false) := by
  unfold rowLessB rowSameB
  rcases ordL_cases xs ys with h | h | h
  · left; simp [h.1, h.2]
  · right; left; simp [h.2.2, ordL_self]
  · right; right; simp [h.1, h.2]
theorem less_trans {xs ys zs : List Int} (h1 : rowLessB xs ys = true) (h2 : rowLessB ys zs = true) : rowLessB xs zs = true := by
  unfold rowLessB at *
  simp only [decide_eq_true_eq] at *
  have a : ordL xs ys = -1 := by rcases ordL_cases xs ys with h | h | h <;> omega
  have b : ordL ys zs = -1 := by rcases ordL_cases ys zs with h | h | h <;> omega
  rw [ordL_trans xs ys zs a b]; decide
theorem less_append {xs ys : List Int} (h : ys ≠ []) : rowLessB xs (xs ++ ys) = true := by
  unfold rowLessB; rw [ordL_append xs ys h]; decide
theorem same_append {xs ys zs us : List Int} (h : xs.length = zs.length) : rowSameB (xs ++ ys) (zs ++ us) = (rowSameB xs zs && rowSameB ys us) := by
  rw [same_iff, same_iff, same_iff]
  by_cases h1 : xs = zs
  · subst h1; simp
  · have : xs ++ ys ≠ zs ++ us := fun e => h1 (List.append_inj_left e h)
    simp [h1, this]

end Go.Proofs.Ytkmihnagmbdbgaa
