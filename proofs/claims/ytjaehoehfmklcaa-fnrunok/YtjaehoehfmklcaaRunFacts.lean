/-
  Plain facts on what is put and merged: what is left is right, and has together what it had.
-/
import Derived.Test.YtjaehoehfmklcaaRunPutMath
import Derived.Test.YtjaehoehfmklcaaRunGet
namespace Go.Proofs.Ytjaehoehfmklcaa

theorem full_last {x : Rn} (h : ∀ z ∈ x, z ≠ []) : ∀ z ∈ lastR x, z ≠ [] := by
  intro z hz
  unfold lastR at hz
  rw [List.mem_append] at hz
  rcases hz with hz | hz
  · exact h z (List.mem_of_mem_take hz)
  · split at hz
    · simp at hz
    · rename_i h0
      simp at hz
      subst hz
      exact h0
theorem one_ok {z : List It} (h1 : zOkB z = true) (h2 : z ≠ []) : runOkB [z] = true := by
  refine runOk_all (by simp) fun j hj => ?_
  obtain rfl : j = 0 := by simp at hj; omega
  exact step_zero (by simp) (by simpa using h1) (by simpa using h2)
theorem none_ok : runOkB [] = true := runOk_all (by simp) fun j hj => by simp at hj
theorem must_ok {k : Nat} {x : Rn} (h : Lights k x) (hf : ∀ z ∈ x, z ≠ []) (hs : zOkB (sumR x) = true) (hm : mustP x = false) : runOkB x = true := by
  obtain ⟨h1, h5⟩ := must_end h hs hm
  match x, h, hf, hs, hm, h1, h5 with
  | [], _, _, _, _, _, _ => exact none_ok
  | [z], _, hf, _, _, h1, _ => exact one_ok (by simpa [tidyB] using h1) (hf z (by simp))
  | a :: b :: l, _, _, _, hm, _, h5 =>
    rw [must_mid (by simp) h5] at hm
    simpa using hm
theorem loopP_ok : ∀ (t k : Nat) (x : Rn), x.length ≤ t → Lights k x → (∀ z ∈ x, z ≠ []) → zOkB (sumR x) = true → runOkB (loopP t x) = true ∧ sumR (loopP t x) = sumR x
  | 0, _, x, hl, _, _, _ => by
    have : x = [] := List.length_eq_zero_iff.1 (by omega)
    subst this
    exact ⟨none_ok, rfl⟩
  | t + 1, k, x, hl, hk, hf, hs => by
    cases hm : mustP x with
    | false =>
      rw [loopP_end _ hm]
      exact ⟨must_ok hk hf hs hm, rfl⟩
    | true =>
      have h2 := must_two hm
      rw [loopP_go _ hm]
      have := loopP_ok t (k + k) (lastR x) (by have := lastR_len h2; omega) (hk.last h2) (full_last hf) (by rw [sum_last hk h2]; exact hs)
      rw [sum_last hk h2] at this
      exact this
theorem putRuns_ok {s : Rn} {z : List It} (h : putOk s z = true) : runOkB (putRuns s z) = true ∧ sumR (putRuns s z) = addZ (sumR s) z ∧ runOkB s = true ∧ zOkB z = true := by
  unfold putOk at h
  rw [Bool.and_eq_true, Bool.and_eq_true] at h
  obtain ⟨⟨hs, hz⟩, h3⟩ := h
  refine ⟨?_, ?_, hs, hz⟩
  all_goals
    unfold putRuns
    by_cases h0 : z = []
    · rw [if_pos h0]
      first
        | exact hs
        | rw [h0, addZ_nil]
    · rw [if_neg h0]
      have h4 : zOkB (addZ (sumR s) z) = true := by simpa [h0] using h3
      rw [if_pos h4]
      have := loopP_ok (s.length + 1) 1 (s ++ [z]) (by simp) (lights_snoc hs hz) (fun y hy => by
        rw [List.mem_append] at hy
        rcases hy with hy | hy
        · obtain ⟨j, hj, rfl⟩ := mem_getD (d := []) hy
          exact (stepR_true (runOk_step hs hj)).2.1
        · simp at hy; subst hy; exact h0) (by rw [sumR_snoc]; exact h4)
      first
        | exact this.1
        | rw [this.2, sumR_snoc]
theorem putOut_ok {s : Rn} {z : List It} (h : putOk s z = true) : putOut s z = putRuns s z := by
  obtain ⟨_, _, hs, hz⟩ := putRuns_ok h
  simp [putOut, hs, hz]
theorem lights_ok {x : Rn} (h : runOkB x = true) : Lights 1 x := fun z hz => by
  obtain ⟨j, hj, rfl⟩ := mem_getD (d := []) hz
  exact light_ok (each_ok h hj)
theorem mergeTo_facts : ∀ (t : Nat) (x : Rn) (f : Int), runOkB x = true → 0 ≤ f → x.length ≤ t →
    runOkB (mergeTo t x f).1 = true ∧ sumR (mergeTo t x f).1 = sumR x ∧ (mergeTo t x f).1.length ≤ x.length ∧ 0 ≤ (mergeTo t x f).2 ∧ (mergeTo t x f).2 ≤ f ∧
      ((mergeTo t x f).1.length ≤ 1 ∨ (mergeTo t x f).2 < lastMany (mergeTo t x f).1 ∨ runOkB (lastR (mergeTo t x f).1) = false)
  | 0, x, f, h, hf, hl => ⟨h, rfl, Nat.le_refl _, hf, Int.le_refl _, .inl (by show x.length ≤ 1; omega)⟩
  | t + 1, x, f, h, hf, hl => by
    by_cases h1 : x.length ≤ 1
    · rw [mergeTo_one _ _ h1]
      exact ⟨h, rfl, Nat.le_refl _, hf, Int.le_refl _, .inl h1⟩
    · by_cases h2 : f < lastMany x ∨ runOkB (lastR x) = false
      · rw [mergeTo_stop _ h1 h2]
        exact ⟨h, rfl, Nat.le_refl _, hf, Int.le_refl _, .inr h2⟩
      · have h3 : ¬ f < lastMany x := fun e => h2 (.inl e)
        have h4 : runOkB (lastR x) = true := by
          cases e : runOkB (lastR x) with
          | false => exact absurd (.inr e) h2
          | true => rfl
        have hx2 : 2 ≤ x.length := by omega
        rw [mergeTo_go _ h1 h3 h4]
        have hlt := lastR_len hx2
        obtain ⟨g1, g2, g3, g4, g5, g6⟩ := mergeTo_facts t (lastR x) (f - lastMany x) h4 (by omega) (by omega)
        exact ⟨g1, by rw [g2]; exact sum_last (lights_ok h) hx2, by omega, g4, by omega, g6⟩
theorem mergeTo_again (t : Nat) {x : Rn} {f : Int} (h : x.length ≤ 1 ∨ f < lastMany x ∨ runOkB (lastR x) = false) : mergeTo t x f = (x, f) := by
  cases t with
  | zero => rfl
  | succ t =>
    by_cases h1 : x.length ≤ 1
    · exact mergeTo_one _ _ h1
    · exact mergeTo_stop _ h1 (by rcases h with h | h; exact absurd h h1; exact h)
theorem mrg_facts_ok {s : Rn} {f : Int} (h : runOkB s = true) (hf : 0 ≤ f) :
    runOkB (mrgOut s f) = true ∧ sumR (mrgOut s f) = sumR s ∧ (mrgOut s f).length ≤ s.length ∧ 0 ≤ mrgLeft s f ∧ mrgLeft s f ≤ f ∧ mrgOut (mrgOut s f) (mrgLeft s f) = mrgOut s f ∧ mrgLeft (mrgOut s f) (mrgLeft s f) = mrgLeft s f := by
  have e1 : mrgOut s f = (mergeTo s.length s f).1 := by simp [mrgOut, h, hf]
  have e2 : mrgLeft s f = (mergeTo s.length s f).2 := by simp [mrgLeft, h, hf]
  obtain ⟨g1, g2, g3, g4, g5, g6⟩ := mergeTo_facts s.length s f h hf (Nat.le_refl _)
  rw [← e1] at g1 g2 g3 g6
  rw [← e2] at g4 g5 g6
  have e3 := mergeTo_again (mrgOut s f).length g6
  refine ⟨g1, g2, g3, g4, g5, ?_, ?_⟩
  · rw [show mrgOut (mrgOut s f) (mrgLeft s f) = (mergeTo (mrgOut s f).length (mrgOut s f) (mrgLeft s f)).1 by rw [mrgOut, if_pos ⟨g1, g4⟩], e3]
  · rw [show mrgLeft (mrgOut s f) (mrgLeft s f) = (mergeTo (mrgOut s f).length (mrgOut s f) (mrgLeft s f)).2 by rw [mrgLeft, if_pos ⟨g1, g4⟩], e3]

end Go.Proofs.Ytjaehoehfmklcaa
