/-
  Plain facts on a run that is put behind all: the last two are merged as long as they must be (loopP), and what is left then is right.
-/
import Derived.Test.YtjaehoehfmklcaaRunFar
namespace Go.Proofs.Ytjaehoehfmklcaa

/-- Whether the last two must be merged. -/
def mustP (x : Rn) : Bool := decide (5 < x.length) || (decide (1 < x.length) && !runOkB x)
def loopP : Nat → Rn → Rn
  | 0, x => x
  | t + 1, x => if mustP x then loopP t (lastR x) else x
theorem loopP_end (t : Nat) {x : Rn} (h : mustP x = false) : loopP t x = x := by
  cases t with
  | zero => rfl
  | succ t => simp [loopP, h]
theorem loopP_go (t : Nat) {x : Rn} (h : mustP x = true) : loopP (t + 1) x = loopP t (lastR x) := by simp [loopP, h]
def Lights (k : Nat) (x : Rn) : Prop := ∀ z ∈ x, Light k z
theorem Lights.at {k : Nat} {x : Rn} (h : Lights k x) {j : Nat} (hj : j < x.length) : Light k (x.getD j []) := h _ (by simp [List.getD, hj])
theorem Lights.last {k : Nat} {x : Rn} (h : Lights k x) (h2 : 2 ≤ x.length) : Lights (k + k) (lastR x) := by
  intro z hz
  unfold lastR at hz
  rw [List.mem_append] at hz
  rcases hz with hz | hz
  · exact (h z (List.mem_of_mem_take hz)).mono (by omega)
  · split at hz
    · simp at hz
    · simp at hz
      subst hz
      exact (h.at (j := x.length - 2) (by omega)).add (h.at (j := x.length - 1) (by omega))
theorem foldl_ok {k : Nat} : ∀ (x : Rn) (s : List It), Lights k x → Srt s → Nz s → Srt (x.foldl addZ s) ∧ Nz (x.foldl addZ s)
  | [], _, _, h1, h2 => ⟨h1, h2⟩
  | z :: x, s, h, h1, h2 => foldl_ok x (addZ s z) (fun y hy => h y (by simp [hy])) (srt_add h1) (nz_add h2)
theorem sumR_ok {k : Nat} {x : Rn} (h : Lights k x) : Srt (sumR x) ∧ Nz (sumR x) := foldl_ok x [] h Srt.nil nz_nil
theorem split_two {x : Rn} (h2 : 2 ≤ x.length) : x = x.take (x.length - 2) ++ [x.getD (x.length - 2) []] ++ [x.getD (x.length - 1) []] := by
  have h1 := take_getR (zss := x) (k := x.length - 1) (by omega)
  have h3 := take_getR (zss := x) (k := x.length - 2) (by omega)
  rw [show x.length - 1 + 1 = x.length by omega, List.take_length] at h1
  rw [show x.length - 2 + 1 = x.length - 1 by omega] at h3
  rw [← h3]
  exact h1
theorem sum_last {k : Nat} {x : Rn} (h : Lights k x) (h2 : 2 ≤ x.length) : sumR (lastR x) = sumR x := by
  have hl : Lights k (x.take (x.length - 2)) := fun z hz => h z (List.mem_of_mem_take hz)
  obtain ⟨hs, hn⟩ := sumR_ok hl
  have ha := h.at (j := x.length - 2) (by omega)
  have hb := h.at (j := x.length - 1) (by omega)
  have e : sumR x = addZ (sumR (x.take (x.length - 2))) (lastSum x) := by
    rw [split_two h2, sumR_snoc, sumR_snoc, add_assoc hs hn ha.1 hb.1]
    rw [← split_two h2]
    rfl
  unfold lastR
  split
  · rename_i h0
    rw [List.append_nil, e, h0, addZ_nil]
  · rw [sumR_snoc, e]
def tidyB (x : Rn) : Bool := x.all zOkB
theorem tidy_ok {x : Rn} (h : runOkB x = true) : tidyB x = true := by
  unfold tidyB
  rw [List.all_eq_true]
  intro z hz
  obtain ⟨j, hj, rfl⟩ := mem_getD (d := []) hz
  exact each_ok h hj
theorem must_end {k : Nat} {x : Rn} (h : Lights k x) (hs : zOkB (sumR x) = true) (hm : mustP x = false) : tidyB x = true ∧ x.length ≤ 5 := by
  unfold mustP at hm
  rw [Bool.or_eq_false_iff] at hm
  obtain ⟨h1, h2⟩ := hm
  have h5 : x.length ≤ 5 := by simp at h1; omega
  refine ⟨?_, h5⟩
  by_cases h3 : 1 < x.length
  · rw [decide_eq_true h3, Bool.true_and, Bool.not_eq_false'] at h2
    exact tidy_ok h2
  · match x, h3 with
    | [], _ => rfl
    | [z], _ =>
      have hz := h z (by simp)
      have e : sumR [z] = z := addZ_nil_l hz.1 hz.2.1
      rw [e] at hs
      simp [tidyB, hs]
    | _ :: _ :: _, h3 => simp at h3
theorem loopP_tidy : ∀ (t k : Nat) (x : Rn), x.length ≤ t → Lights k x → zOkB (sumR x) = true → tidyB (loopP t x) = true ∧ (loopP t x).length ≤ 5
  | 0, _, x, hl, _, _ => by
    have : x = [] := List.length_eq_zero_iff.1 (by omega)
    subst this
    exact ⟨rfl, by simp [loopP]⟩
  | t + 1, k, x, hl, hk, hs => by
    cases hm : mustP x with
    | false =>
      rw [loopP_end _ hm]
      exact must_end hk hs hm
    | true =>
      have h2 : 2 ≤ x.length := by
        unfold mustP at hm
        rcases Nat.lt_or_ge 1 x.length with h | h
        · exact h
        · rw [decide_eq_false (show ¬ 5 < x.length by omega), decide_eq_false (show ¬ 1 < x.length by omega)] at hm
          simp at hm
      rw [loopP_go _ hm]
      exact loopP_tidy t (k + k) (lastR x) (by have := lastR_len h2; omega) (hk.last h2) (by rw [sum_last hk h2]; exact hs)
theorem must_two {x : Rn} (hm : mustP x = true) : 2 ≤ x.length := by
  unfold mustP at hm
  rcases Nat.lt_or_ge 1 x.length with h | h
  · exact h
  · rw [decide_eq_false (show ¬ 5 < x.length by omega), decide_eq_false (show ¬ 1 < x.length by omega)] at hm
    simp at hm
theorem must_big {x : Rn} (h : 5 < x.length) : mustP x = true := by simp [mustP, h]
theorem must_small {x : Rn} (h : x.length ≤ 1) : mustP x = false := by
  unfold mustP
  rw [decide_eq_false (show ¬ 5 < x.length by omega), decide_eq_false (show ¬ 1 < x.length by omega)]
  rfl
theorem must_mid {x : Rn} (h1 : 1 < x.length) (h5 : x.length ≤ 5) : mustP x = !runOkB x := by
  unfold mustP
  rw [decide_eq_false (show ¬ 5 < x.length by omega), decide_eq_true h1]
  simp

/-- What RunPut answers. -/
def putOk (s : Rn) (z : List It) : Bool := runOkB s && zOkB z && (decide (z = []) || zOkB (addZ (sumR s) z))
def putRuns (s : Rn) (z : List It) : Rn := if z = [] then s else if zOkB (addZ (sumR s) z) then loopP (s.length + 1) (s ++ [z]) else s
def putOut (s : Rn) (z : List It) : Rn := if runOkB s = true ∧ zOkB z = true then putRuns s z else []
theorem lights_snoc {s : Rn} {z : List It} (hs : runOkB s = true) (hz : zOkB z = true) : Lights 1 (s ++ [z]) := by
  intro y hy
  rw [List.mem_append] at hy
  rcases hy with hy | hy
  · obtain ⟨j, hj, rfl⟩ := mem_getD (d := []) hy
    exact light_ok (each_ok hs hj)
  · simp at hy
    subst hy
    exact light_ok hz
theorem putRuns_tidy {s : Rn} {z : List It} (hs : runOkB s = true) (hz : zOkB z = true) : tidyB (putRuns s z) = true ∧ (putRuns s z).length ≤ 5 := by
  unfold putRuns
  split
  · exact ⟨tidy_ok hs, runOk_le hs⟩
  · split
    · rename_i h
      exact loopP_tidy _ 1 _ (by simp) (lights_snoc hs hz) (by rw [sumR_snoc]; exact h)
    · exact ⟨tidy_ok hs, runOk_le hs⟩
theorem tidy_at {x : Rn} (h : tidyB x = true) {j : Nat} (hj : j < x.length) : zOkB (x.getD j []) = true := by
  unfold tidyB at h
  rw [List.all_eq_true] at h
  exact h _ (by simp [List.getD, hj])

end Go.Proofs.Ytjaehoehfmklcaa
