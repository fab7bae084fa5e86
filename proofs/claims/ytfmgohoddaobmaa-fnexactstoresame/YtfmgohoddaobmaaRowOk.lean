/-
  The contracts of spec.RowOk and impl.RowOk, and of their tests of a cell: both answer rowOkB, at every int slice.
-/
import Derived.Test.YtfmgohoddaobmaaTextMath
namespace Go.Proofs.Ytfmgohoddaobmaa
open Go.RowKit


theorem cellB_yes {n : Int} (h1 : -1000000000 ≤ n) (h2 : n ≤ 1000000000) : cellB n = true := by simp [cellB, h1, h2]
theorem cellB_no {n : Int} (h : ¬ (-1000000000 ≤ n ∧ n ≤ 1000000000)) : cellB n = false := by simp only [cellB, h, decide_false]

theorem all_step {xs : List Int} {k : Nat} (hk : k < xs.length) (h : (xs.take k).all cellB = true) (hc : cellB (xs.getD k 0) = true) : (xs.take (k + 1)).all cellB = true := by
  rw [List.take_succ_eq_append_getElem hk, List.all_append, h]
  simpa [List.getD, hk] using hc
theorem all_miss {xs : List Int} {k : Nat} (hk : k < xs.length) (hc : cellB (xs.getD k 0) = false) : rowOkB xs = false := by
  have h : xs.all cellB = false := by
    rw [List.all_eq_false]
    exact ⟨xs[k], List.getElem_mem hk, by simpa [List.getD, hk] using hc⟩
  simp [rowOkB, h]
theorem ok_all {xs : List Int} (h1 : 1 ≤ xs.length) (h6 : xs.length ≤ 6) (h : (xs.take xs.length).all cellB = true) : rowOkB xs = true := by
  rw [List.take_length] at h
  simp [rowOkB, h1, h6, h]
theorem ok_wide {xs : List Int} (h6 : ¬ xs.length ≤ 6) : rowOkB xs = false := by simp [rowOkB, h6]

end Go.Proofs.Ytfmgohoddaobmaa
