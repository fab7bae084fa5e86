/-
  The contract of the document's own TestOf: it answers Tst.valB and Tst.toldB.
-/
import Derived.Test.YtehfpceghdaajaaGreatDoorTestSpec
namespace Go.Proofs.YtehfpceghdaajaaGreatDoor
open Go.RowKit
set_option linter.unusedVariables false

theorem told_ok {c : Cel} {xs : List Int} (h : c.toldB xs = true) : rowOkB xs = true ∧ c.okB xs.length = true := by
  unfold Cel.toldB at h
  simp only [Bool.and_eq_true] at h
  exact h.1

end Go.Proofs.YtehfpceghdaajaaGreatDoor
