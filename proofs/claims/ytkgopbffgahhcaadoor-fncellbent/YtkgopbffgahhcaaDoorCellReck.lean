/-
  The contracts of the program's own reckon and CellOf: they answer Cel.valI and Cel.toldB.
-/
import Derived.Test.YtkgopbffgahhcaaDoorCellImpl
import Derived.Test.YtkgopbffgahhcaaDoorCellBox
namespace Go.Proofs.YtkgopbffgahhcaaDoor
open Go.RowKit
set_option linter.unusedVariables false

/-- How what is reckoned ends: the number and no error, or 0 and the one error. -/
def RkEnd (c : Cel) (xs : List Int) (p : Addr) (e : Ending) : Prop :=
  (c.toldB xs = true ∧ e = .returned (.tuple #[.int .i64 (c.num xs), .nilIface])) ∨ (c.toldB xs = false ∧ e = .returned (.tuple #[.int .i64 0, .iface 83 (.pointer (some p))]))

theorem kind_of_ok {c : Cel} {wide : Int} (h : c.okB wide = true) : c.kindB = true := by
  rw [ok_iff] at h
  simp only [Cel.kindB, decide_eq_true_eq]
  omega

theorem wrap_sum {x y : Int} (hx : -1000000000 ≤ x ∧ x ≤ 1000000000) (hy : -1000000000 ≤ y ∧ y ≤ 1000000000) : IntKind.i64.wrap (x + y) = x + y := by unfold IntKind.wrap; simp [IntKind.bits, IntKind.signed]; omega

end Go.Proofs.YtkgopbffgahhcaaDoor
