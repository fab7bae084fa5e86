/-
  The walk of laws.FnExactCellRead, out of the contracts: it answers true at every text, and nothing that was there is written. Conditions: the library's variables and the error of chapter 3 read as they were laid.
-/
import Derived.Test.YtegnpbkgfhjdoabDoorCellScan
namespace Go.Proofs.YtegnpbkgfhjdoabDoor
open Go.RowKit
set_option linter.unusedVariables false

set_option maxRecDepth 100000 in
set_option maxHeartbeats 1000000 in
theorem eqCell_same (k a b n : Int) (w : World) :
    Calls Tryd.prog 29 #[.agg #[.int .i64 k, .int .i64 a, .int .i64 b, .int .i64 n], .agg #[.int .i64 k, .int .i64 a, .int .i64 b, .int .i64 n]] w fun e w' => e = .returned (.bool true) ∧ Below w.heap.size w w' := by
  have h1 : (k != k) = false := by simp
  have h2 : (a != a) = false := by simp
  have h3 : (b != b) = false := by simp
  have h4 : (n != n) = false := by simp
  go_enter Tryd.func29, Tryd.ntmps29
  go_wp2
  go_ret
  exact ⟨rfl, bel_then (bel_alloc _) (bel_alloc _)⟩

end Go.Proofs.YtegnpbkgfhjdoabDoor
