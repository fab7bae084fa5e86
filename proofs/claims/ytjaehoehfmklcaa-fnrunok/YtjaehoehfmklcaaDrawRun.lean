/-
  What is drawn for the laws of runs: spec.DrawRunGet, DrawRunMerge.
-/
import Derived.Test.YtjaehoehfmklcaaDrawR
namespace Go.Proofs.Ytjaehoehfmklcaa
set_option maxRecDepth 100000
set_option linter.unusedVariables false
open Go.RowKit

theorem runs_put {w : World} {g b : Nat} {v u : Value} {s : Rn} (h : DrawnR w g v s) (hb : b ≤ g) : RunsAt (w.setCell ⟨b, 0, none⟩ u) v s :=
  h _ (Only.setCell (Only.refl 0 (g + 1) w) (Nat.zero_le _) (by show b < _; omega) u)


end Go.Proofs.Ytjaehoehfmklcaa
