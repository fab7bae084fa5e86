/-
  The contracts of impl.ZPos, spec.l2Pos and spec.ZPos: the rows that are there, each once, in memory of their own; none of items that are not right.
-/
import Derived.Test.YtjaehoehfmklcaaStep
import Derived.Test.YtjaehoehfmklcaaZOk
import Derived.Test.YtjaehoehfmklcaaJoin
namespace Go.Proofs.Ytjaehoehfmklcaa
set_option maxRecDepth 100000
open Go.RowKit

def posZ (zs : List It) : List It := (zs.filter fun p => decide (0 < p.2)).map fun p => (p.1, 1)
theorem posZ_take {zs : List It} {k : Nat} (hk : k < zs.length) : posZ (zs.take (k + 1)) = posZ (zs.take k) ++ (if 0 < (zs.getD k ([], 0)).2 then [((zs.getD k ([], 0)).1, 1)] else []) := by
  unfold posZ
  rw [List.take_succ_eq_append_getElem hk, List.filter_append, List.map_append]
  congr 1
  simp [List.getD, hk]
  split <;> simp_all
theorem posZ_len (zs : List It) : (posZ zs).length ≤ zs.length := by
  unfold posZ
  rw [List.length_map]
  exact List.length_filter_le _ _
end Go.Proofs.Ytjaehoehfmklcaa
