/-
  The contracts of impl.ZNeg and spec.ZNeg: each weight with the other sign, in memory of their own; none of items that are not right.
-/
import Derived.Test.YtflbdfpgaeeleaaGreatDoorCopy
import Derived.Test.YtflbdfpgaeeleaaGreatDoorStep
import Derived.Test.YtflbdfpgaeeleaaGreatDoorZOk
import Derived.Test.YtflbdfpgaeeleaaGreatDoorJoin
namespace Go.Proofs.YtflbdfpgaeeleaaGreatDoor
set_option maxRecDepth 100000
open Go.RowKit

def negZ (zs : List It) : List It := zs.map fun p => (p.1, -p.2)
/-- Behind k rounds in place. -/
def negTo (zs : List It) (k : Nat) : List It := negZ (zs.take k) ++ zs.drop k
theorem negZ_length (zs : List It) : (negZ zs).length = zs.length := by simp [negZ]
theorem negTo_length (zs : List It) (k : Nat) (hk : k ≤ zs.length) : (negTo zs k).length = zs.length := by simp [negTo, negZ]; omega
theorem negTo_get {zs : List It} {k : Nat} (hk : k < zs.length) : (negTo zs k).getD k ([], 0) = zs.getD k ([], 0) := by
  unfold negTo
  have h1 : (negZ (zs.take k)).length = k := by simp [negZ]; omega
  simp only [List.getD]
  rw [List.getElem?_append_right (by omega), h1, List.getElem?_drop]
  simp
theorem negZ_take {zs : List It} {k : Nat} (hk : k < zs.length) : negZ (zs.take (k + 1)) = negZ (zs.take k) ++ [((zs.getD k ([], 0)).1, -(zs.getD k ([], 0)).2)] := by
  unfold negZ
  rw [List.take_succ_eq_append_getElem hk, List.map_append]
  simp [List.getD, hk]
theorem negTo_set {zs : List It} {k : Nat} (hk : k < zs.length) : (negTo zs k).set k ((zs.getD k ([], 0)).1, -(zs.getD k ([], 0)).2) = negTo zs (k + 1) := by
  unfold negTo
  have h1 : (negZ (zs.take k)).length = k := by simp [negZ]; omega
  rw [List.set_append_right _ _ (by omega), h1, Nat.sub_self, List.drop_eq_getElem_cons hk, List.set_cons_zero, negZ_take hk, List.append_assoc]
  rfl
theorem wB_in {y : Int} (h : wB y = true) : y ≠ 0 ∧ -10000 ≤ y ∧ y ≤ 10000 := by unfold wB at h; exact of_decide_eq_true h

end Go.Proofs.YtflbdfpgaeeleaaGreatDoor
