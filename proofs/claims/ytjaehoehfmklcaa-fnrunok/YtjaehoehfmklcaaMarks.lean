/-
  The contracts of laws.markIntS and laws.heldIntS: numbers from k on are written into a slice of the call's own, and are found there.
-/
import Derived.Test.YtjaehoehfmklcaaOwn
namespace Go.Proofs.Ytjaehoehfmklcaa
open Go.RowKit

/-- k, k + 1, .. -/
def marks (k : Int) (n : Nat) : List Int := (List.range n).map (fun t : Nat => k + (t : Int))
theorem marks_length (k : Int) (n : Nat) : (marks k n).length = n := by simp [marks]
theorem marks_get (k : Int) (n j : Nat) (h : j < n) : (marks k n).getD j 0 = k + j := by simp [marks, List.getD, h]
theorem marks_succ (k : Int) (n : Nat) : marks k (n + 1) = marks k n ++ [k + n] := by simp [marks, List.range_succ]

def marksTo (cs : List Value) (k : Int) (j : Nat) : List Value := (marks k j).map (Value.int .i64) ++ cs.drop j
theorem marksTo_set (cs : List Value) (k : Int) (j : Nat) (hj : j < cs.length) : (marksTo cs k j).set j (.int .i64 (k + j)) = marksTo cs k (j + 1) := by
  unfold marksTo
  rw [List.set_append_right _ _ (by simp [marks_length])]
  have h1 : j - ((marks k j).map (Value.int .i64)).length = 0 := by simp [marks_length]
  rw [h1, List.drop_eq_getElem_cons hj, List.set_cons_zero, marks_succ, List.map_append, List.append_assoc]
  rfl
theorem marksTo_length (cs : List Value) (k : Int) (j : Nat) (hj : j ≤ cs.length) : (marksTo cs k j).length = cs.length := by
  simp [marksTo, marks_length]; omega

end Go.Proofs.Ytjaehoehfmklcaa
