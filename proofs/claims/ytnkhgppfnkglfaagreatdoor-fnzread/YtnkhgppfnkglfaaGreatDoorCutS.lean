/-
  The contract of spec.l12Cut at a blank: at every text of at most 9000 bytes it returns the pieces between the blanks, in memory of its own.
-/
import Derived.Test.YtnkhgppfnkglfaaGreatDoorZReadMath
import Derived.Test.YtnkhgppfnkglfaaGreatDoorCut
import Derived.Test.YtnkhgppfnkglfaaGreatDoorOwn
import Derived.WalkSpells
namespace Go.Proofs.YtnkhgppfnkglfaaGreatDoor
open Go.RowKit

/-- What is cut behind k steps, the last piece begun at a. -/
def RestS (l : List UInt8) (a k : Nat) (ps : List (List UInt8)) : Prop :=
  cutS l = ps ++ (if k ≤ l.length then consHead ((l.drop a).take (k - a)) (cutS (l.drop k)) else [])
theorem rest_zeroS (l : List UInt8) : RestS l 0 0 [] := by simp [RestS, consHead_nil (cutS_ne _)]
theorem rest_endS {l : List UInt8} {a k : Nat} {ps : List (List UInt8)} (h : RestS l a k ps) (hk : k = l.length) : RestS l (k + 1) (k + 1) (ps ++ [(l.drop a).take (k - a)]) := by
  unfold RestS at *
  rw [if_pos (by omega), hk, List.drop_length] at h
  rw [if_neg (by omega), h, hk]
  simp [cutS, consHead]
theorem rest_commaS {l : List UInt8} {a k : Nat} {ps : List (List UInt8)} (h : RestS l a k ps) (hk : k < l.length) (hc : l[k] = 32) : RestS l (k + 1) (k + 1) (ps ++ [(l.drop a).take (k - a)]) := by
  unfold RestS at *
  rw [if_pos (by omega), List.drop_eq_getElem_cons hk, hc] at h
  rw [if_pos (by omega), h, Nat.sub_self, List.take_zero, consHead_nil (cutS_ne _)]
  simp [cutS, consHead]
theorem rest_otherS {l : List UInt8} {a k : Nat} {ps : List (List UInt8)} (h : RestS l a k ps) (hk : k < l.length) (hc : l[k] ≠ 32) (ha : a ≤ k) : RestS l a (k + 1) ps := by
  unfold RestS at *
  rw [if_pos (by omega), List.drop_eq_getElem_cons hk, cutS, if_neg hc, consHead_consHead] at h
  rw [if_pos (by omega), h]
  have e1 : k + 1 - a = (k - a) + 1 := by omega
  have hl : k - a < (l.drop a).length := by rw [List.length_drop]; omega
  have e2 : (l.drop a)[k - a] = l[k] := by
    rw [List.getElem_drop]
    congr 1
    omega
  rw [e1, List.take_succ_eq_append_getElem hl, e2]
theorem rest_doneS {l : List UInt8} {a k : Nat} {ps : List (List UInt8)} (h : RestS l a k ps) (hk : l.length < k) : ps = cutS l := by
  unfold RestS at h
  rw [if_neg (by omega), List.append_nil] at h
  exact h.symm

end Go.Proofs.YtnkhgppfnkglfaaGreatDoor
