/-
  The contract of spec.l12Cut at a comma: at every text of at most 100 bytes it returns the pieces between the commas, in memory of its own.
-/
import Derived.Test.YtnkhgppfnkglfaaGreatDoorReadMath
import Derived.Test.YtnkhgppfnkglfaaGreatDoorOwn
import Derived.WalkSpells
namespace Go.Proofs.YtnkhgppfnkglfaaGreatDoor
open Go.RowKit

theorem infoStr : (Tryz.prog.info? 9).map (fun i => (i.zero, i.size, i.bytes)) = some (some (.string ⟨#[]⟩), 1, 16) := by kernel_rfl

theorem consHead_consHead (p q : List UInt8) (r : List (List UInt8)) : consHead p (consHead q r) = consHead (p ++ q) r := by
  cases r <;> simp [consHead]
theorem consHead_nil {r : List (List UInt8)} (h : r ≠ []) : consHead [] r = r := by
  cases r with
  | nil => exact absurd rfl h
  | cons p r => rfl
/-- What is cut behind k steps, the last piece begun at a. -/
def Rest (l : List UInt8) (a k : Nat) (ps : List (List UInt8)) : Prop :=
  cutL l = ps ++ (if k ≤ l.length then consHead ((l.drop a).take (k - a)) (cutL (l.drop k)) else [])
theorem rest_zero (l : List UInt8) : Rest l 0 0 [] := by simp [Rest, consHead_nil (cut_ne _)]
theorem rest_end {l : List UInt8} {a k : Nat} {ps : List (List UInt8)} (h : Rest l a k ps) (hk : k = l.length) : Rest l (k + 1) (k + 1) (ps ++ [(l.drop a).take (k - a)]) := by
  unfold Rest at *
  rw [if_pos (by omega), hk, List.drop_length] at h
  rw [if_neg (by omega), h, hk]
  simp [cutL, consHead]
theorem rest_comma {l : List UInt8} {a k : Nat} {ps : List (List UInt8)} (h : Rest l a k ps) (hk : k < l.length) (hc : l[k] = 44) : Rest l (k + 1) (k + 1) (ps ++ [(l.drop a).take (k - a)]) := by
  unfold Rest at *
  rw [if_pos (by omega), List.drop_eq_getElem_cons hk, hc] at h
  rw [if_pos (by omega), h, Nat.sub_self, List.take_zero, consHead_nil (cut_ne _)]
  simp [cutL, consHead]
theorem rest_other {l : List UInt8} {a k : Nat} {ps : List (List UInt8)} (h : Rest l a k ps) (hk : k < l.length) (hc : l[k] ≠ 44) (ha : a ≤ k) : Rest l a (k + 1) ps := by
  unfold Rest at *
  rw [if_pos (by omega), List.drop_eq_getElem_cons hk, cutL, if_neg hc, consHead_consHead] at h
  rw [if_pos (by omega), h]
  have e1 : k + 1 - a = (k - a) + 1 := by omega
  have hl : k - a < (l.drop a).length := by rw [List.length_drop]; omega
  have e2 : (l.drop a)[k - a] = l[k] := by
    rw [List.getElem_drop]
    congr 1
    omega
  rw [e1, List.take_succ_eq_append_getElem hl, e2]
theorem rest_done {l : List UInt8} {a k : Nat} {ps : List (List UInt8)} (h : Rest l a k ps) (hk : l.length < k) : ps = cutL l := by
  unfold Rest at h
  rw [if_neg (by omega), List.append_nil] at h
  exact h.symm
theorem len_list (s : ByteArray) : s.data.toList.length = s.size := by rw [Array.length_toList]; rfl
theorem cells_str (ps : List ByteArray) : ∀ u ∈ ps.map Value.string, u.oneCell' = true := by
  intro u hu
  obtain ⟨_, _, rfl⟩ := List.mem_map.1 hu
  rfl
theorem piece_list (s : ByteArray) (a b : Nat) : (s.extract a b).data.toList = (s.data.toList.drop a).take (b - a) := by
  simp [ByteArray.data_extract]

end Go.Proofs.YtnkhgppfnkglfaaGreatDoor
