/-
  The text of items, as plain lists of bytes.
-/
import Derived.Test.YtnkhgppfnkglfaaGreatDoorItems
import Derived.Test.YtnkhgppfnkglfaaGreatDoorTextMath
namespace Go.Proofs.YtnkhgppfnkglfaaGreatDoor

/-- An item's text. -/
def itemTx (p : It) : List UInt8 := rowTx p.1 ++ 42 :: Lib.itoa p.2
def zTail : List It → List UInt8
  | [] => []
  | p :: zs => 32 :: (itemTx p ++ zTail zs)
/-- The text of items. -/
def zTx : List It → List UInt8
  | [] => []
  | p :: zs => itemTx p ++ zTail zs

theorem zTail_snoc : ∀ (zs : List It) (p : It), zTail (zs ++ [p]) = zTail zs ++ 32 :: itemTx p
  | [], p => by simp [zTail]
  | q :: zs, p => by simp [zTail, zTail_snoc zs p]
theorem zTx_snoc (zs : List It) (p : It) (h : zs ≠ []) : zTx (zs ++ [p]) = zTx zs ++ 32 :: itemTx p := by
  cases zs with
  | nil => exact absurd rfl h
  | cons q zs => simp [zTx, zTail_snoc]
theorem takeZ_snoc {zs : List It} {k : Nat} (h : k < zs.length) : zs.take (k + 1) = zs.take k ++ [zs.getD k ([], 0)] := by
  rw [List.take_succ_eq_append_getElem h]; simp [List.getD, h]
theorem zTx_first {zs : List It} (h : 0 < zs.length) : zTx (zs.take 1) = itemTx (zs.getD 0 ([], 0)) := by
  rw [takeZ_snoc h]; simp [zTx, zTail]
theorem zTx_next {zs : List It} {k : Nat} (h : k < zs.length) (hk : 0 < k) : zTx (zs.take (k + 1)) = zTx (zs.take k) ++ 32 :: itemTx (zs.getD k ([], 0)) := by
  rw [takeZ_snoc h, zTx_snoc _ _ (fun e => by
    have h1 : (zs.take k).length = k := by rw [List.length_take]; omega
    rw [e] at h1
    simp at h1
    omega)]

/-- Items whose numbers an int holds. -/
def WfZ (zs : List It) : Prop := ∀ p ∈ zs, WfInts p.1 ∧ -9223372036854775808 ≤ p.2 ∧ p.2 ≤ 9223372036854775807
theorem WfZ.at {zs : List It} (h : WfZ zs) {k : Nat} (hk : k < zs.length) : WfInts (zs.getD k ([], 0)).1 ∧ -9223372036854775808 ≤ (zs.getD k ([], 0)).2 ∧ (zs.getD k ([], 0)).2 ≤ 9223372036854775807 := h _ (by simp [List.getD, hk])
theorem itemTx_le {p : It} (h : WfInts p.1 ∧ -9223372036854775808 ≤ p.2 ∧ p.2 ≤ 9223372036854775807) : (itemTx p).length ≤ 22 * p.1.length + 22 := by
  have h1 := rowTx_le p.1 h.1
  have h2 := Lib.itoa_length_le p.2 h.2.1 h.2.2
  simp [itemTx]
  omega
theorem zTail_le : ∀ zs : List It, WfZ zs → (zTail zs).length ≤ 23 * (zs.length + rowsLen zs)
  | [], _ => by simp [zTail]
  | p :: zs, h => by
    have h1 := itemTx_le (h p (by simp))
    have h2 := zTail_le zs (fun q hq => h q (by simp [hq]))
    have h3 : rowsLen (p :: zs) = p.1.length + rowsLen zs := by simp [rowsLen]
    rw [h3]
    simp [zTail]
    omega
theorem zTx_le (zs : List It) (h : WfZ zs) : (zTx zs).length ≤ 23 * (zs.length + rowsLen zs) := by
  cases zs with
  | nil => simp [zTx]
  | cons p zs =>
    have h1 := itemTx_le (h p (by simp))
    have h2 := zTail_le zs (fun q hq => h q (by simp [hq]))
    have h3 : rowsLen (p :: zs) = p.1.length + rowsLen zs := by simp [rowsLen]
    rw [h3]
    simp [zTx]
    omega
theorem rowsLen_takeLe (k : Nat) (zs : List It) : (zs.take k).length + rowsLen (zs.take k) ≤ zs.length + rowsLen zs := by
  have h1 : rowsLen zs = rowsLen (zs.take k) + rowsLen (zs.drop k) := by
    unfold rowsLen
    rw [← List.sum_append, ← List.map_append, List.take_append_drop]
  rw [List.length_take]
  omega
theorem rowsLen_atLe {zs : List It} {k : Nat} (hk : k < zs.length) : (zs.getD k ([], 0)).1.length ≤ rowsLen zs := by
  induction zs generalizing k with
  | nil => simp at hk
  | cons p zs ih =>
    have h3 : rowsLen (p :: zs) = p.1.length + rowsLen zs := by simp [rowsLen]
    rw [h3]
    cases k with
    | zero => simp
    | succ k => have := ih (k := k) (by simpa using hk); simp at this ⊢; omega
theorem WfZ.take {zs : List It} (h : WfZ zs) (k : Nat) : WfZ (zs.take k) := fun p hp => h p (List.mem_of_mem_take hp)

end Go.Proofs.YtnkhgppfnkglfaaGreatDoor
