/-
  The contract of spec.l12Num: at every text of at most 2^20 bytes it reads what numB reads, and the memory is as it was.
-/
import Derived.Test.YtnkhgppfnkglfaaGreatDoorReadMath
import Derived.WalkLawsBesides
import Derived.WalkSpells
namespace Go.Proofs.YtnkhgppfnkglfaaGreatDoor
open Go.RowKit

/-- What l12Num hands back. -/
def numTup : Option Int → Value
  | some x => .tuple #[.int .i64 x, .bool true]
  | none => .tuple #[.int .i64 0, .bool false]

theorem val_lt : ∀ (n : Nat) (l : List UInt8), l.length = n → l.all isDig = true → decVal l < 10 ^ n
  | 0, l, h, _ => by
    have : l = [] := List.length_eq_zero_iff.1 h
    subst this; simp [decVal]
  | n + 1, l, h, hd => by
    have hne : l ≠ [] := by intro e; subst e; simp at h
    obtain ⟨i, c, rfl⟩ : ∃ i c, l = i ++ [c] := ⟨l.dropLast, l.getLast hne, (List.dropLast_concat_getLast hne).symm⟩
    rw [List.all_append] at hd
    simp only [Bool.and_eq_true, List.all_cons, List.all_nil, and_true] at hd
    have hc : 48 ≤ c.toNat ∧ c.toNat ≤ 57 := by simpa [isDig] using hd.2
    have ih := val_lt n i (by simpa using h) hd.1
    rw [decVal_snoc, Nat.pow_succ]
    omega
theorem takeB {l : List UInt8} {k : Nat} (h : k < l.length) : l.take (k + 1) = l.take k ++ [l[k]] := List.take_succ_eq_append_getElem h
theorem val_small {l : List UInt8} {k : Nat} (hk : k ≤ 17) (hl : l.length = k) (hd : l.all isDig = true) : (decVal l : Int) ≤ 100000000000000000 := by
  have h1 := val_lt k l hl hd
  have h2 : 10 ^ k ≤ 10 ^ 17 := Nat.pow_le_pow_right (by decide) hk
  have h3 : (10 : Nat) ^ 17 = 100000000000000000 := by decide
  omega
theorem drop_first (s : ByteArray) (h : 0 < s.size) : s.data.toList = s[0] :: s.data.toList.drop 1 := by
  have h1 : 0 < s.data.toList.length := by rw [Array.length_toList]; exact h
  have := List.drop_eq_getElem_cons h1
  rw [List.drop_zero] at this
  exact this
theorem tail_list (s : ByteArray) : (s.extract 1 s.size).data.toList = s.data.toList.tail := by
  simp only [ByteArray.data_extract, Array.toList_extract, List.extract]
  rw [List.drop_one]
  exact List.take_of_length_le (by rw [List.length_tail, Array.length_toList]; exact Nat.le_refl _)

end Go.Proofs.YtnkhgppfnkglfaaGreatDoor
