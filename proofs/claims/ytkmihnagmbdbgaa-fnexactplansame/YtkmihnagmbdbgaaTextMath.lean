/-
  Plain functions on rows: what a cell and a row may be, a row's text; and facts on them. No program is spoken of.
-/
import Derived.Test.YtkmihnagmbdbgaaBase
import Derived.Lib.ItoaNum
import Derived.Lib.ItoaLen
namespace Go.Proofs.Ytkmihnagmbdbgaa

def cellB (n : Int) : Bool := decide (-1000000000 ≤ n ∧ n ≤ 1000000000)
def rowOkB (xs : List Int) : Bool := decide (1 ≤ xs.length ∧ xs.length ≤ 6) && xs.all cellB

/-- What follows the first number of a row. -/
def txTail : List Int → List UInt8
  | [] => []
  | x :: xs => 44 :: (Lib.itoa x ++ txTail xs)
/-- A row's text. -/
def rowTx : List Int → List UInt8
  | [] => []
  | x :: xs => Lib.itoa x ++ txTail xs

theorem txTail_snoc : ∀ (xs : List Int) (y : Int), txTail (xs ++ [y]) = txTail xs ++ 44 :: Lib.itoa y
  | [], y => by simp [txTail]
  | x :: xs, y => by simp [txTail, txTail_snoc xs y]
theorem rowTx_snoc (xs : List Int) (y : Int) (h : xs ≠ []) : rowTx (xs ++ [y]) = rowTx xs ++ 44 :: Lib.itoa y := by
  cases xs with
  | nil => exact absurd rfl h
  | cons x xs => simp [rowTx, txTail_snoc]
theorem take_snoc {xs : List Int} {k : Nat} (h : k < xs.length) : xs.take (k + 1) = xs.take k ++ [xs.getD k 0] := by
  rw [List.take_succ_eq_append_getElem h]; simp [List.getD, h]
theorem rowTx_first {xs : List Int} (h : 0 < xs.length) : rowTx (xs.take 1) = Lib.itoa (xs.getD 0 0) := by
  rw [take_snoc h]; simp [rowTx, txTail]
theorem rowTx_next {xs : List Int} {k : Nat} (h : k < xs.length) (hk : 0 < k) : rowTx (xs.take (k + 1)) = rowTx (xs.take k) ++ 44 :: Lib.itoa (xs.getD k 0) := by
  rw [take_snoc h, rowTx_snoc _ _ (fun e => by
    have h1 : (xs.take k).length = k := by rw [List.length_take]; omega
    rw [e] at h1
    simp at h1
    omega)]
theorem txTail_le : ∀ xs : List Int, WfInts xs → (txTail xs).length ≤ 22 * xs.length
  | [], _ => by simp [txTail]
  | x :: xs, h => by
    have h1 := Lib.itoa_length_le x (h x (by simp)).1 (h x (by simp)).2
    have h2 := txTail_le xs (fun y hy => h y (by simp [hy]))
    simp [txTail]; omega
theorem rowTx_le (xs : List Int) (h : WfInts xs) : (rowTx xs).length ≤ 22 * xs.length := by
  cases xs with
  | nil => simp [rowTx]
  | cons x xs =>
    have h1 := Lib.itoa_length_le x (h x (by simp)).1 (h x (by simp)).2
    have h2 := txTail_le xs (fun y hy => h y (by simp [hy]))
    simp [rowTx]; omega
theorem wf_take {xs : List Int} (h : WfInts xs) (k : Nat) : WfInts (xs.take k) := fun x hx => h x (List.mem_of_mem_take hx)
theorem wf_at {xs : List Int} (h : WfInts xs) {k : Nat} (hk : k < xs.length) : -9223372036854775808 ≤ xs.getD k 0 ∧ xs.getD k 0 ≤ 9223372036854775807 := h _ (by simp [List.getD, hk])

end Go.Proofs.Ytkmihnagmbdbgaa
