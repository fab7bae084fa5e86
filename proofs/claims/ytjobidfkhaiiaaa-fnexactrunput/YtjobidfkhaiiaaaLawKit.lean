/-
  What the laws of items share: how much items are that are right.
-/
import Derived.Test.YtjobidfkhaiiaaaStep
import Derived.Test.YtjobidfkhaiiaaaMarksZ
import Derived.Test.YtjobidfkhaiiaaaItemsIn
namespace Go.Proofs.Ytjobidfkhaiiaaa
open Go.RowKit

theorem tot_lens (zs : List It) : tot (lens zs) = zs.length + rowsLen zs := by
  induction zs with
  | nil => rfl
  | cons p zs ih =>
    have h1 : tot (lens (p :: zs)) = (p.1.length + 1) + tot (lens zs) := by simp [tot, lens]
    have h2 : rowsLen (p :: zs) = p.1.length + rowsLen zs := by simp [rowsLen]
    rw [h1, h2, ih]
    simp; omega
theorem rowsLen_le {zs : List It} {c : Nat} (h : ∀ p ∈ zs, p.1.length ≤ c) : rowsLen zs ≤ zs.length * c := by
  induction zs with
  | nil => simp [rowsLen]
  | cons p zs ih =>
    have h2 : rowsLen (p :: zs) = p.1.length + rowsLen zs := by simp [rowsLen]
    have h3 := h p (by simp)
    have h4 := ih (fun q hq => h q (by simp [hq]))
    rw [h2, List.length_cons, Nat.add_mul]
    omega


end Go.Proofs.Ytjobidfkhaiiaaa
