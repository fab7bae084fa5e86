/-
  strconv.Itoa, from the library's contract: the decimals of every int. Condition: the table of powers of ten reads as it was laid.
-/
import Derived.Test.YtkgopbffgahhcaaGreatDoorCellBox
import Derived.Test.YtkgopbffgahhcaaGreatDoorShelf
import Derived.Test.YtkgopbffgahhcaaGreatDoorIs
import Derived.Lib.AppendIntMem
namespace Go.Proofs.YtkgopbffgahhcaaGreatDoor
open Go.RowKit

def Tab3 (w : World) : Prop := Lib.TabIs Tryz.prog w "internal/strconv.uint64pow10" .u64 Lib.pow10Tab
theorem Tab3.below {w w' : World} (h : Tab3 w) (hb : Below w.heap.size w w') : Tab3 w' := Lib.tabBelow_of_tabIs h w' hb
theorem itoa3_any (n : Int) (w : World) (h : -9223372036854775808 ≤ n ∧ n ≤ 9223372036854775807) (ht : Tab3 w) :
    Calls Tryz.prog 88 #[.int .i64 n] w fun e w' => e = .returned (.string ⟨(Lib.itoa n).toArray⟩) ∧ Below w.heap.size w w' := by
  refine (Tryz.strconv_Itoa n h.1 h.2 w ht).mono fun e w' ⟨he, k, os, hw⟩ => ⟨he, ?_⟩
  rw [hw]
  exact Lib.below_grow _ _ (Nat.le_refl _) _ _

end Go.Proofs.YtkgopbffgahhcaaGreatDoor
