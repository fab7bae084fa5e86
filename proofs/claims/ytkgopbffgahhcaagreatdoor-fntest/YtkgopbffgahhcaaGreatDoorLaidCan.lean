/-
  From the condition that the library's variables and the error of chapter 3 are laid, and the world's shape, to what the reader of cells wants.
-/
import Derived.Test.YtkgopbffgahhcaaGreatDoorCellScan
import Derived.Test.YtkgopbffgahhcaaGreatDoorHanded
import Derived.Test.YtkgopbffgahhcaaGreatDoorLaidSent
namespace Go.Proofs.YtkgopbffgahhcaaGreatDoor
open Go.RowKit

theorem can_of_laid {W : World} (h : laidMet Tryz.prog [("math/bits.deBruijn32tab", Rows.laid_math_bits_deBruijn32tab), ("math/bits.deBruijn64tab", Rows.laid_math_bits_deBruijn64tab), ("internal/strconv.uint64pow10", Rows.laid_internal_strconv_uint64pow10), ("strconv.ErrRange", Rows.laid_strconv_ErrRange), ("strconv.ErrSyntax", Rows.laid_strconv_ErrSyntax), ("loop.example/milldam/impl.errNotReckoned", Rows.laid_loop_example_milldam_impl_errNotReckoned)] W)
    (hs : W.ShapedOpen Tryz.prog) : ∃ p, Can p W := by
  have ht : Tab3 W := Lib.tabIs_of_head (g := 4) (t := 195) (e := 180) (n := 20) (by kernel_rfl) (by kernel_rfl) (by kernel_rfl) (by kernel_rfl) (by kernel_rfl) (by kernel_rfl) h.tail.tail
  obtain ⟨a, _, hv, _⟩ := laid_sentinel h.tail.tail.tail (g := 3) (by kernel_rfl) (by kernel_rfl) Tryz.underlying70 sentType Tryz.underlying203 Tryz.underlying205 rfl rfl Tryz.underlying9 (by kernel_rfl) (by kernel_rfl)
  obtain ⟨b, _, hv2, _⟩ := laid_sentinel h.tail.tail.tail.tail (g := 2) (by kernel_rfl) (by kernel_rfl) Tryz.underlying70 sentType Tryz.underlying203 Tryz.underlying205 rfl rfl Tryz.underlying9 (by kernel_rfl) (by kernel_rfl)
  obtain ⟨p, hp⟩ := sent_of_laid h.tail.tail.tail.tail.tail
  obtain ⟨m, hm⟩ := maxLen_cell hs
  exact ⟨p, hp, ht, ⟨lt_of_cell hm, m, hm⟩, ⟨_, _, hv2⟩, ⟨_, _, hv⟩⟩

end Go.Proofs.YtkgopbffgahhcaaGreatDoor
