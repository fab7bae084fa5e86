/-
  From the condition that the library's variables and the error of chapter 3 are laid, and the world's shape, to what the reader of cells wants.
-/
import Derived.Test.YtegnpbkgfhjdoabDoorCellScan
import Derived.Test.YtegnpbkgfhjdoabDoorHanded
import Derived.Test.YtegnpbkgfhjdoabDoorLaidSent
namespace Go.Proofs.YtegnpbkgfhjdoabDoor
open Go.RowKit

theorem can_of_laid {W : World} (h : laidMet Tryd.prog [("math/bits.deBruijn32tab", Rows.laid_math_bits_deBruijn32tab), ("math/bits.deBruijn64tab", Rows.laid_math_bits_deBruijn64tab), ("internal/strconv.uint64pow10", Rows.laid_internal_strconv_uint64pow10), ("strconv.ErrRange", Rows.laid_strconv_ErrRange), ("strconv.ErrSyntax", Rows.laid_strconv_ErrSyntax), ("loop.example/milldam/impl.errNotReckoned", Rows.laid_loop_example_milldam_impl_errNotReckoned)] W)
    (hs : W.ShapedOpen Tryd.prog) : ∃ p, Can p W := by
  have ht : Tab3 W := Lib.tabIs_of_head (g := 4) (t := 142) (e := 123) (n := 20) (by kernel_rfl) (by kernel_rfl) (by kernel_rfl) (by kernel_rfl) (by kernel_rfl) (by kernel_rfl) h.tail.tail
  obtain ⟨a, _, hv, _⟩ := laid_sentinel h.tail.tail.tail (g := 3) (by kernel_rfl) (by kernel_rfl) Tryd.underlying48 sentType Tryd.underlying132 Tryd.underlying134 rfl rfl Tryd.underlying9 (by kernel_rfl) (by kernel_rfl)
  obtain ⟨b, _, hv2, _⟩ := laid_sentinel h.tail.tail.tail.tail (g := 2) (by kernel_rfl) (by kernel_rfl) Tryd.underlying48 sentType Tryd.underlying132 Tryd.underlying134 rfl rfl Tryd.underlying9 (by kernel_rfl) (by kernel_rfl)
  obtain ⟨p, hp⟩ := sent_of_laid h.tail.tail.tail.tail.tail
  obtain ⟨m, hm⟩ := maxLen_cell hs
  exact ⟨p, hp, ht, ⟨lt_of_cell hm, m, hm⟩, ⟨_, _, hv2⟩, ⟨_, _, hv⟩⟩

end Go.Proofs.YtegnpbkgfhjdoabDoor
