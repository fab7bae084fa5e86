/-
  From the condition that the library's variables are laid, and the world's shape, to what the reader of items wants.
-/
import Derived.Test.YtkgopbffgahhcaaGreatDoorZReadShelf
import Derived.Test.YtkgopbffgahhcaaGreatDoorAtoi
import Derived.Test.YtkgopbffgahhcaaGreatDoorHanded
import Derived.Stop.LaidErr
namespace Go.Proofs.YtkgopbffgahhcaaGreatDoor
open Go.RowKit

theorem starError : "*" ++ "errors.errorString" = "*errors.errorString" := by decide
theorem sentType (u : TypeId) (h : Tryz.prog.typeName? 3 u = some "*errors.errorString") : u = 203 :=
  typeName_ptr_named (nm := "errors.errorString") (by rw [starError]; kernel_rfl) (by kernel_rfl) (by decide) u (by rw [starError]; exact h)

theorem reads_of_laid {W : World} (h : laidMet Tryz.prog [("math/bits.deBruijn32tab", Rows.laid_math_bits_deBruijn32tab), ("math/bits.deBruijn64tab", Rows.laid_math_bits_deBruijn64tab), ("internal/strconv.uint64pow10", Rows.laid_internal_strconv_uint64pow10), ("unicode/utf8.acceptRanges", Rows.laid_unicode_utf8_acceptRanges), ("strconv.ErrRange", Rows.laid_strconv_ErrRange), ("strconv.ErrSyntax", Rows.laid_strconv_ErrSyntax), ("unicode/utf8.first", Rows.laid_unicode_utf8_first)] W)
    (hs : W.ShapedOpen Tryz.prog) : ReadsIn W := by
  have ht : Tab W := Lib.tabIs_of_head (g := 4) (t := 195) (e := 180) (n := 20) (by kernel_rfl) (by kernel_rfl) (by kernel_rfl) (by kernel_rfl) (by kernel_rfl) (by kernel_rfl) h.tail.tail
  obtain ⟨a, _, hv, _⟩ := laid_sentinel h.tail.tail.tail.tail (g := 3) (by kernel_rfl) (by kernel_rfl) Tryz.underlying70 sentType Tryz.underlying203 Tryz.underlying205 rfl rfl Tryz.underlying9 (by kernel_rfl) (by kernel_rfl)
  obtain ⟨b, _, hv2, _⟩ := laid_sentinel h.tail.tail.tail.tail.tail (g := 2) (by kernel_rfl) (by kernel_rfl) Tryz.underlying70 sentType Tryz.underlying203 Tryz.underlying205 rfl rfl Tryz.underlying9 (by kernel_rfl) (by kernel_rfl)
  obtain ⟨m, hm⟩ := maxLen_cell hs
  exact ⟨ht, lt_of_cell hm, ⟨m, hm⟩, ⟨_, _, hv2⟩, ⟨_, _, hv⟩⟩

theorem readsIn : Reads ReadsIn := reads_of fun s w hs ⟨_, _, _, hy, hr⟩ => atoi_any s (by omega) w hy hr

end Go.Proofs.YtkgopbffgahhcaaGreatDoor
