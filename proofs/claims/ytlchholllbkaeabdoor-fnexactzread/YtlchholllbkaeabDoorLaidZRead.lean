/-
  From the condition that the library's variables are laid, and the world's shape, to what the reader of items wants.
-/
import Derived.Test.YtlchholllbkaeabDoorZReadShelf
import Derived.Test.YtlchholllbkaeabDoorLawZRead
import Derived.Test.YtlchholllbkaeabDoorAtoi
import Derived.Test.YtlchholllbkaeabDoorHanded
import Derived.Stop.LaidErr
namespace Go.Proofs.YtlchholllbkaeabDoor
open Go.RowKit

theorem starError : "*" ++ "errors.errorString" = "*errors.errorString" := by decide
theorem sentType (u : TypeId) (h : Tryd.prog.typeName? 3 u = some "*errors.errorString") : u = 116 :=
  typeName_ptr_named (nm := "errors.errorString") (by rw [starError]; kernel_rfl) (by kernel_rfl) (by decide) u (by rw [starError]; exact h)

theorem reads_of_laid {W : World} (h : laidMet Tryd.prog [("math/bits.deBruijn32tab", Rows.laid_math_bits_deBruijn32tab), ("math/bits.deBruijn64tab", Rows.laid_math_bits_deBruijn64tab), ("internal/strconv.uint64pow10", Rows.laid_internal_strconv_uint64pow10), ("unicode/utf8.acceptRanges", Rows.laid_unicode_utf8_acceptRanges), ("strconv.ErrRange", Rows.laid_strconv_ErrRange), ("strconv.ErrSyntax", Rows.laid_strconv_ErrSyntax), ("unicode/utf8.first", Rows.laid_unicode_utf8_first)] W)
    (hs : W.ShapedOpen Tryd.prog) : ReadsIn W := by
  have ht : Tab W := Lib.tabIs_of_head (g := 3) (t := 109) (e := 92) (n := 20) (by kernel_rfl) (by kernel_rfl) (by kernel_rfl) (by kernel_rfl) (by kernel_rfl) (by kernel_rfl) h.tail.tail
  obtain ⟨a, _, hv, _⟩ := laid_sentinel h.tail.tail.tail.tail (g := 2) (by kernel_rfl) (by kernel_rfl) Tryd.underlying46 sentType Tryd.underlying116 Tryd.underlying118 rfl rfl Tryd.underlying9 (by kernel_rfl) (by kernel_rfl)
  obtain ⟨b, _, hv2, _⟩ := laid_sentinel h.tail.tail.tail.tail.tail (g := 1) (by kernel_rfl) (by kernel_rfl) Tryd.underlying46 sentType Tryd.underlying116 Tryd.underlying118 rfl rfl Tryd.underlying9 (by kernel_rfl) (by kernel_rfl)
  obtain ⟨m, hm⟩ := maxLen_cell hs
  exact ⟨ht, Nat.lt_of_le_of_lt (Nat.zero_le _) (lt_of_cell hm), ⟨m, hm⟩, ⟨_, _, hv2⟩, ⟨_, _, hv⟩⟩

theorem readsIn : Reads ReadsIn := reads_of fun s w hs ⟨_, _, _, hy, hr⟩ => atoi_any s (by omega) w hy hr
theorem lawZRead_laid (s : ByteArray) (h : s.size ≤ maxLen) (w : World) (hv : ReadsIn w) :
    Calls Tryd.prog 4 #[.string s] w fun e w' => e = .returned (.bool true) ∧ Below w.heap.size w w' := lawZRead readsIn s h w hv

end Go.Proofs.YtlchholllbkaeabDoor
