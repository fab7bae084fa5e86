/-
  From the condition that the three tables are laid to the one that strconv.Itoa reads.
-/
import Derived.Test.YtflbdfpgaeeleaaGreatDoorText
import Derived.Stop.LaidErr
namespace Go.Proofs.YtflbdfpgaeeleaaGreatDoor
open Go.RowKit

theorem tab_of_laid {W : World} (h : laidMet Tryz.prog [("math/bits.deBruijn32tab", Rows.laid_math_bits_deBruijn32tab), ("math/bits.deBruijn64tab", Rows.laid_math_bits_deBruijn64tab), ("internal/strconv.uint64pow10", Rows.laid_internal_strconv_uint64pow10)] W) : Tab W :=
  Lib.tabIs_of_head (g := 1) (t := 180) (e := 116) (n := 20) (rest := []) (by kernel_rfl) (by kernel_rfl) (by kernel_rfl) (by kernel_rfl) (by kernel_rfl) (by kernel_rfl) h.tail.tail

end Go.Proofs.YtflbdfpgaeeleaaGreatDoor
