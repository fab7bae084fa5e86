/-
  The contract of slices.BinarySearchFunc at items and impl.compareItems, and of impl.ZGet.
-/
import Derived.Test.YtflbdfpgaeeleaaDoorZGet
import Derived.Deep.RegionHeld
namespace Go.Proofs.YtflbdfpgaeeleaaDoor
open Go.RowKit

end Go.Proofs.YtflbdfpgaeeleaaDoor
