/-
  The contract of slices.BinarySearchFunc at items and impl.compareItems, and of impl.ZGet.
-/
import Derived.Test.YtflbdfpgaeeleaaGreatDoorZGet
import Derived.Deep.RegionHeld
namespace Go.Proofs.YtflbdfpgaeeleaaGreatDoor
open Go.RowKit

end Go.Proofs.YtflbdfpgaeeleaaGreatDoor
