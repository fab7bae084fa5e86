/-
  The contract of slices.BinarySearchFunc at items and impl.compareItems, and of impl.ZGet.
-/
import Derived.Test.YtehfpceghdaajaaGreatDoorZGet
import Derived.Deep.RegionHeld
namespace Go.Proofs.YtehfpceghdaajaaGreatDoor
open Go.RowKit

end Go.Proofs.YtehfpceghdaajaaGreatDoor
