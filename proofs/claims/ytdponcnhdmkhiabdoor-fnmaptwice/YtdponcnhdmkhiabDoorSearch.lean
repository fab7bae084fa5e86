/-
  The contract of slices.BinarySearchFunc at items and impl.compareItems, and of impl.ZGet.
-/
import Derived.Test.YtdponcnhdmkhiabDoorZGet
import Derived.Deep.RegionHeld
namespace Go.Proofs.YtdponcnhdmkhiabDoor
open Go.RowKit

end Go.Proofs.YtdponcnhdmkhiabDoor
