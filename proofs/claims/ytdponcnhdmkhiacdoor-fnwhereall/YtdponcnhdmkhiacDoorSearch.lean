/-
  The contract of slices.BinarySearchFunc at items and impl.compareItems, and of impl.ZGet.
-/
import Derived.Test.YtdponcnhdmkhiacDoorZGet
import Derived.Deep.RegionHeld
namespace Go.Proofs.YtdponcnhdmkhiacDoor
open Go.RowKit

end Go.Proofs.YtdponcnhdmkhiacDoor
