/-
  The contract of slices.BinarySearchFunc at items and impl.compareItems, and of impl.ZGet.
-/
import Derived.Test.YtegnoebpnpdogabZGet
import Derived.Deep.RegionHeld
namespace Go.Proofs.Ytegnoebpnpdogab
open Go.RowKit

end Go.Proofs.Ytegnoebpnpdogab
