/-
  The contract of slices.BinarySearchFunc at items and impl.compareItems, and of impl.ZGet.
-/
import Derived.Test.YtehfpceghdaajaaZGet
import Derived.Deep.RegionHeld
namespace Go.Proofs.Ytehfpceghdaajaa
open Go.RowKit

end Go.Proofs.Ytehfpceghdaajaa
