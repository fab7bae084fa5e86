/-
  The contracts of the document's own TestOk and TestOf: they answer Tst.okB, Tst.valB and Tst.toldB.
-/
import Derived.Test.YtehfpceghdaajaaGreatDoorCellBox
namespace Go.Proofs.YtehfpceghdaajaaGreatDoor
open Go.RowKit
set_option linter.unusedVariables false

end Go.Proofs.YtehfpceghdaajaaGreatDoor
