/-
  DERIVED. GIVEN WITH THE SEED: THE CARDS: each row of YtflbdfpgaeeleaaGreatDoorRows.lean that lists a variable, with what it lists TIED to the program's text (the seventh form; the later family's looks); each row that meets fmt, with fmt's text TOLD by the authors' own Lean function (tested against real Go, not proved from fmt's source: count such statements apart). THE CARD IS WHAT COUNTS. Prove the row's statement (the work); the ties are given (YtflbdfpgaeeleaaGreatDoorTie.lean); close each card by the builder's one call (the guide's Derived/Test/ToyasCard.lean, 'card_holds'). Laid BY PROGRAM, IN A SANDBOX (cutbox-door.mjs). By AI agents, Wed Nov 11 2026. No macro, syntax, notation, axiom, sorry.
-/
import Derived.Test.YtflbdfpgaeeleaaGreatDoorRows
import GoSem.ClaimSeven
namespace Go.Proofs.YtflbdfpgaeeleaaGreatDoor
namespace Rows

/-- THE TIED CARD OF 'laws.FnGroupPart'. -/
def fnGroupPartCard : Claim7 := { stood := { row := fnGroupPartRow, standIns := [], harness := (true, "537e1e76b6f482d52b1423dae71ae352c272bfbb4f3e32aebb9436c2f17c5ac4"), looks := true }, kinds := [], alts := [], laidByText := true, laidKinds := [.data, .data, .data, .sentinel], laidTests := true, laidLooks := .later }
def FnGroupPartCardSaid : Prop := Claim7.holds Tryz.pinned (.plain (OpenSpec.ofChange fnGroupPartSpec)) fnGroupPartCard

/-- THE TIED CARD OF 'laws.FnGroupBoth'. -/
def fnGroupBothCard : Claim7 := { stood := { row := fnGroupBothRow, standIns := [], harness := (true, "537e1e76b6f482d52b1423dae71ae352c272bfbb4f3e32aebb9436c2f17c5ac4"), looks := true }, kinds := [], alts := [], laidByText := true, laidKinds := [.data, .data, .data], laidTests := true, laidLooks := .later }
def FnGroupBothCardSaid : Prop := Claim7.holds Tryz.pinned (.plain (OpenSpec.ofChange fnGroupBothSpec)) fnGroupBothCard

/-- THE SECOND FORM's CARD OF 'laws.FnGroupPart'. -/
def fnGroupPartUptoCard : Claim7 := { stood := { row := fnGroupPartUptoRow, standIns := [], harness := (true, "537e1e76b6f482d52b1423dae71ae352c272bfbb4f3e32aebb9436c2f17c5ac4"), looks := true }, kinds := [], alts := [], laidByText := true, laidKinds := [.data, .data, .data, .sentinel], laidTests := true, laidLooks := .later }
def FnGroupPartUptoCardSaid : Prop := Claim7.holds Tryz.pinned (.plain (OpenSpec.upto fnGroupPartSpec)) fnGroupPartUptoCard

/-- THE SECOND FORM's CARD OF 'laws.FnGroupBoth'. -/
def fnGroupBothUptoCard : Claim7 := { stood := { row := fnGroupBothUptoRow, standIns := [], harness := (true, "537e1e76b6f482d52b1423dae71ae352c272bfbb4f3e32aebb9436c2f17c5ac4"), looks := true }, kinds := [], alts := [], laidByText := true, laidKinds := [.data, .data, .data], laidTests := true, laidLooks := .later }
def FnGroupBothUptoCardSaid : Prop := Claim7.holds Tryz.pinned (.plain (OpenSpec.upto fnGroupBothSpec)) fnGroupBothUptoCard
end Rows
end Go.Proofs.YtflbdfpgaeeleaaGreatDoor
