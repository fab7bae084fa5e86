/-
  DERIVED. GIVEN WITH THE SEED: THE CARDS: each row of YtjbfgfgldchfnaaGreatDoorRows.lean that lists a variable, with what it lists TIED to the program's text (the seventh form; the later family's looks); each row that meets fmt, with fmt's text TOLD by the authors' own Lean function (tested against real Go, not proved from fmt's source: count such statements apart). THE CARD IS WHAT COUNTS. Prove the row's statement (the work); the ties are given (YtjbfgfgldchfnaaGreatDoorTie.lean); close each card by the builder's one call (the guide's Derived/Test/ToyasCard.lean, 'card_holds'). Laid BY PROGRAM, IN A SANDBOX (cutbox-door.mjs). By AI agents, Wed Nov 11 2026. No macro, syntax, notation, axiom, sorry.
-/
import Derived.Test.YtjbfgfgldchfnaaGreatDoorRows
import GoSem.ClaimSeven
namespace Go.Proofs.YtjbfgfgldchfnaaGreatDoor
namespace Rows

/-- THE TIED CARD OF 'laws.FnExactDeltaGroup'. -/
def fnExactDeltaGroupCard : Claim7 := { stood := { row := fnExactDeltaGroupRow, standIns := [], harness := (true, "b7e00637a0fd85457f2944ea54f7baf4654522205049bf97248a31a35b89f121"), looks := false }, kinds := [], alts := [], laidByText := true, laidKinds := [.data, .data, .data], laidTests := true, laidLooks := .later }
def FnExactDeltaGroupCardSaid : Prop := Claim7.holds Tryz.pinned (.plain (OpenSpec.ofChange fnExactDeltaGroupSpec)) fnExactDeltaGroupCard

/-- THE SECOND FORM's CARD OF 'laws.FnExactDeltaGroup'. -/
def fnExactDeltaGroupUptoCard : Claim7 := { stood := { row := fnExactDeltaGroupUptoRow, standIns := [], harness := (true, "b7e00637a0fd85457f2944ea54f7baf4654522205049bf97248a31a35b89f121"), looks := false }, kinds := [], alts := [], laidByText := true, laidKinds := [.data, .data, .data], laidTests := true, laidLooks := .later }
def FnExactDeltaGroupUptoCardSaid : Prop := Claim7.holds Tryz.pinned (.plain (OpenSpec.upto fnExactDeltaGroupSpec)) fnExactDeltaGroupUptoCard
end Rows
end Go.Proofs.YtjbfgfgldchfnaaGreatDoor
