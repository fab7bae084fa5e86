/-
  DERIVED. GIVEN WITH THE SEED: THE CARDS: each row of YtdleikloneaodaaDoorRows.lean that lists a variable, with what it lists TIED to the program's text (the seventh form; the later family's looks); each row that meets fmt, with fmt's text TOLD by the authors' own Lean function (tested against real Go, not proved from fmt's source: count such statements apart). THE CARD IS WHAT COUNTS. Prove the row's statement (the work); the ties are given (YtdleikloneaodaaDoorTie.lean); close each card by the builder's one call (the guide's Derived/Test/ToyasCard.lean, 'card_holds'). Laid BY PROGRAM, IN A SANDBOX (cutbox-door.mjs). By AI agents, Wed Nov 11 2026. No macro, syntax, notation, axiom, sorry.
-/
import Derived.Test.YtdleikloneaodaaDoorRows
import GoSem.ClaimSeven
namespace Go.Proofs.YtdleikloneaodaaDoor
namespace Rows

/-- THE TIED CARD OF 'laws.FnZOrder'. -/
def fnZOrderCard : Claim7 := { stood := { row := fnZOrderRow, standIns := [], harness := (true, "706853a7b4ccb6fd01b7692fd4349a6afd51d7720daf54cd61ff6141df67ccbe"), looks := false }, kinds := [], alts := [], laidByText := true, laidKinds := [.data, .data, .data], laidTests := true, laidLooks := .later }
def FnZOrderCardSaid : Prop := Claim7.holds Tryd.pinned (.plain (OpenSpec.ofChange fnZOrderSpec)) fnZOrderCard

/-- THE SECOND FORM's CARD OF 'laws.FnZOrder'. -/
def fnZOrderUptoCard : Claim7 := { stood := { row := fnZOrderUptoRow, standIns := [], harness := (true, "706853a7b4ccb6fd01b7692fd4349a6afd51d7720daf54cd61ff6141df67ccbe"), looks := false }, kinds := [], alts := [], laidByText := true, laidKinds := [.data, .data, .data], laidTests := true, laidLooks := .later }
def FnZOrderUptoCardSaid : Prop := Claim7.holds Tryd.pinned (.plain (OpenSpec.upto fnZOrderSpec)) fnZOrderUptoCard
end Rows
end Go.Proofs.YtdleikloneaodaaDoor
