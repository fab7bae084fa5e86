/-
  DERIVED. GIVEN WITH THE SEED: THE CARDS: each row of YtnkhgppfnkglfaaGreatDoorRows.lean that lists a variable, with what it lists TIED to the program's text (the seventh form; the later family's looks); each row that meets fmt, with fmt's text TOLD by the authors' own Lean function (tested against real Go, not proved from fmt's source: count such statements apart). THE CARD IS WHAT COUNTS. Prove the row's statement (the work); the ties are given (YtnkhgppfnkglfaaGreatDoorTie.lean); close each card by the builder's one call (the guide's Derived/Test/ToyasCard.lean, 'card_holds'). Laid BY PROGRAM, IN A SANDBOX (cutbox-door.mjs). By AI agents, Wed Nov 11 2026. No macro, syntax, notation, axiom, sorry.
-/
import Derived.Test.YtnkhgppfnkglfaaGreatDoorRows
import GoSem.ClaimSeven
namespace Go.Proofs.YtnkhgppfnkglfaaGreatDoor
namespace Rows

/-- THE TIED CARD OF 'laws.FnZRead'. -/
def fnZReadCard : Claim7 := { stood := { row := fnZReadRow, standIns := [], harness := (true, "bc4f2107f0603918cfaa062f2b998e29a7518c2721d1e22c1fc18dfbc8795fda"), looks := true }, kinds := [], alts := [], laidByText := true, laidKinds := [.data, .data, .data, .data, .sentinel, .sentinel, .pinned], laidTests := true, laidLooks := .later }
def FnZReadCardSaid : Prop := Claim7.holds Tryz.pinned (.plain (OpenSpec.ofChange fnZReadSpec)) fnZReadCard

/-- THE SECOND FORM's CARD OF 'laws.FnZRead'. -/
def fnZReadUptoCard : Claim7 := { stood := { row := fnZReadUptoRow, standIns := [], harness := (true, "bc4f2107f0603918cfaa062f2b998e29a7518c2721d1e22c1fc18dfbc8795fda"), looks := true }, kinds := [], alts := [], laidByText := true, laidKinds := [.data, .data, .data, .data, .sentinel, .sentinel, .pinned], laidTests := true, laidLooks := .later }
def FnZReadUptoCardSaid : Prop := Claim7.holds Tryz.pinned (.plain (OpenSpec.upto fnZReadSpec)) fnZReadUptoCard
end Rows
end Go.Proofs.YtnkhgppfnkglfaaGreatDoor
