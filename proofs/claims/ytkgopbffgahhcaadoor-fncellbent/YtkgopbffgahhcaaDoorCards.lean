/-
  DERIVED. GIVEN WITH THE SEED: THE CARDS: each row of YtkgopbffgahhcaaDoorRows.lean that lists a variable, with what it lists TIED to the program's text (the seventh form; the later family's looks); each row that meets fmt, with fmt's text TOLD by the authors' own Lean function (tested against real Go, not proved from fmt's source: count such statements apart). THE CARD IS WHAT COUNTS. Prove the row's statement (the work); the ties are given (YtkgopbffgahhcaaDoorTie.lean); close each card by the builder's one call (the guide's Derived/Test/ToyasCard.lean, 'card_holds'). Laid BY PROGRAM, IN A SANDBOX (cutbox-door.mjs). By AI agents, Wed Nov 11 2026. No macro, syntax, notation, axiom, sorry.
-/
import Derived.Test.YtkgopbffgahhcaaDoorRows
import GoSem.ClaimSeven
namespace Go.Proofs.YtkgopbffgahhcaaDoor
namespace Rows

/-- THE TIED CARD OF 'laws.FnCellBent'. -/
def fnCellBentCard : Claim7 := { stood := { row := fnCellBentRow, standIns := [], harness := (true, "2f7b0656e4e66de175f120863e81e7751981426ec409e56dedf7b7eda2dc12f7"), looks := true }, kinds := [], alts := [], laidByText := true, laidKinds := [.sentinel], laidTests := true, laidLooks := .later }
def FnCellBentCardSaid : Prop := Claim7.holds Tryd.pinned (.plain (OpenSpec.ofChange fnCellBentSpec)) fnCellBentCard

/-- THE SECOND FORM's CARD OF 'laws.FnCellBent'. -/
def fnCellBentUptoCard : Claim7 := { stood := { row := fnCellBentUptoRow, standIns := [], harness := (true, "2f7b0656e4e66de175f120863e81e7751981426ec409e56dedf7b7eda2dc12f7"), looks := true }, kinds := [], alts := [], laidByText := true, laidKinds := [.sentinel], laidTests := true, laidLooks := .later }
def FnCellBentUptoCardSaid : Prop := Claim7.holds Tryd.pinned (.plain (OpenSpec.upto fnCellBentSpec)) fnCellBentUptoCard
end Rows
end Go.Proofs.YtkgopbffgahhcaaDoor
