/-
  DERIVED. GIVEN WITH THE SEED: THE CARDS: each row of YtkgopbffgahhcaaGreatDoorRows.lean that lists a variable, with what it lists TIED to the program's text (the seventh form; the later family's looks); each row that meets fmt, with fmt's text TOLD by the authors' own Lean function (tested against real Go, not proved from fmt's source: count such statements apart). THE CARD IS WHAT COUNTS. Prove the row's statement (the work); the ties are given (YtkgopbffgahhcaaGreatDoorTie.lean); close each card by the builder's one call (the guide's Derived/Test/ToyasCard.lean, 'card_holds'). Laid BY PROGRAM, IN A SANDBOX (cutbox-door.mjs). By AI agents, Wed Nov 11 2026. No macro, syntax, notation, axiom, sorry.
-/
import Derived.Test.YtkgopbffgahhcaaGreatDoorRows
import GoSem.ClaimSeven
namespace Go.Proofs.YtkgopbffgahhcaaGreatDoor
namespace Rows

/-- THE TIED CARD OF 'laws.FnZText'. -/
def fnZTextCard : Claim7 := { stood := { row := fnZTextRow, standIns := [], harness := (true, "c2cc0c1e01c1ea9970a0ca4b40a30f5ebb5f076c76e18c80fad61d6f539d95a3"), looks := true }, kinds := [], alts := [], laidByText := true, laidKinds := [.data, .data, .data, .data, .sentinel, .sentinel, .pinned], laidTests := true, laidLooks := .later }
def FnZTextCardSaid : Prop := Claim7.holds Tryz.pinned (.plain (OpenSpec.ofChange fnZTextSpec)) fnZTextCard

/-- THE TIED CARD OF 'laws.FnZRead'. -/
def fnZReadCard : Claim7 := { stood := { row := fnZReadRow, standIns := [], harness := (true, "c2cc0c1e01c1ea9970a0ca4b40a30f5ebb5f076c76e18c80fad61d6f539d95a3"), looks := true }, kinds := [], alts := [], laidByText := true, laidKinds := [.data, .data, .data, .data, .sentinel, .sentinel, .pinned], laidTests := true, laidLooks := .later }
def FnZReadCardSaid : Prop := Claim7.holds Tryz.pinned (.plain (OpenSpec.ofChange fnZReadSpec)) fnZReadCard

/-- THE TIED CARD OF 'laws.FnCell'. -/
def fnCellCard : Claim7 := { stood := { row := fnCellRow, standIns := [], harness := (true, "c2cc0c1e01c1ea9970a0ca4b40a30f5ebb5f076c76e18c80fad61d6f539d95a3"), looks := true }, kinds := [], alts := [], laidByText := true, laidKinds := [.data, .data, .data, .sentinel, .sentinel, .sentinel], laidTests := true, laidLooks := .later }
def FnCellCardSaid : Prop := Claim7.holds Tryz.pinned (.plain (OpenSpec.ofChange fnCellSpec)) fnCellCard

/-- THE TIED CARD OF 'laws.FnTest'. -/
def fnTestCard : Claim7 := { stood := { row := fnTestRow, standIns := [], harness := (true, "c2cc0c1e01c1ea9970a0ca4b40a30f5ebb5f076c76e18c80fad61d6f539d95a3"), looks := true }, kinds := [], alts := [], laidByText := true, laidKinds := [.data, .data, .data, .sentinel, .sentinel, .sentinel], laidTests := true, laidLooks := .later }
def FnTestCardSaid : Prop := Claim7.holds Tryz.pinned (.plain (OpenSpec.ofChange fnTestSpec)) fnTestCard

/-- THE SECOND FORM's CARD OF 'laws.FnZText'. -/
def fnZTextUptoCard : Claim7 := { stood := { row := fnZTextUptoRow, standIns := [], harness := (true, "c2cc0c1e01c1ea9970a0ca4b40a30f5ebb5f076c76e18c80fad61d6f539d95a3"), looks := true }, kinds := [], alts := [], laidByText := true, laidKinds := [.data, .data, .data, .data, .sentinel, .sentinel, .pinned], laidTests := true, laidLooks := .later }
def FnZTextUptoCardSaid : Prop := Claim7.holds Tryz.pinned (.plain (OpenSpec.upto fnZTextSpec)) fnZTextUptoCard

/-- THE SECOND FORM's CARD OF 'laws.FnZRead'. -/
def fnZReadUptoCard : Claim7 := { stood := { row := fnZReadUptoRow, standIns := [], harness := (true, "c2cc0c1e01c1ea9970a0ca4b40a30f5ebb5f076c76e18c80fad61d6f539d95a3"), looks := true }, kinds := [], alts := [], laidByText := true, laidKinds := [.data, .data, .data, .data, .sentinel, .sentinel, .pinned], laidTests := true, laidLooks := .later }
def FnZReadUptoCardSaid : Prop := Claim7.holds Tryz.pinned (.plain (OpenSpec.upto fnZReadSpec)) fnZReadUptoCard

/-- THE SECOND FORM's CARD OF 'laws.FnCell'. -/
def fnCellUptoCard : Claim7 := { stood := { row := fnCellUptoRow, standIns := [], harness := (true, "c2cc0c1e01c1ea9970a0ca4b40a30f5ebb5f076c76e18c80fad61d6f539d95a3"), looks := true }, kinds := [], alts := [], laidByText := true, laidKinds := [.data, .data, .data, .sentinel, .sentinel, .sentinel], laidTests := true, laidLooks := .later }
def FnCellUptoCardSaid : Prop := Claim7.holds Tryz.pinned (.plain (OpenSpec.upto fnCellSpec)) fnCellUptoCard

/-- THE SECOND FORM's CARD OF 'laws.FnTest'. -/
def fnTestUptoCard : Claim7 := { stood := { row := fnTestUptoRow, standIns := [], harness := (true, "c2cc0c1e01c1ea9970a0ca4b40a30f5ebb5f076c76e18c80fad61d6f539d95a3"), looks := true }, kinds := [], alts := [], laidByText := true, laidKinds := [.data, .data, .data, .sentinel, .sentinel, .sentinel], laidTests := true, laidLooks := .later }
def FnTestUptoCardSaid : Prop := Claim7.holds Tryz.pinned (.plain (OpenSpec.upto fnTestSpec)) fnTestUptoCard
end Rows
end Go.Proofs.YtkgopbffgahhcaaGreatDoor
