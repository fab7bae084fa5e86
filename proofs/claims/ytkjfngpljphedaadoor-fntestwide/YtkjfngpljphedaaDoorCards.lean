/-
  DERIVED. GIVEN WITH THE SEED: THE CARDS: each row of YtkjfngpljphedaaDoorRows.lean that lists a variable, with what it lists TIED to the program's text (the seventh form; the later family's looks); each row that meets fmt, with fmt's text TOLD by the authors' own Lean function (tested against real Go, not proved from fmt's source: count such statements apart). THE CARD IS WHAT COUNTS. Prove the row's statement (the work); the ties are given (YtkjfngpljphedaaDoorTie.lean); close each card by the builder's one call (the guide's Derived/Test/ToyasCard.lean, 'card_holds'). Laid BY PROGRAM, IN A SANDBOX (cutbox-door.mjs). By AI agents, Wed Nov 11 2026. No macro, syntax, notation, axiom, sorry.
-/
import Derived.Test.YtkjfngpljphedaaDoorRows
import GoSem.ClaimSeven
namespace Go.Proofs.YtkjfngpljphedaaDoor
namespace Rows

/-- THE TIED CARD OF 'laws.FnCellBent'. -/
def fnCellBentCard : Claim7 := { stood := { row := fnCellBentRow, standIns := [], harness := (true, "438cc40978e776376cbf4fa35762e221254efa178d060d3fd94ba1f986e5abf6"), looks := true }, kinds := [], alts := [], laidByText := true, laidKinds := [.sentinel], laidTests := true, laidLooks := .later }
def FnCellBentCardSaid : Prop := Claim7.holds Tryd.pinned (.plain (OpenSpec.ofChange fnCellBentSpec)) fnCellBentCard

/-- THE TIED CARD OF 'laws.FnTestWide'. -/
def fnTestWideCard : Claim7 := { stood := { row := fnTestWideRow, standIns := [], harness := (true, "438cc40978e776376cbf4fa35762e221254efa178d060d3fd94ba1f986e5abf6"), looks := true }, kinds := [], alts := [], laidByText := true, laidKinds := [.sentinel], laidTests := true, laidLooks := .later }
def FnTestWideCardSaid : Prop := Claim7.holds Tryd.pinned (.plain (OpenSpec.ofChange fnTestWideSpec)) fnTestWideCard

/-- THE SECOND FORM's CARD OF 'laws.FnCellBent'. -/
def fnCellBentUptoCard : Claim7 := { stood := { row := fnCellBentUptoRow, standIns := [], harness := (true, "438cc40978e776376cbf4fa35762e221254efa178d060d3fd94ba1f986e5abf6"), looks := true }, kinds := [], alts := [], laidByText := true, laidKinds := [.sentinel], laidTests := true, laidLooks := .later }
def FnCellBentUptoCardSaid : Prop := Claim7.holds Tryd.pinned (.plain (OpenSpec.upto fnCellBentSpec)) fnCellBentUptoCard

/-- THE SECOND FORM's CARD OF 'laws.FnTestWide'. -/
def fnTestWideUptoCard : Claim7 := { stood := { row := fnTestWideUptoRow, standIns := [], harness := (true, "438cc40978e776376cbf4fa35762e221254efa178d060d3fd94ba1f986e5abf6"), looks := true }, kinds := [], alts := [], laidByText := true, laidKinds := [.sentinel], laidTests := true, laidLooks := .later }
def FnTestWideUptoCardSaid : Prop := Claim7.holds Tryd.pinned (.plain (OpenSpec.upto fnTestWideSpec)) fnTestWideUptoCard
end Rows
end Go.Proofs.YtkjfngpljphedaaDoor
