/-
  DERIVED. GIVEN WITH THE SEED: THE CARDS: each row of YtegnpbkgfhjdoaaDoorRows.lean that lists a variable, with what it lists TIED to the program's text (the seventh form; the later family's looks); each row that meets fmt, with fmt's text TOLD by the authors' own Lean function (tested against real Go, not proved from fmt's source: count such statements apart). THE CARD IS WHAT COUNTS. Prove the row's statement (the work); the ties are given (YtegnpbkgfhjdoaaDoorTie.lean); close each card by the builder's one call (the guide's Derived/Test/ToyasCard.lean, 'card_holds'). Laid BY PROGRAM, IN A SANDBOX (cutbox-door.mjs). By AI agents, Wed Nov 11 2026. No macro, syntax, notation, axiom, sorry.
-/
import Derived.Test.YtegnpbkgfhjdoaaDoorRows
import GoSem.ClaimSeven
namespace Go.Proofs.YtegnpbkgfhjdoaaDoor
namespace Rows

/-- THE TIED CARD OF 'laws.FnCellSum'. -/
def fnCellSumCard : Claim7 := { stood := { row := fnCellSumRow, standIns := [], harness := (true, "c8fba7a292ed745c7c627f88e31680f384f99d8d8d1d76772371d8554560e1c3"), looks := true }, kinds := [], alts := [], laidByText := true, laidKinds := [.sentinel], laidTests := true, laidLooks := .later }
def FnCellSumCardSaid : Prop := Claim7.holds Tryd.pinned (.plain (OpenSpec.ofChange fnCellSumSpec)) fnCellSumCard

/-- THE TIED CARD OF 'laws.FnExactCellOk'. -/
def fnExactCellOkCard : Claim7 := { stood := { row := fnExactCellOkRow, standIns := [], harness := (true, "c8fba7a292ed745c7c627f88e31680f384f99d8d8d1d76772371d8554560e1c3"), looks := true }, kinds := [], alts := [], laidByText := true, laidKinds := [.sentinel], laidTests := true, laidLooks := .later }
def FnExactCellOkCardSaid : Prop := Claim7.holds Tryd.pinned (.plain (OpenSpec.ofChange fnExactCellOkSpec)) fnExactCellOkCard

/-- THE TIED CARD OF 'laws.FnExactCellOf'. -/
def fnExactCellOfCard : Claim7 := { stood := { row := fnExactCellOfRow, standIns := [], harness := (true, "c8fba7a292ed745c7c627f88e31680f384f99d8d8d1d76772371d8554560e1c3"), looks := true }, kinds := [], alts := [], laidByText := true, laidKinds := [.sentinel], laidTests := true, laidLooks := .later }
def FnExactCellOfCardSaid : Prop := Claim7.holds Tryd.pinned (.plain (OpenSpec.ofChange fnExactCellOfSpec)) fnExactCellOfCard

/-- THE TIED CARD OF 'laws.FnExactCellText'. -/
def fnExactCellTextCard : Claim7 := { stood := { row := fnExactCellTextRow, standIns := [], harness := (true, "c8fba7a292ed745c7c627f88e31680f384f99d8d8d1d76772371d8554560e1c3"), looks := true }, kinds := [], alts := [], laidByText := true, laidKinds := [.sentinel], laidTests := true, laidLooks := .later }
def FnExactCellTextCardSaid : Prop := Claim7.holds Tryd.pinned (.plain (OpenSpec.ofChange fnExactCellTextSpec)) fnExactCellTextCard

/-- THE TIED CARD OF 'laws.FnExactCellRead'. -/
def fnExactCellReadCard : Claim7 := { stood := { row := fnExactCellReadRow, standIns := [], harness := (true, "c8fba7a292ed745c7c627f88e31680f384f99d8d8d1d76772371d8554560e1c3"), looks := true }, kinds := [], alts := [], laidByText := true, laidKinds := [.data, .data, .data, .sentinel, .sentinel, .sentinel], laidTests := true, laidLooks := .later }
def FnExactCellReadCardSaid : Prop := Claim7.holds Tryd.pinned (.plain (OpenSpec.ofChange fnExactCellReadSpec)) fnExactCellReadCard

/-- THE TIED CARD OF 'laws.FnExactTestOk'. -/
def fnExactTestOkCard : Claim7 := { stood := { row := fnExactTestOkRow, standIns := [], harness := (true, "c8fba7a292ed745c7c627f88e31680f384f99d8d8d1d76772371d8554560e1c3"), looks := true }, kinds := [], alts := [], laidByText := true, laidKinds := [.sentinel], laidTests := true, laidLooks := .later }
def FnExactTestOkCardSaid : Prop := Claim7.holds Tryd.pinned (.plain (OpenSpec.ofChange fnExactTestOkSpec)) fnExactTestOkCard

/-- THE SECOND FORM's CARD OF 'laws.FnCellSum'. -/
def fnCellSumUptoCard : Claim7 := { stood := { row := fnCellSumUptoRow, standIns := [], harness := (true, "c8fba7a292ed745c7c627f88e31680f384f99d8d8d1d76772371d8554560e1c3"), looks := true }, kinds := [], alts := [], laidByText := true, laidKinds := [.sentinel], laidTests := true, laidLooks := .later }
def FnCellSumUptoCardSaid : Prop := Claim7.holds Tryd.pinned (.plain (OpenSpec.upto fnCellSumSpec)) fnCellSumUptoCard

/-- THE SECOND FORM's CARD OF 'laws.FnExactCellOk'. -/
def fnExactCellOkUptoCard : Claim7 := { stood := { row := fnExactCellOkUptoRow, standIns := [], harness := (true, "c8fba7a292ed745c7c627f88e31680f384f99d8d8d1d76772371d8554560e1c3"), looks := true }, kinds := [], alts := [], laidByText := true, laidKinds := [.sentinel], laidTests := true, laidLooks := .later }
def FnExactCellOkUptoCardSaid : Prop := Claim7.holds Tryd.pinned (.plain (OpenSpec.upto fnExactCellOkSpec)) fnExactCellOkUptoCard

/-- THE SECOND FORM's CARD OF 'laws.FnExactCellOf'. -/
def fnExactCellOfUptoCard : Claim7 := { stood := { row := fnExactCellOfUptoRow, standIns := [], harness := (true, "c8fba7a292ed745c7c627f88e31680f384f99d8d8d1d76772371d8554560e1c3"), looks := true }, kinds := [], alts := [], laidByText := true, laidKinds := [.sentinel], laidTests := true, laidLooks := .later }
def FnExactCellOfUptoCardSaid : Prop := Claim7.holds Tryd.pinned (.plain (OpenSpec.upto fnExactCellOfSpec)) fnExactCellOfUptoCard

/-- THE SECOND FORM's CARD OF 'laws.FnExactCellText'. -/
def fnExactCellTextUptoCard : Claim7 := { stood := { row := fnExactCellTextUptoRow, standIns := [], harness := (true, "c8fba7a292ed745c7c627f88e31680f384f99d8d8d1d76772371d8554560e1c3"), looks := true }, kinds := [], alts := [], laidByText := true, laidKinds := [.sentinel], laidTests := true, laidLooks := .later }
def FnExactCellTextUptoCardSaid : Prop := Claim7.holds Tryd.pinned (.plain (OpenSpec.upto fnExactCellTextSpec)) fnExactCellTextUptoCard

/-- THE SECOND FORM's CARD OF 'laws.FnExactCellRead'. -/
def fnExactCellReadUptoCard : Claim7 := { stood := { row := fnExactCellReadUptoRow, standIns := [], harness := (true, "c8fba7a292ed745c7c627f88e31680f384f99d8d8d1d76772371d8554560e1c3"), looks := true }, kinds := [], alts := [], laidByText := true, laidKinds := [.data, .data, .data, .sentinel, .sentinel, .sentinel], laidTests := true, laidLooks := .later }
def FnExactCellReadUptoCardSaid : Prop := Claim7.holds Tryd.pinned (.plain (OpenSpec.upto fnExactCellReadSpec)) fnExactCellReadUptoCard

/-- THE SECOND FORM's CARD OF 'laws.FnExactTestOk'. -/
def fnExactTestOkUptoCard : Claim7 := { stood := { row := fnExactTestOkUptoRow, standIns := [], harness := (true, "c8fba7a292ed745c7c627f88e31680f384f99d8d8d1d76772371d8554560e1c3"), looks := true }, kinds := [], alts := [], laidByText := true, laidKinds := [.sentinel], laidTests := true, laidLooks := .later }
def FnExactTestOkUptoCardSaid : Prop := Claim7.holds Tryd.pinned (.plain (OpenSpec.upto fnExactTestOkSpec)) fnExactTestOkUptoCard
end Rows
end Go.Proofs.YtegnpbkgfhjdoaaDoor
