/-
  DERIVED. GIVEN WITH THE SEED: THE CARDS: each row of YthogbofgelbppaaDoorRows.lean that lists a variable, with what it lists TIED to the program's text (the seventh form; the later family's looks); each row that meets fmt, with fmt's text TOLD by the authors' own Lean function (tested against real Go, not proved from fmt's source: count such statements apart). THE CARD IS WHAT COUNTS. Prove the row's statement (the work); the ties are given (YthogbofgelbppaaDoorTie.lean); close each card by the builder's one call (the guide's Derived/Test/ToyasCard.lean, 'card_holds'). Laid BY PROGRAM, IN A SANDBOX (cutbox-door.mjs). By AI agents, Wed Nov 11 2026. No macro, syntax, notation, axiom, sorry.
-/
import Derived.Test.YthogbofgelbppaaDoorRows
import GoSem.ClaimSeven
namespace Go.Proofs.YthogbofgelbppaaDoor
namespace Rows

/-- THE TIED CARD OF 'laws.FnExactWhereOf'. -/
def fnExactWhereOfCard : Claim7 := { stood := { row := fnExactWhereOfRow, standIns := [], harness := (true, "7be9980a5ab593d24a3b7ce03ab0081a2d245665573a54ac2d1815997ad02dd6"), looks := true }, kinds := [], alts := [], laidByText := true, laidKinds := [.sentinel], laidTests := true, laidLooks := .later }
def FnExactWhereOfCardSaid : Prop := Claim7.holds Tryd.pinned (.plain (OpenSpec.ofChange fnExactWhereOfSpec)) fnExactWhereOfCard

/-- THE TIED CARD OF 'laws.FnExactMapOf'. -/
def fnExactMapOfCard : Claim7 := { stood := { row := fnExactMapOfRow, standIns := [], harness := (true, "7be9980a5ab593d24a3b7ce03ab0081a2d245665573a54ac2d1815997ad02dd6"), looks := true }, kinds := [], alts := [], laidByText := true, laidKinds := [.sentinel], laidTests := true, laidLooks := .later }
def FnExactMapOfCardSaid : Prop := Claim7.holds Tryd.pinned (.plain (OpenSpec.ofChange fnExactMapOfSpec)) fnExactMapOfCard

/-- THE TIED CARD OF 'laws.FnExactGroupOf'. -/
def fnExactGroupOfCard : Claim7 := { stood := { row := fnExactGroupOfRow, standIns := [], harness := (true, "7be9980a5ab593d24a3b7ce03ab0081a2d245665573a54ac2d1815997ad02dd6"), looks := true }, kinds := [], alts := [], laidByText := true, laidKinds := [.data, .data, .data], laidTests := true, laidLooks := .later }
def FnExactGroupOfCardSaid : Prop := Claim7.holds Tryd.pinned (.plain (OpenSpec.ofChange fnExactGroupOfSpec)) fnExactGroupOfCard

/-- THE SECOND FORM's CARD OF 'laws.FnExactWhereOf'. -/
def fnExactWhereOfUptoCard : Claim7 := { stood := { row := fnExactWhereOfUptoRow, standIns := [], harness := (true, "7be9980a5ab593d24a3b7ce03ab0081a2d245665573a54ac2d1815997ad02dd6"), looks := true }, kinds := [], alts := [], laidByText := true, laidKinds := [.sentinel], laidTests := true, laidLooks := .later }
def FnExactWhereOfUptoCardSaid : Prop := Claim7.holds Tryd.pinned (.plain (OpenSpec.upto fnExactWhereOfSpec)) fnExactWhereOfUptoCard

/-- THE SECOND FORM's CARD OF 'laws.FnExactMapOf'. -/
def fnExactMapOfUptoCard : Claim7 := { stood := { row := fnExactMapOfUptoRow, standIns := [], harness := (true, "7be9980a5ab593d24a3b7ce03ab0081a2d245665573a54ac2d1815997ad02dd6"), looks := true }, kinds := [], alts := [], laidByText := true, laidKinds := [.sentinel], laidTests := true, laidLooks := .later }
def FnExactMapOfUptoCardSaid : Prop := Claim7.holds Tryd.pinned (.plain (OpenSpec.upto fnExactMapOfSpec)) fnExactMapOfUptoCard

/-- THE SECOND FORM's CARD OF 'laws.FnExactGroupOf'. -/
def fnExactGroupOfUptoCard : Claim7 := { stood := { row := fnExactGroupOfUptoRow, standIns := [], harness := (true, "7be9980a5ab593d24a3b7ce03ab0081a2d245665573a54ac2d1815997ad02dd6"), looks := true }, kinds := [], alts := [], laidByText := true, laidKinds := [.data, .data, .data], laidTests := true, laidLooks := .later }
def FnExactGroupOfUptoCardSaid : Prop := Claim7.holds Tryd.pinned (.plain (OpenSpec.upto fnExactGroupOfSpec)) fnExactGroupOfUptoCard
end Rows
end Go.Proofs.YthogbofgelbppaaDoor
