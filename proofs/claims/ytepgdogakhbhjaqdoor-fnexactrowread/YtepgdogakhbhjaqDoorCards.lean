/-
  DERIVED. GIVEN WITH THE SEED: THE CARDS: each row of YtepgdogakhbhjaqDoorRows.lean that lists a variable, with what it lists TIED to the program's text (the seventh form; the later family's looks); each row that meets fmt, with fmt's text TOLD by the authors' own Lean function (tested against real Go, not proved from fmt's source: count such statements apart). THE CARD IS WHAT COUNTS. Prove the row's statement (the work); the ties are given (YtepgdogakhbhjaqDoorTie.lean); close each card by the builder's one call (the guide's Derived/Test/ToyasCard.lean, 'card_holds'). Laid BY PROGRAM, IN A SANDBOX (cutbox-door.mjs). By AI agents, Wed Nov 11 2026. No macro, syntax, notation, axiom, sorry.
-/
import Derived.Test.YtepgdogakhbhjaqDoorRows
import GoSem.ClaimSeven
namespace Go.Proofs.YtepgdogakhbhjaqDoor
namespace Rows

/-- THE TIED CARD OF 'laws.FnExactRowText'. -/
def fnExactRowTextCard : Claim7 := { stood := { row := fnExactRowTextRow, standIns := [], harness := (true, "cc6058c5b5673656453848b477c5b62272f461c17cb826615744e8a5ea770691"), looks := false }, kinds := [], alts := [], laidByText := true, laidKinds := [.data, .data, .data], laidTests := true, laidLooks := .later }
def FnExactRowTextCardSaid : Prop := Claim7.holds Tryd.pinned (.plain (OpenSpec.ofChange fnExactRowTextSpec)) fnExactRowTextCard

/-- THE TIED CARD OF 'laws.FnExactRowRead'. -/
def fnExactRowReadCard : Claim7 := { stood := { row := fnExactRowReadRow, standIns := [], harness := (true, "cc6058c5b5673656453848b477c5b62272f461c17cb826615744e8a5ea770691"), looks := false }, kinds := [], alts := [], laidByText := true, laidKinds := [.data, .data, .data], laidTests := true, laidLooks := .later }
def FnExactRowReadCardSaid : Prop := Claim7.holds Tryd.pinned (.plain (OpenSpec.ofChange fnExactRowReadSpec)) fnExactRowReadCard

/-- THE SECOND FORM's CARD OF 'laws.FnExactRowText'. -/
def fnExactRowTextUptoCard : Claim7 := { stood := { row := fnExactRowTextUptoRow, standIns := [], harness := (true, "cc6058c5b5673656453848b477c5b62272f461c17cb826615744e8a5ea770691"), looks := false }, kinds := [], alts := [], laidByText := true, laidKinds := [.data, .data, .data], laidTests := true, laidLooks := .later }
def FnExactRowTextUptoCardSaid : Prop := Claim7.holds Tryd.pinned (.plain (OpenSpec.upto fnExactRowTextSpec)) fnExactRowTextUptoCard

/-- THE SECOND FORM's CARD OF 'laws.FnExactRowRead'. -/
def fnExactRowReadUptoCard : Claim7 := { stood := { row := fnExactRowReadUptoRow, standIns := [], harness := (true, "cc6058c5b5673656453848b477c5b62272f461c17cb826615744e8a5ea770691"), looks := false }, kinds := [], alts := [], laidByText := true, laidKinds := [.data, .data, .data], laidTests := true, laidLooks := .later }
def FnExactRowReadUptoCardSaid : Prop := Claim7.holds Tryd.pinned (.plain (OpenSpec.upto fnExactRowReadSpec)) fnExactRowReadUptoCard
end Rows
end Go.Proofs.YtepgdogakhbhjaqDoor
