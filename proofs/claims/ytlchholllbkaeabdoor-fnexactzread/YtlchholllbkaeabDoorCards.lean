/-
  DERIVED. GIVEN WITH THE SEED: THE CARDS: each row of YtlchholllbkaeabDoorRows.lean that lists a variable, with what it lists TIED to the program's text (the seventh form; the later family's looks); each row that meets fmt, with fmt's text TOLD by the authors' own Lean function (tested against real Go, not proved from fmt's source: count such statements apart). THE CARD IS WHAT COUNTS. Prove the row's statement (the work); the ties are given (YtlchholllbkaeabDoorTie.lean); close each card by the builder's one call (the guide's Derived/Test/ToyasCard.lean, 'card_holds'). Laid BY PROGRAM, IN A SANDBOX (cutbox-door.mjs). By AI agents, Wed Nov 11 2026. No macro, syntax, notation, axiom, sorry.
-/
import Derived.Test.YtlchholllbkaeabDoorRows
import GoSem.ClaimSeven
namespace Go.Proofs.YtlchholllbkaeabDoor
namespace Rows

/-- THE TIED CARD OF 'laws.FnExactZText'. -/
def fnExactZTextCard : Claim7 := { stood := { row := fnExactZTextRow, standIns := [], harness := (true, "57a5b87a0490cd29fb41ea1c1ce15df7cb1956121eaa6a05ca58d3b89a002338"), looks := true }, kinds := [], alts := [], laidByText := true, laidKinds := [.data, .data, .data], laidTests := true, laidLooks := .later }
def FnExactZTextCardSaid : Prop := Claim7.holds Tryd.pinned (.plain (OpenSpec.ofChange fnExactZTextSpec)) fnExactZTextCard

/-- THE TIED CARD OF 'laws.FnExactZRead'. -/
def fnExactZReadCard : Claim7 := { stood := { row := fnExactZReadRow, standIns := [], harness := (true, "57a5b87a0490cd29fb41ea1c1ce15df7cb1956121eaa6a05ca58d3b89a002338"), looks := true }, kinds := [], alts := [], laidByText := true, laidKinds := [.data, .data, .data, .data, .sentinel, .sentinel, .pinned], laidTests := true, laidLooks := .later }
def FnExactZReadCardSaid : Prop := Claim7.holds Tryd.pinned (.plain (OpenSpec.ofChange fnExactZReadSpec)) fnExactZReadCard

/-- THE SECOND FORM's CARD OF 'laws.FnExactZText'. -/
def fnExactZTextUptoCard : Claim7 := { stood := { row := fnExactZTextUptoRow, standIns := [], harness := (true, "57a5b87a0490cd29fb41ea1c1ce15df7cb1956121eaa6a05ca58d3b89a002338"), looks := true }, kinds := [], alts := [], laidByText := true, laidKinds := [.data, .data, .data], laidTests := true, laidLooks := .later }
def FnExactZTextUptoCardSaid : Prop := Claim7.holds Tryd.pinned (.plain (OpenSpec.upto fnExactZTextSpec)) fnExactZTextUptoCard

/-- THE SECOND FORM's CARD OF 'laws.FnExactZRead'. -/
def fnExactZReadUptoCard : Claim7 := { stood := { row := fnExactZReadUptoRow, standIns := [], harness := (true, "57a5b87a0490cd29fb41ea1c1ce15df7cb1956121eaa6a05ca58d3b89a002338"), looks := true }, kinds := [], alts := [], laidByText := true, laidKinds := [.data, .data, .data, .data, .sentinel, .sentinel, .pinned], laidTests := true, laidLooks := .later }
def FnExactZReadUptoCardSaid : Prop := Claim7.holds Tryd.pinned (.plain (OpenSpec.upto fnExactZReadSpec)) fnExactZReadUptoCard
end Rows
end Go.Proofs.YtlchholllbkaeabDoor
