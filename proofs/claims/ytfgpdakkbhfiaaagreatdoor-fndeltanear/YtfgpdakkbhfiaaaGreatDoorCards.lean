/-
  DERIVED. GIVEN WITH THE SEED: THE CARDS: each row of YtfgpdakkbhfiaaaGreatDoorRows.lean that lists a variable, with what it lists TIED to the program's text (the seventh form; the later family's looks); each row that meets fmt, with fmt's text TOLD by the authors' own Lean function (tested against real Go, not proved from fmt's source: count such statements apart). THE CARD IS WHAT COUNTS. Prove the row's statement (the work); the ties are given (YtfgpdakkbhfiaaaGreatDoorTie.lean); close each card by the builder's one call (the guide's Derived/Test/ToyasCard.lean, 'card_holds'). Laid BY PROGRAM, IN A SANDBOX (cutbox-door.mjs). By AI agents, Wed Nov 11 2026. No macro, syntax, notation, axiom, sorry.
-/
import Derived.Test.YtfgpdakkbhfiaaaGreatDoorRows
import GoSem.ClaimSeven
namespace Go.Proofs.YtfgpdakkbhfiaaaGreatDoor
namespace Rows

/-- THE TIED CARD OF 'laws.FnDeltaGroup'. -/
def fnDeltaGroupCard : Claim7 := { stood := { row := fnDeltaGroupRow, standIns := [], harness := (true, "a820ec9db07051dc4b674d7122063e0ea699433cb0d08cd3c31b947f8961947f"), looks := false }, kinds := [], alts := [], laidByText := true, laidKinds := [.data, .data, .data], laidTests := true, laidLooks := .later }
def FnDeltaGroupCardSaid : Prop := Claim7.holds Tryz.pinned (.plain (OpenSpec.ofChange fnDeltaGroupSpec)) fnDeltaGroupCard

/-- THE TIED CARD OF 'laws.FnDeltaSplit'. -/
def fnDeltaSplitCard : Claim7 := { stood := { row := fnDeltaSplitRow, standIns := [], harness := (true, "a820ec9db07051dc4b674d7122063e0ea699433cb0d08cd3c31b947f8961947f"), looks := false }, kinds := [], alts := [], laidByText := true, laidKinds := [.data, .data, .data], laidTests := true, laidLooks := .later }
def FnDeltaSplitCardSaid : Prop := Claim7.holds Tryz.pinned (.plain (OpenSpec.ofChange fnDeltaSplitSpec)) fnDeltaSplitCard

/-- THE TIED CARD OF 'laws.FnDeltaBack'. -/
def fnDeltaBackCard : Claim7 := { stood := { row := fnDeltaBackRow, standIns := [], harness := (true, "a820ec9db07051dc4b674d7122063e0ea699433cb0d08cd3c31b947f8961947f"), looks := false }, kinds := [], alts := [], laidByText := true, laidKinds := [.data, .data, .data], laidTests := true, laidLooks := .later }
def FnDeltaBackCardSaid : Prop := Claim7.holds Tryz.pinned (.plain (OpenSpec.ofChange fnDeltaBackSpec)) fnDeltaBackCard

/-- THE TIED CARD OF 'laws.FnDeltaNear'. -/
def fnDeltaNearCard : Claim7 := { stood := { row := fnDeltaNearRow, standIns := [], harness := (true, "a820ec9db07051dc4b674d7122063e0ea699433cb0d08cd3c31b947f8961947f"), looks := false }, kinds := [], alts := [], laidByText := true, laidKinds := [.data, .data, .data], laidTests := true, laidLooks := .later }
def FnDeltaNearCardSaid : Prop := Claim7.holds Tryz.pinned (.plain (OpenSpec.ofChange fnDeltaNearSpec)) fnDeltaNearCard

/-- THE SECOND FORM's CARD OF 'laws.FnDeltaGroup'. -/
def fnDeltaGroupUptoCard : Claim7 := { stood := { row := fnDeltaGroupUptoRow, standIns := [], harness := (true, "a820ec9db07051dc4b674d7122063e0ea699433cb0d08cd3c31b947f8961947f"), looks := false }, kinds := [], alts := [], laidByText := true, laidKinds := [.data, .data, .data], laidTests := true, laidLooks := .later }
def FnDeltaGroupUptoCardSaid : Prop := Claim7.holds Tryz.pinned (.plain (OpenSpec.upto fnDeltaGroupSpec)) fnDeltaGroupUptoCard

/-- THE SECOND FORM's CARD OF 'laws.FnDeltaSplit'. -/
def fnDeltaSplitUptoCard : Claim7 := { stood := { row := fnDeltaSplitUptoRow, standIns := [], harness := (true, "a820ec9db07051dc4b674d7122063e0ea699433cb0d08cd3c31b947f8961947f"), looks := false }, kinds := [], alts := [], laidByText := true, laidKinds := [.data, .data, .data], laidTests := true, laidLooks := .later }
def FnDeltaSplitUptoCardSaid : Prop := Claim7.holds Tryz.pinned (.plain (OpenSpec.upto fnDeltaSplitSpec)) fnDeltaSplitUptoCard

/-- THE SECOND FORM's CARD OF 'laws.FnDeltaBack'. -/
def fnDeltaBackUptoCard : Claim7 := { stood := { row := fnDeltaBackUptoRow, standIns := [], harness := (true, "a820ec9db07051dc4b674d7122063e0ea699433cb0d08cd3c31b947f8961947f"), looks := false }, kinds := [], alts := [], laidByText := true, laidKinds := [.data, .data, .data], laidTests := true, laidLooks := .later }
def FnDeltaBackUptoCardSaid : Prop := Claim7.holds Tryz.pinned (.plain (OpenSpec.upto fnDeltaBackSpec)) fnDeltaBackUptoCard

/-- THE SECOND FORM's CARD OF 'laws.FnDeltaNear'. -/
def fnDeltaNearUptoCard : Claim7 := { stood := { row := fnDeltaNearUptoRow, standIns := [], harness := (true, "a820ec9db07051dc4b674d7122063e0ea699433cb0d08cd3c31b947f8961947f"), looks := false }, kinds := [], alts := [], laidByText := true, laidKinds := [.data, .data, .data], laidTests := true, laidLooks := .later }
def FnDeltaNearUptoCardSaid : Prop := Claim7.holds Tryz.pinned (.plain (OpenSpec.upto fnDeltaNearSpec)) fnDeltaNearUptoCard
end Rows
end Go.Proofs.YtfgpdakkbhfiaaaGreatDoor
