/-
  DERIVED. GIVEN WITH THE SEED: THE CARDS: each row of YtdponcnhdmkhiacDoorRows.lean that lists a variable, with what it lists TIED to the program's text (the seventh form; the later family's looks); each row that meets fmt, with fmt's text TOLD by the authors' own Lean function (tested against real Go, not proved from fmt's source: count such statements apart). THE CARD IS WHAT COUNTS. Prove the row's statement (the work); the ties are given (YtdponcnhdmkhiacDoorTie.lean); close each card by the builder's one call (the guide's Derived/Test/ToyasCard.lean, 'card_holds'). Laid BY PROGRAM, IN A SANDBOX (cutbox-door.mjs). By AI agents, Wed Nov 11 2026. No macro, syntax, notation, axiom, sorry.
-/
import Derived.Test.YtdponcnhdmkhiacDoorRows
import GoSem.ClaimSeven
namespace Go.Proofs.YtdponcnhdmkhiacDoor
namespace Rows

/-- THE TIED CARD OF 'laws.FnWhereAll'. -/
def fnWhereAllCard : Claim7 := { stood := { row := fnWhereAllRow, standIns := [], harness := (true, "efe2bc1095b7335cbc1c79f8994911716fe6953b58e0e81e978fa5d7b3b50e6f"), looks := true }, kinds := [], alts := [], laidByText := true, laidKinds := [.sentinel], laidTests := true, laidLooks := .later }
def FnWhereAllCardSaid : Prop := Claim7.holds Tryd.pinned (.plain (OpenSpec.ofChange fnWhereAllSpec)) fnWhereAllCard

/-- THE TIED CARD OF 'laws.FnGroupTwice'. -/
def fnGroupTwiceCard : Claim7 := { stood := { row := fnGroupTwiceRow, standIns := [], harness := (true, "efe2bc1095b7335cbc1c79f8994911716fe6953b58e0e81e978fa5d7b3b50e6f"), looks := true }, kinds := [], alts := [], laidByText := true, laidKinds := [.data, .data, .data], laidTests := true, laidLooks := .later }
def FnGroupTwiceCardSaid : Prop := Claim7.holds Tryd.pinned (.plain (OpenSpec.ofChange fnGroupTwiceSpec)) fnGroupTwiceCard

/-- THE SECOND FORM's CARD OF 'laws.FnWhereAll'. -/
def fnWhereAllUptoCard : Claim7 := { stood := { row := fnWhereAllUptoRow, standIns := [], harness := (true, "efe2bc1095b7335cbc1c79f8994911716fe6953b58e0e81e978fa5d7b3b50e6f"), looks := true }, kinds := [], alts := [], laidByText := true, laidKinds := [.sentinel], laidTests := true, laidLooks := .later }
def FnWhereAllUptoCardSaid : Prop := Claim7.holds Tryd.pinned (.plain (OpenSpec.upto fnWhereAllSpec)) fnWhereAllUptoCard

/-- THE SECOND FORM's CARD OF 'laws.FnGroupTwice'. -/
def fnGroupTwiceUptoCard : Claim7 := { stood := { row := fnGroupTwiceUptoRow, standIns := [], harness := (true, "efe2bc1095b7335cbc1c79f8994911716fe6953b58e0e81e978fa5d7b3b50e6f"), looks := true }, kinds := [], alts := [], laidByText := true, laidKinds := [.data, .data, .data], laidTests := true, laidLooks := .later }
def FnGroupTwiceUptoCardSaid : Prop := Claim7.holds Tryd.pinned (.plain (OpenSpec.upto fnGroupTwiceSpec)) fnGroupTwiceUptoCard
end Rows
end Go.Proofs.YtdponcnhdmkhiacDoor
