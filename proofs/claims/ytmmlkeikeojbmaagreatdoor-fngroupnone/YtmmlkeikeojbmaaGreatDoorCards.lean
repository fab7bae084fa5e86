/-
  DERIVED. GIVEN WITH THE SEED: THE CARDS: each row of YtmmlkeikeojbmaaGreatDoorRows.lean that lists a variable, with what it lists TIED to the program's text (the seventh form; the later family's looks); each row that meets fmt, with fmt's text TOLD by the authors' own Lean function (tested against real Go, not proved from fmt's source: count such statements apart). THE CARD IS WHAT COUNTS. Prove the row's statement (the work); the ties are given (YtmmlkeikeojbmaaGreatDoorTie.lean); close each card by the builder's one call (the guide's Derived/Test/ToyasCard.lean, 'card_holds'). Laid BY PROGRAM, IN A SANDBOX (cutbox-door.mjs). By AI agents, Wed Nov 11 2026. No macro, syntax, notation, axiom, sorry.
-/
import Derived.Test.YtmmlkeikeojbmaaGreatDoorRows
import GoSem.ClaimSeven
namespace Go.Proofs.YtmmlkeikeojbmaaGreatDoor
namespace Rows

/-- THE TIED CARD OF 'laws.FnGroupNone'. -/
def fnGroupNoneCard : Claim7 := { stood := { row := fnGroupNoneRow, standIns := [], harness := (true, "b1049fcbb4a6d037f5e2f161221f3e460fb2bcd414c4c9a2dd59affe7b801190"), looks := false }, kinds := [], alts := [], laidByText := true, laidKinds := [.data, .data, .data], laidTests := true, laidLooks := .later }
def FnGroupNoneCardSaid : Prop := Claim7.holds Tryz.pinned (.plain (OpenSpec.ofChange fnGroupNoneSpec)) fnGroupNoneCard

/-- THE TIED CARD OF 'laws.FnDeltaGroup'. -/
def fnDeltaGroupCard : Claim7 := { stood := { row := fnDeltaGroupRow, standIns := [], harness := (true, "b1049fcbb4a6d037f5e2f161221f3e460fb2bcd414c4c9a2dd59affe7b801190"), looks := false }, kinds := [], alts := [], laidByText := true, laidKinds := [.data, .data, .data], laidTests := true, laidLooks := .later }
def FnDeltaGroupCardSaid : Prop := Claim7.holds Tryz.pinned (.plain (OpenSpec.ofChange fnDeltaGroupSpec)) fnDeltaGroupCard

/-- THE TIED CARD OF 'laws.FnDeltaBack'. -/
def fnDeltaBackCard : Claim7 := { stood := { row := fnDeltaBackRow, standIns := [], harness := (true, "b1049fcbb4a6d037f5e2f161221f3e460fb2bcd414c4c9a2dd59affe7b801190"), looks := false }, kinds := [], alts := [], laidByText := true, laidKinds := [.data, .data, .data], laidTests := true, laidLooks := .later }
def FnDeltaBackCardSaid : Prop := Claim7.holds Tryz.pinned (.plain (OpenSpec.ofChange fnDeltaBackSpec)) fnDeltaBackCard

/-- THE TIED CARD OF 'laws.FnDeltaNear'. -/
def fnDeltaNearCard : Claim7 := { stood := { row := fnDeltaNearRow, standIns := [], harness := (true, "b1049fcbb4a6d037f5e2f161221f3e460fb2bcd414c4c9a2dd59affe7b801190"), looks := false }, kinds := [], alts := [], laidByText := true, laidKinds := [.data, .data, .data], laidTests := true, laidLooks := .later }
def FnDeltaNearCardSaid : Prop := Claim7.holds Tryz.pinned (.plain (OpenSpec.ofChange fnDeltaNearSpec)) fnDeltaNearCard

/-- THE SECOND FORM's CARD OF 'laws.FnGroupNone'. -/
def fnGroupNoneUptoCard : Claim7 := { stood := { row := fnGroupNoneUptoRow, standIns := [], harness := (true, "b1049fcbb4a6d037f5e2f161221f3e460fb2bcd414c4c9a2dd59affe7b801190"), looks := false }, kinds := [], alts := [], laidByText := true, laidKinds := [.data, .data, .data], laidTests := true, laidLooks := .later }
def FnGroupNoneUptoCardSaid : Prop := Claim7.holds Tryz.pinned (.plain (OpenSpec.upto fnGroupNoneSpec)) fnGroupNoneUptoCard

/-- THE SECOND FORM's CARD OF 'laws.FnDeltaGroup'. -/
def fnDeltaGroupUptoCard : Claim7 := { stood := { row := fnDeltaGroupUptoRow, standIns := [], harness := (true, "b1049fcbb4a6d037f5e2f161221f3e460fb2bcd414c4c9a2dd59affe7b801190"), looks := false }, kinds := [], alts := [], laidByText := true, laidKinds := [.data, .data, .data], laidTests := true, laidLooks := .later }
def FnDeltaGroupUptoCardSaid : Prop := Claim7.holds Tryz.pinned (.plain (OpenSpec.upto fnDeltaGroupSpec)) fnDeltaGroupUptoCard

/-- THE SECOND FORM's CARD OF 'laws.FnDeltaBack'. -/
def fnDeltaBackUptoCard : Claim7 := { stood := { row := fnDeltaBackUptoRow, standIns := [], harness := (true, "b1049fcbb4a6d037f5e2f161221f3e460fb2bcd414c4c9a2dd59affe7b801190"), looks := false }, kinds := [], alts := [], laidByText := true, laidKinds := [.data, .data, .data], laidTests := true, laidLooks := .later }
def FnDeltaBackUptoCardSaid : Prop := Claim7.holds Tryz.pinned (.plain (OpenSpec.upto fnDeltaBackSpec)) fnDeltaBackUptoCard

/-- THE SECOND FORM's CARD OF 'laws.FnDeltaNear'. -/
def fnDeltaNearUptoCard : Claim7 := { stood := { row := fnDeltaNearUptoRow, standIns := [], harness := (true, "b1049fcbb4a6d037f5e2f161221f3e460fb2bcd414c4c9a2dd59affe7b801190"), looks := false }, kinds := [], alts := [], laidByText := true, laidKinds := [.data, .data, .data], laidTests := true, laidLooks := .later }
def FnDeltaNearUptoCardSaid : Prop := Claim7.holds Tryz.pinned (.plain (OpenSpec.upto fnDeltaNearSpec)) fnDeltaNearUptoCard
end Rows
end Go.Proofs.YtmmlkeikeojbmaaGreatDoor
