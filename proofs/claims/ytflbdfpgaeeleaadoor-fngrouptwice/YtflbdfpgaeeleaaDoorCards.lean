/-
  DERIVED. GIVEN WITH THE SEED: THE CARDS: each row of YtflbdfpgaeeleaaDoorRows.lean that lists a variable, with what it lists TIED to the program's text (the seventh form; the later family's looks); each row that meets fmt, with fmt's text TOLD by the authors' own Lean function (tested against real Go, not proved from fmt's source: count such statements apart). THE CARD IS WHAT COUNTS. Prove the row's statement (the work); the ties are given (YtflbdfpgaeeleaaDoorTie.lean); close each card by the builder's one call (the guide's Derived/Test/ToyasCard.lean, 'card_holds'). Laid BY PROGRAM, IN A SANDBOX (cutbox-door.mjs). By AI agents, Wed Nov 11 2026. No macro, syntax, notation, axiom, sorry.
-/
import Derived.Test.YtflbdfpgaeeleaaDoorRows
import GoSem.ClaimSeven
namespace Go.Proofs.YtflbdfpgaeeleaaDoor
namespace Rows

/-- THE TIED CARD OF 'laws.FnGroup'. -/
def fnGroupCard : Claim7 := { stood := { row := fnGroupRow, standIns := [], harness := (true, "8b282709d38208d8c98bf91ad56e62981e9be456d8fdebf6a55ab93ca8a94b27"), looks := false }, kinds := [], alts := [], laidByText := true, laidKinds := [.data, .data, .data], laidTests := true, laidLooks := .later }
def FnGroupCardSaid : Prop := Claim7.holds Tryd.pinned (.plain (OpenSpec.ofChange fnGroupSpec)) fnGroupCard

/-- THE TIED CARD OF 'laws.FnGroupSum'. -/
def fnGroupSumCard : Claim7 := { stood := { row := fnGroupSumRow, standIns := [], harness := (true, "8b282709d38208d8c98bf91ad56e62981e9be456d8fdebf6a55ab93ca8a94b27"), looks := false }, kinds := [], alts := [], laidByText := true, laidKinds := [.data, .data, .data], laidTests := true, laidLooks := .later }
def FnGroupSumCardSaid : Prop := Claim7.holds Tryd.pinned (.plain (OpenSpec.ofChange fnGroupSumSpec)) fnGroupSumCard

/-- THE TIED CARD OF 'laws.FnGroupTwice'. -/
def fnGroupTwiceCard : Claim7 := { stood := { row := fnGroupTwiceRow, standIns := [], harness := (true, "8b282709d38208d8c98bf91ad56e62981e9be456d8fdebf6a55ab93ca8a94b27"), looks := false }, kinds := [], alts := [], laidByText := true, laidKinds := [.data, .data, .data], laidTests := true, laidLooks := .later }
def FnGroupTwiceCardSaid : Prop := Claim7.holds Tryd.pinned (.plain (OpenSpec.ofChange fnGroupTwiceSpec)) fnGroupTwiceCard

/-- THE SECOND FORM's CARD OF 'laws.FnGroup'. -/
def fnGroupUptoCard : Claim7 := { stood := { row := fnGroupUptoRow, standIns := [], harness := (true, "8b282709d38208d8c98bf91ad56e62981e9be456d8fdebf6a55ab93ca8a94b27"), looks := false }, kinds := [], alts := [], laidByText := true, laidKinds := [.data, .data, .data], laidTests := true, laidLooks := .later }
def FnGroupUptoCardSaid : Prop := Claim7.holds Tryd.pinned (.plain (OpenSpec.upto fnGroupSpec)) fnGroupUptoCard

/-- THE SECOND FORM's CARD OF 'laws.FnGroupSum'. -/
def fnGroupSumUptoCard : Claim7 := { stood := { row := fnGroupSumUptoRow, standIns := [], harness := (true, "8b282709d38208d8c98bf91ad56e62981e9be456d8fdebf6a55ab93ca8a94b27"), looks := false }, kinds := [], alts := [], laidByText := true, laidKinds := [.data, .data, .data], laidTests := true, laidLooks := .later }
def FnGroupSumUptoCardSaid : Prop := Claim7.holds Tryd.pinned (.plain (OpenSpec.upto fnGroupSumSpec)) fnGroupSumUptoCard

/-- THE SECOND FORM's CARD OF 'laws.FnGroupTwice'. -/
def fnGroupTwiceUptoCard : Claim7 := { stood := { row := fnGroupTwiceUptoRow, standIns := [], harness := (true, "8b282709d38208d8c98bf91ad56e62981e9be456d8fdebf6a55ab93ca8a94b27"), looks := false }, kinds := [], alts := [], laidByText := true, laidKinds := [.data, .data, .data], laidTests := true, laidLooks := .later }
def FnGroupTwiceUptoCardSaid : Prop := Claim7.holds Tryd.pinned (.plain (OpenSpec.upto fnGroupTwiceSpec)) fnGroupTwiceUptoCard
end Rows
end Go.Proofs.YtflbdfpgaeeleaaDoor
