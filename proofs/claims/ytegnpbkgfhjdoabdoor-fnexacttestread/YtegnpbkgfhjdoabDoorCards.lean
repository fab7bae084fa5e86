/-
  DERIVED. GIVEN WITH THE SEED: THE CARDS: each row of YtegnpbkgfhjdoabDoorRows.lean that lists a variable, with what it lists TIED to the program's text (the seventh form; the later family's looks); each row that meets fmt, with fmt's text TOLD by the authors' own Lean function (tested against real Go, not proved from fmt's source: count such statements apart). THE CARD IS WHAT COUNTS. Prove the row's statement (the work); the ties are given (YtegnpbkgfhjdoabDoorTie.lean); close each card by the builder's one call (the guide's Derived/Test/ToyasCard.lean, 'card_holds'). Laid BY PROGRAM, IN A SANDBOX (cutbox-door.mjs). By AI agents, Wed Nov 11 2026. No macro, syntax, notation, axiom, sorry.
-/
import Derived.Test.YtegnpbkgfhjdoabDoorRows
import GoSem.ClaimSeven
namespace Go.Proofs.YtegnpbkgfhjdoabDoor
namespace Rows

/-- THE TIED CARD OF 'laws.FnExactTestOf'. -/
def fnExactTestOfCard : Claim7 := { stood := { row := fnExactTestOfRow, standIns := [], harness := (true, "c0cd16023a6e6874832480d5d5f418744ad2cd48bb1605c405b28e7c655964d9"), looks := true }, kinds := [], alts := [], laidByText := true, laidKinds := [.sentinel], laidTests := true, laidLooks := .later }
def FnExactTestOfCardSaid : Prop := Claim7.holds Tryd.pinned (.plain (OpenSpec.ofChange fnExactTestOfSpec)) fnExactTestOfCard

/-- THE TIED CARD OF 'laws.FnExactTestText'. -/
def fnExactTestTextCard : Claim7 := { stood := { row := fnExactTestTextRow, standIns := [], harness := (true, "c0cd16023a6e6874832480d5d5f418744ad2cd48bb1605c405b28e7c655964d9"), looks := true }, kinds := [], alts := [], laidByText := true, laidKinds := [.sentinel], laidTests := true, laidLooks := .later }
def FnExactTestTextCardSaid : Prop := Claim7.holds Tryd.pinned (.plain (OpenSpec.ofChange fnExactTestTextSpec)) fnExactTestTextCard

/-- THE TIED CARD OF 'laws.FnExactTestRead'. -/
def fnExactTestReadCard : Claim7 := { stood := { row := fnExactTestReadRow, standIns := [], harness := (true, "c0cd16023a6e6874832480d5d5f418744ad2cd48bb1605c405b28e7c655964d9"), looks := true }, kinds := [], alts := [], laidByText := true, laidKinds := [.data, .data, .data, .sentinel, .sentinel, .sentinel], laidTests := true, laidLooks := .later }
def FnExactTestReadCardSaid : Prop := Claim7.holds Tryd.pinned (.plain (OpenSpec.ofChange fnExactTestReadSpec)) fnExactTestReadCard

/-- THE SECOND FORM's CARD OF 'laws.FnExactTestOf'. -/
def fnExactTestOfUptoCard : Claim7 := { stood := { row := fnExactTestOfUptoRow, standIns := [], harness := (true, "c0cd16023a6e6874832480d5d5f418744ad2cd48bb1605c405b28e7c655964d9"), looks := true }, kinds := [], alts := [], laidByText := true, laidKinds := [.sentinel], laidTests := true, laidLooks := .later }
def FnExactTestOfUptoCardSaid : Prop := Claim7.holds Tryd.pinned (.plain (OpenSpec.upto fnExactTestOfSpec)) fnExactTestOfUptoCard

/-- THE SECOND FORM's CARD OF 'laws.FnExactTestText'. -/
def fnExactTestTextUptoCard : Claim7 := { stood := { row := fnExactTestTextUptoRow, standIns := [], harness := (true, "c0cd16023a6e6874832480d5d5f418744ad2cd48bb1605c405b28e7c655964d9"), looks := true }, kinds := [], alts := [], laidByText := true, laidKinds := [.sentinel], laidTests := true, laidLooks := .later }
def FnExactTestTextUptoCardSaid : Prop := Claim7.holds Tryd.pinned (.plain (OpenSpec.upto fnExactTestTextSpec)) fnExactTestTextUptoCard

/-- THE SECOND FORM's CARD OF 'laws.FnExactTestRead'. -/
def fnExactTestReadUptoCard : Claim7 := { stood := { row := fnExactTestReadUptoRow, standIns := [], harness := (true, "c0cd16023a6e6874832480d5d5f418744ad2cd48bb1605c405b28e7c655964d9"), looks := true }, kinds := [], alts := [], laidByText := true, laidKinds := [.data, .data, .data, .sentinel, .sentinel, .sentinel], laidTests := true, laidLooks := .later }
def FnExactTestReadUptoCardSaid : Prop := Claim7.holds Tryd.pinned (.plain (OpenSpec.upto fnExactTestReadSpec)) fnExactTestReadUptoCard
end Rows
end Go.Proofs.YtegnpbkgfhjdoabDoor
