/-
  DERIVED. GIVEN WITH THE SEED: THE CARDS: each row of YtehfpceghdaajaaGreatDoorRows.lean that lists a variable, with what it lists TIED to the program's text (the seventh form; the later family's looks); each row that meets fmt, with fmt's text TOLD by the authors' own Lean function (tested against real Go, not proved from fmt's source: count such statements apart). THE CARD IS WHAT COUNTS. Prove the row's statement (the work); the ties are given (YtehfpceghdaajaaGreatDoorTie.lean); close each card by the builder's one call (the guide's Derived/Test/ToyasCard.lean, 'card_holds'). Laid BY PROGRAM, IN A SANDBOX (cutbox-door.mjs). By AI agents, Wed Nov 11 2026. No macro, syntax, notation, axiom, sorry.
-/
import Derived.Test.YtehfpceghdaajaaGreatDoorRows
import GoSem.ClaimSeven
namespace Go.Proofs.YtehfpceghdaajaaGreatDoor
namespace Rows

/-- THE TIED CARD OF 'laws.FnLinear'. -/
def fnLinearCard : Claim7 := { stood := { row := fnLinearRow, standIns := [], harness := (true, "aea57c4a02b565cdd63cb61f7151a2599bd8a5390ae71b8cf4c7a02a6408c5de"), looks := true }, kinds := [], alts := [], laidByText := true, laidKinds := [.sentinel], laidTests := true, laidLooks := .later }
def FnLinearCardSaid : Prop := Claim7.holds Tryz.pinned (.plain (OpenSpec.ofChange fnLinearSpec)) fnLinearCard

/-- THE TIED CARD OF 'laws.FnWhereJoin'. -/
def fnWhereJoinCard : Claim7 := { stood := { row := fnWhereJoinRow, standIns := [], harness := (true, "aea57c4a02b565cdd63cb61f7151a2599bd8a5390ae71b8cf4c7a02a6408c5de"), looks := true }, kinds := [], alts := [], laidByText := true, laidKinds := [.sentinel], laidTests := true, laidLooks := .later }
def FnWhereJoinCardSaid : Prop := Claim7.holds Tryz.pinned (.plain (OpenSpec.ofChange fnWhereJoinSpec)) fnWhereJoinCard

/-- THE SECOND FORM's CARD OF 'laws.FnLinear'. -/
def fnLinearUptoCard : Claim7 := { stood := { row := fnLinearUptoRow, standIns := [], harness := (true, "aea57c4a02b565cdd63cb61f7151a2599bd8a5390ae71b8cf4c7a02a6408c5de"), looks := true }, kinds := [], alts := [], laidByText := true, laidKinds := [.sentinel], laidTests := true, laidLooks := .later }
def FnLinearUptoCardSaid : Prop := Claim7.holds Tryz.pinned (.plain (OpenSpec.upto fnLinearSpec)) fnLinearUptoCard

/-- THE SECOND FORM's CARD OF 'laws.FnWhereJoin'. -/
def fnWhereJoinUptoCard : Claim7 := { stood := { row := fnWhereJoinUptoRow, standIns := [], harness := (true, "aea57c4a02b565cdd63cb61f7151a2599bd8a5390ae71b8cf4c7a02a6408c5de"), looks := true }, kinds := [], alts := [], laidByText := true, laidKinds := [.sentinel], laidTests := true, laidLooks := .later }
def FnWhereJoinUptoCardSaid : Prop := Claim7.holds Tryz.pinned (.plain (OpenSpec.upto fnWhereJoinSpec)) fnWhereJoinUptoCard
end Rows
end Go.Proofs.YtehfpceghdaajaaGreatDoor
