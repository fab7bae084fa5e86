/-
  DERIVED. GIVEN WITH THE SEED: THE CARDS: each row of YtjbfgfgldchfnaaDoorRows.lean that lists a variable, with what it lists TIED to the program's text (the seventh form; the later family's looks); each row that meets fmt, with fmt's text TOLD by the authors' own Lean function (tested against real Go, not proved from fmt's source: count such statements apart). THE CARD IS WHAT COUNTS. Prove the row's statement (the work); the ties are given (YtjbfgfgldchfnaaDoorTie.lean); close each card by the builder's one call (the guide's Derived/Test/ToyasCard.lean, 'card_holds'). Laid BY PROGRAM, IN A SANDBOX (cutbox-door.mjs). By AI agents, Wed Nov 11 2026. No macro, syntax, notation, axiom, sorry.
-/
import Derived.Test.YtjbfgfgldchfnaaDoorRows
import GoSem.ClaimSeven
namespace Go.Proofs.YtjbfgfgldchfnaaDoor
namespace Rows

/-- THE TIED CARD OF 'laws.FnExactDeltaNear'. -/
def fnExactDeltaNearCard : Claim7 := { stood := { row := fnExactDeltaNearRow, standIns := [], harness := (true, "2ddac3af5ad33855e8ba8d801d5875330c5a0a78772158c74fe5b1830841f0bf"), looks := false }, kinds := [], alts := [], laidByText := true, laidKinds := [.data, .data, .data], laidTests := true, laidLooks := .later }
def FnExactDeltaNearCardSaid : Prop := Claim7.holds Tryd.pinned (.plain (OpenSpec.ofChange fnExactDeltaNearSpec)) fnExactDeltaNearCard

/-- THE TIED CARD OF 'laws.FnExactGroupOf'. -/
def fnExactGroupOfCard : Claim7 := { stood := { row := fnExactGroupOfRow, standIns := [], harness := (true, "2ddac3af5ad33855e8ba8d801d5875330c5a0a78772158c74fe5b1830841f0bf"), looks := false }, kinds := [], alts := [], laidByText := true, laidKinds := [.data, .data, .data], laidTests := true, laidLooks := .later }
def FnExactGroupOfCardSaid : Prop := Claim7.holds Tryd.pinned (.plain (OpenSpec.ofChange fnExactGroupOfSpec)) fnExactGroupOfCard

/-- THE SECOND FORM's CARD OF 'laws.FnExactDeltaNear'. -/
def fnExactDeltaNearUptoCard : Claim7 := { stood := { row := fnExactDeltaNearUptoRow, standIns := [], harness := (true, "2ddac3af5ad33855e8ba8d801d5875330c5a0a78772158c74fe5b1830841f0bf"), looks := false }, kinds := [], alts := [], laidByText := true, laidKinds := [.data, .data, .data], laidTests := true, laidLooks := .later }
def FnExactDeltaNearUptoCardSaid : Prop := Claim7.holds Tryd.pinned (.plain (OpenSpec.upto fnExactDeltaNearSpec)) fnExactDeltaNearUptoCard

/-- THE SECOND FORM's CARD OF 'laws.FnExactGroupOf'. -/
def fnExactGroupOfUptoCard : Claim7 := { stood := { row := fnExactGroupOfUptoRow, standIns := [], harness := (true, "2ddac3af5ad33855e8ba8d801d5875330c5a0a78772158c74fe5b1830841f0bf"), looks := false }, kinds := [], alts := [], laidByText := true, laidKinds := [.data, .data, .data], laidTests := true, laidLooks := .later }
def FnExactGroupOfUptoCardSaid : Prop := Claim7.holds Tryd.pinned (.plain (OpenSpec.upto fnExactGroupOfSpec)) fnExactGroupOfUptoCard
end Rows
end Go.Proofs.YtjbfgfgldchfnaaDoor
