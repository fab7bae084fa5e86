/-
  No cell of these rows narrows 'for every input' (looked for: loops, veiled, ifaces, maps, wideKeys, modest, calm, conditions, laid).
  DERIVED. THE GIVEN ROWS OF THIS SEAT. 4 by the template 'for every input the law returns true; each argument reads behind the call as it read before'; 0 by the template 'total and deterministic' (their statements: YtdleikloneaodaaTotals.lean).
  GIVEN WITH THE SEED: the statements are not yours to turn. If you find one false, say at which input.
  Laid BY PROGRAM, IN A SANDBOX (cutbox-rows.mjs): the forced cells as the released guide's own fill.sh prints them over the translation bbcb6294e885dd79… (all of the seat's roots in one cut). By AI agents, Wed Nov 11 2026. No macro, syntax, notation, axiom, sorry.
-/
import Derived.Test.YtdleikloneaodaaChecked
import GoSem.Claim
import GoSem.ClaimJoined
import GoSem.ClaimMapViews
import Derived.JoinedTies
import Derived.KernelRfl
namespace Go.Proofs.Ytdleikloneaodaa
/- THE CELL 'sum', in the pinned program and in every row, IS THE sha256 OF THE DUMP (.gsa) THAT YtdleikloneaodaaProg.lean LOADS. Nothing in Lean hashes anything: it is a label: what it is worth is what the hold of that sum in a sandbox is worth. -/
noncomputable def Try.pinned : Pinned := { name := "ytdleikloneaodaa", sum := "bbcb6294e885dd79f5542c1c264cbe2fe36ee24f46181cd0a7c795c69586af99", checked := Try.checked }
namespace Rows
def none {H : Type} : Left H := { results := [], args := [] }

/-- 'laws.FnZ': WHATEVER THE INPUT: true; the input reads as it did. -/
def fnZSpec : ChangeSpec := { name := "fnZ", fn := fun _ => fun
  | [d1, d2] => { results := [.lit (.bool true)], args := [d1, d2] }
  | _ => none }
def fnZRow : OpenClaim := { program := "ytdleikloneaodaa", sum := "bbcb6294e885dd79f5542c1c264cbe2fe36ee24f46181cd0a7c795c69586af99", func := "loop.example/milldam/laws.FnZ", spec := "fnZ", unfollowed := true, recurses := true, apart := false }
def FnZSaid : Prop := fnZRow.holds Try.pinned (OpenSpec.ofChange fnZSpec)

/-- ITS FALSE NEIGHBOUR: 'it returns false'. Refute it at one input. -/
def fnZWrong : ChangeSpec := { name := "fnZ", fn := fun _ => fun
  | [d1, d2] => { results := [.lit (.bool false)], args := [d1, d2] }
  | _ => none }
def FnZWrongFalsely : Prop := fnZRow.holds Try.pinned (OpenSpec.ofChange fnZWrong)

/-- 'laws.FnZPos': WHATEVER THE INPUT: true; the input reads as it did. -/
def fnZPosSpec : ChangeSpec := { name := "fnZPos", fn := fun _ => fun
  | [d] => { results := [.lit (.bool true)], args := [d] }
  | _ => none }
def fnZPosRow : OpenClaim := { program := "ytdleikloneaodaa", sum := "bbcb6294e885dd79f5542c1c264cbe2fe36ee24f46181cd0a7c795c69586af99", func := "loop.example/milldam/laws.FnZPos", spec := "fnZPos", unfollowed := true, recurses := true, apart := false }
def FnZPosSaid : Prop := fnZPosRow.holds Try.pinned (OpenSpec.ofChange fnZPosSpec)

/-- ITS FALSE NEIGHBOUR: 'it returns false'. Refute it at one input. -/
def fnZPosWrong : ChangeSpec := { name := "fnZPos", fn := fun _ => fun
  | [d] => { results := [.lit (.bool false)], args := [d] }
  | _ => none }
def FnZPosWrongFalsely : Prop := fnZPosRow.holds Try.pinned (OpenSpec.ofChange fnZPosWrong)

/-- 'laws.FnZBent': WHATEVER THE INPUT: true; the input reads as it did. -/
def fnZBentSpec : ChangeSpec := { name := "fnZBent", fn := fun _ => fun
  | [d] => { results := [.lit (.bool true)], args := [d] }
  | _ => none }
def fnZBentRow : OpenClaim := { program := "ytdleikloneaodaa", sum := "bbcb6294e885dd79f5542c1c264cbe2fe36ee24f46181cd0a7c795c69586af99", func := "loop.example/milldam/laws.FnZBent", spec := "fnZBent", unfollowed := true, recurses := true, apart := false }
def FnZBentSaid : Prop := fnZBentRow.holds Try.pinned (OpenSpec.ofChange fnZBentSpec)

/-- ITS FALSE NEIGHBOUR: 'it returns false'. Refute it at one input. -/
def fnZBentWrong : ChangeSpec := { name := "fnZBent", fn := fun _ => fun
  | [d] => { results := [.lit (.bool false)], args := [d] }
  | _ => none }
def FnZBentWrongFalsely : Prop := fnZBentRow.holds Try.pinned (OpenSpec.ofChange fnZBentWrong)

/-- 'laws.FnZTwice': WHATEVER THE INPUT: true; the input reads as it did. -/
def fnZTwiceSpec : ChangeSpec := { name := "fnZTwice", fn := fun _ => fun
  | [d] => { results := [.lit (.bool true)], args := [d] }
  | _ => none }
def fnZTwiceRow : OpenClaim := { program := "ytdleikloneaodaa", sum := "bbcb6294e885dd79f5542c1c264cbe2fe36ee24f46181cd0a7c795c69586af99", func := "loop.example/milldam/laws.FnZTwice", spec := "fnZTwice", unfollowed := true, recurses := true, apart := false }
def FnZTwiceSaid : Prop := fnZTwiceRow.holds Try.pinned (OpenSpec.ofChange fnZTwiceSpec)

/-- ITS FALSE NEIGHBOUR: 'it returns false'. Refute it at one input. -/
def fnZTwiceWrong : ChangeSpec := { name := "fnZTwice", fn := fun _ => fun
  | [d] => { results := [.lit (.bool false)], args := [d] }
  | _ => none }
def FnZTwiceWrongFalsely : Prop := fnZTwiceRow.holds Try.pinned (OpenSpec.ofChange fnZTwiceWrong)

/- THE SECOND FORM. 'bulk': how many values and letters a reading holds, each counted each time it is reached (what is shared counts as often as it is met; a slice's spare places count too). A statement '..UptoSaid' is the law's where the arguments, and the package variables that the reading takes, are together of bulk at most 1048576: NARROWER than '..Said'. Prove '..Said' where nothing that the law and all that it calls make is longer than what came in: it says more and counts as full. Else prove '..UptoSaid'. A law counts once. -/
mutual
def uptoBulk {H : Type} : DataW H → Nat
  | .lit (.string bytes) => bytes.length + 1
  | .lit _ => 1
  | .nil => 1
  | .ptr d => uptoBulk d + 1
  | .slice elems spare => uptoBulkAll elems + uptoBulkAll spare + 1
  | .agg parts => uptoBulkAll parts + 1
  | .iface _ d => uptoBulk d + 1
  | .map entries => uptoBulkEntries entries + 1
  | .held _ => 1
def uptoBulkAll {H : Type} : List (DataW H) → Nat
  | [] => 0
  | d :: r => uptoBulk d + uptoBulkAll r
def uptoBulkEntries {H : Type} : List (Lit × DataW H) → Nat
  | [] => 0
  | x :: r => uptoBulkEntry x + uptoBulkEntries r
def uptoBulkEntry {H : Type} : Lit × DataW H → Nat
  | (.string bytes, d) => bytes.length + uptoBulk d + 1
  | (_, d) => uptoBulk d + 1
 end
def uptoSmall : (H : Type) → List (DataW H) → Bool := fun _ ds => decide (uptoBulkAll ds ≤ 1048576)
def OpenSpec.upto (s : _root_.Go.ChangeSpec) : _root_.Go.OpenSpec := { _root_.Go.OpenSpec.ofChange s with cond := some uptoSmall }

/-- 'laws.FnZ', WHERE WHAT IT READS IS OF BULK AT MOST 1048576: true; the input reads as it did. -/
def fnZUptoRow : OpenClaim := { program := "ytdleikloneaodaa", sum := "bbcb6294e885dd79f5542c1c264cbe2fe36ee24f46181cd0a7c795c69586af99", func := "loop.example/milldam/laws.FnZ", spec := "fnZ", unfollowed := true, recurses := true, apart := false, narrowed := true }
def FnZUptoSaid : Prop := fnZUptoRow.holds Try.pinned (OpenSpec.upto fnZSpec)

/-- 'laws.FnZPos', WHERE WHAT IT READS IS OF BULK AT MOST 1048576: true; the input reads as it did. -/
def fnZPosUptoRow : OpenClaim := { program := "ytdleikloneaodaa", sum := "bbcb6294e885dd79f5542c1c264cbe2fe36ee24f46181cd0a7c795c69586af99", func := "loop.example/milldam/laws.FnZPos", spec := "fnZPos", unfollowed := true, recurses := true, apart := false, narrowed := true }
def FnZPosUptoSaid : Prop := fnZPosUptoRow.holds Try.pinned (OpenSpec.upto fnZPosSpec)

/-- 'laws.FnZBent', WHERE WHAT IT READS IS OF BULK AT MOST 1048576: true; the input reads as it did. -/
def fnZBentUptoRow : OpenClaim := { program := "ytdleikloneaodaa", sum := "bbcb6294e885dd79f5542c1c264cbe2fe36ee24f46181cd0a7c795c69586af99", func := "loop.example/milldam/laws.FnZBent", spec := "fnZBent", unfollowed := true, recurses := true, apart := false, narrowed := true }
def FnZBentUptoSaid : Prop := fnZBentUptoRow.holds Try.pinned (OpenSpec.upto fnZBentSpec)

/-- 'laws.FnZTwice', WHERE WHAT IT READS IS OF BULK AT MOST 1048576: true; the input reads as it did. -/
def fnZTwiceUptoRow : OpenClaim := { program := "ytdleikloneaodaa", sum := "bbcb6294e885dd79f5542c1c264cbe2fe36ee24f46181cd0a7c795c69586af99", func := "loop.example/milldam/laws.FnZTwice", spec := "fnZTwice", unfollowed := true, recurses := true, apart := false, narrowed := true }
def FnZTwiceUptoSaid : Prop := fnZTwiceUptoRow.holds Try.pinned (OpenSpec.upto fnZTwiceSpec)

end Rows
end Go.Proofs.Ytdleikloneaodaa
