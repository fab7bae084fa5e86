/-
  No cell of these rows narrows 'for every input' (looked for: loops, veiled, ifaces, maps, wideKeys, modest, calm, conditions, laid).
  DERIVED. THE GIVEN ROWS OF THIS SEAT. 3 by the template 'for every input the law returns true; each argument reads behind the call as it read before'; 0 by the template 'total and deterministic' (their statements: YtepgdogakhbhjaaTotals.lean).
  GIVEN WITH THE SEED: the statements are not yours to turn. If you find one false, say at which input.
  Laid BY PROGRAM, IN A SANDBOX (cutbox-rows.mjs): the forced cells as the released guide's own fill.sh prints them over the translation 86048086f65d29b1… (all of the seat's roots in one cut). By AI agents, Wed Nov 11 2026. No macro, syntax, notation, axiom, sorry.
-/
import Derived.Test.YtepgdogakhbhjaaChecked
import GoSem.Claim
import GoSem.ClaimJoined
import GoSem.ClaimMapViews
import Derived.JoinedTies
import Derived.KernelRfl
namespace Go.Proofs.Ytepgdogakhbhjaa
/- THE CELL 'sum', in the pinned program and in every row, IS THE sha256 OF THE DUMP (.gsa) THAT YtepgdogakhbhjaaProg.lean LOADS. Nothing in Lean hashes anything: it is a label: what it is worth is what the hold of that sum in a sandbox is worth. -/
noncomputable def Try.pinned : Pinned := { name := "ytepgdogakhbhjaa", sum := "86048086f65d29b1f26fe29a388671c45332373db320ae5d7f0c9ae5566a5ef2", checked := Try.checked }
namespace Rows
def none {H : Type} : Left H := { results := [], args := [] }

/-- 'laws.FnRowLess': WHATEVER THE INPUT: true; the input reads as it did. -/
def fnRowLessSpec : ChangeSpec := { name := "fnRowLess", fn := fun _ => fun
  | [d1, d2] => { results := [.lit (.bool true)], args := [d1, d2] }
  | _ => none }
def fnRowLessRow : OpenClaim := { program := "ytepgdogakhbhjaa", sum := "86048086f65d29b1f26fe29a388671c45332373db320ae5d7f0c9ae5566a5ef2", func := "loop.example/milldam/laws.FnRowLess", spec := "fnRowLess", unfollowed := true, recurses := true, apart := false }
def FnRowLessSaid : Prop := fnRowLessRow.holds Try.pinned (OpenSpec.ofChange fnRowLessSpec)

/-- ITS FALSE NEIGHBOUR: 'it returns false'. Refute it at one input. -/
def fnRowLessWrong : ChangeSpec := { name := "fnRowLess", fn := fun _ => fun
  | [d1, d2] => { results := [.lit (.bool false)], args := [d1, d2] }
  | _ => none }
def FnRowLessWrongFalsely : Prop := fnRowLessRow.holds Try.pinned (OpenSpec.ofChange fnRowLessWrong)

/-- 'laws.FnRowBent': WHATEVER THE INPUT: true; the input reads as it did. -/
def fnRowBentSpec : ChangeSpec := { name := "fnRowBent", fn := fun _ => fun
  | [d] => { results := [.lit (.bool true)], args := [d] }
  | _ => none }
def fnRowBentRow : OpenClaim := { program := "ytepgdogakhbhjaa", sum := "86048086f65d29b1f26fe29a388671c45332373db320ae5d7f0c9ae5566a5ef2", func := "loop.example/milldam/laws.FnRowBent", spec := "fnRowBent", unfollowed := true, recurses := true, apart := false }
def FnRowBentSaid : Prop := fnRowBentRow.holds Try.pinned (OpenSpec.ofChange fnRowBentSpec)

/-- ITS FALSE NEIGHBOUR: 'it returns false'. Refute it at one input. -/
def fnRowBentWrong : ChangeSpec := { name := "fnRowBent", fn := fun _ => fun
  | [d] => { results := [.lit (.bool false)], args := [d] }
  | _ => none }
def FnRowBentWrongFalsely : Prop := fnRowBentRow.holds Try.pinned (OpenSpec.ofChange fnRowBentWrong)

/-- 'laws.FnRowJoin': WHATEVER THE INPUT: true; the input reads as it did. -/
def fnRowJoinSpec : ChangeSpec := { name := "fnRowJoin", fn := fun _ => fun
  | [d1, d2] => { results := [.lit (.bool true)], args := [d1, d2] }
  | _ => none }
def fnRowJoinRow : OpenClaim := { program := "ytepgdogakhbhjaa", sum := "86048086f65d29b1f26fe29a388671c45332373db320ae5d7f0c9ae5566a5ef2", func := "loop.example/milldam/laws.FnRowJoin", spec := "fnRowJoin", unfollowed := true, recurses := true, apart := false }
def FnRowJoinSaid : Prop := fnRowJoinRow.holds Try.pinned (OpenSpec.ofChange fnRowJoinSpec)

/-- ITS FALSE NEIGHBOUR: 'it returns false'. Refute it at one input. -/
def fnRowJoinWrong : ChangeSpec := { name := "fnRowJoin", fn := fun _ => fun
  | [d1, d2] => { results := [.lit (.bool false)], args := [d1, d2] }
  | _ => none }
def FnRowJoinWrongFalsely : Prop := fnRowJoinRow.holds Try.pinned (OpenSpec.ofChange fnRowJoinWrong)

/- THE SECOND FORM. 'bulk': how many values and letters a reading holds, each counted each time it is reached (what is shared counts as often as it is met; a slice's spare places count too). A statement '..UptoSaid' is the law's where the arguments, and the package variables that the reading takes, are together of bulk at most 1048576: NARROWER than '..Said'. Prove '..Said' where nothing that the law and all that it calls make is longer than what came in: it says more and counts as full. Else prove '..UptoSaid'. A law counts once. -/
mutual
def uptoBulk {H : Type} : DataW H → Nat
  | .lit (.string bytes) => bytes.length + 1
  | .lit _ => 1
  | .nil => 1
  | .ptr d => uptoBulk d + 1
  | .slice elems spare => uptoBulkAll elems + uptoBulkAll spare + 1
  | .agg parts => uptoBulkAll parts + 1
  | .iface _ d => uptoBulk d + 1
  | .map entries => uptoBulkEntries entries + 1
  | .held _ => 1
def uptoBulkAll {H : Type} : List (DataW H) → Nat
  | [] => 0
  | d :: r => uptoBulk d + uptoBulkAll r
def uptoBulkEntries {H : Type} : List (Lit × DataW H) → Nat
  | [] => 0
  | x :: r => uptoBulkEntry x + uptoBulkEntries r
def uptoBulkEntry {H : Type} : Lit × DataW H → Nat
  | (.string bytes, d) => bytes.length + uptoBulk d + 1
  | (_, d) => uptoBulk d + 1
 end
def uptoSmall : (H : Type) → List (DataW H) → Bool := fun _ ds => decide (uptoBulkAll ds ≤ 1048576)
def OpenSpec.upto (s : _root_.Go.ChangeSpec) : _root_.Go.OpenSpec := { _root_.Go.OpenSpec.ofChange s with cond := some uptoSmall }

/-- 'laws.FnRowLess', WHERE WHAT IT READS IS OF BULK AT MOST 1048576: true; the input reads as it did. -/
def fnRowLessUptoRow : OpenClaim := { program := "ytepgdogakhbhjaa", sum := "86048086f65d29b1f26fe29a388671c45332373db320ae5d7f0c9ae5566a5ef2", func := "loop.example/milldam/laws.FnRowLess", spec := "fnRowLess", unfollowed := true, recurses := true, apart := false, narrowed := true }
def FnRowLessUptoSaid : Prop := fnRowLessUptoRow.holds Try.pinned (OpenSpec.upto fnRowLessSpec)

/-- 'laws.FnRowBent', WHERE WHAT IT READS IS OF BULK AT MOST 1048576: true; the input reads as it did. -/
def fnRowBentUptoRow : OpenClaim := { program := "ytepgdogakhbhjaa", sum := "86048086f65d29b1f26fe29a388671c45332373db320ae5d7f0c9ae5566a5ef2", func := "loop.example/milldam/laws.FnRowBent", spec := "fnRowBent", unfollowed := true, recurses := true, apart := false, narrowed := true }
def FnRowBentUptoSaid : Prop := fnRowBentUptoRow.holds Try.pinned (OpenSpec.upto fnRowBentSpec)

/-- 'laws.FnRowJoin', WHERE WHAT IT READS IS OF BULK AT MOST 1048576: true; the input reads as it did. -/
def fnRowJoinUptoRow : OpenClaim := { program := "ytepgdogakhbhjaa", sum := "86048086f65d29b1f26fe29a388671c45332373db320ae5d7f0c9ae5566a5ef2", func := "loop.example/milldam/laws.FnRowJoin", spec := "fnRowJoin", unfollowed := true, recurses := true, apart := false, narrowed := true }
def FnRowJoinUptoSaid : Prop := fnRowJoinUptoRow.holds Try.pinned (OpenSpec.upto fnRowJoinSpec)

end Rows
end Go.Proofs.Ytepgdogakhbhjaa
