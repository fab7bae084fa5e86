/-
  No cell of these rows narrows 'for every input' (looked for: loops, veiled, ifaces, maps, wideKeys, modest, calm, conditions, laid).
  DERIVED. THE GIVEN ROWS OF THIS SEAT. 5 by the template 'for every input the law returns true; each argument reads behind the call as it read before'; 0 by the template 'total and deterministic' (their statements: YtdleikloneaodabTotals.lean).
  GIVEN WITH THE SEED: the statements are not yours to turn. If you find one false, say at which input.
  Laid BY PROGRAM, IN A SANDBOX (cutbox-rows.mjs): the forced cells as the released guide's own fill.sh prints them over the translation 0893407d87f49eae… (all of the seat's roots in one cut). By AI agents, Wed Nov 11 2026. No macro, syntax, notation, axiom, sorry.
-/
import Derived.Test.YtdleikloneaodabChecked
import GoSem.Claim
import GoSem.ClaimJoined
import GoSem.ClaimMapViews
import Derived.JoinedTies
import Derived.KernelRfl
namespace Go.Proofs.Ytdleikloneaodab
/- THE CELL 'sum', in the pinned program and in every row, IS THE sha256 OF THE DUMP (.gsa) THAT YtdleikloneaodabProg.lean LOADS. Nothing in Lean hashes anything: it is a label: what it is worth is what the hold of that sum in a sandbox is worth. -/
noncomputable def Try.pinned : Pinned := { name := "ytdleikloneaodab", sum := "0893407d87f49eaecff5e24ca8cfba27ce89e382c9a6fd122d6330e4a16e844c", checked := Try.checked }
namespace Rows
def none {H : Type} : Left H := { results := [], args := [] }

/-- 'laws.FnZGet': WHATEVER THE INPUT: true; the input reads as it did. -/
def fnZGetSpec : ChangeSpec := { name := "fnZGet", fn := fun _ => fun
  | [d] => { results := [.lit (.bool true)], args := [d] }
  | _ => none }
def fnZGetRow : OpenClaim := { program := "ytdleikloneaodab", sum := "0893407d87f49eaecff5e24ca8cfba27ce89e382c9a6fd122d6330e4a16e844c", func := "loop.example/milldam/laws.FnZGet", spec := "fnZGet", unfollowed := true, recurses := true, apart := false }
def FnZGetSaid : Prop := fnZGetRow.holds Try.pinned (OpenSpec.ofChange fnZGetSpec)

/-- ITS FALSE NEIGHBOUR: 'it returns false'. Refute it at one input. -/
def fnZGetWrong : ChangeSpec := { name := "fnZGet", fn := fun _ => fun
  | [d] => { results := [.lit (.bool false)], args := [d] }
  | _ => none }
def FnZGetWrongFalsely : Prop := fnZGetRow.holds Try.pinned (OpenSpec.ofChange fnZGetWrong)

/-- 'laws.FnExactZOk': WHATEVER THE INPUT: true; the input reads as it did. -/
def fnExactZOkSpec : ChangeSpec := { name := "fnExactZOk", fn := fun _ => fun
  | [d] => { results := [.lit (.bool true)], args := [d] }
  | _ => none }
def fnExactZOkRow : OpenClaim := { program := "ytdleikloneaodab", sum := "0893407d87f49eaecff5e24ca8cfba27ce89e382c9a6fd122d6330e4a16e844c", func := "loop.example/milldam/laws.FnExactZOk", spec := "fnExactZOk", unfollowed := true, recurses := true, apart := false }
def FnExactZOkSaid : Prop := fnExactZOkRow.holds Try.pinned (OpenSpec.ofChange fnExactZOkSpec)

/-- ITS FALSE NEIGHBOUR: 'it returns false'. Refute it at one input. -/
def fnExactZOkWrong : ChangeSpec := { name := "fnExactZOk", fn := fun _ => fun
  | [d] => { results := [.lit (.bool false)], args := [d] }
  | _ => none }
def FnExactZOkWrongFalsely : Prop := fnExactZOkRow.holds Try.pinned (OpenSpec.ofChange fnExactZOkWrong)

/-- 'laws.FnExactZSame': WHATEVER THE INPUT: true; the input reads as it did. -/
def fnExactZSameSpec : ChangeSpec := { name := "fnExactZSame", fn := fun _ => fun
  | [d1, d2] => { results := [.lit (.bool true)], args := [d1, d2] }
  | _ => none }
def fnExactZSameRow : OpenClaim := { program := "ytdleikloneaodab", sum := "0893407d87f49eaecff5e24ca8cfba27ce89e382c9a6fd122d6330e4a16e844c", func := "loop.example/milldam/laws.FnExactZSame", spec := "fnExactZSame", unfollowed := true, recurses := true, apart := false }
def FnExactZSameSaid : Prop := fnExactZSameRow.holds Try.pinned (OpenSpec.ofChange fnExactZSameSpec)

/-- ITS FALSE NEIGHBOUR: 'it returns false'. Refute it at one input. -/
def fnExactZSameWrong : ChangeSpec := { name := "fnExactZSame", fn := fun _ => fun
  | [d1, d2] => { results := [.lit (.bool false)], args := [d1, d2] }
  | _ => none }
def FnExactZSameWrongFalsely : Prop := fnExactZSameRow.holds Try.pinned (OpenSpec.ofChange fnExactZSameWrong)

/-- 'laws.FnExactZAdd': WHATEVER THE INPUT: true; the input reads as it did. -/
def fnExactZAddSpec : ChangeSpec := { name := "fnExactZAdd", fn := fun _ => fun
  | [d1, d2] => { results := [.lit (.bool true)], args := [d1, d2] }
  | _ => none }
def fnExactZAddRow : OpenClaim := { program := "ytdleikloneaodab", sum := "0893407d87f49eaecff5e24ca8cfba27ce89e382c9a6fd122d6330e4a16e844c", func := "loop.example/milldam/laws.FnExactZAdd", spec := "fnExactZAdd", unfollowed := true, recurses := true, apart := false }
def FnExactZAddSaid : Prop := fnExactZAddRow.holds Try.pinned (OpenSpec.ofChange fnExactZAddSpec)

/-- ITS FALSE NEIGHBOUR: 'it returns false'. Refute it at one input. -/
def fnExactZAddWrong : ChangeSpec := { name := "fnExactZAdd", fn := fun _ => fun
  | [d1, d2] => { results := [.lit (.bool false)], args := [d1, d2] }
  | _ => none }
def FnExactZAddWrongFalsely : Prop := fnExactZAddRow.holds Try.pinned (OpenSpec.ofChange fnExactZAddWrong)

/-- 'laws.FnExactZNeg': WHATEVER THE INPUT: true; the input reads as it did. -/
def fnExactZNegSpec : ChangeSpec := { name := "fnExactZNeg", fn := fun _ => fun
  | [d] => { results := [.lit (.bool true)], args := [d] }
  | _ => none }
def fnExactZNegRow : OpenClaim := { program := "ytdleikloneaodab", sum := "0893407d87f49eaecff5e24ca8cfba27ce89e382c9a6fd122d6330e4a16e844c", func := "loop.example/milldam/laws.FnExactZNeg", spec := "fnExactZNeg", unfollowed := true, recurses := true, apart := false }
def FnExactZNegSaid : Prop := fnExactZNegRow.holds Try.pinned (OpenSpec.ofChange fnExactZNegSpec)

/-- ITS FALSE NEIGHBOUR: 'it returns false'. Refute it at one input. -/
def fnExactZNegWrong : ChangeSpec := { name := "fnExactZNeg", fn := fun _ => fun
  | [d] => { results := [.lit (.bool false)], args := [d] }
  | _ => none }
def FnExactZNegWrongFalsely : Prop := fnExactZNegRow.holds Try.pinned (OpenSpec.ofChange fnExactZNegWrong)

/- THE SECOND FORM. 'bulk': how many values and letters a reading holds, each counted each time it is reached (what is shared counts as often as it is met; a slice's spare places count too). A statement '..UptoSaid' is the law's where the arguments, and the package variables that the reading takes, are together of bulk at most 1048576: NARROWER than '..Said'. Prove '..Said' where nothing that the law and all that it calls make is longer than what came in: it says more and counts as full. Else prove '..UptoSaid'. A law counts once. -/
mutual
def uptoBulk {H : Type} : DataW H → Nat
  | .lit (.string bytes) => bytes.length + 1
  | .lit _ => 1
  | .nil => 1
  | .ptr d => uptoBulk d + 1
  | .slice elems spare => uptoBulkAll elems + uptoBulkAll spare + 1
  | .agg parts => uptoBulkAll parts + 1
  | .iface _ d => uptoBulk d + 1
  | .map entries => uptoBulkEntries entries + 1
  | .held _ => 1
def uptoBulkAll {H : Type} : List (DataW H) → Nat
  | [] => 0
  | d :: r => uptoBulk d + uptoBulkAll r
def uptoBulkEntries {H : Type} : List (Lit × DataW H) → Nat
  | [] => 0
  | x :: r => uptoBulkEntry x + uptoBulkEntries r
def uptoBulkEntry {H : Type} : Lit × DataW H → Nat
  | (.string bytes, d) => bytes.length + uptoBulk d + 1
  | (_, d) => uptoBulk d + 1
 end
def uptoSmall : (H : Type) → List (DataW H) → Bool := fun _ ds => decide (uptoBulkAll ds ≤ 1048576)
def OpenSpec.upto (s : _root_.Go.ChangeSpec) : _root_.Go.OpenSpec := { _root_.Go.OpenSpec.ofChange s with cond := some uptoSmall }

/-- 'laws.FnZGet', WHERE WHAT IT READS IS OF BULK AT MOST 1048576: true; the input reads as it did. -/
def fnZGetUptoRow : OpenClaim := { program := "ytdleikloneaodab", sum := "0893407d87f49eaecff5e24ca8cfba27ce89e382c9a6fd122d6330e4a16e844c", func := "loop.example/milldam/laws.FnZGet", spec := "fnZGet", unfollowed := true, recurses := true, apart := false, narrowed := true }
def FnZGetUptoSaid : Prop := fnZGetUptoRow.holds Try.pinned (OpenSpec.upto fnZGetSpec)

/-- 'laws.FnExactZOk', WHERE WHAT IT READS IS OF BULK AT MOST 1048576: true; the input reads as it did. -/
def fnExactZOkUptoRow : OpenClaim := { program := "ytdleikloneaodab", sum := "0893407d87f49eaecff5e24ca8cfba27ce89e382c9a6fd122d6330e4a16e844c", func := "loop.example/milldam/laws.FnExactZOk", spec := "fnExactZOk", unfollowed := true, recurses := true, apart := false, narrowed := true }
def FnExactZOkUptoSaid : Prop := fnExactZOkUptoRow.holds Try.pinned (OpenSpec.upto fnExactZOkSpec)

/-- 'laws.FnExactZSame', WHERE WHAT IT READS IS OF BULK AT MOST 1048576: true; the input reads as it did. -/
def fnExactZSameUptoRow : OpenClaim := { program := "ytdleikloneaodab", sum := "0893407d87f49eaecff5e24ca8cfba27ce89e382c9a6fd122d6330e4a16e844c", func := "loop.example/milldam/laws.FnExactZSame", spec := "fnExactZSame", unfollowed := true, recurses := true, apart := false, narrowed := true }
def FnExactZSameUptoSaid : Prop := fnExactZSameUptoRow.holds Try.pinned (OpenSpec.upto fnExactZSameSpec)

/-- 'laws.FnExactZAdd', WHERE WHAT IT READS IS OF BULK AT MOST 1048576: true; the input reads as it did. -/
def fnExactZAddUptoRow : OpenClaim := { program := "ytdleikloneaodab", sum := "0893407d87f49eaecff5e24ca8cfba27ce89e382c9a6fd122d6330e4a16e844c", func := "loop.example/milldam/laws.FnExactZAdd", spec := "fnExactZAdd", unfollowed := true, recurses := true, apart := false, narrowed := true }
def FnExactZAddUptoSaid : Prop := fnExactZAddUptoRow.holds Try.pinned (OpenSpec.upto fnExactZAddSpec)

/-- 'laws.FnExactZNeg', WHERE WHAT IT READS IS OF BULK AT MOST 1048576: true; the input reads as it did. -/
def fnExactZNegUptoRow : OpenClaim := { program := "ytdleikloneaodab", sum := "0893407d87f49eaecff5e24ca8cfba27ce89e382c9a6fd122d6330e4a16e844c", func := "loop.example/milldam/laws.FnExactZNeg", spec := "fnExactZNeg", unfollowed := true, recurses := true, apart := false, narrowed := true }
def FnExactZNegUptoSaid : Prop := fnExactZNegUptoRow.holds Try.pinned (OpenSpec.upto fnExactZNegSpec)

end Rows
end Go.Proofs.Ytdleikloneaodab
