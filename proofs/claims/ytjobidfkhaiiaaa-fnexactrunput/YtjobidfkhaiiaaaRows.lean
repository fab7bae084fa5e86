/-
  No cell of these rows narrows 'for every input' (looked for: loops, veiled, ifaces, maps, wideKeys, modest, calm, conditions, laid).
  DERIVED. THE GIVEN ROWS OF THIS SEAT. 6 by the template 'for every input the law returns true; each argument reads behind the call as it read before'; 0 by the template 'total and deterministic' (their statements: YtjobidfkhaiiaaaTotals.lean).
  GIVEN WITH THE SEED: the statements are not yours to turn. If you find one false, say at which input.
  Laid BY PROGRAM, IN A SANDBOX (cutbox-rows.mjs): the forced cells as the released guide's own fill.sh prints them over the translation 152d5d6eb6d1d800… (all of the seat's roots in one cut). By AI agents, Wed Nov 11 2026. No macro, syntax, notation, axiom, sorry.
-/
import Derived.Test.YtjobidfkhaiiaaaChecked
import GoSem.Claim
import GoSem.ClaimJoined
import GoSem.ClaimMapViews
import Derived.JoinedTies
import Derived.KernelRfl
namespace Go.Proofs.Ytjobidfkhaiiaaa
/- THE CELL 'sum', in the pinned program and in every row, IS THE sha256 OF THE DUMP (.gsa) THAT YtjobidfkhaiiaaaProg.lean LOADS. Nothing in Lean hashes anything: it is a label: what it is worth is what the hold of that sum in a sandbox is worth. -/
noncomputable def Try.pinned : Pinned := { name := "ytjobidfkhaiiaaa", sum := "152d5d6eb6d1d800cc98b76adf77238a6dc7e35f450417275b13bda68cd7a2ad", checked := Try.checked }
namespace Rows
def none {H : Type} : Left H := { results := [], args := [] }

/-- 'laws.FnExactRunOk': WHATEVER THE INPUT: true; the input reads as it did. -/
def fnExactRunOkSpec : ChangeSpec := { name := "fnExactRunOk", fn := fun _ => fun
  | [d] => { results := [.lit (.bool true)], args := [d] }
  | _ => none }
def fnExactRunOkRow : OpenClaim := { program := "ytjobidfkhaiiaaa", sum := "152d5d6eb6d1d800cc98b76adf77238a6dc7e35f450417275b13bda68cd7a2ad", func := "loop.example/milldam/laws.FnExactRunOk", spec := "fnExactRunOk", unfollowed := true, recurses := true, apart := false }
def FnExactRunOkSaid : Prop := fnExactRunOkRow.holds Try.pinned (OpenSpec.ofChange fnExactRunOkSpec)

/-- ITS FALSE NEIGHBOUR: 'it returns false'. Refute it at one input. -/
def fnExactRunOkWrong : ChangeSpec := { name := "fnExactRunOk", fn := fun _ => fun
  | [d] => { results := [.lit (.bool false)], args := [d] }
  | _ => none }
def FnExactRunOkWrongFalsely : Prop := fnExactRunOkRow.holds Try.pinned (OpenSpec.ofChange fnExactRunOkWrong)

/-- 'laws.FnExactRunSame': WHATEVER THE INPUT: true; the input reads as it did. -/
def fnExactRunSameSpec : ChangeSpec := { name := "fnExactRunSame", fn := fun _ => fun
  | [d1, d2] => { results := [.lit (.bool true)], args := [d1, d2] }
  | _ => none }
def fnExactRunSameRow : OpenClaim := { program := "ytjobidfkhaiiaaa", sum := "152d5d6eb6d1d800cc98b76adf77238a6dc7e35f450417275b13bda68cd7a2ad", func := "loop.example/milldam/laws.FnExactRunSame", spec := "fnExactRunSame", unfollowed := true, recurses := true, apart := false }
def FnExactRunSameSaid : Prop := fnExactRunSameRow.holds Try.pinned (OpenSpec.ofChange fnExactRunSameSpec)

/-- ITS FALSE NEIGHBOUR: 'it returns false'. Refute it at one input. -/
def fnExactRunSameWrong : ChangeSpec := { name := "fnExactRunSame", fn := fun _ => fun
  | [d1, d2] => { results := [.lit (.bool false)], args := [d1, d2] }
  | _ => none }
def FnExactRunSameWrongFalsely : Prop := fnExactRunSameRow.holds Try.pinned (OpenSpec.ofChange fnExactRunSameWrong)

/-- 'laws.FnExactRunPut': WHATEVER THE INPUT: true; the input reads as it did. -/
def fnExactRunPutSpec : ChangeSpec := { name := "fnExactRunPut", fn := fun _ => fun
  | [d1, d2] => { results := [.lit (.bool true)], args := [d1, d2] }
  | _ => none }
def fnExactRunPutRow : OpenClaim := { program := "ytjobidfkhaiiaaa", sum := "152d5d6eb6d1d800cc98b76adf77238a6dc7e35f450417275b13bda68cd7a2ad", func := "loop.example/milldam/laws.FnExactRunPut", spec := "fnExactRunPut", unfollowed := true, recurses := true, apart := false }
def FnExactRunPutSaid : Prop := fnExactRunPutRow.holds Try.pinned (OpenSpec.ofChange fnExactRunPutSpec)

/-- ITS FALSE NEIGHBOUR: 'it returns false'. Refute it at one input. -/
def fnExactRunPutWrong : ChangeSpec := { name := "fnExactRunPut", fn := fun _ => fun
  | [d1, d2] => { results := [.lit (.bool false)], args := [d1, d2] }
  | _ => none }
def FnExactRunPutWrongFalsely : Prop := fnExactRunPutRow.holds Try.pinned (OpenSpec.ofChange fnExactRunPutWrong)

/-- 'laws.FnExactRunAll': WHATEVER THE INPUT: true; the input reads as it did. -/
def fnExactRunAllSpec : ChangeSpec := { name := "fnExactRunAll", fn := fun _ => fun
  | [d] => { results := [.lit (.bool true)], args := [d] }
  | _ => none }
def fnExactRunAllRow : OpenClaim := { program := "ytjobidfkhaiiaaa", sum := "152d5d6eb6d1d800cc98b76adf77238a6dc7e35f450417275b13bda68cd7a2ad", func := "loop.example/milldam/laws.FnExactRunAll", spec := "fnExactRunAll", unfollowed := true, recurses := true, apart := false }
def FnExactRunAllSaid : Prop := fnExactRunAllRow.holds Try.pinned (OpenSpec.ofChange fnExactRunAllSpec)

/-- ITS FALSE NEIGHBOUR: 'it returns false'. Refute it at one input. -/
def fnExactRunAllWrong : ChangeSpec := { name := "fnExactRunAll", fn := fun _ => fun
  | [d] => { results := [.lit (.bool false)], args := [d] }
  | _ => none }
def FnExactRunAllWrongFalsely : Prop := fnExactRunAllRow.holds Try.pinned (OpenSpec.ofChange fnExactRunAllWrong)

/-- 'laws.FnExactRunGet': WHATEVER THE INPUT: true; the input reads as it did. -/
def fnExactRunGetSpec : ChangeSpec := { name := "fnExactRunGet", fn := fun _ => fun
  | [d1, d2] => { results := [.lit (.bool true)], args := [d1, d2] }
  | _ => none }
def fnExactRunGetRow : OpenClaim := { program := "ytjobidfkhaiiaaa", sum := "152d5d6eb6d1d800cc98b76adf77238a6dc7e35f450417275b13bda68cd7a2ad", func := "loop.example/milldam/laws.FnExactRunGet", spec := "fnExactRunGet", unfollowed := true, recurses := true, apart := false }
def FnExactRunGetSaid : Prop := fnExactRunGetRow.holds Try.pinned (OpenSpec.ofChange fnExactRunGetSpec)

/-- ITS FALSE NEIGHBOUR: 'it returns false'. Refute it at one input. -/
def fnExactRunGetWrong : ChangeSpec := { name := "fnExactRunGet", fn := fun _ => fun
  | [d1, d2] => { results := [.lit (.bool false)], args := [d1, d2] }
  | _ => none }
def FnExactRunGetWrongFalsely : Prop := fnExactRunGetRow.holds Try.pinned (OpenSpec.ofChange fnExactRunGetWrong)

/-- 'laws.FnExactRunMerge': WHATEVER THE INPUT: true; the input reads as it did. -/
def fnExactRunMergeSpec : ChangeSpec := { name := "fnExactRunMerge", fn := fun _ => fun
  | [d1, d2] => { results := [.lit (.bool true)], args := [d1, d2] }
  | _ => none }
def fnExactRunMergeRow : OpenClaim := { program := "ytjobidfkhaiiaaa", sum := "152d5d6eb6d1d800cc98b76adf77238a6dc7e35f450417275b13bda68cd7a2ad", func := "loop.example/milldam/laws.FnExactRunMerge", spec := "fnExactRunMerge", unfollowed := true, recurses := true, apart := false }
def FnExactRunMergeSaid : Prop := fnExactRunMergeRow.holds Try.pinned (OpenSpec.ofChange fnExactRunMergeSpec)

/-- ITS FALSE NEIGHBOUR: 'it returns false'. Refute it at one input. -/
def fnExactRunMergeWrong : ChangeSpec := { name := "fnExactRunMerge", fn := fun _ => fun
  | [d1, d2] => { results := [.lit (.bool false)], args := [d1, d2] }
  | _ => none }
def FnExactRunMergeWrongFalsely : Prop := fnExactRunMergeRow.holds Try.pinned (OpenSpec.ofChange fnExactRunMergeWrong)

/- THE SECOND FORM. 'bulk': how many values and letters a reading holds, each counted each time it is reached (what is shared counts as often as it is met; a slice's spare places count too). A statement '..UptoSaid' is the law's where the arguments, and the package variables that the reading takes, are together of bulk at most 1048576: NARROWER than '..Said'. Prove '..Said' where nothing that the law and all that it calls make is longer than what came in: it says more and counts as full. Else prove '..UptoSaid'. A law counts once. -/
mutual
def uptoBulk {H : Type} : DataW H → Nat
  | .lit (.string bytes) => bytes.length + 1
  | .lit _ => 1
  | .nil => 1
  | .ptr d => uptoBulk d + 1
  | .slice elems spare => uptoBulkAll elems + uptoBulkAll spare + 1
  | .agg parts => uptoBulkAll parts + 1
  | .iface _ d => uptoBulk d + 1
  | .map entries => uptoBulkEntries entries + 1
  | .held _ => 1
def uptoBulkAll {H : Type} : List (DataW H) → Nat
  | [] => 0
  | d :: r => uptoBulk d + uptoBulkAll r
def uptoBulkEntries {H : Type} : List (Lit × DataW H) → Nat
  | [] => 0
  | x :: r => uptoBulkEntry x + uptoBulkEntries r
def uptoBulkEntry {H : Type} : Lit × DataW H → Nat
  | (.string bytes, d) => bytes.length + uptoBulk d + 1
  | (_, d) => uptoBulk d + 1
 end
def uptoSmall : (H : Type) → List (DataW H) → Bool := fun _ ds => decide (uptoBulkAll ds ≤ 1048576)
def OpenSpec.upto (s : _root_.Go.ChangeSpec) : _root_.Go.OpenSpec := { _root_.Go.OpenSpec.ofChange s with cond := some uptoSmall }

/-- 'laws.FnExactRunOk', WHERE WHAT IT READS IS OF BULK AT MOST 1048576: true; the input reads as it did. -/
def fnExactRunOkUptoRow : OpenClaim := { program := "ytjobidfkhaiiaaa", sum := "152d5d6eb6d1d800cc98b76adf77238a6dc7e35f450417275b13bda68cd7a2ad", func := "loop.example/milldam/laws.FnExactRunOk", spec := "fnExactRunOk", unfollowed := true, recurses := true, apart := false, narrowed := true }
def FnExactRunOkUptoSaid : Prop := fnExactRunOkUptoRow.holds Try.pinned (OpenSpec.upto fnExactRunOkSpec)

/-- 'laws.FnExactRunSame', WHERE WHAT IT READS IS OF BULK AT MOST 1048576: true; the input reads as it did. -/
def fnExactRunSameUptoRow : OpenClaim := { program := "ytjobidfkhaiiaaa", sum := "152d5d6eb6d1d800cc98b76adf77238a6dc7e35f450417275b13bda68cd7a2ad", func := "loop.example/milldam/laws.FnExactRunSame", spec := "fnExactRunSame", unfollowed := true, recurses := true, apart := false, narrowed := true }
def FnExactRunSameUptoSaid : Prop := fnExactRunSameUptoRow.holds Try.pinned (OpenSpec.upto fnExactRunSameSpec)

/-- 'laws.FnExactRunPut', WHERE WHAT IT READS IS OF BULK AT MOST 1048576: true; the input reads as it did. -/
def fnExactRunPutUptoRow : OpenClaim := { program := "ytjobidfkhaiiaaa", sum := "152d5d6eb6d1d800cc98b76adf77238a6dc7e35f450417275b13bda68cd7a2ad", func := "loop.example/milldam/laws.FnExactRunPut", spec := "fnExactRunPut", unfollowed := true, recurses := true, apart := false, narrowed := true }
def FnExactRunPutUptoSaid : Prop := fnExactRunPutUptoRow.holds Try.pinned (OpenSpec.upto fnExactRunPutSpec)

/-- 'laws.FnExactRunAll', WHERE WHAT IT READS IS OF BULK AT MOST 1048576: true; the input reads as it did. -/
def fnExactRunAllUptoRow : OpenClaim := { program := "ytjobidfkhaiiaaa", sum := "152d5d6eb6d1d800cc98b76adf77238a6dc7e35f450417275b13bda68cd7a2ad", func := "loop.example/milldam/laws.FnExactRunAll", spec := "fnExactRunAll", unfollowed := true, recurses := true, apart := false, narrowed := true }
def FnExactRunAllUptoSaid : Prop := fnExactRunAllUptoRow.holds Try.pinned (OpenSpec.upto fnExactRunAllSpec)

/-- 'laws.FnExactRunGet', WHERE WHAT IT READS IS OF BULK AT MOST 1048576: true; the input reads as it did. -/
def fnExactRunGetUptoRow : OpenClaim := { program := "ytjobidfkhaiiaaa", sum := "152d5d6eb6d1d800cc98b76adf77238a6dc7e35f450417275b13bda68cd7a2ad", func := "loop.example/milldam/laws.FnExactRunGet", spec := "fnExactRunGet", unfollowed := true, recurses := true, apart := false, narrowed := true }
def FnExactRunGetUptoSaid : Prop := fnExactRunGetUptoRow.holds Try.pinned (OpenSpec.upto fnExactRunGetSpec)

/-- 'laws.FnExactRunMerge', WHERE WHAT IT READS IS OF BULK AT MOST 1048576: true; the input reads as it did. -/
def fnExactRunMergeUptoRow : OpenClaim := { program := "ytjobidfkhaiiaaa", sum := "152d5d6eb6d1d800cc98b76adf77238a6dc7e35f450417275b13bda68cd7a2ad", func := "loop.example/milldam/laws.FnExactRunMerge", spec := "fnExactRunMerge", unfollowed := true, recurses := true, apart := false, narrowed := true }
def FnExactRunMergeUptoSaid : Prop := fnExactRunMergeUptoRow.holds Try.pinned (OpenSpec.upto fnExactRunMergeSpec)

end Rows
end Go.Proofs.Ytjobidfkhaiiaaa
