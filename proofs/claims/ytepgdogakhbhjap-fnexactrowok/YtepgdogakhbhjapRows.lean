/-
  NARROWER THAN 'FOR EVERY INPUT', by the rows' own cells (each row's printed sentence says how): FnExactSlimPush: loops · FnExactSlimOnce: loops.
  DERIVED. THE GIVEN ROWS OF THIS SEAT. 5 by the template 'for every input the law returns true; each argument reads behind the call as it read before'; 0 by the template 'total and deterministic' (their statements: YtepgdogakhbhjapTotals.lean).
  GIVEN WITH THE SEED: the statements are not yours to turn. If you find one false, say at which input.
  Laid BY PROGRAM, IN A SANDBOX (cutbox-rows.mjs): the forced cells as the released guide's own fill.sh prints them over the translation b98ffb2b35d7981d… (all of the seat's roots in one cut). By AI agents, Wed Nov 11 2026. No macro, syntax, notation, axiom, sorry.
-/
import Derived.Test.YtepgdogakhbhjapChecked
import GoSem.Claim
import GoSem.ClaimJoined
import GoSem.ClaimMapViews
import Derived.JoinedTies
import Derived.KernelRfl
namespace Go.Proofs.Ytepgdogakhbhjap
/- THE CELL 'sum', in the pinned program and in every row, IS THE sha256 OF THE DUMP (.gsa) THAT YtepgdogakhbhjapProg.lean LOADS. Nothing in Lean hashes anything: it is a label: what it is worth is what the hold of that sum in a sandbox is worth. -/
noncomputable def Try.pinned : Pinned := { name := "ytepgdogakhbhjap", sum := "b98ffb2b35d7981d6ab8af20a185a887ba645ef4a72b4b63809cab700f6db1c3", checked := Try.checked }
namespace Rows
def none {H : Type} : Left H := { results := [], args := [] }

/-- 'laws.FnExactSlimPush': WHATEVER THE INPUT: true; the input reads as it did. -/
def fnExactSlimPushSpec : ChangeSpec := { name := "fnExactSlimPush", fn := fun _ => fun
  | [d] => { results := [.lit (.bool true)], args := [d] }
  | _ => none }
def fnExactSlimPushRow : OpenClaim := { program := "ytepgdogakhbhjap", sum := "b98ffb2b35d7981d6ab8af20a185a887ba645ef4a72b4b63809cab700f6db1c3", func := "loop.example/milldam/laws.FnExactSlimPush", spec := "fnExactSlimPush", recurses := true, loops := true, apart := false }
def FnExactSlimPushSaid : Prop := fnExactSlimPushRow.holds Try.pinned (OpenSpec.ofChange fnExactSlimPushSpec)

/-- ITS FALSE NEIGHBOUR: 'it returns false'. Refute it at one input. -/
def fnExactSlimPushWrong : ChangeSpec := { name := "fnExactSlimPush", fn := fun _ => fun
  | [d] => { results := [.lit (.bool false)], args := [d] }
  | _ => none }
def FnExactSlimPushWrongFalsely : Prop := fnExactSlimPushRow.holds Try.pinned (OpenSpec.ofChange fnExactSlimPushWrong)

/-- 'laws.FnExactSlimOnce': WHATEVER THE INPUT: true; the input reads as it did. -/
def fnExactSlimOnceSpec : ChangeSpec := { name := "fnExactSlimOnce", fn := fun _ => fun
  | [d] => { results := [.lit (.bool true)], args := [d] }
  | _ => none }
def fnExactSlimOnceRow : OpenClaim := { program := "ytepgdogakhbhjap", sum := "b98ffb2b35d7981d6ab8af20a185a887ba645ef4a72b4b63809cab700f6db1c3", func := "loop.example/milldam/laws.FnExactSlimOnce", spec := "fnExactSlimOnce", recurses := true, loops := true, apart := false }
def FnExactSlimOnceSaid : Prop := fnExactSlimOnceRow.holds Try.pinned (OpenSpec.ofChange fnExactSlimOnceSpec)

/-- ITS FALSE NEIGHBOUR: 'it returns false'. Refute it at one input. -/
def fnExactSlimOnceWrong : ChangeSpec := { name := "fnExactSlimOnce", fn := fun _ => fun
  | [d] => { results := [.lit (.bool false)], args := [d] }
  | _ => none }
def FnExactSlimOnceWrongFalsely : Prop := fnExactSlimOnceRow.holds Try.pinned (OpenSpec.ofChange fnExactSlimOnceWrong)

/-- 'laws.FnExactRowOk': WHATEVER THE INPUT: true; the input reads as it did. -/
def fnExactRowOkSpec : ChangeSpec := { name := "fnExactRowOk", fn := fun _ => fun
  | [d] => { results := [.lit (.bool true)], args := [d] }
  | _ => none }
def fnExactRowOkRow : OpenClaim := { program := "ytepgdogakhbhjap", sum := "b98ffb2b35d7981d6ab8af20a185a887ba645ef4a72b4b63809cab700f6db1c3", func := "loop.example/milldam/laws.FnExactRowOk", spec := "fnExactRowOk", apart := false }
def FnExactRowOkSaid : Prop := fnExactRowOkRow.holds Try.pinned (OpenSpec.ofChange fnExactRowOkSpec)

/-- ITS FALSE NEIGHBOUR: 'it returns false'. Refute it at one input. -/
def fnExactRowOkWrong : ChangeSpec := { name := "fnExactRowOk", fn := fun _ => fun
  | [d] => { results := [.lit (.bool false)], args := [d] }
  | _ => none }
def FnExactRowOkWrongFalsely : Prop := fnExactRowOkRow.holds Try.pinned (OpenSpec.ofChange fnExactRowOkWrong)

/-- 'laws.FnExactRowSame': WHATEVER THE INPUT: true; the input reads as it did. -/
def fnExactRowSameSpec : ChangeSpec := { name := "fnExactRowSame", fn := fun _ => fun
  | [d1, d2] => { results := [.lit (.bool true)], args := [d1, d2] }
  | _ => none }
def fnExactRowSameRow : OpenClaim := { program := "ytepgdogakhbhjap", sum := "b98ffb2b35d7981d6ab8af20a185a887ba645ef4a72b4b63809cab700f6db1c3", func := "loop.example/milldam/laws.FnExactRowSame", spec := "fnExactRowSame", unfollowed := true, recurses := true, apart := false }
def FnExactRowSameSaid : Prop := fnExactRowSameRow.holds Try.pinned (OpenSpec.ofChange fnExactRowSameSpec)

/-- ITS FALSE NEIGHBOUR: 'it returns false'. Refute it at one input. -/
def fnExactRowSameWrong : ChangeSpec := { name := "fnExactRowSame", fn := fun _ => fun
  | [d1, d2] => { results := [.lit (.bool false)], args := [d1, d2] }
  | _ => none }
def FnExactRowSameWrongFalsely : Prop := fnExactRowSameRow.holds Try.pinned (OpenSpec.ofChange fnExactRowSameWrong)

/-- 'laws.FnExactRowLess': WHATEVER THE INPUT: true; the input reads as it did. -/
def fnExactRowLessSpec : ChangeSpec := { name := "fnExactRowLess", fn := fun _ => fun
  | [d1, d2] => { results := [.lit (.bool true)], args := [d1, d2] }
  | _ => none }
def fnExactRowLessRow : OpenClaim := { program := "ytepgdogakhbhjap", sum := "b98ffb2b35d7981d6ab8af20a185a887ba645ef4a72b4b63809cab700f6db1c3", func := "loop.example/milldam/laws.FnExactRowLess", spec := "fnExactRowLess", unfollowed := true, recurses := true, apart := false }
def FnExactRowLessSaid : Prop := fnExactRowLessRow.holds Try.pinned (OpenSpec.ofChange fnExactRowLessSpec)

/-- ITS FALSE NEIGHBOUR: 'it returns false'. Refute it at one input. -/
def fnExactRowLessWrong : ChangeSpec := { name := "fnExactRowLess", fn := fun _ => fun
  | [d1, d2] => { results := [.lit (.bool false)], args := [d1, d2] }
  | _ => none }
def FnExactRowLessWrongFalsely : Prop := fnExactRowLessRow.holds Try.pinned (OpenSpec.ofChange fnExactRowLessWrong)

/- THE SECOND FORM. 'bulk': how many values and letters a reading holds, each counted each time it is reached (what is shared counts as often as it is met; a slice's spare places count too). A statement '..UptoSaid' is the law's where the arguments, and the package variables that the reading takes, are together of bulk at most 1048576: NARROWER than '..Said'. Prove '..Said' where nothing that the law and all that it calls make is longer than what came in: it says more and counts as full. Else prove '..UptoSaid'. A law counts once. -/
mutual
def uptoBulk {H : Type} : DataW H → Nat
  | .lit (.string bytes) => bytes.length + 1
  | .lit _ => 1
  | .nil => 1
  | .ptr d => uptoBulk d + 1
  | .slice elems spare => uptoBulkAll elems + uptoBulkAll spare + 1
  | .agg parts => uptoBulkAll parts + 1
  | .iface _ d => uptoBulk d + 1
  | .map entries => uptoBulkEntries entries + 1
  | .held _ => 1
def uptoBulkAll {H : Type} : List (DataW H) → Nat
  | [] => 0
  | d :: r => uptoBulk d + uptoBulkAll r
def uptoBulkEntries {H : Type} : List (Lit × DataW H) → Nat
  | [] => 0
  | x :: r => uptoBulkEntry x + uptoBulkEntries r
def uptoBulkEntry {H : Type} : Lit × DataW H → Nat
  | (.string bytes, d) => bytes.length + uptoBulk d + 1
  | (_, d) => uptoBulk d + 1
 end
def uptoSmall : (H : Type) → List (DataW H) → Bool := fun _ ds => decide (uptoBulkAll ds ≤ 1048576)
def OpenSpec.upto (s : _root_.Go.ChangeSpec) : _root_.Go.OpenSpec := { _root_.Go.OpenSpec.ofChange s with cond := some uptoSmall }

/-- 'laws.FnExactSlimPush', WHERE WHAT IT READS IS OF BULK AT MOST 1048576: true; the input reads as it did. -/
def fnExactSlimPushUptoRow : OpenClaim := { program := "ytepgdogakhbhjap", sum := "b98ffb2b35d7981d6ab8af20a185a887ba645ef4a72b4b63809cab700f6db1c3", func := "loop.example/milldam/laws.FnExactSlimPush", spec := "fnExactSlimPush", recurses := true, loops := true, apart := false, narrowed := true }
def FnExactSlimPushUptoSaid : Prop := fnExactSlimPushUptoRow.holds Try.pinned (OpenSpec.upto fnExactSlimPushSpec)

/-- 'laws.FnExactSlimOnce', WHERE WHAT IT READS IS OF BULK AT MOST 1048576: true; the input reads as it did. -/
def fnExactSlimOnceUptoRow : OpenClaim := { program := "ytepgdogakhbhjap", sum := "b98ffb2b35d7981d6ab8af20a185a887ba645ef4a72b4b63809cab700f6db1c3", func := "loop.example/milldam/laws.FnExactSlimOnce", spec := "fnExactSlimOnce", recurses := true, loops := true, apart := false, narrowed := true }
def FnExactSlimOnceUptoSaid : Prop := fnExactSlimOnceUptoRow.holds Try.pinned (OpenSpec.upto fnExactSlimOnceSpec)

/-- 'laws.FnExactRowOk', WHERE WHAT IT READS IS OF BULK AT MOST 1048576: true; the input reads as it did. -/
def fnExactRowOkUptoRow : OpenClaim := { program := "ytepgdogakhbhjap", sum := "b98ffb2b35d7981d6ab8af20a185a887ba645ef4a72b4b63809cab700f6db1c3", func := "loop.example/milldam/laws.FnExactRowOk", spec := "fnExactRowOk", apart := false, narrowed := true }
def FnExactRowOkUptoSaid : Prop := fnExactRowOkUptoRow.holds Try.pinned (OpenSpec.upto fnExactRowOkSpec)

/-- 'laws.FnExactRowSame', WHERE WHAT IT READS IS OF BULK AT MOST 1048576: true; the input reads as it did. -/
def fnExactRowSameUptoRow : OpenClaim := { program := "ytepgdogakhbhjap", sum := "b98ffb2b35d7981d6ab8af20a185a887ba645ef4a72b4b63809cab700f6db1c3", func := "loop.example/milldam/laws.FnExactRowSame", spec := "fnExactRowSame", unfollowed := true, recurses := true, apart := false, narrowed := true }
def FnExactRowSameUptoSaid : Prop := fnExactRowSameUptoRow.holds Try.pinned (OpenSpec.upto fnExactRowSameSpec)

/-- 'laws.FnExactRowLess', WHERE WHAT IT READS IS OF BULK AT MOST 1048576: true; the input reads as it did. -/
def fnExactRowLessUptoRow : OpenClaim := { program := "ytepgdogakhbhjap", sum := "b98ffb2b35d7981d6ab8af20a185a887ba645ef4a72b4b63809cab700f6db1c3", func := "loop.example/milldam/laws.FnExactRowLess", spec := "fnExactRowLess", unfollowed := true, recurses := true, apart := false, narrowed := true }
def FnExactRowLessUptoSaid : Prop := fnExactRowLessUptoRow.holds Try.pinned (OpenSpec.upto fnExactRowLessSpec)

end Rows
end Go.Proofs.Ytepgdogakhbhjap
