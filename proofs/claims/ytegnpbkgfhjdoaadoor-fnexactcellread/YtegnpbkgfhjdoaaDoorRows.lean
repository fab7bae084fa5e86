/-
  NARROWER THAN 'FOR EVERY INPUT', by the rows' own cells (each row's printed sentence says how): FnCellSum: ifaces, laid · FnExactCellOk: ifaces, laid · FnExactCellOf: ifaces, laid · FnExactCellText: ifaces, laid · FnExactCellRead: ifaces, laid · FnExactTestOk: ifaces, laid.
  DERIVED. THE GIVEN ROWS OF THIS SEAT. 6 by the template 'for every input the law returns true; each argument reads behind the call as it read before'; 0 by the template 'total and deterministic' (their statements: YtegnpbkgfhjdoaaDoorTotals.lean).
  GIVEN WITH THE SEED: the statements are not yours to turn. If you find one false, say at which input.
  Laid BY PROGRAM, IN A SANDBOX (cutbox-rows.mjs): the forced cells as the released guide's own fill.sh prints them over the translation 2ec2fc9c0bbc126d… (all of the seat's roots in one cut). By AI agents, Wed Nov 11 2026. No macro, syntax, notation, axiom, sorry.
-/
import Derived.Test.YtegnpbkgfhjdoaaDoorChecked
import GoSem.Claim
import GoSem.ClaimJoined
import GoSem.ClaimMapViews
import Derived.JoinedTies
import Derived.KernelRfl
namespace Go.Proofs.YtegnpbkgfhjdoaaDoor
/- THE CELL 'sum', in the pinned program and in every row, IS THE sha256 OF THE DUMP (.gsa) THAT YtegnpbkgfhjdoaaDoorProg.lean LOADS. Nothing in Lean hashes anything: it is a label: what it is worth is what the hold of that sum in a sandbox is worth. -/
noncomputable def Tryd.pinned : Pinned := { name := "ytegnpbkgfhjdoaadoor", sum := "2ec2fc9c0bbc126d8e144a3409116d89d66109d5a6d215e0d3a544a924a64afa", checked := Tryd.checked }
namespace Rows
def none {H : Type} : Left H := { results := [], args := [] }

/- WHAT THE LISTED PACKAGE-LEVEL VARIABLES READ AS WHEN THE CALL BEGINS. Each datum BY PROGRAM (the guide's laid-datum.mjs) off the statement by which the dump's own 'gosem.cut.vars' lays the variable. In a bare row this is a premise. The card (YtegnpbkgfhjdoaaDoorCards.lean) ties it to the program's text. -/
def laid_loop_example_milldam_impl_errNotReckoned {H : Type} : DataW H := .iface "*errors.errorString" (.ptr (.agg [.lit (.string [99, 97, 110, 32, 110, 111, 116, 32, 98, 101, 32, 114, 101, 99, 107, 111, 110, 101, 100, 32, 111, 102, 32, 116, 104, 105, 115, 32, 114, 111, 119])]))
def laid_math_bits_deBruijn32tab {H : Type} : DataW H := .agg [.lit (.int .u8 0), .lit (.int .u8 1), .lit (.int .u8 28), .lit (.int .u8 2), .lit (.int .u8 29), .lit (.int .u8 14), .lit (.int .u8 24), .lit (.int .u8 3), .lit (.int .u8 30), .lit (.int .u8 22), .lit (.int .u8 20), .lit (.int .u8 15), .lit (.int .u8 25), .lit (.int .u8 17), .lit (.int .u8 4), .lit (.int .u8 8), .lit (.int .u8 31), .lit (.int .u8 27), .lit (.int .u8 13), .lit (.int .u8 23), .lit (.int .u8 21), .lit (.int .u8 19), .lit (.int .u8 16), .lit (.int .u8 7), .lit (.int .u8 26), .lit (.int .u8 12), .lit (.int .u8 18), .lit (.int .u8 6), .lit (.int .u8 11), .lit (.int .u8 5), .lit (.int .u8 10), .lit (.int .u8 9)]
def laid_math_bits_deBruijn64tab {H : Type} : DataW H := .agg [.lit (.int .u8 0), .lit (.int .u8 1), .lit (.int .u8 56), .lit (.int .u8 2), .lit (.int .u8 57), .lit (.int .u8 49), .lit (.int .u8 28), .lit (.int .u8 3), .lit (.int .u8 61), .lit (.int .u8 58), .lit (.int .u8 42), .lit (.int .u8 50), .lit (.int .u8 38), .lit (.int .u8 29), .lit (.int .u8 17), .lit (.int .u8 4), .lit (.int .u8 62), .lit (.int .u8 47), .lit (.int .u8 59), .lit (.int .u8 36), .lit (.int .u8 45), .lit (.int .u8 43), .lit (.int .u8 51), .lit (.int .u8 22), .lit (.int .u8 53), .lit (.int .u8 39), .lit (.int .u8 33), .lit (.int .u8 30), .lit (.int .u8 24), .lit (.int .u8 18), .lit (.int .u8 12), .lit (.int .u8 5), .lit (.int .u8 63), .lit (.int .u8 55), .lit (.int .u8 48), .lit (.int .u8 27), .lit (.int .u8 60), .lit (.int .u8 41), .lit (.int .u8 37), .lit (.int .u8 16), .lit (.int .u8 46), .lit (.int .u8 35), .lit (.int .u8 44), .lit (.int .u8 21), .lit (.int .u8 52), .lit (.int .u8 32), .lit (.int .u8 23), .lit (.int .u8 11), .lit (.int .u8 54), .lit (.int .u8 26), .lit (.int .u8 40), .lit (.int .u8 15), .lit (.int .u8 34), .lit (.int .u8 20), .lit (.int .u8 31), .lit (.int .u8 10), .lit (.int .u8 25), .lit (.int .u8 14), .lit (.int .u8 19), .lit (.int .u8 9), .lit (.int .u8 13), .lit (.int .u8 8), .lit (.int .u8 7), .lit (.int .u8 6)]
def laid_internal_strconv_uint64pow10 {H : Type} : DataW H := .agg [.lit (.int .u64 1), .lit (.int .u64 10), .lit (.int .u64 100), .lit (.int .u64 1000), .lit (.int .u64 10000), .lit (.int .u64 100000), .lit (.int .u64 1000000), .lit (.int .u64 10000000), .lit (.int .u64 100000000), .lit (.int .u64 1000000000), .lit (.int .u64 10000000000), .lit (.int .u64 100000000000), .lit (.int .u64 1000000000000), .lit (.int .u64 10000000000000), .lit (.int .u64 100000000000000), .lit (.int .u64 1000000000000000), .lit (.int .u64 10000000000000000), .lit (.int .u64 100000000000000000), .lit (.int .u64 1000000000000000000), .lit (.int .u64 10000000000000000000)]
def laid_strconv_ErrRange {H : Type} : DataW H := .iface "*errors.errorString" (.ptr (.agg [.lit (.string [118, 97, 108, 117, 101, 32, 111, 117, 116, 32, 111, 102, 32, 114, 97, 110, 103, 101])]))
def laid_strconv_ErrSyntax {H : Type} : DataW H := .iface "*errors.errorString" (.ptr (.agg [.lit (.string [105, 110, 118, 97, 108, 105, 100, 32, 115, 121, 110, 116, 97, 120])]))

/-- 'laws.FnCellSum': WHATEVER THE INPUT: true; the input reads as it did. -/
def fnCellSumSpec : ChangeSpec := { name := "fnCellSum", vars := ["loop.example/milldam/impl.errNotReckoned"], fn := fun _ => fun
  | [d, g1] => { results := [.lit (.bool true)], args := [d], vars := [g1] }
  | _ => none }
def fnCellSumRow : OpenClaim := { program := "ytegnpbkgfhjdoaadoor", sum := "2ec2fc9c0bbc126d8e144a3409116d89d66109d5a6d215e0d3a544a924a64afa", func := "loop.example/milldam/laws.FnCellSum", spec := "fnCellSum", inPlace := ["internal/reflectlite.TypeOf"], unfollowed := true, recurses := true, named := ["loop.example/milldam/impl.errNotReckoned"], ifaces := true, apart := false, laid := [("loop.example/milldam/impl.errNotReckoned", laid_loop_example_milldam_impl_errNotReckoned)] }
def FnCellSumSaid : Prop := fnCellSumRow.holds Tryd.pinned (OpenSpec.ofChange fnCellSumSpec)

/-- ITS FALSE NEIGHBOUR: 'it returns false'. Refute it at one input. -/
def fnCellSumWrong : ChangeSpec := { name := "fnCellSum", vars := ["loop.example/milldam/impl.errNotReckoned"], fn := fun _ => fun
  | [d, g1] => { results := [.lit (.bool false)], args := [d], vars := [g1] }
  | _ => none }
def FnCellSumWrongFalsely : Prop := fnCellSumRow.holds Tryd.pinned (OpenSpec.ofChange fnCellSumWrong)

/-- 'laws.FnExactCellOk': WHATEVER THE INPUT: true; the input reads as it did. -/
def fnExactCellOkSpec : ChangeSpec := { name := "fnExactCellOk", vars := ["loop.example/milldam/impl.errNotReckoned"], fn := fun _ => fun
  | [d1, d2, g1] => { results := [.lit (.bool true)], args := [d1, d2], vars := [g1] }
  | _ => none }
def fnExactCellOkRow : OpenClaim := { program := "ytegnpbkgfhjdoaadoor", sum := "2ec2fc9c0bbc126d8e144a3409116d89d66109d5a6d215e0d3a544a924a64afa", func := "loop.example/milldam/laws.FnExactCellOk", spec := "fnExactCellOk", inPlace := ["internal/reflectlite.TypeOf"], unfollowed := true, recurses := true, named := ["loop.example/milldam/impl.errNotReckoned"], ifaces := true, apart := false, laid := [("loop.example/milldam/impl.errNotReckoned", laid_loop_example_milldam_impl_errNotReckoned)] }
def FnExactCellOkSaid : Prop := fnExactCellOkRow.holds Tryd.pinned (OpenSpec.ofChange fnExactCellOkSpec)

/-- ITS FALSE NEIGHBOUR: 'it returns false'. Refute it at one input. -/
def fnExactCellOkWrong : ChangeSpec := { name := "fnExactCellOk", vars := ["loop.example/milldam/impl.errNotReckoned"], fn := fun _ => fun
  | [d1, d2, g1] => { results := [.lit (.bool false)], args := [d1, d2], vars := [g1] }
  | _ => none }
def FnExactCellOkWrongFalsely : Prop := fnExactCellOkRow.holds Tryd.pinned (OpenSpec.ofChange fnExactCellOkWrong)

/-- 'laws.FnExactCellOf': WHATEVER THE INPUT: true; the input reads as it did. -/
def fnExactCellOfSpec : ChangeSpec := { name := "fnExactCellOf", vars := ["loop.example/milldam/impl.errNotReckoned"], fn := fun _ => fun
  | [d1, d2, g1] => { results := [.lit (.bool true)], args := [d1, d2], vars := [g1] }
  | _ => none }
def fnExactCellOfRow : OpenClaim := { program := "ytegnpbkgfhjdoaadoor", sum := "2ec2fc9c0bbc126d8e144a3409116d89d66109d5a6d215e0d3a544a924a64afa", func := "loop.example/milldam/laws.FnExactCellOf", spec := "fnExactCellOf", inPlace := ["internal/reflectlite.TypeOf"], unfollowed := true, recurses := true, named := ["loop.example/milldam/impl.errNotReckoned"], ifaces := true, apart := false, laid := [("loop.example/milldam/impl.errNotReckoned", laid_loop_example_milldam_impl_errNotReckoned)] }
def FnExactCellOfSaid : Prop := fnExactCellOfRow.holds Tryd.pinned (OpenSpec.ofChange fnExactCellOfSpec)

/-- ITS FALSE NEIGHBOUR: 'it returns false'. Refute it at one input. -/
def fnExactCellOfWrong : ChangeSpec := { name := "fnExactCellOf", vars := ["loop.example/milldam/impl.errNotReckoned"], fn := fun _ => fun
  | [d1, d2, g1] => { results := [.lit (.bool false)], args := [d1, d2], vars := [g1] }
  | _ => none }
def FnExactCellOfWrongFalsely : Prop := fnExactCellOfRow.holds Tryd.pinned (OpenSpec.ofChange fnExactCellOfWrong)

/-- 'laws.FnExactCellText': WHATEVER THE INPUT: true; the input reads as it did. -/
def fnExactCellTextSpec : ChangeSpec := { name := "fnExactCellText", vars := ["loop.example/milldam/impl.errNotReckoned"], fn := fun _ => fun
  | [d, g1] => { results := [.lit (.bool true)], args := [d], vars := [g1] }
  | _ => none }
def fnExactCellTextRow : OpenClaim := { program := "ytegnpbkgfhjdoaadoor", sum := "2ec2fc9c0bbc126d8e144a3409116d89d66109d5a6d215e0d3a544a924a64afa", func := "loop.example/milldam/laws.FnExactCellText", spec := "fnExactCellText", inPlace := ["internal/reflectlite.TypeOf"], unfollowed := true, recurses := true, named := ["loop.example/milldam/impl.errNotReckoned"], ifaces := true, apart := false, laid := [("loop.example/milldam/impl.errNotReckoned", laid_loop_example_milldam_impl_errNotReckoned)] }
def FnExactCellTextSaid : Prop := fnExactCellTextRow.holds Tryd.pinned (OpenSpec.ofChange fnExactCellTextSpec)

/-- ITS FALSE NEIGHBOUR: 'it returns false'. Refute it at one input. -/
def fnExactCellTextWrong : ChangeSpec := { name := "fnExactCellText", vars := ["loop.example/milldam/impl.errNotReckoned"], fn := fun _ => fun
  | [d, g1] => { results := [.lit (.bool false)], args := [d], vars := [g1] }
  | _ => none }
def FnExactCellTextWrongFalsely : Prop := fnExactCellTextRow.holds Tryd.pinned (OpenSpec.ofChange fnExactCellTextWrong)

/-- 'laws.FnExactCellRead': WHATEVER THE INPUT: true; the input reads as it did. -/
def fnExactCellReadSpec : ChangeSpec := { name := "fnExactCellRead", vars := ["loop.example/milldam/impl.errNotReckoned"], fn := fun _ => fun
  | [d, g1] => { results := [.lit (.bool true)], args := [d], vars := [g1] }
  | _ => none }
def fnExactCellReadRow : OpenClaim := { program := "ytegnpbkgfhjdoaadoor", sum := "2ec2fc9c0bbc126d8e144a3409116d89d66109d5a6d215e0d3a544a924a64afa", func := "loop.example/milldam/laws.FnExactCellRead", spec := "fnExactCellRead", inPlace := ["internal/bytealg.IndexByteString", "internal/bytealg.IndexString", "internal/reflectlite.TypeOf"], unfollowed := true, recurses := true, named := ["strconv.ErrSyntax", "strconv.ErrRange", "internal/strconv.uint64pow10", "math/bits.deBruijn32tab", "math/bits.deBruijn64tab", "internal/bytealg.MaxLen", "loop.example/milldam/impl.errNotReckoned"], ifaces := true, apart := false, laid := [("math/bits.deBruijn32tab", laid_math_bits_deBruijn32tab), ("math/bits.deBruijn64tab", laid_math_bits_deBruijn64tab), ("internal/strconv.uint64pow10", laid_internal_strconv_uint64pow10), ("strconv.ErrRange", laid_strconv_ErrRange), ("strconv.ErrSyntax", laid_strconv_ErrSyntax), ("loop.example/milldam/impl.errNotReckoned", laid_loop_example_milldam_impl_errNotReckoned)] }
def FnExactCellReadSaid : Prop := fnExactCellReadRow.holds Tryd.pinned (OpenSpec.ofChange fnExactCellReadSpec)

/-- ITS FALSE NEIGHBOUR: 'it returns false'. Refute it at one input. -/
def fnExactCellReadWrong : ChangeSpec := { name := "fnExactCellRead", vars := ["loop.example/milldam/impl.errNotReckoned"], fn := fun _ => fun
  | [d, g1] => { results := [.lit (.bool false)], args := [d], vars := [g1] }
  | _ => none }
def FnExactCellReadWrongFalsely : Prop := fnExactCellReadRow.holds Tryd.pinned (OpenSpec.ofChange fnExactCellReadWrong)

/-- 'laws.FnExactTestOk': WHATEVER THE INPUT: true; the input reads as it did. -/
def fnExactTestOkSpec : ChangeSpec := { name := "fnExactTestOk", vars := ["loop.example/milldam/impl.errNotReckoned"], fn := fun _ => fun
  | [d1, d2, g1] => { results := [.lit (.bool true)], args := [d1, d2], vars := [g1] }
  | _ => none }
def fnExactTestOkRow : OpenClaim := { program := "ytegnpbkgfhjdoaadoor", sum := "2ec2fc9c0bbc126d8e144a3409116d89d66109d5a6d215e0d3a544a924a64afa", func := "loop.example/milldam/laws.FnExactTestOk", spec := "fnExactTestOk", inPlace := ["internal/reflectlite.TypeOf"], unfollowed := true, recurses := true, named := ["loop.example/milldam/impl.errNotReckoned"], ifaces := true, apart := false, laid := [("loop.example/milldam/impl.errNotReckoned", laid_loop_example_milldam_impl_errNotReckoned)] }
def FnExactTestOkSaid : Prop := fnExactTestOkRow.holds Tryd.pinned (OpenSpec.ofChange fnExactTestOkSpec)

/-- ITS FALSE NEIGHBOUR: 'it returns false'. Refute it at one input. -/
def fnExactTestOkWrong : ChangeSpec := { name := "fnExactTestOk", vars := ["loop.example/milldam/impl.errNotReckoned"], fn := fun _ => fun
  | [d1, d2, g1] => { results := [.lit (.bool false)], args := [d1, d2], vars := [g1] }
  | _ => none }
def FnExactTestOkWrongFalsely : Prop := fnExactTestOkRow.holds Tryd.pinned (OpenSpec.ofChange fnExactTestOkWrong)

/- THE SECOND FORM. 'bulk': how many values and letters a reading holds, each counted each time it is reached (what is shared counts as often as it is met; a slice's spare places count too). A statement '..UptoSaid' is the law's where the arguments, and the package variables that the reading takes, are together of bulk at most 1048576: NARROWER than '..Said'. Prove '..Said' where nothing that the law and all that it calls make is longer than what came in: it says more and counts as full. Else prove '..UptoSaid'. A law counts once. -/
mutual
def uptoBulk {H : Type} : DataW H → Nat
  | .lit (.string bytes) => bytes.length + 1
  | .lit _ => 1
  | .nil => 1
  | .ptr d => uptoBulk d + 1
  | .slice elems spare => uptoBulkAll elems + uptoBulkAll spare + 1
  | .agg parts => uptoBulkAll parts + 1
  | .iface _ d => uptoBulk d + 1
  | .map entries => uptoBulkEntries entries + 1
  | .held _ => 1
def uptoBulkAll {H : Type} : List (DataW H) → Nat
  | [] => 0
  | d :: r => uptoBulk d + uptoBulkAll r
def uptoBulkEntries {H : Type} : List (Lit × DataW H) → Nat
  | [] => 0
  | x :: r => uptoBulkEntry x + uptoBulkEntries r
def uptoBulkEntry {H : Type} : Lit × DataW H → Nat
  | (.string bytes, d) => bytes.length + uptoBulk d + 1
  | (_, d) => uptoBulk d + 1
 end
def uptoSmall : (H : Type) → List (DataW H) → Bool := fun _ ds => decide (uptoBulkAll ds ≤ 1048576)
def OpenSpec.upto (s : _root_.Go.ChangeSpec) : _root_.Go.OpenSpec := { _root_.Go.OpenSpec.ofChange s with cond := some uptoSmall }

/-- 'laws.FnCellSum', WHERE WHAT IT READS IS OF BULK AT MOST 1048576: true; the input reads as it did. -/
def fnCellSumUptoRow : OpenClaim := { program := "ytegnpbkgfhjdoaadoor", sum := "2ec2fc9c0bbc126d8e144a3409116d89d66109d5a6d215e0d3a544a924a64afa", func := "loop.example/milldam/laws.FnCellSum", spec := "fnCellSum", inPlace := ["internal/reflectlite.TypeOf"], unfollowed := true, recurses := true, named := ["loop.example/milldam/impl.errNotReckoned"], ifaces := true, apart := false, laid := [("loop.example/milldam/impl.errNotReckoned", laid_loop_example_milldam_impl_errNotReckoned)], narrowed := true }
def FnCellSumUptoSaid : Prop := fnCellSumUptoRow.holds Tryd.pinned (OpenSpec.upto fnCellSumSpec)

/-- 'laws.FnExactCellOk', WHERE WHAT IT READS IS OF BULK AT MOST 1048576: true; the input reads as it did. -/
def fnExactCellOkUptoRow : OpenClaim := { program := "ytegnpbkgfhjdoaadoor", sum := "2ec2fc9c0bbc126d8e144a3409116d89d66109d5a6d215e0d3a544a924a64afa", func := "loop.example/milldam/laws.FnExactCellOk", spec := "fnExactCellOk", inPlace := ["internal/reflectlite.TypeOf"], unfollowed := true, recurses := true, named := ["loop.example/milldam/impl.errNotReckoned"], ifaces := true, apart := false, laid := [("loop.example/milldam/impl.errNotReckoned", laid_loop_example_milldam_impl_errNotReckoned)], narrowed := true }
def FnExactCellOkUptoSaid : Prop := fnExactCellOkUptoRow.holds Tryd.pinned (OpenSpec.upto fnExactCellOkSpec)

/-- 'laws.FnExactCellOf', WHERE WHAT IT READS IS OF BULK AT MOST 1048576: true; the input reads as it did. -/
def fnExactCellOfUptoRow : OpenClaim := { program := "ytegnpbkgfhjdoaadoor", sum := "2ec2fc9c0bbc126d8e144a3409116d89d66109d5a6d215e0d3a544a924a64afa", func := "loop.example/milldam/laws.FnExactCellOf", spec := "fnExactCellOf", inPlace := ["internal/reflectlite.TypeOf"], unfollowed := true, recurses := true, named := ["loop.example/milldam/impl.errNotReckoned"], ifaces := true, apart := false, laid := [("loop.example/milldam/impl.errNotReckoned", laid_loop_example_milldam_impl_errNotReckoned)], narrowed := true }
def FnExactCellOfUptoSaid : Prop := fnExactCellOfUptoRow.holds Tryd.pinned (OpenSpec.upto fnExactCellOfSpec)

/-- 'laws.FnExactCellText', WHERE WHAT IT READS IS OF BULK AT MOST 1048576: true; the input reads as it did. -/
def fnExactCellTextUptoRow : OpenClaim := { program := "ytegnpbkgfhjdoaadoor", sum := "2ec2fc9c0bbc126d8e144a3409116d89d66109d5a6d215e0d3a544a924a64afa", func := "loop.example/milldam/laws.FnExactCellText", spec := "fnExactCellText", inPlace := ["internal/reflectlite.TypeOf"], unfollowed := true, recurses := true, named := ["loop.example/milldam/impl.errNotReckoned"], ifaces := true, apart := false, laid := [("loop.example/milldam/impl.errNotReckoned", laid_loop_example_milldam_impl_errNotReckoned)], narrowed := true }
def FnExactCellTextUptoSaid : Prop := fnExactCellTextUptoRow.holds Tryd.pinned (OpenSpec.upto fnExactCellTextSpec)

/-- 'laws.FnExactCellRead', WHERE WHAT IT READS IS OF BULK AT MOST 1048576: true; the input reads as it did. -/
def fnExactCellReadUptoRow : OpenClaim := { program := "ytegnpbkgfhjdoaadoor", sum := "2ec2fc9c0bbc126d8e144a3409116d89d66109d5a6d215e0d3a544a924a64afa", func := "loop.example/milldam/laws.FnExactCellRead", spec := "fnExactCellRead", inPlace := ["internal/bytealg.IndexByteString", "internal/bytealg.IndexString", "internal/reflectlite.TypeOf"], unfollowed := true, recurses := true, named := ["strconv.ErrSyntax", "strconv.ErrRange", "internal/strconv.uint64pow10", "math/bits.deBruijn32tab", "math/bits.deBruijn64tab", "internal/bytealg.MaxLen", "loop.example/milldam/impl.errNotReckoned"], ifaces := true, apart := false, laid := [("math/bits.deBruijn32tab", laid_math_bits_deBruijn32tab), ("math/bits.deBruijn64tab", laid_math_bits_deBruijn64tab), ("internal/strconv.uint64pow10", laid_internal_strconv_uint64pow10), ("strconv.ErrRange", laid_strconv_ErrRange), ("strconv.ErrSyntax", laid_strconv_ErrSyntax), ("loop.example/milldam/impl.errNotReckoned", laid_loop_example_milldam_impl_errNotReckoned)], narrowed := true }
def FnExactCellReadUptoSaid : Prop := fnExactCellReadUptoRow.holds Tryd.pinned (OpenSpec.upto fnExactCellReadSpec)

/-- 'laws.FnExactTestOk', WHERE WHAT IT READS IS OF BULK AT MOST 1048576: true; the input reads as it did. -/
def fnExactTestOkUptoRow : OpenClaim := { program := "ytegnpbkgfhjdoaadoor", sum := "2ec2fc9c0bbc126d8e144a3409116d89d66109d5a6d215e0d3a544a924a64afa", func := "loop.example/milldam/laws.FnExactTestOk", spec := "fnExactTestOk", inPlace := ["internal/reflectlite.TypeOf"], unfollowed := true, recurses := true, named := ["loop.example/milldam/impl.errNotReckoned"], ifaces := true, apart := false, laid := [("loop.example/milldam/impl.errNotReckoned", laid_loop_example_milldam_impl_errNotReckoned)], narrowed := true }
def FnExactTestOkUptoSaid : Prop := fnExactTestOkUptoRow.holds Tryd.pinned (OpenSpec.upto fnExactTestOkSpec)

end Rows
end Go.Proofs.YtegnpbkgfhjdoaaDoor
