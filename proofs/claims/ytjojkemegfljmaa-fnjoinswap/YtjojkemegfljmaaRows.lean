/-
  No cell of these rows narrows 'for every input' (looked for: loops, veiled, ifaces, maps, wideKeys, modest, calm, conditions, laid).
  DERIVED. THE GIVEN ROWS OF THIS SEAT. 6 by the template 'for every input the law returns true; each argument reads behind the call as it read before'; 0 by the template 'total and deterministic' (their statements: YtjojkemegfljmaaTotals.lean).
  GIVEN WITH THE SEED: the statements are not yours to turn. If you find one false, say at which input.
  Laid BY PROGRAM, IN A SANDBOX (cutbox-rows.mjs): the forced cells as the released guide's own fill.sh prints them over the translation 3eded7dfc1b41086… (all of the seat's roots in one cut). By AI agents, Wed Nov 11 2026. No macro, syntax, notation, axiom, sorry.
-/
import Derived.Test.YtjojkemegfljmaaChecked
import GoSem.Claim
import GoSem.ClaimJoined
import GoSem.ClaimMapViews
import Derived.JoinedTies
import Derived.KernelRfl
namespace Go.Proofs.Ytjojkemegfljmaa
/- THE CELL 'sum', in the pinned program and in every row, IS THE sha256 OF THE DUMP (.gsa) THAT YtjojkemegfljmaaProg.lean LOADS. Nothing in Lean hashes anything: it is a label: what it is worth is what the hold of that sum in a sandbox is worth. -/
noncomputable def Try.pinned : Pinned := { name := "ytjojkemegfljmaa", sum := "3eded7dfc1b410860d60dce4a150d673203b5ad3046e1f92156d6c20c4906221", checked := Try.checked }
namespace Rows
def none {H : Type} : Left H := { results := [], args := [] }

/-- 'laws.FnJoin': WHATEVER THE INPUT: true; the input reads as it did. -/
def fnJoinSpec : ChangeSpec := { name := "fnJoin", fn := fun _ => fun
  | [d1, d2] => { results := [.lit (.bool true)], args := [d1, d2] }
  | _ => none }
def fnJoinRow : OpenClaim := { program := "ytjojkemegfljmaa", sum := "3eded7dfc1b410860d60dce4a150d673203b5ad3046e1f92156d6c20c4906221", func := "loop.example/milldam/laws.FnJoin", spec := "fnJoin", unfollowed := true, recurses := true, apart := false }
def FnJoinSaid : Prop := fnJoinRow.holds Try.pinned (OpenSpec.ofChange fnJoinSpec)

/-- ITS FALSE NEIGHBOUR: 'it returns false'. Refute it at one input. -/
def fnJoinWrong : ChangeSpec := { name := "fnJoin", fn := fun _ => fun
  | [d1, d2] => { results := [.lit (.bool false)], args := [d1, d2] }
  | _ => none }
def FnJoinWrongFalsely : Prop := fnJoinRow.holds Try.pinned (OpenSpec.ofChange fnJoinWrong)

/-- 'laws.FnJoinSwap': WHATEVER THE INPUT: true; the input reads as it did. -/
def fnJoinSwapSpec : ChangeSpec := { name := "fnJoinSwap", fn := fun _ => fun
  | [d] => { results := [.lit (.bool true)], args := [d] }
  | _ => none }
def fnJoinSwapRow : OpenClaim := { program := "ytjojkemegfljmaa", sum := "3eded7dfc1b410860d60dce4a150d673203b5ad3046e1f92156d6c20c4906221", func := "loop.example/milldam/laws.FnJoinSwap", spec := "fnJoinSwap", unfollowed := true, recurses := true, apart := false }
def FnJoinSwapSaid : Prop := fnJoinSwapRow.holds Try.pinned (OpenSpec.ofChange fnJoinSwapSpec)

/-- ITS FALSE NEIGHBOUR: 'it returns false'. Refute it at one input. -/
def fnJoinSwapWrong : ChangeSpec := { name := "fnJoinSwap", fn := fun _ => fun
  | [d] => { results := [.lit (.bool false)], args := [d] }
  | _ => none }
def FnJoinSwapWrongFalsely : Prop := fnJoinSwapRow.holds Try.pinned (OpenSpec.ofChange fnJoinSwapWrong)

/-- 'laws.FnDeltaJoin': WHATEVER THE INPUT: true; the input reads as it did. -/
def fnDeltaJoinSpec : ChangeSpec := { name := "fnDeltaJoin", fn := fun _ => fun
  | [d] => { results := [.lit (.bool true)], args := [d] }
  | _ => none }
def fnDeltaJoinRow : OpenClaim := { program := "ytjojkemegfljmaa", sum := "3eded7dfc1b410860d60dce4a150d673203b5ad3046e1f92156d6c20c4906221", func := "loop.example/milldam/laws.FnDeltaJoin", spec := "fnDeltaJoin", unfollowed := true, recurses := true, apart := false }
def FnDeltaJoinSaid : Prop := fnDeltaJoinRow.holds Try.pinned (OpenSpec.ofChange fnDeltaJoinSpec)

/-- ITS FALSE NEIGHBOUR: 'it returns false'. Refute it at one input. -/
def fnDeltaJoinWrong : ChangeSpec := { name := "fnDeltaJoin", fn := fun _ => fun
  | [d] => { results := [.lit (.bool false)], args := [d] }
  | _ => none }
def FnDeltaJoinWrongFalsely : Prop := fnDeltaJoinRow.holds Try.pinned (OpenSpec.ofChange fnDeltaJoinWrong)

/-- 'laws.FnDeltaOnce': WHATEVER THE INPUT: true; the input reads as it did. -/
def fnDeltaOnceSpec : ChangeSpec := { name := "fnDeltaOnce", fn := fun _ => fun
  | [d] => { results := [.lit (.bool true)], args := [d] }
  | _ => none }
def fnDeltaOnceRow : OpenClaim := { program := "ytjojkemegfljmaa", sum := "3eded7dfc1b410860d60dce4a150d673203b5ad3046e1f92156d6c20c4906221", func := "loop.example/milldam/laws.FnDeltaOnce", spec := "fnDeltaOnce", unfollowed := true, recurses := true, apart := false }
def FnDeltaOnceSaid : Prop := fnDeltaOnceRow.holds Try.pinned (OpenSpec.ofChange fnDeltaOnceSpec)

/-- ITS FALSE NEIGHBOUR: 'it returns false'. Refute it at one input. -/
def fnDeltaOnceWrong : ChangeSpec := { name := "fnDeltaOnce", fn := fun _ => fun
  | [d] => { results := [.lit (.bool false)], args := [d] }
  | _ => none }
def FnDeltaOnceWrongFalsely : Prop := fnDeltaOnceRow.holds Try.pinned (OpenSpec.ofChange fnDeltaOnceWrong)

/-- 'laws.FnDeltaNone': WHATEVER THE INPUT: true; the input reads as it did. -/
def fnDeltaNoneSpec : ChangeSpec := { name := "fnDeltaNone", fn := fun _ => fun
  | [d] => { results := [.lit (.bool true)], args := [d] }
  | _ => none }
def fnDeltaNoneRow : OpenClaim := { program := "ytjojkemegfljmaa", sum := "3eded7dfc1b410860d60dce4a150d673203b5ad3046e1f92156d6c20c4906221", func := "loop.example/milldam/laws.FnDeltaNone", spec := "fnDeltaNone", unfollowed := true, recurses := true, apart := false }
def FnDeltaNoneSaid : Prop := fnDeltaNoneRow.holds Try.pinned (OpenSpec.ofChange fnDeltaNoneSpec)

/-- ITS FALSE NEIGHBOUR: 'it returns false'. Refute it at one input. -/
def fnDeltaNoneWrong : ChangeSpec := { name := "fnDeltaNone", fn := fun _ => fun
  | [d] => { results := [.lit (.bool false)], args := [d] }
  | _ => none }
def FnDeltaNoneWrongFalsely : Prop := fnDeltaNoneRow.holds Try.pinned (OpenSpec.ofChange fnDeltaNoneWrong)

/-- 'laws.FnDeltaLinear': WHATEVER THE INPUT: true; the input reads as it did. -/
def fnDeltaLinearSpec : ChangeSpec := { name := "fnDeltaLinear", fn := fun _ => fun
  | [d] => { results := [.lit (.bool true)], args := [d] }
  | _ => none }
def fnDeltaLinearRow : OpenClaim := { program := "ytjojkemegfljmaa", sum := "3eded7dfc1b410860d60dce4a150d673203b5ad3046e1f92156d6c20c4906221", func := "loop.example/milldam/laws.FnDeltaLinear", spec := "fnDeltaLinear", unfollowed := true, recurses := true, apart := false }
def FnDeltaLinearSaid : Prop := fnDeltaLinearRow.holds Try.pinned (OpenSpec.ofChange fnDeltaLinearSpec)

/-- ITS FALSE NEIGHBOUR: 'it returns false'. Refute it at one input. -/
def fnDeltaLinearWrong : ChangeSpec := { name := "fnDeltaLinear", fn := fun _ => fun
  | [d] => { results := [.lit (.bool false)], args := [d] }
  | _ => none }
def FnDeltaLinearWrongFalsely : Prop := fnDeltaLinearRow.holds Try.pinned (OpenSpec.ofChange fnDeltaLinearWrong)

/- THE SECOND FORM. 'bulk': how many values and letters a reading holds, each counted each time it is reached (what is shared counts as often as it is met; a slice's spare places count too). A statement '..UptoSaid' is the law's where the arguments, and the package variables that the reading takes, are together of bulk at most 1048576: NARROWER than '..Said'. Prove '..Said' where nothing that the law and all that it calls make is longer than what came in: it says more and counts as full. Else prove '..UptoSaid'. A law counts once. -/
mutual
def uptoBulk {H : Type} : DataW H → Nat
  | .lit (.string bytes) => bytes.length + 1
  | .lit _ => 1
  | .nil => 1
  | .ptr d => uptoBulk d + 1
  | .slice elems spare => uptoBulkAll elems + uptoBulkAll spare + 1
  | .agg parts => uptoBulkAll parts + 1
  | .iface _ d => uptoBulk d + 1
  | .map entries => uptoBulkEntries entries + 1
  | .held _ => 1
def uptoBulkAll {H : Type} : List (DataW H) → Nat
  | [] => 0
  | d :: r => uptoBulk d + uptoBulkAll r
def uptoBulkEntries {H : Type} : List (Lit × DataW H) → Nat
  | [] => 0
  | x :: r => uptoBulkEntry x + uptoBulkEntries r
def uptoBulkEntry {H : Type} : Lit × DataW H → Nat
  | (.string bytes, d) => bytes.length + uptoBulk d + 1
  | (_, d) => uptoBulk d + 1
 end
def uptoSmall : (H : Type) → List (DataW H) → Bool := fun _ ds => decide (uptoBulkAll ds ≤ 1048576)
def OpenSpec.upto (s : _root_.Go.ChangeSpec) : _root_.Go.OpenSpec := { _root_.Go.OpenSpec.ofChange s with cond := some uptoSmall }

/-- 'laws.FnJoin', WHERE WHAT IT READS IS OF BULK AT MOST 1048576: true; the input reads as it did. -/
def fnJoinUptoRow : OpenClaim := { program := "ytjojkemegfljmaa", sum := "3eded7dfc1b410860d60dce4a150d673203b5ad3046e1f92156d6c20c4906221", func := "loop.example/milldam/laws.FnJoin", spec := "fnJoin", unfollowed := true, recurses := true, apart := false, narrowed := true }
def FnJoinUptoSaid : Prop := fnJoinUptoRow.holds Try.pinned (OpenSpec.upto fnJoinSpec)

/-- 'laws.FnJoinSwap', WHERE WHAT IT READS IS OF BULK AT MOST 1048576: true; the input reads as it did. -/
def fnJoinSwapUptoRow : OpenClaim := { program := "ytjojkemegfljmaa", sum := "3eded7dfc1b410860d60dce4a150d673203b5ad3046e1f92156d6c20c4906221", func := "loop.example/milldam/laws.FnJoinSwap", spec := "fnJoinSwap", unfollowed := true, recurses := true, apart := false, narrowed := true }
def FnJoinSwapUptoSaid : Prop := fnJoinSwapUptoRow.holds Try.pinned (OpenSpec.upto fnJoinSwapSpec)

/-- 'laws.FnDeltaJoin', WHERE WHAT IT READS IS OF BULK AT MOST 1048576: true; the input reads as it did. -/
def fnDeltaJoinUptoRow : OpenClaim := { program := "ytjojkemegfljmaa", sum := "3eded7dfc1b410860d60dce4a150d673203b5ad3046e1f92156d6c20c4906221", func := "loop.example/milldam/laws.FnDeltaJoin", spec := "fnDeltaJoin", unfollowed := true, recurses := true, apart := false, narrowed := true }
def FnDeltaJoinUptoSaid : Prop := fnDeltaJoinUptoRow.holds Try.pinned (OpenSpec.upto fnDeltaJoinSpec)

/-- 'laws.FnDeltaOnce', WHERE WHAT IT READS IS OF BULK AT MOST 1048576: true; the input reads as it did. -/
def fnDeltaOnceUptoRow : OpenClaim := { program := "ytjojkemegfljmaa", sum := "3eded7dfc1b410860d60dce4a150d673203b5ad3046e1f92156d6c20c4906221", func := "loop.example/milldam/laws.FnDeltaOnce", spec := "fnDeltaOnce", unfollowed := true, recurses := true, apart := false, narrowed := true }
def FnDeltaOnceUptoSaid : Prop := fnDeltaOnceUptoRow.holds Try.pinned (OpenSpec.upto fnDeltaOnceSpec)

/-- 'laws.FnDeltaNone', WHERE WHAT IT READS IS OF BULK AT MOST 1048576: true; the input reads as it did. -/
def fnDeltaNoneUptoRow : OpenClaim := { program := "ytjojkemegfljmaa", sum := "3eded7dfc1b410860d60dce4a150d673203b5ad3046e1f92156d6c20c4906221", func := "loop.example/milldam/laws.FnDeltaNone", spec := "fnDeltaNone", unfollowed := true, recurses := true, apart := false, narrowed := true }
def FnDeltaNoneUptoSaid : Prop := fnDeltaNoneUptoRow.holds Try.pinned (OpenSpec.upto fnDeltaNoneSpec)

/-- 'laws.FnDeltaLinear', WHERE WHAT IT READS IS OF BULK AT MOST 1048576: true; the input reads as it did. -/
def fnDeltaLinearUptoRow : OpenClaim := { program := "ytjojkemegfljmaa", sum := "3eded7dfc1b410860d60dce4a150d673203b5ad3046e1f92156d6c20c4906221", func := "loop.example/milldam/laws.FnDeltaLinear", spec := "fnDeltaLinear", unfollowed := true, recurses := true, apart := false, narrowed := true }
def FnDeltaLinearUptoSaid : Prop := fnDeltaLinearUptoRow.holds Try.pinned (OpenSpec.upto fnDeltaLinearSpec)

end Rows
end Go.Proofs.Ytjojkemegfljmaa
