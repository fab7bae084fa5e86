/-
  errors.Is at the one error of chapter 3 (a pointer of errors.New's make): true of itself, false of nil; the world stays as it was.
-/
import Derived.Test.YtflbdfpgaeeleaaGreatDoorBase
import Derived.LaidEql
import Derived.Stop.LaidErr
import Derived.RowKitTokens
namespace Go.Proofs.YtflbdfpgaeeleaaGreatDoor
open Go.RowKit Go.Extern

theorem isTypeOf (v : Value) (w : World) : (callFunc 87 #[.iface 184 v]).run Tryz.prog w = .ok (.value (.iface 152 (.agg #[.pointer (some ⟨4, 184, none⟩)]))) w := by
  rw [@run_callFunc_extern Tryz.prog 87 _ Extern.ReflectliteType.typeOf Tryz.func87 (by kernel_rfl) (by kernel_rfl) (by kernel_rfl) (by kernel_rfl)]
  kernel_rfl
theorem isComparable (w : World) : (callFunc 144 #[.agg #[.pointer (some ⟨4, 184, none⟩)]]).run Tryz.prog w = .ok (.value (.bool true)) w := by
  rw [@run_callFunc_extern Tryz.prog 144 _ (Extern.ReflectliteType.method fun t => do Extern.Rtype.noPackHeld "Comparable" t; pure (.bool (← typeInfo t).comparable)) Tryz.func144 (by kernel_rfl) (by kernel_rfl) (by kernel_rfl) (by kernel_rfl)]
  kernel_rfl
theorem isMethodComparable (v : Value) (w : World) : (Go.method 318 152 v "Comparable").run Tryz.prog w = .ok (144, v) w := by kernel_rfl
theorem isComp : (Tryz.prog.info? 184).map (·.comparable) = some true := by kernel_rfl
theorem isSize : (Tryz.prog.info? 207).map (·.size) = some 1 := by kernel_rfl

set_option maxRecDepth 100000 in
set_option maxHeartbeats 1000000 in
/-- errors.Is(x, x), x a pointer to an errors.errorString. -/
theorem is_same (a : Addr) (w : World) :
    Calls Tryz.prog 63 #[.iface 184 (.pointer (some a)), .iface 184 (.pointer (some a))] w fun e w' => e = .returned (.bool true) ∧ w' = w := by
  obtain ⟨i, hi, hcmp⟩ := Option.map_eq_some_iff.1 isComp
  obtain ⟨j, hj, hjs⟩ := Option.map_eq_some_iff.1 isSize
  have tT := isTypeOf
  have cT := isComparable
  have mR := isMethodComparable
  have heq := run_eql_iface_ptr_same (P := Tryz.prog) w a Tryz.underlying93 Tryz.underlying184 hi hcmp hj
  go_enter Tryz.func63, Tryz.ntmps63
  go_wp2
  refine wp_loop_rounds 1 ?_
  rw [rounds_succ]
  go_wp2
  go_ret
  exact ⟨rfl, rfl⟩

/-- errors.Is(nil, x). -/
theorem is_nil (b : Addr) (w : World) :
    Calls Tryz.prog 63 #[.nilIface, .iface 184 (.pointer (some b))] w fun e w' => e = .returned (.bool false) ∧ w' = w := by
  have hn := run_eql_iface_nil_left (P := Tryz.prog) w 184 (.pointer (some b)) Tryz.underlying93
  go_enter Tryz.func63, Tryz.ntmps63
  go_wp2
  go_ret
  exact ⟨rfl, rfl⟩

/-- The error of chapter 3 lies at a. -/
def Sent (w : World) (a : Addr) : Prop := 0 < w.heap.size ∧ w.cell? ⟨0, 0, none⟩ = some (.iface 184 (.pointer (some a)))
theorem Sent.below {w w' : World} {a : Addr} (h : Sent w a) (hb : Below w.heap.size w w') : Sent w' a :=
  ⟨Nat.lt_of_lt_of_le h.1 hb.size, (hb.cell (p := ⟨0, 0, none⟩) h.1).trans h.2⟩

end Go.Proofs.YtflbdfpgaeeleaaGreatDoor
