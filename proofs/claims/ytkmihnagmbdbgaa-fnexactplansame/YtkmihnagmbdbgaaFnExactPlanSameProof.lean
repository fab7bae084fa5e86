/-
  At all plans laws.FnExactPlanSame returns true (impl.PlanSame answers as spec.PlanSame, and writes nothing into its arguments), and the arguments read behind the call as before it. Conditions: none.
-/
import Derived.Test.YtkmihnagmbdbgaaRows
import Derived.Test.YtkmihnagmbdbgaaLawPlanTop
import Derived.WalkKit
import Derived.ProofKit
import Derived.OpenShut
import Derived.ShutString
import Derived.ChangeOld
import Derived.Below
namespace Go.Proofs.Ytkmihnagmbdbgaa
namespace fnExactPlanSame
open Go.ChangeShapes Go.WideShapes Go.ChangeAt Go.RowKit
open Go.ChangeMaps (open_string shut_string)
set_option linter.unusedVariables false

theorem own : ownKnob Try.prog.godebug = none := by kernel_rfl
theorem laidOut : laidOutB Try.prog = true := by kernel_rfl

set_option maxRecDepth 100000 in
theorem lifted (os : Os) (started : os.Started) (H : Type) (enc : TypeId × Value → H) :
    ReturnsInHanded {} Try.checked os 3 .any (Rows.fnExactPlanSameSpec.pre6 enc Try.prog Try.f3 Rows.fnExactPlanSameRow.domain false) (Rows.fnExactPlanSameSpec.post enc Try.prog Try.f3 false true false false) := by
  refine returnsInHanded_of_change (C := Try.checked) own started (by kernel_rfl) Try.func3
    (ChangeSpec.witness6 (enc := enc) (C := Try.checked) false ⟨#[], #[.agg #[.int .i64 0, .int .i64 0, .int .i64 0, .bool false, .int .i64 0, .int .i64 0, .int .i64 0, .int .i64 0, .int .i64 0, .int .i64 0, .int .i64 0, .int .i64 0, .slice none 0 0, .int .i64 0, .int .i64 0, .slice none 0 0, .int .i64 0, .int .i64 0, .slice none 0 0], .agg #[.int .i64 0, .int .i64 0, .int .i64 0, .bool false, .int .i64 0, .int .i64 0, .int .i64 0, .int .i64 0, .int .i64 0, .int .i64 0, .int .i64 0, .int .i64 0, .slice none 0 0, .int .i64 0, .int .i64 0, .slice none 0 0, .int .i64 0, .int .i64 0, .slice none 0 0]], []⟩ 8 (by kernel_rfl) (by kernel_rfl) (by kernel_rfl) (by kernel_rfl)) ?_
  intro W base args ds gs before hval0 hW hcnd _
  have hval : ∀ (j : Nat) t v, Try.f3.params[j]? = some t → args[j]? = some v → Value.okWide Try.prog W .any base t v := hval0
  have hW' := hW
  obtain ⟨p, q, hA0, hV, rfl, hfz, hnd⟩ := hW
  have hA : DataW.TrodAll enc Try.prog W 0 (fun _ => true) true Try.f3.params.toList args.toList ds p := hA0
  rw [Try.params3] at hA hval
  obtain ⟨v0, vs0, d0, ds0, p0, q0, hargs, rfl, rfl, h0, r0⟩ := trodAll_cons hA
  obtain ⟨v1, vs1, d1, ds1, p1, q1, rfl, rfl, rfl, h1, r1⟩ := trodAll_cons r0
  obtain ⟨rfl, rfl, rfl⟩ := trodAll_nil r1
  obtain rfl : args = #[v0, v1] := by cases args; simp_all
  obtain ⟨rfl, rfl⟩ := trodVars_none hV
  obtain ⟨cs0, rfl, _⟩ := okWide_struct Try.underlying30 (hval 0 30 v0 rfl rfl)
  have k0 := h0
  have lt0 : ∀ x ∈ p0, x.block < W.heap.size := by obtain ⟨m, hm⟩ := k0; exact DataW.trod_lt m _ _ _ hm
  obtain ⟨fu0, hf0⟩ := h0
  obtain ⟨c0, vc0, vk0, vd0, e0, u0⟩ := plan_in fu0 hf0
  obtain rfl : cs0 = #[.int .i64 c0.nd.k, .int .i64 c0.nd.n, .int .i64 c0.nd.t.k, .bool c0.nd.t.no, .int .i64 c0.nd.t.l.k, .int .i64 c0.nd.t.l.a, .int .i64 c0.nd.t.l.b, .int .i64 c0.nd.t.l.n, .int .i64 c0.nd.t.r.k, .int .i64 c0.nd.t.r.a, .int .i64 c0.nd.t.r.b, .int .i64 c0.nd.t.r.n, vc0, .int .i64 c0.nd.a, .int .i64 c0.nd.b, vk0, .int .i64 c0.nd.g, .int .i64 c0.nd.c, vd0] := by cases cs0; simpa [Value.cells] using e0
  obtain ⟨cs1, rfl, _⟩ := okWide_struct Try.underlying30 (hval 1 30 v1 rfl rfl)
  have k1 := h1
  have lt1 : ∀ x ∈ p1, x.block < W.heap.size := by obtain ⟨m, hm⟩ := k1; exact DataW.trod_lt m _ _ _ hm
  obtain ⟨fu1, hf1⟩ := h1
  obtain ⟨c1, vc1, vk1, vd1, e1, u1⟩ := plan_in fu1 hf1
  obtain rfl : cs1 = #[.int .i64 c1.nd.k, .int .i64 c1.nd.n, .int .i64 c1.nd.t.k, .bool c1.nd.t.no, .int .i64 c1.nd.t.l.k, .int .i64 c1.nd.t.l.a, .int .i64 c1.nd.t.l.b, .int .i64 c1.nd.t.l.n, .int .i64 c1.nd.t.r.k, .int .i64 c1.nd.t.r.a, .int .i64 c1.nd.t.r.b, .int .i64 c1.nd.t.r.n, vc1, .int .i64 c1.nd.a, .int .i64 c1.nd.b, vk1, .int .i64 c1.nd.g, .int .i64 c1.nd.c, vd1] := by cases cs1; simpa [Value.cells] using e1
  clear hA0 hval0
  refine (lawPlanTop c0 vc0 vk0 vd0 c1 vc1 vk1 vd1 W u0 u1).mono fun e W' ⟨he, bel⟩ => ?_
  subst he
  exact ⟨_, rfl, _, _, _, [], _, [], hW', trodAll_mk1 (shut_bool Try.underlying4 _), (trodAll_cons_mk (Below.trod laidOut (by kernel_rfl) (of_decide_eq_true (by kernel_rfl)) k0 bel lt0) (trodAll_cons_mk (Below.trod laidOut (by kernel_rfl) (of_decide_eq_true (by kernel_rfl)) k1 bel lt1) trodAll_mk0)), rfl, bel.frame _, fun h => by cases h⟩

theorem over : Rows.fnExactPlanSameRow.holds Try.pinned (OpenSpec.ofChange Rows.fnExactPlanSameSpec) :=
  OpenClaim.holds_of_wide 3 Try.f3 rfl rfl rfl rfl rfl rfl rfl ⟨rfl, rfl, rfl, rfl, rfl⟩ rfl rfl rfl rfl rfl (by kernel_rfl) Try.func3 (by kernel_rfl)
    (of_decide_eq_true (by kernel_rfl)) (by unfold Func.isWrapper; first | (rw [if_pos (by decide +kernel)]; kernel_rfl) | (rw [if_neg (by decide +kernel)]; exact ⟨rfl, rfl⟩))
    (fun os started H enc _ => lifted os started H enc)

end fnExactPlanSame
theorem fnExactPlanSame_holds : Rows.FnExactPlanSameSaid := fnExactPlanSame.over
#print axioms fnExactPlanSame_holds
end Go.Proofs.Ytkmihnagmbdbgaa
