/-
  The walk of laws.FnExactPlanSame at two plans, each of its own depth.
-/
import Derived.Test.YtkmihnagmbdbgaaLawPlanSame
import Derived.Test.YtkmihnagmbdbgaaPlanIn
namespace Go.Proofs.Ytkmihnagmbdbgaa
set_option maxRecDepth 100000
open Go.RowKit
set_option linter.unusedVariables false

theorem lawPlanTop {n m : Nat} (p : Pl (n + 1)) (vc vk vd : Value) (q : Pl (m + 1)) (vc2 vk2 vd2 : Value) (w : World) (hp : PlanV (n + 1) w p vc vk vd) (hq : PlanV (m + 1) w q vc2 vk2 vd2) :
    Calls Try.prog 3 #[.agg #[.int .i64 p.nd.k, .int .i64 p.nd.n, .int .i64 p.nd.t.k, .bool p.nd.t.no, .int .i64 p.nd.t.l.k, .int .i64 p.nd.t.l.a, .int .i64 p.nd.t.l.b, .int .i64 p.nd.t.l.n, .int .i64 p.nd.t.r.k, .int .i64 p.nd.t.r.a, .int .i64 p.nd.t.r.b, .int .i64 p.nd.t.r.n, vc, .int .i64 p.nd.a, .int .i64 p.nd.b, vk, .int .i64 p.nd.g, .int .i64 p.nd.c, vd], .agg #[.int .i64 q.nd.k, .int .i64 q.nd.n, .int .i64 q.nd.t.k, .bool q.nd.t.no, .int .i64 q.nd.t.l.k, .int .i64 q.nd.t.l.a, .int .i64 q.nd.t.l.b, .int .i64 q.nd.t.l.n, .int .i64 q.nd.t.r.k, .int .i64 q.nd.t.r.a, .int .i64 q.nd.t.r.b, .int .i64 q.nd.t.r.n, vc2, .int .i64 q.nd.a, .int .i64 q.nd.b, vk2, .int .i64 q.nd.g, .int .i64 q.nd.c, vd2]] w fun e w' => e = .returned (.bool true) ∧ Below w.heap.size w w' := by
  obtain ⟨p', ep, hp'⟩ := PlanV.le (m := n + m) (by omega) hp
  obtain ⟨q', eq, hq'⟩ := PlanV.le (m := n + m) (by omega) hq
  rw [← ep, ← eq]
  exact lawPlanSame imOk (n + m) p' q' vc vk vd vc2 vk2 vd2 w hp' hq'

end Go.Proofs.Ytkmihnagmbdbgaa
