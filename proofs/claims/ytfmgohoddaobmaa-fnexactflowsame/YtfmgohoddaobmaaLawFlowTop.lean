/-
  The walk of laws.FnExactFlowSame at two flows, each of its own depth.
-/
import Derived.Test.YtfmgohoddaobmaaLawFlowSame
import Derived.Test.YtfmgohoddaobmaaFlowIn
namespace Go.Proofs.Ytfmgohoddaobmaa.Fw
set_option maxRecDepth 100000
open Go.RowKit
set_option linter.unusedVariables false
set_option linter.unusedSimpArgs false
variable {D : Nat}

theorem lawFlowTop {D D' n m : Nat} (p : Fl D (n + 1)) (vc vk vd vl vr vf : Value) (q : Fl D' (m + 1)) (vc2 vk2 vd2 vl2 vr2 vf2 : Value) (w : World) (hp : FlowV (n + 1) w p vc vk vd vl vr vf) (hq : FlowV (m + 1) w q vc2 vk2 vd2 vl2 vr2 vf2) :
    Calls Try.prog 3 #[.agg #[.int .i64 p.nd.p.nd.k, .int .i64 p.nd.p.nd.n, .int .i64 p.nd.p.nd.t.k, .bool p.nd.p.nd.t.no, .int .i64 p.nd.p.nd.t.l.k, .int .i64 p.nd.p.nd.t.l.a, .int .i64 p.nd.p.nd.t.l.b, .int .i64 p.nd.p.nd.t.l.n, .int .i64 p.nd.p.nd.t.r.k, .int .i64 p.nd.p.nd.t.r.a, .int .i64 p.nd.p.nd.t.r.b, .int .i64 p.nd.p.nd.t.r.n, vc, .int .i64 p.nd.p.nd.a, .int .i64 p.nd.p.nd.b, vk, .int .i64 p.nd.p.nd.g, .int .i64 p.nd.p.nd.c, vd, vl, vr, vf], .agg #[.int .i64 q.nd.p.nd.k, .int .i64 q.nd.p.nd.n, .int .i64 q.nd.p.nd.t.k, .bool q.nd.p.nd.t.no, .int .i64 q.nd.p.nd.t.l.k, .int .i64 q.nd.p.nd.t.l.a, .int .i64 q.nd.p.nd.t.l.b, .int .i64 q.nd.p.nd.t.l.n, .int .i64 q.nd.p.nd.t.r.k, .int .i64 q.nd.p.nd.t.r.a, .int .i64 q.nd.p.nd.t.r.b, .int .i64 q.nd.p.nd.t.r.n, vc2, .int .i64 q.nd.p.nd.a, .int .i64 q.nd.p.nd.b, vk2, .int .i64 q.nd.p.nd.g, .int .i64 q.nd.p.nd.c, vd2, vl2, vr2, vf2]] w fun e w' => e = .returned (.bool true) ∧ Below w.heap.size w w' := by
  obtain ⟨p', ep, hp'⟩ := FlowV.le (D' := D + D') (m := n + m) (by omega) (by omega) hp
  obtain ⟨q', eq, hq'⟩ := FlowV.le (D' := D + D') (m := n + m) (by omega) (by omega) hq
  rw [← ep, ← eq]
  exact lawFlowSame (n + m) p' q' vc vk vd vl vr vf vc2 vk2 vd2 vl2 vr2 vf2 w hp' hq'

end Go.Proofs.Ytfmgohoddaobmaa.Fw
