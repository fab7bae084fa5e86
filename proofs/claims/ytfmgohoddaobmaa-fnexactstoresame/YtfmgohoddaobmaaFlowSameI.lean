/-
  impl.FlowSame: two flows whose kids, and those of their plans, lie in blocks that are not frozen.
-/
import Derived.Test.YtfmgohoddaobmaaFlowTree
namespace Go.Proofs.Ytfmgohoddaobmaa.Fw
set_option maxRecDepth 100000
open Go.RowKit
set_option linter.unusedVariables false
set_option linter.unusedSimpArgs false
variable {D : Nat}

/-- The contract of impl.FlowSame. -/
def ImF (D : Nat) : Prop := ∀ (n : Nat) (p q : Fl D (n + 1)) (vc vk vd vl vr vf vc2 vk2 vd2 vl2 vr2 vf2 : Value) (w : World), FlowU n w p vc vk vd vl vr vf → FlowU n w q vc2 vk2 vd2 vl2 vr2 vf2 → Fl.sz (n + 1) p ≤ 1048576 → Fl.sz (n + 1) q ≤ 1048576 →
  Calls Try.prog 8 #[.agg #[.int .i64 p.nd.p.nd.k, .int .i64 p.nd.p.nd.n, .int .i64 p.nd.p.nd.t.k, .bool p.nd.p.nd.t.no, .int .i64 p.nd.p.nd.t.l.k, .int .i64 p.nd.p.nd.t.l.a, .int .i64 p.nd.p.nd.t.l.b, .int .i64 p.nd.p.nd.t.l.n, .int .i64 p.nd.p.nd.t.r.k, .int .i64 p.nd.p.nd.t.r.a, .int .i64 p.nd.p.nd.t.r.b, .int .i64 p.nd.p.nd.t.r.n, vc, .int .i64 p.nd.p.nd.a, .int .i64 p.nd.p.nd.b, vk, .int .i64 p.nd.p.nd.g, .int .i64 p.nd.p.nd.c, vd, vl, vr, vf], .agg #[.int .i64 q.nd.p.nd.k, .int .i64 q.nd.p.nd.n, .int .i64 q.nd.p.nd.t.k, .bool q.nd.p.nd.t.no, .int .i64 q.nd.p.nd.t.l.k, .int .i64 q.nd.p.nd.t.l.a, .int .i64 q.nd.p.nd.t.l.b, .int .i64 q.nd.p.nd.t.l.n, .int .i64 q.nd.p.nd.t.r.k, .int .i64 q.nd.p.nd.t.r.a, .int .i64 q.nd.p.nd.t.r.b, .int .i64 q.nd.p.nd.t.r.n, vc2, .int .i64 q.nd.p.nd.a, .int .i64 q.nd.p.nd.b, vk2, .int .i64 q.nd.p.nd.g, .int .i64 q.nd.p.nd.c, vd2, vl2, vr2, vf2]] w fun e w' => e = .returned (.bool (Fl.same (n + 1) p q)) ∧ Below w.heap.size w w'
theorem FKidsU.below : ∀ {n : Nat} {w w' : World} {v : Value}, FKidsU D n w v → Below w.heap.size w w' → FKidsU D n w' v
  | 0, w, w', v, h, hb => fun b off k c e hk => (h b off k c e hk).below hb
  | n + 1, w, w', v, h, hb => fun b off k c e hk => by
    obtain ⟨h1, h2⟩ := h b off k c e hk
    exact ⟨h1.below hb, fun j hj => ⟨fun vd hv => ((h2 j hj).1 vd ((hb.cell (p := ⟨b, off + j * 22 + 18, none⟩) h1.lt).symm.trans hv)).below hb, fun vf hv => FKidsU.below ((h2 j hj).2 vf ((hb.cell (p := ⟨b, off + j * 22 + 21, none⟩) h1.lt).symm.trans hv)) hb⟩⟩
theorem FlowU.below {n : Nat} {w w' : World} {p : Fl D (n + 1)} {vc vk vd vl vr vf : Value} (h : FlowU n w p vc vk vd vl vr vf) (hb : Below w.heap.size w w') : FlowU n w' p vc vk vd vl vr vf := ⟨FlowV.below h.1 hb, h.2.1.below hb, FKidsU.below h.2.2 hb⟩
theorem nod_blkF {n : Nat} {w : World} {b : Nat} {p : Fl D (n + 1)} {vc vk vd vl vr vf : Value} {t : TypeId} (h : w.heap[b]? = some (.cells #[.int .i64 p.nd.p.nd.k, .int .i64 p.nd.p.nd.n, .int .i64 p.nd.p.nd.t.k, .bool p.nd.p.nd.t.no, .int .i64 p.nd.p.nd.t.l.k, .int .i64 p.nd.p.nd.t.l.a, .int .i64 p.nd.p.nd.t.l.b, .int .i64 p.nd.p.nd.t.l.n, .int .i64 p.nd.p.nd.t.r.k, .int .i64 p.nd.p.nd.t.r.a, .int .i64 p.nd.p.nd.t.r.b, .int .i64 p.nd.p.nd.t.r.n, vc, .int .i64 p.nd.p.nd.a, .int .i64 p.nd.p.nd.b, vk, .int .i64 p.nd.p.nd.g, .int .i64 p.nd.p.nd.c, vd, vl, vr, vf] t)) (hp : FlowV (n + 1) w p vc vk vd vl vr vf) : Nod (n + 1) w ⟨b, 0, none⟩ p :=
  ⟨rfl, (Array.getElem?_eq_some_iff.1 h).1, vc, vk, vd, vl, vr, vf, ff_blk h, hp⟩
theorem uu_blk {n : Nat} {w : World} {b : Nat} {p : Fl D (n + 1)} {vc vk vd vl vr vf : Value} {t : TypeId} (h : w.heap[b]? = some (.cells #[.int .i64 p.nd.p.nd.k, .int .i64 p.nd.p.nd.n, .int .i64 p.nd.p.nd.t.k, .bool p.nd.p.nd.t.no, .int .i64 p.nd.p.nd.t.l.k, .int .i64 p.nd.p.nd.t.l.a, .int .i64 p.nd.p.nd.t.l.b, .int .i64 p.nd.p.nd.t.l.n, .int .i64 p.nd.p.nd.t.r.k, .int .i64 p.nd.p.nd.t.r.a, .int .i64 p.nd.p.nd.t.r.b, .int .i64 p.nd.p.nd.t.r.n, vc, .int .i64 p.nd.p.nd.a, .int .i64 p.nd.p.nd.b, vk, .int .i64 p.nd.p.nd.g, .int .i64 p.nd.p.nd.c, vd, vl, vr, vf] t)) (hu : FlowU n w p vc vk vd vl vr vf) : UU D n w ⟨b, 0, none⟩ := by
  refine ⟨fun v hv => ?_, fun v hv => ?_⟩
  · have := (cell_at (j := 18) (v := vd) h rfl).symm.trans hv
    injection this with this
    subst this
    exact hu.2.1
  · have := (cell_at (j := 21) (v := vf) h rfl).symm.trans hv
    injection this with this
    subst this
    exact hu.2.2
theorem waits_twoF {n : Nat} {w : World} {p q : Fl D (n + 1)} {vc vk vd vl vr vf vc2 vk2 vd2 vl2 vr2 vf2 : Value} (hp : FlowU n w p vc vk vd vl vr vf) (hq : FlowU n w q vc2 vk2 vd2 vl2 vr2 vf2) (hs : Fl.sz (n + 1) p ≤ 1048576) (hs2 : Fl.sz (n + 1) q ≤ 1048576) :
    Nod (n + 1) ((w.alloc (.cells #[.int .i64 p.nd.p.nd.k, .int .i64 p.nd.p.nd.n, .int .i64 p.nd.p.nd.t.k, .bool p.nd.p.nd.t.no, .int .i64 p.nd.p.nd.t.l.k, .int .i64 p.nd.p.nd.t.l.a, .int .i64 p.nd.p.nd.t.l.b, .int .i64 p.nd.p.nd.t.l.n, .int .i64 p.nd.p.nd.t.r.k, .int .i64 p.nd.p.nd.t.r.a, .int .i64 p.nd.p.nd.t.r.b, .int .i64 p.nd.p.nd.t.r.n, vc, .int .i64 p.nd.p.nd.a, .int .i64 p.nd.p.nd.b, vk, .int .i64 p.nd.p.nd.g, .int .i64 p.nd.p.nd.c, vd, vl, vr, vf] 51)).alloc (.cells #[.int .i64 q.nd.p.nd.k, .int .i64 q.nd.p.nd.n, .int .i64 q.nd.p.nd.t.k, .bool q.nd.p.nd.t.no, .int .i64 q.nd.p.nd.t.l.k, .int .i64 q.nd.p.nd.t.l.a, .int .i64 q.nd.p.nd.t.l.b, .int .i64 q.nd.p.nd.t.l.n, .int .i64 q.nd.p.nd.t.r.k, .int .i64 q.nd.p.nd.t.r.a, .int .i64 q.nd.p.nd.t.r.b, .int .i64 q.nd.p.nd.t.r.n, vc2, .int .i64 q.nd.p.nd.a, .int .i64 q.nd.p.nd.b, vk2, .int .i64 q.nd.p.nd.g, .int .i64 q.nd.p.nd.c, vd2, vl2, vr2, vf2] 51)) ⟨w.heap.size, 0, none⟩ p ∧ Nod (n + 1) ((w.alloc (.cells #[.int .i64 p.nd.p.nd.k, .int .i64 p.nd.p.nd.n, .int .i64 p.nd.p.nd.t.k, .bool p.nd.p.nd.t.no, .int .i64 p.nd.p.nd.t.l.k, .int .i64 p.nd.p.nd.t.l.a, .int .i64 p.nd.p.nd.t.l.b, .int .i64 p.nd.p.nd.t.l.n, .int .i64 p.nd.p.nd.t.r.k, .int .i64 p.nd.p.nd.t.r.a, .int .i64 p.nd.p.nd.t.r.b, .int .i64 p.nd.p.nd.t.r.n, vc, .int .i64 p.nd.p.nd.a, .int .i64 p.nd.p.nd.b, vk, .int .i64 p.nd.p.nd.g, .int .i64 p.nd.p.nd.c, vd, vl, vr, vf] 51)).alloc (.cells #[.int .i64 q.nd.p.nd.k, .int .i64 q.nd.p.nd.n, .int .i64 q.nd.p.nd.t.k, .bool q.nd.p.nd.t.no, .int .i64 q.nd.p.nd.t.l.k, .int .i64 q.nd.p.nd.t.l.a, .int .i64 q.nd.p.nd.t.l.b, .int .i64 q.nd.p.nd.t.l.n, .int .i64 q.nd.p.nd.t.r.k, .int .i64 q.nd.p.nd.t.r.a, .int .i64 q.nd.p.nd.t.r.b, .int .i64 q.nd.p.nd.t.r.n, vc2, .int .i64 q.nd.p.nd.a, .int .i64 q.nd.p.nd.b, vk2, .int .i64 q.nd.p.nd.g, .int .i64 q.nd.p.nd.c, vd2, vl2, vr2, vf2] 51)) ⟨w.heap.size + 1, 0, none⟩ q ∧ Waits D ((w.alloc (.cells #[.int .i64 p.nd.p.nd.k, .int .i64 p.nd.p.nd.n, .int .i64 p.nd.p.nd.t.k, .bool p.nd.p.nd.t.no, .int .i64 p.nd.p.nd.t.l.k, .int .i64 p.nd.p.nd.t.l.a, .int .i64 p.nd.p.nd.t.l.b, .int .i64 p.nd.p.nd.t.l.n, .int .i64 p.nd.p.nd.t.r.k, .int .i64 p.nd.p.nd.t.r.a, .int .i64 p.nd.p.nd.t.r.b, .int .i64 p.nd.p.nd.t.r.n, vc, .int .i64 p.nd.p.nd.a, .int .i64 p.nd.p.nd.b, vk, .int .i64 p.nd.p.nd.g, .int .i64 p.nd.p.nd.c, vd, vl, vr, vf] 51)).alloc (.cells #[.int .i64 q.nd.p.nd.k, .int .i64 q.nd.p.nd.n, .int .i64 q.nd.p.nd.t.k, .bool q.nd.p.nd.t.no, .int .i64 q.nd.p.nd.t.l.k, .int .i64 q.nd.p.nd.t.l.a, .int .i64 q.nd.p.nd.t.l.b, .int .i64 q.nd.p.nd.t.l.n, .int .i64 q.nd.p.nd.t.r.k, .int .i64 q.nd.p.nd.t.r.a, .int .i64 q.nd.p.nd.t.r.b, .int .i64 q.nd.p.nd.t.r.n, vc2, .int .i64 q.nd.p.nd.a, .int .i64 q.nd.p.nd.b, vk2, .int .i64 q.nd.p.nd.g, .int .i64 q.nd.p.nd.c, vd2, vl2, vr2, vf2] 51)) (p = q) (⟨w.heap.size, 0, none⟩, ⟨w.heap.size + 1, 0, none⟩) (Fl.cnt (n + 1) p) ∧ Below w.heap.size w ((w.alloc (.cells #[.int .i64 p.nd.p.nd.k, .int .i64 p.nd.p.nd.n, .int .i64 p.nd.p.nd.t.k, .bool p.nd.p.nd.t.no, .int .i64 p.nd.p.nd.t.l.k, .int .i64 p.nd.p.nd.t.l.a, .int .i64 p.nd.p.nd.t.l.b, .int .i64 p.nd.p.nd.t.l.n, .int .i64 p.nd.p.nd.t.r.k, .int .i64 p.nd.p.nd.t.r.a, .int .i64 p.nd.p.nd.t.r.b, .int .i64 p.nd.p.nd.t.r.n, vc, .int .i64 p.nd.p.nd.a, .int .i64 p.nd.p.nd.b, vk, .int .i64 p.nd.p.nd.g, .int .i64 p.nd.p.nd.c, vd, vl, vr, vf] 51)).alloc (.cells #[.int .i64 q.nd.p.nd.k, .int .i64 q.nd.p.nd.n, .int .i64 q.nd.p.nd.t.k, .bool q.nd.p.nd.t.no, .int .i64 q.nd.p.nd.t.l.k, .int .i64 q.nd.p.nd.t.l.a, .int .i64 q.nd.p.nd.t.l.b, .int .i64 q.nd.p.nd.t.l.n, .int .i64 q.nd.p.nd.t.r.k, .int .i64 q.nd.p.nd.t.r.a, .int .i64 q.nd.p.nd.t.r.b, .int .i64 q.nd.p.nd.t.r.n, vc2, .int .i64 q.nd.p.nd.a, .int .i64 q.nd.p.nd.b, vk2, .int .i64 q.nd.p.nd.g, .int .i64 q.nd.p.nd.c, vd2, vl2, vr2, vf2] 51)) := by
  obtain ⟨h1, h2, hb⟩ := two w (.cells #[.int .i64 p.nd.p.nd.k, .int .i64 p.nd.p.nd.n, .int .i64 p.nd.p.nd.t.k, .bool p.nd.p.nd.t.no, .int .i64 p.nd.p.nd.t.l.k, .int .i64 p.nd.p.nd.t.l.a, .int .i64 p.nd.p.nd.t.l.b, .int .i64 p.nd.p.nd.t.l.n, .int .i64 p.nd.p.nd.t.r.k, .int .i64 p.nd.p.nd.t.r.a, .int .i64 p.nd.p.nd.t.r.b, .int .i64 p.nd.p.nd.t.r.n, vc, .int .i64 p.nd.p.nd.a, .int .i64 p.nd.p.nd.b, vk, .int .i64 p.nd.p.nd.g, .int .i64 p.nd.p.nd.c, vd, vl, vr, vf] 51) (.cells #[.int .i64 q.nd.p.nd.k, .int .i64 q.nd.p.nd.n, .int .i64 q.nd.p.nd.t.k, .bool q.nd.p.nd.t.no, .int .i64 q.nd.p.nd.t.l.k, .int .i64 q.nd.p.nd.t.l.a, .int .i64 q.nd.p.nd.t.l.b, .int .i64 q.nd.p.nd.t.l.n, .int .i64 q.nd.p.nd.t.r.k, .int .i64 q.nd.p.nd.t.r.a, .int .i64 q.nd.p.nd.t.r.b, .int .i64 q.nd.p.nd.t.r.n, vc2, .int .i64 q.nd.p.nd.a, .int .i64 q.nd.p.nd.b, vk2, .int .i64 q.nd.p.nd.g, .int .i64 q.nd.p.nd.c, vd2, vl2, vr2, vf2] 51)
  have u1 := hp.below hb
  have u2 := hq.below hb
  have n1 := nod_blkF h1 u1.1
  have n2 := nod_blkF h2 u2.1
  exact ⟨n1, n2, ⟨n, p, q, n1, n2, fun h => h, ⟨⟨_, _, h1⟩, ⟨_, _, h2⟩⟩, hs, hs2, rfl, uu_blk h1 u1, uu_blk h2 u2⟩, hb⟩
set_option maxHeartbeats 2000000 in
theorem imF : ImF D := by
  intro n p q vc vk vd vl vr vf vc2 vk2 vd2 vl2 vr2 vf2 w hp hq hs hs2
  obtain ⟨h1, h2, h3, h4⟩ := waits_twoF hp hq hs hs2
  have HN1 := hidden h1
  have HN2 := hidden h2
  have HW := hidden h3
  have HB := hidden h4
  have HC : Hid (Fl.cnt (n + 1) p ≤ 1048577) := by have := Fl.cnt_le (n + 1) p; show _ ≤ _; omega
  clear hp hq hs hs2 h1 h2 h3 h4
  go_enter Try.func8, Try.ntmps8
  go_wp2_with (fail)
  refine (sameTree_any n p q _ _ _ _ HW.out HN1.out HN2.out HC.out).mono ?_
  rintro e w1 ⟨rfl, hb⟩
  have HB1 : Hid (Below w.heap.size w w1) := bel_then HB.out hb
  clear hb
  go_wp2
  go_ret
  exact ⟨rfl, HB1.out⟩

end Go.Proofs.Ytfmgohoddaobmaa.Fw
