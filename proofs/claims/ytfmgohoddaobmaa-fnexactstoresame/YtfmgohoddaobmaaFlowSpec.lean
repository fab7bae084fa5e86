/-
  The contract of spec.FlowSame, at every two flows.
-/
import Derived.Test.YtfmgohoddaobmaaFlowEq
import Derived.Test.YtfmgohoddaobmaaPlanSpec4
namespace Go.Proofs.Ytfmgohoddaobmaa.Fw
set_option maxRecDepth 100000
open Go.RowKit
set_option linter.unusedVariables false
set_option linter.unusedSimpArgs false
variable {D : Nat}

/-- The contract of spec.FlowSame at flows that are not deeper than so. -/
def SpF (D n : Nat) : Prop := ∀ (p q : Fl D (n + 1)) (vc vk vd vl vr vf vc2 vk2 vd2 vl2 vr2 vf2 : Value) (w : World), FlowV (n + 1) w p vc vk vd vl vr vf → FlowV (n + 1) w q vc2 vk2 vd2 vl2 vr2 vf2 → Fl.sz (n + 1) p ≤ 1048576 → Fl.sz (n + 1) q ≤ 1048576 →
  Calls Try.prog 6 #[.agg #[.int .i64 p.nd.p.nd.k, .int .i64 p.nd.p.nd.n, .int .i64 p.nd.p.nd.t.k, .bool p.nd.p.nd.t.no, .int .i64 p.nd.p.nd.t.l.k, .int .i64 p.nd.p.nd.t.l.a, .int .i64 p.nd.p.nd.t.l.b, .int .i64 p.nd.p.nd.t.l.n, .int .i64 p.nd.p.nd.t.r.k, .int .i64 p.nd.p.nd.t.r.a, .int .i64 p.nd.p.nd.t.r.b, .int .i64 p.nd.p.nd.t.r.n, vc, .int .i64 p.nd.p.nd.a, .int .i64 p.nd.p.nd.b, vk, .int .i64 p.nd.p.nd.g, .int .i64 p.nd.p.nd.c, vd, vl, vr, vf], .agg #[.int .i64 q.nd.p.nd.k, .int .i64 q.nd.p.nd.n, .int .i64 q.nd.p.nd.t.k, .bool q.nd.p.nd.t.no, .int .i64 q.nd.p.nd.t.l.k, .int .i64 q.nd.p.nd.t.l.a, .int .i64 q.nd.p.nd.t.l.b, .int .i64 q.nd.p.nd.t.l.n, .int .i64 q.nd.p.nd.t.r.k, .int .i64 q.nd.p.nd.t.r.a, .int .i64 q.nd.p.nd.t.r.b, .int .i64 q.nd.p.nd.t.r.n, vc2, .int .i64 q.nd.p.nd.a, .int .i64 q.nd.p.nd.b, vk2, .int .i64 q.nd.p.nd.g, .int .i64 q.nd.p.nd.c, vd2, vl2, vr2, vf2]] w fun e w' => e = .returned (.bool (Fl.same (n + 1) p q)) ∧ Below w.heap.size w w'
theorem FKidsV.at {α : Type} {N : World → Nat → Nat → α → Prop} {w : World} {a : Option Addr} {n c : Nat} {l : List α} (h : FKidsV N w (.slice a n c) l) : n = l.length ∧ (0 < n → ∃ b off, a = some ⟨b, off, none⟩ ∧ b < w.heap.size ∧ ∀ j (hj : j < l.length), N w b (off + j * 22) l[j]) := by
  obtain ⟨-, a', c', e, -, hc⟩ := h
  injection e with e1 e2 e3
  subst e1 e2
  exact ⟨rfl, fun h0 => hc (List.length_pos_iff.1 h0)⟩

set_option maxHeartbeats 4000000 in
theorem specF (n : Nat) (x y : FN D) (l l2 : List (Fl D (n + 1))) (IH : 0 < l.length → SpF D n) (vc vk vd vl vr vf vc2 vk2 vd2 vl2 vr2 vf2 : Value) (w : World) (hp : FParts (FNodeAt (n + 1)) w x l vc vk vd vl vr vf) (hq : FParts (FNodeAt (n + 1)) w y l2 vc2 vk2 vd2 vl2 vr2 vf2) (hs : x.sz ≤ 1048576) (hs2 : y.sz ≤ 1048576) (hm : l.length ≤ 1048576) (hm2 : l2.length ≤ 1048576) (hz : ∀ j (hj : j < l.length), Fl.sz (n + 1) l[j] ≤ 1048576) (hz2 : ∀ j (hj : j < l2.length), Fl.sz (n + 1) l2[j] ≤ 1048576) :
    Calls Try.prog 6 #[.agg #[.int .i64 x.p.nd.k, .int .i64 x.p.nd.n, .int .i64 x.p.nd.t.k, .bool x.p.nd.t.no, .int .i64 x.p.nd.t.l.k, .int .i64 x.p.nd.t.l.a, .int .i64 x.p.nd.t.l.b, .int .i64 x.p.nd.t.l.n, .int .i64 x.p.nd.t.r.k, .int .i64 x.p.nd.t.r.a, .int .i64 x.p.nd.t.r.b, .int .i64 x.p.nd.t.r.n, vc, .int .i64 x.p.nd.a, .int .i64 x.p.nd.b, vk, .int .i64 x.p.nd.g, .int .i64 x.p.nd.c, vd, vl, vr, vf], .agg #[.int .i64 y.p.nd.k, .int .i64 y.p.nd.n, .int .i64 y.p.nd.t.k, .bool y.p.nd.t.no, .int .i64 y.p.nd.t.l.k, .int .i64 y.p.nd.t.l.a, .int .i64 y.p.nd.t.l.b, .int .i64 y.p.nd.t.l.n, .int .i64 y.p.nd.t.r.k, .int .i64 y.p.nd.t.r.a, .int .i64 y.p.nd.t.r.b, .int .i64 y.p.nd.t.r.n, vc2, .int .i64 y.p.nd.a, .int .i64 y.p.nd.b, vk2, .int .i64 y.p.nd.g, .int .i64 y.p.nd.c, vd2, vl2, vr2, vf2]] w fun e w' => (∃ c : Bool, e = .returned (.bool c) ∧ (c = true ↔ (x = y ∧ l = l2))) ∧ Below w.heap.size w w' := by
  have HIH : Hid (0 < l.length → SpF D n) := IH
  have HSZ : Hid (∀ j (hj : j < l.length), Fl.sz (n + 1) l[j] ≤ 1048576) := hz
  have HSZ2 : Hid (∀ j (hj : j < l2.length), Fl.sz (n + 1) l2[j] ≤ 1048576) := hz2
  obtain ⟨⟨ca, nc, cc, rfl⟩, ⟨ka, nk, kc, rfl⟩, ⟨da, nd, dc, rfl⟩⟩ := planV_shapes hp.1
  obtain ⟨la, nl, lc, rfl⟩ := hp.2.1.shapeN
  obtain ⟨ra, nr, rc, rfl⟩ := hp.2.2.1.shapeN
  obtain ⟨fa, nf, fc, rfl⟩ := hp.2.2.2.shapeN
  obtain ⟨⟨ca2, nc2, cc2, rfl⟩, ⟨ka2, nk2, kc2, rfl⟩, ⟨da2, nd2, dc2, rfl⟩⟩ := planV_shapes hq.1
  obtain ⟨la2, nl2, lc2, rfl⟩ := hq.2.1.shapeN
  obtain ⟨ra2, nr2, rc2, rfl⟩ := hq.2.2.1.shapeN
  obtain ⟨fa2, nf2, fc2, rfl⟩ := hq.2.2.2.shapeN
  have HP : Hid (PlanV (D + 1) w x.p (.slice ca nc cc) (.slice ka nk kc) (.slice da nd dc)) := hp.1
  have HP2 : Hid (PlanV (D + 1) w y.p (.slice ca2 nc2 cc2) (.slice ka2 nk2 kc2) (.slice da2 nd2 dc2)) := hq.1
  have HZ : Hid (Pl.sz (D + 1) x.p ≤ 1048576 ∧ x.l.length + runsLen x.l ≤ 1048576 ∧ x.r.length + runsLen x.r ≤ 1048576) := by show _ ∧ _; unfold FN.sz at hs; omega
  have HZ2 : Hid (Pl.sz (D + 1) y.p ≤ 1048576 ∧ y.l.length + runsLen y.l ≤ 1048576 ∧ y.r.length + runsLen y.r ≤ 1048576) := by show _ ∧ _; unfold FN.sz at hs2; omega
  have HL : Hid (RunsI w (.slice la nl lc) x.l) := hp.2.1.runsI HZ.out.2.1
  have HL2 : Hid (RunsI w (.slice la2 nl2 lc2) y.l) := hq.2.1.runsI HZ2.out.2.1
  have HR : Hid (RunsI w (.slice ra nr rc) x.r) := hp.2.2.1.runsI HZ.out.2.2
  have HR2 : Hid (RunsI w (.slice ra2 nr2 rc2) y.r) := hq.2.2.1.runsI HZ2.out.2.2
  have HK : Hid (FKidsV (FNodeAt (n + 1)) w (.slice fa nf fc) l) := hp.2.2.2
  have HK2 : Hid (FKidsV (FNodeAt (n + 1)) w (.slice fa2 nf2 fc2) l2) := hq.2.2.2
  have HN : Hid (nf = l.length ∧ nf2 = l2.length) := ⟨hp.2.2.2.at.1, hq.2.2.2.at.1⟩
  have hnf : nf ≤ 1048576 := by rw [hp.2.2.2.at.1]; exact hm
  obtain ⟨c1, h1⟩ : ∃ c, Pl.same (D + 1) x.p y.p = c := ⟨_, rfl⟩
  obtain ⟨c2, h2⟩ : ∃ c, rsB x.l y.l = c := ⟨_, rfl⟩
  obtain ⟨c3, h3⟩ : ∃ c, rsB x.r y.r = c := ⟨_, rfl⟩
  have H1 : Hid (Pl.same (D + 1) x.p y.p = c1) := h1
  have H2 : Hid (rsB x.l y.l = c2) := h2
  have H3 : Hid (rsB x.r y.r = c3) := h3
  clear hp hq hs hs2 h1 h2 h3 hm hm2 hz hz2 IH
  obtain ⟨w0, hw0⟩ : ∃ w0, w0 = (w.alloc (.cells #[.int .i64 x.p.nd.k, .int .i64 x.p.nd.n, .int .i64 x.p.nd.t.k, .bool x.p.nd.t.no, .int .i64 x.p.nd.t.l.k, .int .i64 x.p.nd.t.l.a, .int .i64 x.p.nd.t.l.b, .int .i64 x.p.nd.t.l.n, .int .i64 x.p.nd.t.r.k, .int .i64 x.p.nd.t.r.a, .int .i64 x.p.nd.t.r.b, .int .i64 x.p.nd.t.r.n, .slice ca nc cc, .int .i64 x.p.nd.a, .int .i64 x.p.nd.b, .slice ka nk kc, .int .i64 x.p.nd.g, .int .i64 x.p.nd.c, .slice da nd dc, .slice la nl lc, .slice ra nr rc, .slice fa nf fc] 51)).alloc (.cells #[.int .i64 y.p.nd.k, .int .i64 y.p.nd.n, .int .i64 y.p.nd.t.k, .bool y.p.nd.t.no, .int .i64 y.p.nd.t.l.k, .int .i64 y.p.nd.t.l.a, .int .i64 y.p.nd.t.l.b, .int .i64 y.p.nd.t.l.n, .int .i64 y.p.nd.t.r.k, .int .i64 y.p.nd.t.r.a, .int .i64 y.p.nd.t.r.b, .int .i64 y.p.nd.t.r.n, .slice ca2 nc2 cc2, .int .i64 y.p.nd.a, .int .i64 y.p.nd.b, .slice ka2 nk2 kc2, .int .i64 y.p.nd.g, .int .i64 y.p.nd.c, .slice da2 nd2 dc2, .slice la2 nl2 lc2, .slice ra2 nr2 rc2, .slice fa2 nf2 fc2] 51) := ⟨_, rfl⟩
  have HA : Hid (w0.heap[w.heap.size]? = some (.cells #[.int .i64 x.p.nd.k, .int .i64 x.p.nd.n, .int .i64 x.p.nd.t.k, .bool x.p.nd.t.no, .int .i64 x.p.nd.t.l.k, .int .i64 x.p.nd.t.l.a, .int .i64 x.p.nd.t.l.b, .int .i64 x.p.nd.t.l.n, .int .i64 x.p.nd.t.r.k, .int .i64 x.p.nd.t.r.a, .int .i64 x.p.nd.t.r.b, .int .i64 x.p.nd.t.r.n, .slice ca nc cc, .int .i64 x.p.nd.a, .int .i64 x.p.nd.b, .slice ka nk kc, .int .i64 x.p.nd.g, .int .i64 x.p.nd.c, .slice da nd dc, .slice la nl lc, .slice ra nr rc, .slice fa nf fc] 51)) := by show _ = _; rw [hw0]; exact (two w _ _).1
  have HQ : Hid (w0.heap[w.heap.size + 1]? = some (.cells #[.int .i64 y.p.nd.k, .int .i64 y.p.nd.n, .int .i64 y.p.nd.t.k, .bool y.p.nd.t.no, .int .i64 y.p.nd.t.l.k, .int .i64 y.p.nd.t.l.a, .int .i64 y.p.nd.t.l.b, .int .i64 y.p.nd.t.l.n, .int .i64 y.p.nd.t.r.k, .int .i64 y.p.nd.t.r.a, .int .i64 y.p.nd.t.r.b, .int .i64 y.p.nd.t.r.n, .slice ca2 nc2 cc2, .int .i64 y.p.nd.a, .int .i64 y.p.nd.b, .slice ka2 nk2 kc2, .int .i64 y.p.nd.g, .int .i64 y.p.nd.c, .slice da2 nd2 dc2, .slice la2 nl2 lc2, .slice ra2 nr2 rc2, .slice fa2 nf2 fc2] 51)) := by show _ = _; rw [hw0]; exact (two w _ _).2.1
  have HB : Hid (Below w.heap.size w w0) := by show Below _ _ _; rw [hw0]; exact (two w _ _).2.2
  have HRA : Hid (w0.rangeAt (w.heap.size) 0 [.int .i64 x.p.nd.k, .int .i64 x.p.nd.n, .int .i64 x.p.nd.t.k, .bool x.p.nd.t.no, .int .i64 x.p.nd.t.l.k, .int .i64 x.p.nd.t.l.a, .int .i64 x.p.nd.t.l.b, .int .i64 x.p.nd.t.l.n, .int .i64 x.p.nd.t.r.k, .int .i64 x.p.nd.t.r.a, .int .i64 x.p.nd.t.r.b, .int .i64 x.p.nd.t.r.n, .slice ca nc cc, .int .i64 x.p.nd.a, .int .i64 x.p.nd.b, .slice ka nk kc, .int .i64 x.p.nd.g, .int .i64 x.p.nd.c, .slice da nd dc]) := (ff_blk HA.out).1.range
  have HRB : Hid (w0.rangeAt (w.heap.size + 1) 0 [.int .i64 y.p.nd.k, .int .i64 y.p.nd.n, .int .i64 y.p.nd.t.k, .bool y.p.nd.t.no, .int .i64 y.p.nd.t.l.k, .int .i64 y.p.nd.t.l.a, .int .i64 y.p.nd.t.l.b, .int .i64 y.p.nd.t.l.n, .int .i64 y.p.nd.t.r.k, .int .i64 y.p.nd.t.r.a, .int .i64 y.p.nd.t.r.b, .int .i64 y.p.nd.t.r.n, .slice ca2 nc2 cc2, .int .i64 y.p.nd.a, .int .i64 y.p.nd.b, .slice ka2 nk2 kc2, .int .i64 y.p.nd.g, .int .i64 y.p.nd.c, .slice da2 nd2 dc2]) := (ff_blk HQ.out).1.range
  have hil : (Try.prog.info? 45).map (·.size) = some ([.int .i64 x.p.nd.k, .int .i64 x.p.nd.n, .int .i64 x.p.nd.t.k, .bool x.p.nd.t.no, .int .i64 x.p.nd.t.l.k, .int .i64 x.p.nd.t.l.a, .int .i64 x.p.nd.t.l.b, .int .i64 x.p.nd.t.l.n, .int .i64 x.p.nd.t.r.k, .int .i64 x.p.nd.t.r.a, .int .i64 x.p.nd.t.r.b, .int .i64 x.p.nd.t.r.n, .slice ca nc cc, .int .i64 x.p.nd.a, .int .i64 x.p.nd.b, .slice ka nk kc, .int .i64 x.p.nd.g, .int .i64 x.p.nd.c, .slice da nd dc] : List Value).length := by kernel_rfl
  have hil2 : (Try.prog.info? 45).map (·.size) = some ([.int .i64 y.p.nd.k, .int .i64 y.p.nd.n, .int .i64 y.p.nd.t.k, .bool y.p.nd.t.no, .int .i64 y.p.nd.t.l.k, .int .i64 y.p.nd.t.l.a, .int .i64 y.p.nd.t.l.b, .int .i64 y.p.nd.t.l.n, .int .i64 y.p.nd.t.r.k, .int .i64 y.p.nd.t.r.a, .int .i64 y.p.nd.t.r.b, .int .i64 y.p.nd.t.r.n, .slice ca2 nc2 cc2, .int .i64 y.p.nd.a, .int .i64 y.p.nd.b, .slice ka2 nk2 kc2, .int .i64 y.p.nd.g, .int .i64 y.p.nd.c, .slice da2 nd2 dc2] : List Value).length := by kernel_rfl
  have hw0' := hw0.symm
  clear hw0
  go_enter Try.func6, Try.ntmps6
  go_wp2_with (first | (refine wpList_load_mid rfl 45 _ rfl (w.heap.size) 0 rfl [.int .i64 x.p.nd.k, .int .i64 x.p.nd.n, .int .i64 x.p.nd.t.k, .bool x.p.nd.t.no, .int .i64 x.p.nd.t.l.k, .int .i64 x.p.nd.t.l.a, .int .i64 x.p.nd.t.l.b, .int .i64 x.p.nd.t.l.n, .int .i64 x.p.nd.t.r.k, .int .i64 x.p.nd.t.r.a, .int .i64 x.p.nd.t.r.b, .int .i64 x.p.nd.t.r.n, .slice ca nc cc, .int .i64 x.p.nd.a, .int .i64 x.p.nd.b, .slice ka nk kc, .int .i64 x.p.nd.g, .int .i64 x.p.nd.c, .slice da nd dc] _ HRA.out Try.underlying45 rfl hil ?_) | (refine wpList_load_mid rfl 45 _ rfl (w.heap.size + 1) 0 rfl [.int .i64 y.p.nd.k, .int .i64 y.p.nd.n, .int .i64 y.p.nd.t.k, .bool y.p.nd.t.no, .int .i64 y.p.nd.t.l.k, .int .i64 y.p.nd.t.l.a, .int .i64 y.p.nd.t.l.b, .int .i64 y.p.nd.t.l.n, .int .i64 y.p.nd.t.r.k, .int .i64 y.p.nd.t.r.a, .int .i64 y.p.nd.t.r.b, .int .i64 y.p.nd.t.r.n, .slice ca2 nc2 cc2, .int .i64 y.p.nd.a, .int .i64 y.p.nd.b, .slice ka2 nk2 kc2, .int .i64 y.p.nd.g, .int .i64 y.p.nd.c, .slice da2 nd2 dc2] _ HRB.out Try.underlying45 rfl hil2 ?_))
  clear hw0'
  refine (specPlan_any D x.p y.p _ _ _ _ _ _ _ (PlanV.below HP.out HB.out) (PlanV.below HP2.out HB.out) HZ.out.1 HZ2.out.1).mono ?_
  rw [H1.out]
  rintro e w1 ⟨rfl, hb⟩
  replace HA : Hid (w1.heap[w.heap.size]? = some (.cells #[.int .i64 x.p.nd.k, .int .i64 x.p.nd.n, .int .i64 x.p.nd.t.k, .bool x.p.nd.t.no, .int .i64 x.p.nd.t.l.k, .int .i64 x.p.nd.t.l.a, .int .i64 x.p.nd.t.l.b, .int .i64 x.p.nd.t.l.n, .int .i64 x.p.nd.t.r.k, .int .i64 x.p.nd.t.r.a, .int .i64 x.p.nd.t.r.b, .int .i64 x.p.nd.t.r.n, .slice ca nc cc, .int .i64 x.p.nd.a, .int .i64 x.p.nd.b, .slice ka nk kc, .int .i64 x.p.nd.g, .int .i64 x.p.nd.c, .slice da nd dc, .slice la nl lc, .slice ra nr rc, .slice fa nf fc] 51)) := at_below HA.out hb
  replace HQ : Hid (w1.heap[w.heap.size + 1]? = some (.cells #[.int .i64 y.p.nd.k, .int .i64 y.p.nd.n, .int .i64 y.p.nd.t.k, .bool y.p.nd.t.no, .int .i64 y.p.nd.t.l.k, .int .i64 y.p.nd.t.l.a, .int .i64 y.p.nd.t.l.b, .int .i64 y.p.nd.t.l.n, .int .i64 y.p.nd.t.r.k, .int .i64 y.p.nd.t.r.a, .int .i64 y.p.nd.t.r.b, .int .i64 y.p.nd.t.r.n, .slice ca2 nc2 cc2, .int .i64 y.p.nd.a, .int .i64 y.p.nd.b, .slice ka2 nk2 kc2, .int .i64 y.p.nd.g, .int .i64 y.p.nd.c, .slice da2 nd2 dc2, .slice la2 nl2 lc2, .slice ra2 nr2 rc2, .slice fa2 nf2 fc2] 51)) := at_below HQ.out hb
  replace HB : Hid (Below w.heap.size w w1) := bel_then HB.out hb
  clear hb HRA HRB hil hil2
  cases c1 with
  | false =>
    go_wp2
    go_ret
    refine ⟨⟨false, rfl, ?_⟩, HB.out⟩
    simp only [Bool.false_eq_true, false_iff, not_and]
    intro h
    have := H1.out
    rw [h, Pl.same_self] at this
    cases this
  | true =>
    have ca19 : w1.cell? ⟨w.heap.size, 19, none⟩ = some (.slice la nl lc) := (ff_blk HA.out).2.1
    have cb19 : w1.cell? ⟨w.heap.size + 1, 19, none⟩ = some (.slice la2 nl2 lc2) := (ff_blk HQ.out).2.1
    go_wp2_with fail
    refine (specRunSame_any _ _ x.l y.l _ (HL.out.below HB.out) (HL2.out.below HB.out)).mono ?_
    rw [H2.out]
    rintro e w2 ⟨rfl, hb⟩
    replace HA : Hid (w2.heap[w.heap.size]? = some (.cells #[.int .i64 x.p.nd.k, .int .i64 x.p.nd.n, .int .i64 x.p.nd.t.k, .bool x.p.nd.t.no, .int .i64 x.p.nd.t.l.k, .int .i64 x.p.nd.t.l.a, .int .i64 x.p.nd.t.l.b, .int .i64 x.p.nd.t.l.n, .int .i64 x.p.nd.t.r.k, .int .i64 x.p.nd.t.r.a, .int .i64 x.p.nd.t.r.b, .int .i64 x.p.nd.t.r.n, .slice ca nc cc, .int .i64 x.p.nd.a, .int .i64 x.p.nd.b, .slice ka nk kc, .int .i64 x.p.nd.g, .int .i64 x.p.nd.c, .slice da nd dc, .slice la nl lc, .slice ra nr rc, .slice fa nf fc] 51)) := at_below HA.out hb
    replace HQ : Hid (w2.heap[w.heap.size + 1]? = some (.cells #[.int .i64 y.p.nd.k, .int .i64 y.p.nd.n, .int .i64 y.p.nd.t.k, .bool y.p.nd.t.no, .int .i64 y.p.nd.t.l.k, .int .i64 y.p.nd.t.l.a, .int .i64 y.p.nd.t.l.b, .int .i64 y.p.nd.t.l.n, .int .i64 y.p.nd.t.r.k, .int .i64 y.p.nd.t.r.a, .int .i64 y.p.nd.t.r.b, .int .i64 y.p.nd.t.r.n, .slice ca2 nc2 cc2, .int .i64 y.p.nd.a, .int .i64 y.p.nd.b, .slice ka2 nk2 kc2, .int .i64 y.p.nd.g, .int .i64 y.p.nd.c, .slice da2 nd2 dc2, .slice la2 nl2 lc2, .slice ra2 nr2 rc2, .slice fa2 nf2 fc2] 51)) := at_below HQ.out hb
    replace HB : Hid (Below w.heap.size w w2) := bel_then HB.out hb
    clear hb ca19 cb19
    cases c2 with
    | false =>
      go_wp2
      go_ret
      refine ⟨⟨false, rfl, ?_⟩, HB.out⟩
      simp only [Bool.false_eq_true, false_iff, not_and]
      intro h
      have := H2.out
      rw [h] at this
      simp [rsB] at this
    | true =>
      have ca20 : w2.cell? ⟨w.heap.size, 20, none⟩ = some (.slice ra nr rc) := (ff_blk HA.out).2.2.1
      have cb20 : w2.cell? ⟨w.heap.size + 1, 20, none⟩ = some (.slice ra2 nr2 rc2) := (ff_blk HQ.out).2.2.1
      go_wp2_with fail
      refine (specRunSame_any _ _ x.r y.r _ (HR.out.below HB.out) (HR2.out.below HB.out)).mono ?_
      rw [H3.out]
      rintro e w3 ⟨rfl, hb⟩
      replace HA : Hid (w3.heap[w.heap.size]? = some (.cells #[.int .i64 x.p.nd.k, .int .i64 x.p.nd.n, .int .i64 x.p.nd.t.k, .bool x.p.nd.t.no, .int .i64 x.p.nd.t.l.k, .int .i64 x.p.nd.t.l.a, .int .i64 x.p.nd.t.l.b, .int .i64 x.p.nd.t.l.n, .int .i64 x.p.nd.t.r.k, .int .i64 x.p.nd.t.r.a, .int .i64 x.p.nd.t.r.b, .int .i64 x.p.nd.t.r.n, .slice ca nc cc, .int .i64 x.p.nd.a, .int .i64 x.p.nd.b, .slice ka nk kc, .int .i64 x.p.nd.g, .int .i64 x.p.nd.c, .slice da nd dc, .slice la nl lc, .slice ra nr rc, .slice fa nf fc] 51)) := at_below HA.out hb
      replace HQ : Hid (w3.heap[w.heap.size + 1]? = some (.cells #[.int .i64 y.p.nd.k, .int .i64 y.p.nd.n, .int .i64 y.p.nd.t.k, .bool y.p.nd.t.no, .int .i64 y.p.nd.t.l.k, .int .i64 y.p.nd.t.l.a, .int .i64 y.p.nd.t.l.b, .int .i64 y.p.nd.t.l.n, .int .i64 y.p.nd.t.r.k, .int .i64 y.p.nd.t.r.a, .int .i64 y.p.nd.t.r.b, .int .i64 y.p.nd.t.r.n, .slice ca2 nc2 cc2, .int .i64 y.p.nd.a, .int .i64 y.p.nd.b, .slice ka2 nk2 kc2, .int .i64 y.p.nd.g, .int .i64 y.p.nd.c, .slice da2 nd2 dc2, .slice la2 nl2 lc2, .slice ra2 nr2 rc2, .slice fa2 nf2 fc2] 51)) := at_below HQ.out hb
      replace HB : Hid (Below w.heap.size w w3) := bel_then HB.out hb
      clear hb ca20 cb20
      have ck : w3.cell? ⟨w.heap.size, 21, none⟩ = some (.slice fa nf fc) := (ff_blk HA.out).2.2.2
      have ck2 : w3.cell? ⟨w.heap.size + 1, 21, none⟩ = some (.slice fa2 nf2 fc2) := (ff_blk HQ.out).2.2.2
      cases c3 with
      | false =>
        go_wp2
        go_ret
        refine ⟨⟨false, rfl, ?_⟩, HB.out⟩
        simp only [Bool.false_eq_true, false_iff, not_and]
        intro h
        have := H3.out
        rw [h] at this
        simp [rsB] at this
      | true =>
        by_cases hl : nf = nf2
        case neg =>
          have hne : ((nf : Int) != (nf2 : Int)) = true := by simp; omega
          go_wp2
          go_ret
          refine ⟨⟨false, rfl, ?_⟩, HB.out⟩
          simp only [Bool.false_eq_true, false_iff, not_and]
          intro _ h
          have := HN.out
          rw [h] at this
          omega
        have hne : ((nf : Int) != (nf2 : Int)) = false := by simp; omega
        have HXY : Hid (x = y) := FN.eqB_iff.1 (by rw [FN.eqB, H1.out, H2.out, H3.out]; rfl)
        have HLL : Hid (nf = nf2) := hl
        clear hl
        go_wp2_with fail
        clear ck ck2 hne
        go_loopw [5] (fun i wr => ∃ k : Nat, k ≤ nf ∧ i = .int .i64 k ∧ Hid (wr.heap[w.heap.size]? = some (.cells #[.int .i64 x.p.nd.k, .int .i64 x.p.nd.n, .int .i64 x.p.nd.t.k, .bool x.p.nd.t.no, .int .i64 x.p.nd.t.l.k, .int .i64 x.p.nd.t.l.a, .int .i64 x.p.nd.t.l.b, .int .i64 x.p.nd.t.l.n, .int .i64 x.p.nd.t.r.k, .int .i64 x.p.nd.t.r.a, .int .i64 x.p.nd.t.r.b, .int .i64 x.p.nd.t.r.n, .slice ca nc cc, .int .i64 x.p.nd.a, .int .i64 x.p.nd.b, .slice ka nk kc, .int .i64 x.p.nd.g, .int .i64 x.p.nd.c, .slice da nd dc, .slice la nl lc, .slice ra nr rc, .slice fa nf fc] 51)) ∧ Hid (wr.heap[w.heap.size + 1]? = some (.cells #[.int .i64 y.p.nd.k, .int .i64 y.p.nd.n, .int .i64 y.p.nd.t.k, .bool y.p.nd.t.no, .int .i64 y.p.nd.t.l.k, .int .i64 y.p.nd.t.l.a, .int .i64 y.p.nd.t.l.b, .int .i64 y.p.nd.t.l.n, .int .i64 y.p.nd.t.r.k, .int .i64 y.p.nd.t.r.a, .int .i64 y.p.nd.t.r.b, .int .i64 y.p.nd.t.r.n, .slice ca2 nc2 cc2, .int .i64 y.p.nd.a, .int .i64 y.p.nd.b, .slice ka2 nk2 kc2, .int .i64 y.p.nd.g, .int .i64 y.p.nd.c, .slice da2 nd2 dc2, .slice la2 nl2 lc2, .slice ra2 nr2 rc2, .slice fa2 nf2 fc2] 51)) ∧ Hid (Below w.heap.size w wr) ∧ Hid (∀ j (h1 : j < l.length) (h2 : j < l2.length), j < k → l[j] = l2[j])) (fun i _ => nf - (intOf i).toNat)
        case atStart => exact ⟨0, Nat.zero_le _, rfl, HA.out, HQ.out, HB.out, fun j _ _ hj => by omega⟩
        case round =>
          clear HA HQ HB
          obtain ⟨k, hk, rfl, HA, HQ, HB, HS⟩ := hrel
          have ck : wr.cell? ⟨w.heap.size, 21, none⟩ = some (.slice fa nf fc) := (ff_blk HA.out).2.2.2
          have ck2 : wr.cell? ⟨w.heap.size + 1, 21, none⟩ = some (.slice fa2 nf2 fc2) := (ff_blk HQ.out).2.2.2
          by_cases hlt : k < nf
          · have hkl : k < l.length := by have := HN.out; omega
            have hkl2 : k < l2.length := by have := HN.out; have := HLL.out; omega
            have hlt2 : k < nf2 := by have := HLL.out; omega
            obtain ⟨b, off, rfl, hbw, h4⟩ := HK.out.at.2 (by omega)
            obtain ⟨b2, off2, rfl, hbw2, h5⟩ := HK2.out.at.2 (by omega)
            obtain ⟨uc, uk, ud, ul, ur, uf, hf, hp⟩ := ffields_of (FNodeAt.below _ (h4 k hkl) HB.out)
            obtain ⟨uc2, uk2, ud2, ul2, ur2, uf2, hf2, hp2⟩ := ffields_of (FNodeAt.below _ (h5 k hkl2) HB.out)
            obtain ⟨q, hq⟩ : ∃ q, k * 22 = q := ⟨_, rfl⟩
            rw [hq] at hf hf2
            have HRK : Hid (wr.rangeAt b (off + q) ([.int .i64 l[k].nd.p.nd.k, .int .i64 l[k].nd.p.nd.n, .int .i64 l[k].nd.p.nd.t.k, .bool l[k].nd.p.nd.t.no, .int .i64 l[k].nd.p.nd.t.l.k, .int .i64 l[k].nd.p.nd.t.l.a, .int .i64 l[k].nd.p.nd.t.l.b, .int .i64 l[k].nd.p.nd.t.l.n, .int .i64 l[k].nd.p.nd.t.r.k, .int .i64 l[k].nd.p.nd.t.r.a, .int .i64 l[k].nd.p.nd.t.r.b, .int .i64 l[k].nd.p.nd.t.r.n, uc, .int .i64 l[k].nd.p.nd.a, .int .i64 l[k].nd.p.nd.b, uk, .int .i64 l[k].nd.p.nd.g, .int .i64 l[k].nd.p.nd.c, ud, ul, ur, uf] : List Value)) := hf.range
            have HRK2 : Hid (wr.rangeAt b2 (off2 + q) ([.int .i64 l2[k].nd.p.nd.k, .int .i64 l2[k].nd.p.nd.n, .int .i64 l2[k].nd.p.nd.t.k, .bool l2[k].nd.p.nd.t.no, .int .i64 l2[k].nd.p.nd.t.l.k, .int .i64 l2[k].nd.p.nd.t.l.a, .int .i64 l2[k].nd.p.nd.t.l.b, .int .i64 l2[k].nd.p.nd.t.l.n, .int .i64 l2[k].nd.p.nd.t.r.k, .int .i64 l2[k].nd.p.nd.t.r.a, .int .i64 l2[k].nd.p.nd.t.r.b, .int .i64 l2[k].nd.p.nd.t.r.n, uc2, .int .i64 l2[k].nd.p.nd.a, .int .i64 l2[k].nd.p.nd.b, uk2, .int .i64 l2[k].nd.p.nd.g, .int .i64 l2[k].nd.p.nd.c, ud2, ul2, ur2, uf2] : List Value)) := hf2.range
            have hik : (Try.prog.info? 51).map (·.size) = some ([.int .i64 l[k].nd.p.nd.k, .int .i64 l[k].nd.p.nd.n, .int .i64 l[k].nd.p.nd.t.k, .bool l[k].nd.p.nd.t.no, .int .i64 l[k].nd.p.nd.t.l.k, .int .i64 l[k].nd.p.nd.t.l.a, .int .i64 l[k].nd.p.nd.t.l.b, .int .i64 l[k].nd.p.nd.t.l.n, .int .i64 l[k].nd.p.nd.t.r.k, .int .i64 l[k].nd.p.nd.t.r.a, .int .i64 l[k].nd.p.nd.t.r.b, .int .i64 l[k].nd.p.nd.t.r.n, uc, .int .i64 l[k].nd.p.nd.a, .int .i64 l[k].nd.p.nd.b, uk, .int .i64 l[k].nd.p.nd.g, .int .i64 l[k].nd.p.nd.c, ud, ul, ur, uf] : List Value).length := by kernel_rfl
            have hik2 : (Try.prog.info? 51).map (·.size) = some ([.int .i64 l2[k].nd.p.nd.k, .int .i64 l2[k].nd.p.nd.n, .int .i64 l2[k].nd.p.nd.t.k, .bool l2[k].nd.p.nd.t.no, .int .i64 l2[k].nd.p.nd.t.l.k, .int .i64 l2[k].nd.p.nd.t.l.a, .int .i64 l2[k].nd.p.nd.t.l.b, .int .i64 l2[k].nd.p.nd.t.l.n, .int .i64 l2[k].nd.p.nd.t.r.k, .int .i64 l2[k].nd.p.nd.t.r.a, .int .i64 l2[k].nd.p.nd.t.r.b, .int .i64 l2[k].nd.p.nd.t.r.n, uc2, .int .i64 l2[k].nd.p.nd.a, .int .i64 l2[k].nd.p.nd.b, uk2, .int .i64 l2[k].nd.p.nd.g, .int .i64 l2[k].nd.p.nd.c, ud2, ul2, ur2, uf2] : List Value).length := by kernel_rfl
            have HPV : Hid (FlowV (n + 1) wr l[k] uc uk ud ul ur uf) := hp
            have HPV2 : Hid (FlowV (n + 1) wr l2[k] uc2 uk2 ud2 ul2 ur2 uf2) := hp2
            have HS1 : Hid (b < wr.heap.size) := Nat.lt_of_lt_of_le hbw HB.out.size
            have HS2 : Hid (b2 < wr.heap.size) := Nat.lt_of_lt_of_le hbw2 HB.out.size
            obtain ⟨c, hcc⟩ : ∃ c, Fl.same (n + 1) l[k] l2[k] = c := ⟨_, rfl⟩
            have HCC : Hid (Fl.same (n + 1) l[k] l2[k] = c) := hcc
            clear hcc
            clear hp hf hp2 hf2 h4 h5
            go_wp2_with fail
            refine wp_region_held_drew (S := (fun x => x.cell? ⟨w.heap.size, 21, none⟩ = some (.slice (some ⟨b, off, none⟩) nf fc) ∧ x.cell? ⟨w.heap.size + 1, 21, none⟩ = some (.slice (some ⟨b2, off2, none⟩) nf2 fc2) ∧ x.rangeAt b (off + q) ([.int .i64 l[k].nd.p.nd.k, .int .i64 l[k].nd.p.nd.n, .int .i64 l[k].nd.p.nd.t.k, .bool l[k].nd.p.nd.t.no, .int .i64 l[k].nd.p.nd.t.l.k, .int .i64 l[k].nd.p.nd.t.l.a, .int .i64 l[k].nd.p.nd.t.l.b, .int .i64 l[k].nd.p.nd.t.l.n, .int .i64 l[k].nd.p.nd.t.r.k, .int .i64 l[k].nd.p.nd.t.r.a, .int .i64 l[k].nd.p.nd.t.r.b, .int .i64 l[k].nd.p.nd.t.r.n, uc, .int .i64 l[k].nd.p.nd.a, .int .i64 l[k].nd.p.nd.b, uk, .int .i64 l[k].nd.p.nd.g, .int .i64 l[k].nd.p.nd.c, ud, ul, ur, uf] : List Value) ∧ x.rangeAt b2 (off2 + q) ([.int .i64 l2[k].nd.p.nd.k, .int .i64 l2[k].nd.p.nd.n, .int .i64 l2[k].nd.p.nd.t.k, .bool l2[k].nd.p.nd.t.no, .int .i64 l2[k].nd.p.nd.t.l.k, .int .i64 l2[k].nd.p.nd.t.l.a, .int .i64 l2[k].nd.p.nd.t.l.b, .int .i64 l2[k].nd.p.nd.t.l.n, .int .i64 l2[k].nd.p.nd.t.r.k, .int .i64 l2[k].nd.p.nd.t.r.a, .int .i64 l2[k].nd.p.nd.t.r.b, .int .i64 l2[k].nd.p.nd.t.r.n, uc2, .int .i64 l2[k].nd.p.nd.a, .int .i64 l2[k].nd.p.nd.b, uk2, .int .i64 l2[k].nd.p.nd.g, .int .i64 l2[k].nd.p.nd.c, ud2, ul2, ur2, uf2] : List Value))) (by kernel_rfl) ?_ (fun hHeld => ?_)
            · (try dsimp only); exact ⟨ck, ck2, HRK.out, HRK2.out⟩
            refine wpAnyH_take (i := 0) (v := ?_) rfl (by kernel_rfl) (by kernel_rfl) (by kernel_rfl) (fun _ _ _ h => h) (Or.inl ⟨by rfl, ?_⟩) (by assumption) ?_
            rotate_left 1
            · intro w hSw; (try dsimp only at hSw); go_simp; try with_reducible rfl
            simp only [Act.put, List.getElem_toArray, List.getElem_cons_succ, List.getElem_cons_zero, List.setIfInBounds_toArray, List.set_cons_zero, List.set_cons_succ]
            refine wpAnyH_take (i := 1) (v := ?_) rfl (by kernel_rfl) (by kernel_rfl) (by kernel_rfl) (fun _ _ _ h => h) (Or.inl ⟨by rfl, ?_⟩) (by assumption) ?_
            rotate_left 1
            · intro w hSw; (try dsimp only at hSw); go_simp; try with_reducible rfl
            simp only [Act.put, List.getElem_toArray, List.getElem_cons_succ, List.getElem_cons_zero, List.setIfInBounds_toArray, List.set_cons_zero, List.set_cons_succ]
            refine wpAnyH_take (i := 2) (v := ?_) rfl (by kernel_rfl) (by kernel_rfl) (by kernel_rfl) (fun _ _ _ h => h) (Or.inl ⟨by rfl, ?_⟩) (by assumption) ?_
            rotate_left 1
            · intro w hSw; (try dsimp only at hSw); go_simp; try with_reducible rfl
            simp only [Act.put, List.getElem_toArray, List.getElem_cons_succ, List.getElem_cons_zero, List.setIfInBounds_toArray, List.set_cons_zero, List.set_cons_succ]
            refine wpAnyH_take (i := 3) (v := ?_) rfl (by kernel_rfl) (by kernel_rfl) (by kernel_rfl) (fun _ _ _ h => h) (Or.inl ⟨by rfl, ?_⟩) (by assumption) ?_
            rotate_left 1
            · intro w hSw; (try dsimp only at hSw); go_simp; try with_reducible rfl
            simp only [Act.put, List.getElem_toArray, List.getElem_cons_succ, List.getElem_cons_zero, List.setIfInBounds_toArray, List.set_cons_zero, List.set_cons_succ]
            refine wpAnyH_take (i := 4) (v := .agg ([.int .i64 l[k].nd.p.nd.k, .int .i64 l[k].nd.p.nd.n, .int .i64 l[k].nd.p.nd.t.k, .bool l[k].nd.p.nd.t.no, .int .i64 l[k].nd.p.nd.t.l.k, .int .i64 l[k].nd.p.nd.t.l.a, .int .i64 l[k].nd.p.nd.t.l.b, .int .i64 l[k].nd.p.nd.t.l.n, .int .i64 l[k].nd.p.nd.t.r.k, .int .i64 l[k].nd.p.nd.t.r.a, .int .i64 l[k].nd.p.nd.t.r.b, .int .i64 l[k].nd.p.nd.t.r.n, uc, .int .i64 l[k].nd.p.nd.a, .int .i64 l[k].nd.p.nd.b, uk, .int .i64 l[k].nd.p.nd.g, .int .i64 l[k].nd.p.nd.c, ud, ul, ur, uf] : List Value).toArray) rfl (by kernel_rfl) (by kernel_rfl) (by kernel_rfl) (fun _ _ _ h => h) (yieldsIf_load_mid (by rfl) 51 _ rfl b (off + q) rfl [.int .i64 l[k].nd.p.nd.k, .int .i64 l[k].nd.p.nd.n, .int .i64 l[k].nd.p.nd.t.k, .bool l[k].nd.p.nd.t.no, .int .i64 l[k].nd.p.nd.t.l.k, .int .i64 l[k].nd.p.nd.t.l.a, .int .i64 l[k].nd.p.nd.t.l.b, .int .i64 l[k].nd.p.nd.t.l.n, .int .i64 l[k].nd.p.nd.t.r.k, .int .i64 l[k].nd.p.nd.t.r.a, .int .i64 l[k].nd.p.nd.t.r.b, .int .i64 l[k].nd.p.nd.t.r.n, uc, .int .i64 l[k].nd.p.nd.a, .int .i64 l[k].nd.p.nd.b, uk, .int .i64 l[k].nd.p.nd.g, .int .i64 l[k].nd.p.nd.c, ud, ul, ur, uf] _ (fun x h => h.2.2.1) Try.underlying51 rfl hik) (by assumption) ?_
            simp only [Act.put, List.getElem_toArray, List.getElem_cons_succ, List.getElem_cons_zero, List.setIfInBounds_toArray, List.set_cons_zero, List.set_cons_succ]
            refine wpAnyH_take (i := 5) (v := ?_) rfl (by kernel_rfl) (by kernel_rfl) (by kernel_rfl) (fun _ _ _ h => h) (Or.inl ⟨by rfl, ?_⟩) (by assumption) ?_
            rotate_left 1
            · intro w hSw; (try dsimp only at hSw); go_simp; try with_reducible rfl
            simp only [Act.put, List.getElem_toArray, List.getElem_cons_succ, List.getElem_cons_zero, List.setIfInBounds_toArray, List.set_cons_zero, List.set_cons_succ]
            refine wpAnyH_take (i := 6) (v := ?_) rfl (by kernel_rfl) (by kernel_rfl) (by kernel_rfl) (fun _ _ _ h => h) (Or.inl ⟨by rfl, ?_⟩) (by assumption) ?_
            rotate_left 1
            · intro w hSw; (try dsimp only at hSw); go_simp; try with_reducible rfl
            simp only [Act.put, List.getElem_toArray, List.getElem_cons_succ, List.getElem_cons_zero, List.setIfInBounds_toArray, List.set_cons_zero, List.set_cons_succ]
            refine wpAnyH_take (i := 7) (v := ?_) rfl (by kernel_rfl) (by kernel_rfl) (by kernel_rfl) (fun _ _ _ h => h) (Or.inl ⟨by rfl, ?_⟩) (by assumption) ?_
            rotate_left 1
            · intro w hSw; (try dsimp only at hSw); go_simp; try with_reducible rfl
            simp only [Act.put, List.getElem_toArray, List.getElem_cons_succ, List.getElem_cons_zero, List.setIfInBounds_toArray, List.set_cons_zero, List.set_cons_succ]
            refine wpAnyH_take (i := 8) (v := ?_) rfl (by kernel_rfl) (by kernel_rfl) (by kernel_rfl) (fun _ _ _ h => h) (Or.inl ⟨by rfl, ?_⟩) (by assumption) ?_
            rotate_left 1
            · intro w hSw; (try dsimp only at hSw); go_simp; try with_reducible rfl
            simp only [Act.put, List.getElem_toArray, List.getElem_cons_succ, List.getElem_cons_zero, List.setIfInBounds_toArray, List.set_cons_zero, List.set_cons_succ]
            refine wpAnyH_take (i := 9) (v := .agg ([.int .i64 l2[k].nd.p.nd.k, .int .i64 l2[k].nd.p.nd.n, .int .i64 l2[k].nd.p.nd.t.k, .bool l2[k].nd.p.nd.t.no, .int .i64 l2[k].nd.p.nd.t.l.k, .int .i64 l2[k].nd.p.nd.t.l.a, .int .i64 l2[k].nd.p.nd.t.l.b, .int .i64 l2[k].nd.p.nd.t.l.n, .int .i64 l2[k].nd.p.nd.t.r.k, .int .i64 l2[k].nd.p.nd.t.r.a, .int .i64 l2[k].nd.p.nd.t.r.b, .int .i64 l2[k].nd.p.nd.t.r.n, uc2, .int .i64 l2[k].nd.p.nd.a, .int .i64 l2[k].nd.p.nd.b, uk2, .int .i64 l2[k].nd.p.nd.g, .int .i64 l2[k].nd.p.nd.c, ud2, ul2, ur2, uf2] : List Value).toArray) rfl (by kernel_rfl) (by kernel_rfl) (by kernel_rfl) (fun _ _ _ h => h) (yieldsIf_load_mid (by rfl) 51 _ rfl b2 (off2 + q) rfl [.int .i64 l2[k].nd.p.nd.k, .int .i64 l2[k].nd.p.nd.n, .int .i64 l2[k].nd.p.nd.t.k, .bool l2[k].nd.p.nd.t.no, .int .i64 l2[k].nd.p.nd.t.l.k, .int .i64 l2[k].nd.p.nd.t.l.a, .int .i64 l2[k].nd.p.nd.t.l.b, .int .i64 l2[k].nd.p.nd.t.l.n, .int .i64 l2[k].nd.p.nd.t.r.k, .int .i64 l2[k].nd.p.nd.t.r.a, .int .i64 l2[k].nd.p.nd.t.r.b, .int .i64 l2[k].nd.p.nd.t.r.n, uc2, .int .i64 l2[k].nd.p.nd.a, .int .i64 l2[k].nd.p.nd.b, uk2, .int .i64 l2[k].nd.p.nd.g, .int .i64 l2[k].nd.p.nd.c, ud2, ul2, ur2, uf2] _ (fun x h => h.2.2.2) Try.underlying51 rfl hik2) (by assumption) ?_
            simp only [Act.put, List.getElem_toArray, List.getElem_cons_succ, List.getElem_cons_zero, List.setIfInBounds_toArray, List.set_cons_zero, List.set_cons_succ]
            refine wpAnyH_ready (rs := [10]) (by kernel_rfl) (by simp) ?_
            refine AllReadyH.cons rfl (fun K hK => ?_) AllReadyH.nil
            go_simp
            (refine ((HIH.out (by omega)) l[k] l2[k] uc uk ud ul ur uf uc2 uk2 ud2 ul2 ur2 uf2 _ (by first | exact HPV.out | exact HPV.out.below (Below.drew (Below.refl _ _))) (by first | exact HPV2.out | exact HPV2.out.below (Below.drew (Below.refl _ _))) (HSZ.out k hkl) (HSZ2.out k hkl2)).mono ?_; rw [HCC.out]; rintro e w5 ⟨rfl, hb2⟩; have hb : Below wr.heap.size wr w5 := (by first | exact hb2 | exact (Below.drew (Below.refl _ _)).trans hb2); have HA2 : Hid (w5.heap[w.heap.size]? = some (.cells #[.int .i64 x.p.nd.k, .int .i64 x.p.nd.n, .int .i64 x.p.nd.t.k, .bool x.p.nd.t.no, .int .i64 x.p.nd.t.l.k, .int .i64 x.p.nd.t.l.a, .int .i64 x.p.nd.t.l.b, .int .i64 x.p.nd.t.l.n, .int .i64 x.p.nd.t.r.k, .int .i64 x.p.nd.t.r.a, .int .i64 x.p.nd.t.r.b, .int .i64 x.p.nd.t.r.n, .slice ca nc cc, .int .i64 x.p.nd.a, .int .i64 x.p.nd.b, .slice ka nk kc, .int .i64 x.p.nd.g, .int .i64 x.p.nd.c, .slice da nd dc, .slice la nl lc, .slice ra nr rc, .slice (some ⟨b, off, none⟩) nf fc] 51)) := at_below HA.out hb; have HQ2 : Hid (w5.heap[w.heap.size + 1]? = some (.cells #[.int .i64 y.p.nd.k, .int .i64 y.p.nd.n, .int .i64 y.p.nd.t.k, .bool y.p.nd.t.no, .int .i64 y.p.nd.t.l.k, .int .i64 y.p.nd.t.l.a, .int .i64 y.p.nd.t.l.b, .int .i64 y.p.nd.t.l.n, .int .i64 y.p.nd.t.r.k, .int .i64 y.p.nd.t.r.a, .int .i64 y.p.nd.t.r.b, .int .i64 y.p.nd.t.r.n, .slice ca2 nc2 cc2, .int .i64 y.p.nd.a, .int .i64 y.p.nd.b, .slice ka2 nk2 kc2, .int .i64 y.p.nd.g, .int .i64 y.p.nd.c, .slice da2 nd2 dc2, .slice la2 nl2 lc2, .slice ra2 nr2 rc2, .slice (some ⟨b2, off2, none⟩) nf2 fc2] 51)) := at_below HQ.out hb; have HB2 : Hid (Below w.heap.size w w5) := bel_then HB.out hb; have Y2 : w5.cell? ⟨w.heap.size, 21, none⟩ = some (.slice (some ⟨b, off, none⟩) nf fc) ∧ w5.cell? ⟨w.heap.size + 1, 21, none⟩ = some (.slice (some ⟨b2, off2, none⟩) nf2 fc2) ∧ w5.rangeAt b (off + q) ([.int .i64 l[k].nd.p.nd.k, .int .i64 l[k].nd.p.nd.n, .int .i64 l[k].nd.p.nd.t.k, .bool l[k].nd.p.nd.t.no, .int .i64 l[k].nd.p.nd.t.l.k, .int .i64 l[k].nd.p.nd.t.l.a, .int .i64 l[k].nd.p.nd.t.l.b, .int .i64 l[k].nd.p.nd.t.l.n, .int .i64 l[k].nd.p.nd.t.r.k, .int .i64 l[k].nd.p.nd.t.r.a, .int .i64 l[k].nd.p.nd.t.r.b, .int .i64 l[k].nd.p.nd.t.r.n, uc, .int .i64 l[k].nd.p.nd.a, .int .i64 l[k].nd.p.nd.b, uk, .int .i64 l[k].nd.p.nd.g, .int .i64 l[k].nd.p.nd.c, ud, ul, ur, uf] : List Value) ∧ w5.rangeAt b2 (off2 + q) ([.int .i64 l2[k].nd.p.nd.k, .int .i64 l2[k].nd.p.nd.n, .int .i64 l2[k].nd.p.nd.t.k, .bool l2[k].nd.p.nd.t.no, .int .i64 l2[k].nd.p.nd.t.l.k, .int .i64 l2[k].nd.p.nd.t.l.a, .int .i64 l2[k].nd.p.nd.t.l.b, .int .i64 l2[k].nd.p.nd.t.l.n, .int .i64 l2[k].nd.p.nd.t.r.k, .int .i64 l2[k].nd.p.nd.t.r.a, .int .i64 l2[k].nd.p.nd.t.r.b, .int .i64 l2[k].nd.p.nd.t.r.n, uc2, .int .i64 l2[k].nd.p.nd.a, .int .i64 l2[k].nd.p.nd.b, uk2, .int .i64 l2[k].nd.p.nd.g, .int .i64 l2[k].nd.p.nd.c, ud2, ul2, ur2, uf2] : List Value) := ⟨(ff_blk HA2.out).2.2.2, (ff_blk HQ2.out).2.2.2, range_below HRK.out hb HS1.out, range_below HRK2.out hb HS2.out⟩; clear hb hb2)
            refine hK.out _ _ ?_ (fun hHeld => ?_)
            · (try dsimp only); exact Y2
            clear hK K
            try simp only [Act.put, List.getElem_toArray, List.getElem_cons_succ, List.getElem_cons_zero, List.setIfInBounds_toArray, List.set_cons_zero, List.set_cons_succ]
            refine wpAnyH_take (i := 11) (v := ?_) rfl (by kernel_rfl) (by kernel_rfl) (by kernel_rfl) (fun _ _ _ h => h) (Or.inl ⟨by rfl, ?_⟩) (by assumption) ?_
            rotate_left 1
            · intro w hSw; (try dsimp only at hSw); go_simp; try with_reducible rfl
            simp only [Act.put, List.getElem_toArray, List.getElem_cons_succ, List.getElem_cons_zero, List.setIfInBounds_toArray, List.set_cons_zero, List.set_cons_succ]
            refine wpAnyH_done (by kernel_rfl) ?_ _
            clear HRK HRK2 hik hik2 HPV HPV2 ck ck2 HA HQ HB
            cases c with
            | true =>
              have HKE : Hid (l[k] = l2[k]) := (Fl.same_iff _ _ _).1 HCC.out
              go_wp2
              go_roundw
              case rel => exact ⟨k + 1, by omega, by go_num, HA2.out, HQ2.out, HB2.out, fun j h1 h2 hj => by
                rcases Nat.lt_succ_iff_lt_or_eq.1 hj with h | h
                · exact HS.out j h1 h2 h
                · subst h; exact HKE.out⟩
              case measure => simp [intOf]; omega
            | false =>
              have HKE : Hid (l[k] ≠ l2[k]) := fun h => by have h2 := HCC.out; rw [(Fl.same_iff _ _ _).2 h] at h2; cases h2
              go_wp2
              go_ret
              refine ⟨⟨false, rfl, ?_⟩, HB2.out⟩
              simp only [Bool.false_eq_true, false_iff, not_and]
              intro _ h
              subst h
              exact HKE.out rfl
          · obtain rfl : nf = k := by omega
            have HLE : Hid (l = l2) := by
              have hn := HN.out
              have hl := HLL.out
              refine List.ext_getElem (by omega) fun j h1 h2 => HS.out j h1 h2 (by omega)
            go_wp2
            go_ret
            exact ⟨⟨true, rfl, by simp only [true_iff]; exact ⟨HXY.out, HLE.out⟩⟩, HB.out⟩

theorem specFlow_step (n : Nat) (IH : ∀ m, n = m + 1 → SpF D m) : SpF D n := by
  intro p q vc vk vd vl vr vf vc2 vk2 vd2 vl2 vr2 vf2 w hp hq hlim hlim2
  have hsz := Fl.sz_succ p
  have hsz2 := Fl.sz_succ q
  have fin : ∀ c : Bool, (c = true ↔ (p.nd = q.nd ∧ p.kids = q.kids)) → c = Fl.same (n + 1) p q := fun c hc => by
    have h2 : c = true ↔ Fl.same (n + 1) p q = true := by
      rw [hc, Fl.same_iff]
      exact ⟨fun h => Fl.ext h.1 h.2, fun h => by rw [h]; exact ⟨rfl, rfl⟩⟩
    cases c <;> cases h3 : Fl.same (n + 1) p q <;> simp_all
  cases n with
  | zero =>
    have k1 := no_kids p.kids
    have k2 := no_kids q.kids
    have x1 : FParts (FNodeAt 1) w p.nd ([] : List (Fl D 1)) vc vk vd vl vr vf := by
      obtain ⟨a1, a2, a3, h1, a, cap, h2, h3, _⟩ := hp
      rw [k1] at h1 h2
      exact ⟨a1, a2, a3, h1, a, cap, h2, h3, fun h => absurd rfl h⟩
    have x2 : FParts (FNodeAt 1) w q.nd ([] : List (Fl D 1)) vc2 vk2 vd2 vl2 vr2 vf2 := by
      obtain ⟨a1, a2, a3, h1, a, cap, h2, h3, _⟩ := hq
      rw [k2] at h1 h2
      exact ⟨a1, a2, a3, h1, a, cap, h2, h3, fun h => absurd rfl h⟩
    refine (specF 0 p.nd q.nd [] [] (fun h => absurd h (by simp)) vc vk vd vl vr vf vc2 vk2 vd2 vl2 vr2 vf2 w x1 x2 (by omega) (by omega) (by simp) (by simp) (fun j hj => absurd hj (by simp)) (fun j hj => absurd hj (by simp))).mono ?_
    rintro r w' ⟨⟨c, rfl, hc⟩, hb⟩
    refine ⟨?_, hb⟩
    rw [fin c (by rw [hc, k1, k2]; simp)]
  | succ n =>
    refine (specF n p.nd q.nd p.kids q.kids (fun _ => IH n rfl) vc vk vd vl vr vf vc2 vk2 vd2 vl2 vr2 vf2 w hp hq (by omega) (by omega) (by omega) (by omega) (fun j hj => by have := kidsSz_at hj; unfold kidsSz at this; omega) (fun j hj => by have := kidsSz_at hj; unfold kidsSz at this; omega)).mono ?_
    rintro r w' ⟨⟨c, rfl, hc⟩, hb⟩
    refine ⟨?_, hb⟩
    rw [fin c hc]
theorem specFlow_any : ∀ n, SpF D n
  | 0 => specFlow_step 0 fun m h => by omega
  | n + 1 => specFlow_step (n + 1) fun m h => by obtain rfl : n = m := by omega
                                                 exact specFlow_any n

end Go.Proofs.Ytfmgohoddaobmaa.Fw
