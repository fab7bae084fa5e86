/-
  The contract of impl.sameBesidesFlows: two parts of flows but for their kids.
-/
import Derived.Test.YtfmgohoddaobmaaFlowCopy
import Derived.Test.YtfmgohoddaobmaaPlanSameI
namespace Go.Proofs.Ytfmgohoddaobmaa.Fw
set_option maxRecDepth 100000
open Go.RowKit
set_option linter.unusedVariables false
set_option linter.unusedSimpArgs false
variable {D : Nat}

set_option maxHeartbeats 2000000 in
theorem besidesF (x y : FN D) (vc vk vd vl vr vf vc2 vk2 vd2 vl2 vr2 vf2 : Value) (w : World) (hp : PlanV (D + 1) w x.p vc vk vd) (hq : PlanV (D + 1) w y.p vc2 vk2 vd2) (hu : KidsU D w vd) (hu2 : KidsU D w vd2) (hl : RawRuns w vl x.l) (hl2 : RawRuns w vl2 y.l) (hr : RawRuns w vr x.r) (hr2 : RawRuns w vr2 y.r)
    (hf : ∃ a n c, vf = .slice a n c) (hf2 : ∃ a n c, vf2 = .slice a n c) (hs : x.sz ≤ 1048576) (hs2 : y.sz ≤ 1048576) :
    Calls Try.prog 24 #[.agg #[.int .i64 x.p.nd.k, .int .i64 x.p.nd.n, .int .i64 x.p.nd.t.k, .bool x.p.nd.t.no, .int .i64 x.p.nd.t.l.k, .int .i64 x.p.nd.t.l.a, .int .i64 x.p.nd.t.l.b, .int .i64 x.p.nd.t.l.n, .int .i64 x.p.nd.t.r.k, .int .i64 x.p.nd.t.r.a, .int .i64 x.p.nd.t.r.b, .int .i64 x.p.nd.t.r.n, vc, .int .i64 x.p.nd.a, .int .i64 x.p.nd.b, vk, .int .i64 x.p.nd.g, .int .i64 x.p.nd.c, vd, vl, vr, vf], .agg #[.int .i64 y.p.nd.k, .int .i64 y.p.nd.n, .int .i64 y.p.nd.t.k, .bool y.p.nd.t.no, .int .i64 y.p.nd.t.l.k, .int .i64 y.p.nd.t.l.a, .int .i64 y.p.nd.t.l.b, .int .i64 y.p.nd.t.l.n, .int .i64 y.p.nd.t.r.k, .int .i64 y.p.nd.t.r.a, .int .i64 y.p.nd.t.r.b, .int .i64 y.p.nd.t.r.n, vc2, .int .i64 y.p.nd.a, .int .i64 y.p.nd.b, vk2, .int .i64 y.p.nd.g, .int .i64 y.p.nd.c, vd2, vl2, vr2, vf2]] w fun e w' => e = .returned (.bool (x.eqB y)) ∧ Below w.heap.size w w' := by
  obtain ⟨⟨ca, nc, cc, rfl⟩, ⟨ka, nk, kc, rfl⟩, ⟨da, nd, dc, rfl⟩⟩ := planV_shapes hp
  obtain ⟨⟨ca2, nc2, cc2, rfl⟩, ⟨ka2, nk2, kc2, rfl⟩, ⟨da2, nd2, dc2, rfl⟩⟩ := planV_shapes hq
  obtain ⟨la, nl, lc, rfl⟩ := hl.shapeN
  obtain ⟨la2, nl2, lc2, rfl⟩ := hl2.shapeN
  obtain ⟨ra, nr, rc, rfl⟩ := hr.shapeN
  obtain ⟨ra2, nr2, rc2, rfl⟩ := hr2.shapeN
  obtain ⟨fa, nf, fc, rfl⟩ := hf
  obtain ⟨fa2, nf2, fc2, rfl⟩ := hf2
  have HP : Hid (PlanV (D + 1) w x.p (.slice ca nc cc) (.slice ka nk kc) (.slice da nd dc)) := hp
  have HP2 : Hid (PlanV (D + 1) w y.p (.slice ca2 nc2 cc2) (.slice ka2 nk2 kc2) (.slice da2 nd2 dc2)) := hq
  have HU : Hid (KidsU D w (.slice da nd dc)) := hu
  have HU2 : Hid (KidsU D w (.slice da2 nd2 dc2)) := hu2
  have HZ : Hid (Pl.sz (D + 1) x.p ≤ 1048576 ∧ x.l.length + runsLen x.l ≤ 1048576 ∧ x.r.length + runsLen x.r ≤ 1048576) := by show _ ∧ _; unfold FN.sz at hs; omega
  have HZ2 : Hid (Pl.sz (D + 1) y.p ≤ 1048576 ∧ y.l.length + runsLen y.l ≤ 1048576 ∧ y.r.length + runsLen y.r ≤ 1048576) := by show _ ∧ _; unfold FN.sz at hs2; omega
  have HL : Hid (RunsI w (.slice la nl lc) x.l) := hl.runsI HZ.out.2.1
  have HL2 : Hid (RunsI w (.slice la2 nl2 lc2) y.l) := hl2.runsI HZ2.out.2.1
  have HR : Hid (RunsI w (.slice ra nr rc) x.r) := hr.runsI HZ.out.2.2
  have HR2 : Hid (RunsI w (.slice ra2 nr2 rc2) y.r) := hr2.runsI HZ2.out.2.2
  obtain ⟨c1, h1⟩ : ∃ c, Pl.same (D + 1) x.p y.p = c := ⟨_, rfl⟩
  obtain ⟨c2, h2⟩ : ∃ c, rsB x.l y.l = c := ⟨_, rfl⟩
  obtain ⟨c3, h3⟩ : ∃ c, rsB x.r y.r = c := ⟨_, rfl⟩
  have hres : x.eqB y = (c1 && c2 && c3) := by rw [FN.eqB, h1, h2, h3]
  have H1 : Hid (Pl.same (D + 1) x.p y.p = c1) := h1
  have H2 : Hid (rsB x.l y.l = c2) := h2
  have H3 : Hid (rsB x.r y.r = c3) := h3
  rw [hres]
  clear hp hq hu hu2 hl hl2 hr hr2 hs hs2 h1 h2 h3 hres
  obtain ⟨w0, hw0⟩ : ∃ w0, w0 = (w.alloc (.cells #[.int .i64 x.p.nd.k, .int .i64 x.p.nd.n, .int .i64 x.p.nd.t.k, .bool x.p.nd.t.no, .int .i64 x.p.nd.t.l.k, .int .i64 x.p.nd.t.l.a, .int .i64 x.p.nd.t.l.b, .int .i64 x.p.nd.t.l.n, .int .i64 x.p.nd.t.r.k, .int .i64 x.p.nd.t.r.a, .int .i64 x.p.nd.t.r.b, .int .i64 x.p.nd.t.r.n, .slice ca nc cc, .int .i64 x.p.nd.a, .int .i64 x.p.nd.b, .slice ka nk kc, .int .i64 x.p.nd.g, .int .i64 x.p.nd.c, .slice da nd dc, .slice la nl lc, .slice ra nr rc, .slice fa nf fc] 51)).alloc (.cells #[.int .i64 y.p.nd.k, .int .i64 y.p.nd.n, .int .i64 y.p.nd.t.k, .bool y.p.nd.t.no, .int .i64 y.p.nd.t.l.k, .int .i64 y.p.nd.t.l.a, .int .i64 y.p.nd.t.l.b, .int .i64 y.p.nd.t.l.n, .int .i64 y.p.nd.t.r.k, .int .i64 y.p.nd.t.r.a, .int .i64 y.p.nd.t.r.b, .int .i64 y.p.nd.t.r.n, .slice ca2 nc2 cc2, .int .i64 y.p.nd.a, .int .i64 y.p.nd.b, .slice ka2 nk2 kc2, .int .i64 y.p.nd.g, .int .i64 y.p.nd.c, .slice da2 nd2 dc2, .slice la2 nl2 lc2, .slice ra2 nr2 rc2, .slice fa2 nf2 fc2] 51) := ⟨_, rfl⟩
  have HA : Hid (w0.heap[w.heap.size]? = some (.cells #[.int .i64 x.p.nd.k, .int .i64 x.p.nd.n, .int .i64 x.p.nd.t.k, .bool x.p.nd.t.no, .int .i64 x.p.nd.t.l.k, .int .i64 x.p.nd.t.l.a, .int .i64 x.p.nd.t.l.b, .int .i64 x.p.nd.t.l.n, .int .i64 x.p.nd.t.r.k, .int .i64 x.p.nd.t.r.a, .int .i64 x.p.nd.t.r.b, .int .i64 x.p.nd.t.r.n, .slice ca nc cc, .int .i64 x.p.nd.a, .int .i64 x.p.nd.b, .slice ka nk kc, .int .i64 x.p.nd.g, .int .i64 x.p.nd.c, .slice da nd dc, .slice la nl lc, .slice ra nr rc, .slice fa nf fc] 51)) := by show _ = _; rw [hw0]; exact (two w _ _).1
  have HQ : Hid (w0.heap[w.heap.size + 1]? = some (.cells #[.int .i64 y.p.nd.k, .int .i64 y.p.nd.n, .int .i64 y.p.nd.t.k, .bool y.p.nd.t.no, .int .i64 y.p.nd.t.l.k, .int .i64 y.p.nd.t.l.a, .int .i64 y.p.nd.t.l.b, .int .i64 y.p.nd.t.l.n, .int .i64 y.p.nd.t.r.k, .int .i64 y.p.nd.t.r.a, .int .i64 y.p.nd.t.r.b, .int .i64 y.p.nd.t.r.n, .slice ca2 nc2 cc2, .int .i64 y.p.nd.a, .int .i64 y.p.nd.b, .slice ka2 nk2 kc2, .int .i64 y.p.nd.g, .int .i64 y.p.nd.c, .slice da2 nd2 dc2, .slice la2 nl2 lc2, .slice ra2 nr2 rc2, .slice fa2 nf2 fc2] 51)) := by show _ = _; rw [hw0]; exact (two w _ _).2.1
  have HB : Hid (Below w.heap.size w w0) := by show Below _ _ _; rw [hw0]; exact (two w _ _).2.2
  have HRA : Hid (w0.rangeAt (w.heap.size) 0 [.int .i64 x.p.nd.k, .int .i64 x.p.nd.n, .int .i64 x.p.nd.t.k, .bool x.p.nd.t.no, .int .i64 x.p.nd.t.l.k, .int .i64 x.p.nd.t.l.a, .int .i64 x.p.nd.t.l.b, .int .i64 x.p.nd.t.l.n, .int .i64 x.p.nd.t.r.k, .int .i64 x.p.nd.t.r.a, .int .i64 x.p.nd.t.r.b, .int .i64 x.p.nd.t.r.n, .slice ca nc cc, .int .i64 x.p.nd.a, .int .i64 x.p.nd.b, .slice ka nk kc, .int .i64 x.p.nd.g, .int .i64 x.p.nd.c, .slice da nd dc]) := (ff_blk HA.out).1.range
  have HRB : Hid (w0.rangeAt (w.heap.size + 1) 0 [.int .i64 y.p.nd.k, .int .i64 y.p.nd.n, .int .i64 y.p.nd.t.k, .bool y.p.nd.t.no, .int .i64 y.p.nd.t.l.k, .int .i64 y.p.nd.t.l.a, .int .i64 y.p.nd.t.l.b, .int .i64 y.p.nd.t.l.n, .int .i64 y.p.nd.t.r.k, .int .i64 y.p.nd.t.r.a, .int .i64 y.p.nd.t.r.b, .int .i64 y.p.nd.t.r.n, .slice ca2 nc2 cc2, .int .i64 y.p.nd.a, .int .i64 y.p.nd.b, .slice ka2 nk2 kc2, .int .i64 y.p.nd.g, .int .i64 y.p.nd.c, .slice da2 nd2 dc2]) := (ff_blk HQ.out).1.range
  have hil : (Try.prog.info? 45).map (·.size) = some ([.int .i64 x.p.nd.k, .int .i64 x.p.nd.n, .int .i64 x.p.nd.t.k, .bool x.p.nd.t.no, .int .i64 x.p.nd.t.l.k, .int .i64 x.p.nd.t.l.a, .int .i64 x.p.nd.t.l.b, .int .i64 x.p.nd.t.l.n, .int .i64 x.p.nd.t.r.k, .int .i64 x.p.nd.t.r.a, .int .i64 x.p.nd.t.r.b, .int .i64 x.p.nd.t.r.n, .slice ca nc cc, .int .i64 x.p.nd.a, .int .i64 x.p.nd.b, .slice ka nk kc, .int .i64 x.p.nd.g, .int .i64 x.p.nd.c, .slice da nd dc] : List Value).length := by kernel_rfl
  have hil2 : (Try.prog.info? 45).map (·.size) = some ([.int .i64 y.p.nd.k, .int .i64 y.p.nd.n, .int .i64 y.p.nd.t.k, .bool y.p.nd.t.no, .int .i64 y.p.nd.t.l.k, .int .i64 y.p.nd.t.l.a, .int .i64 y.p.nd.t.l.b, .int .i64 y.p.nd.t.l.n, .int .i64 y.p.nd.t.r.k, .int .i64 y.p.nd.t.r.a, .int .i64 y.p.nd.t.r.b, .int .i64 y.p.nd.t.r.n, .slice ca2 nc2 cc2, .int .i64 y.p.nd.a, .int .i64 y.p.nd.b, .slice ka2 nk2 kc2, .int .i64 y.p.nd.g, .int .i64 y.p.nd.c, .slice da2 nd2 dc2] : List Value).length := by kernel_rfl
  have hw0' := hw0.symm
  clear hw0
  go_enter Try.func24, Try.ntmps24
  go_wp2_with (first | (refine wpList_load_mid rfl 45 _ rfl (w.heap.size) 0 rfl [.int .i64 x.p.nd.k, .int .i64 x.p.nd.n, .int .i64 x.p.nd.t.k, .bool x.p.nd.t.no, .int .i64 x.p.nd.t.l.k, .int .i64 x.p.nd.t.l.a, .int .i64 x.p.nd.t.l.b, .int .i64 x.p.nd.t.l.n, .int .i64 x.p.nd.t.r.k, .int .i64 x.p.nd.t.r.a, .int .i64 x.p.nd.t.r.b, .int .i64 x.p.nd.t.r.n, .slice ca nc cc, .int .i64 x.p.nd.a, .int .i64 x.p.nd.b, .slice ka nk kc, .int .i64 x.p.nd.g, .int .i64 x.p.nd.c, .slice da nd dc] _ HRA.out Try.underlying45 rfl hil ?_) | (refine wpList_load_mid rfl 45 _ rfl (w.heap.size + 1) 0 rfl [.int .i64 y.p.nd.k, .int .i64 y.p.nd.n, .int .i64 y.p.nd.t.k, .bool y.p.nd.t.no, .int .i64 y.p.nd.t.l.k, .int .i64 y.p.nd.t.l.a, .int .i64 y.p.nd.t.l.b, .int .i64 y.p.nd.t.l.n, .int .i64 y.p.nd.t.r.k, .int .i64 y.p.nd.t.r.a, .int .i64 y.p.nd.t.r.b, .int .i64 y.p.nd.t.r.n, .slice ca2 nc2 cc2, .int .i64 y.p.nd.a, .int .i64 y.p.nd.b, .slice ka2 nk2 kc2, .int .i64 y.p.nd.g, .int .i64 y.p.nd.c, .slice da2 nd2 dc2] _ HRB.out Try.underlying45 rfl hil2 ?_))
  clear hw0'
  refine (imOk D x.p y.p _ _ _ _ _ _ _ (PlanV.below HP.out HB.out) (PlanV.below HP2.out HB.out) (HU.out.below HB.out) (HU2.out.below HB.out) HZ.out.1 HZ2.out.1).mono ?_
  rw [H1.out]
  rintro e w1 ⟨rfl, hb⟩
  replace HA : Hid (w1.heap[w.heap.size]? = some (.cells #[.int .i64 x.p.nd.k, .int .i64 x.p.nd.n, .int .i64 x.p.nd.t.k, .bool x.p.nd.t.no, .int .i64 x.p.nd.t.l.k, .int .i64 x.p.nd.t.l.a, .int .i64 x.p.nd.t.l.b, .int .i64 x.p.nd.t.l.n, .int .i64 x.p.nd.t.r.k, .int .i64 x.p.nd.t.r.a, .int .i64 x.p.nd.t.r.b, .int .i64 x.p.nd.t.r.n, .slice ca nc cc, .int .i64 x.p.nd.a, .int .i64 x.p.nd.b, .slice ka nk kc, .int .i64 x.p.nd.g, .int .i64 x.p.nd.c, .slice da nd dc, .slice la nl lc, .slice ra nr rc, .slice fa nf fc] 51)) := at_below HA.out hb
  replace HQ : Hid (w1.heap[w.heap.size + 1]? = some (.cells #[.int .i64 y.p.nd.k, .int .i64 y.p.nd.n, .int .i64 y.p.nd.t.k, .bool y.p.nd.t.no, .int .i64 y.p.nd.t.l.k, .int .i64 y.p.nd.t.l.a, .int .i64 y.p.nd.t.l.b, .int .i64 y.p.nd.t.l.n, .int .i64 y.p.nd.t.r.k, .int .i64 y.p.nd.t.r.a, .int .i64 y.p.nd.t.r.b, .int .i64 y.p.nd.t.r.n, .slice ca2 nc2 cc2, .int .i64 y.p.nd.a, .int .i64 y.p.nd.b, .slice ka2 nk2 kc2, .int .i64 y.p.nd.g, .int .i64 y.p.nd.c, .slice da2 nd2 dc2, .slice la2 nl2 lc2, .slice ra2 nr2 rc2, .slice fa2 nf2 fc2] 51)) := at_below HQ.out hb
  replace HB : Hid (Below w.heap.size w w1) := bel_then HB.out hb
  clear hb HRA HRB hil hil2
  cases c1 with
  | false =>
    go_wp2
    go_ret
    exact ⟨rfl, HB.out⟩
  | true =>
    have ca19 : w1.cell? ⟨w.heap.size, 19, none⟩ = some (.slice la nl lc) := (ff_blk HA.out).2.1
    have cb19 : w1.cell? ⟨w.heap.size + 1, 19, none⟩ = some (.slice la2 nl2 lc2) := (ff_blk HQ.out).2.1
    go_wp2_with fail
    refine (implRunSame_any _ _ x.l y.l _ (HL.out.below HB.out) (HL2.out.below HB.out)).mono ?_
    rw [H2.out]
    rintro e w2 ⟨rfl, hb⟩
    replace HA : Hid (w2.heap[w.heap.size]? = some (.cells #[.int .i64 x.p.nd.k, .int .i64 x.p.nd.n, .int .i64 x.p.nd.t.k, .bool x.p.nd.t.no, .int .i64 x.p.nd.t.l.k, .int .i64 x.p.nd.t.l.a, .int .i64 x.p.nd.t.l.b, .int .i64 x.p.nd.t.l.n, .int .i64 x.p.nd.t.r.k, .int .i64 x.p.nd.t.r.a, .int .i64 x.p.nd.t.r.b, .int .i64 x.p.nd.t.r.n, .slice ca nc cc, .int .i64 x.p.nd.a, .int .i64 x.p.nd.b, .slice ka nk kc, .int .i64 x.p.nd.g, .int .i64 x.p.nd.c, .slice da nd dc, .slice la nl lc, .slice ra nr rc, .slice fa nf fc] 51)) := at_below HA.out hb
    replace HQ : Hid (w2.heap[w.heap.size + 1]? = some (.cells #[.int .i64 y.p.nd.k, .int .i64 y.p.nd.n, .int .i64 y.p.nd.t.k, .bool y.p.nd.t.no, .int .i64 y.p.nd.t.l.k, .int .i64 y.p.nd.t.l.a, .int .i64 y.p.nd.t.l.b, .int .i64 y.p.nd.t.l.n, .int .i64 y.p.nd.t.r.k, .int .i64 y.p.nd.t.r.a, .int .i64 y.p.nd.t.r.b, .int .i64 y.p.nd.t.r.n, .slice ca2 nc2 cc2, .int .i64 y.p.nd.a, .int .i64 y.p.nd.b, .slice ka2 nk2 kc2, .int .i64 y.p.nd.g, .int .i64 y.p.nd.c, .slice da2 nd2 dc2, .slice la2 nl2 lc2, .slice ra2 nr2 rc2, .slice fa2 nf2 fc2] 51)) := at_below HQ.out hb
    replace HB : Hid (Below w.heap.size w w2) := bel_then HB.out hb
    clear hb ca19 cb19
    cases c2 with
    | false =>
      go_wp2
      go_ret
      exact ⟨rfl, HB.out⟩
    | true =>
      have ca20 : w2.cell? ⟨w.heap.size, 20, none⟩ = some (.slice ra nr rc) := (ff_blk HA.out).2.2.1
      have cb20 : w2.cell? ⟨w.heap.size + 1, 20, none⟩ = some (.slice ra2 nr2 rc2) := (ff_blk HQ.out).2.2.1
      go_wp2_with fail
      refine (implRunSame_any _ _ x.r y.r _ (HR.out.below HB.out) (HR2.out.below HB.out)).mono ?_
      rw [H3.out]
      rintro e w3 ⟨rfl, hb⟩
      replace HB : Hid (Below w.heap.size w w3) := bel_then HB.out hb
      clear hb ca20 cb20
      go_wp2
      go_ret
      exact ⟨rfl, HB.out⟩

end Go.Proofs.Ytfmgohoddaobmaa.Fw
