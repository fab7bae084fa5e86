/-
  Texts of this claim put behind one another: StoreEq, StoreSpec, StoreImpl, LawStoreSame, StoreIn, LawStoreTop.
-/
import Derived.Test.YtfmgohoddaobmaaStoreParts
import Derived.Test.YtfmgohoddaobmaaPlanSpec4
import Derived.Test.YtfmgohoddaobmaaFlowSpec
import Derived.Test.YtfmgohoddaobmaaPlanEqual
import Derived.Test.YtfmgohoddaobmaaFlowIn
import Derived.Test.YtfmgohoddaobmaaItemsIn

/-
  The contracts of laws.eqPast, eqPastS, eqView, eqViewS and eqStore at what is the same.
-/
namespace Go.Proofs.Ytfmgohoddaobmaa.Fw
set_option maxRecDepth 100000
open Go.RowKit
set_option linter.unusedVariables false
set_option linter.unusedSimpArgs false
variable {D : Nat}

variable {n : Nat}
set_option maxHeartbeats 1000000 in
theorem eqPast_same (p : Pa) (vo vo2 : Value) (w : World) (h : RawItems w vo p.out) (h2 : RawItems w vo2 p.out) (hl : p.sz ≤ 1048576) :
    Calls Try.prog 85 #[.agg #[.int .i64 p.tm, vo], .agg #[.int .i64 p.tm, vo2]] w fun e w' => e = .returned (.bool true) ∧ Below w.heap.size w w' := by
  obtain ⟨oa, no, oc, rfl⟩ := RawItems.shapeN' h
  obtain ⟨oa2, no2, oc2, rfl⟩ := RawItems.shapeN' h2
  have HI : Hid (ItemsAt w (.slice oa no oc) p.out) := h.items hl
  have HI2 : Hid (ItemsAt w (.slice oa2 no2 oc2) p.out) := h2.items hl
  clear h h2 hl
  go_enter Try.func85, Try.ntmps85
  go_wp2_with fail
  refine (eqItemS_self _ _ p.out _ (HI.out.below (two w _ _).2.2) (HI2.out.below (two w _ _).2.2)).mono ?_
  rintro e w1 ⟨rfl, hb⟩
  have HB : Hid (Below w.heap.size w w1) := bel_then (two w _ _).2.2 hb
  clear hb
  go_wp2
  go_ret
  exact ⟨rfl, HB.out⟩

theorem eqPastS_none (a a2 : Option Addr) (cap cap2 : Nat) (w : World) :
    Calls Try.prog 79 #[.slice a 0 cap, .slice a2 0 cap2] w fun e w' => e = .returned (.bool true) ∧ Below w.heap.size w w' := by
  go_enter Try.func79, Try.ntmps79
  go_wp2
  refine wp_loop_rounds 1 ?_
  rw [rounds_succ]
  go_wp2
  go_ret
  exact ⟨rfl, Below.refl _ _⟩
set_option maxHeartbeats 2000000 in
theorem eqPastS_some (b off cap b2 off2 cap2 : Nat) (l : List Pa) (w : World) (hpos : 0 < l.length) (hlim : l.length + sumOf Pa.sz l ≤ 1048576) (hbw : b < w.heap.size) (hbw2 : b2 < w.heap.size)
    (hk : ∀ j (hj : j < l.length), PaAt w b (off + j * 2) l[j]) (hk2 : ∀ j (hj : j < l.length), PaAt w b2 (off2 + j * 2) l[j]) :
    Calls Try.prog 79 #[.slice (some ⟨b, off, none⟩) l.length cap, .slice (some ⟨b2, off2, none⟩) l.length cap2] w fun e w' => e = .returned (.bool true) ∧ Below w.heap.size w w' := by
  have HK : Hid (∀ j (hj : j < l.length), PaAt w b (off + j * 2) l[j]) := hk
  have HK2 : Hid (∀ j (hj : j < l.length), PaAt w b2 (off2 + j * 2) l[j]) := hk2
  have HSZ : Hid (∀ j (hj : j < l.length), Pa.sz l[j] ≤ 1048576) := fun j hj => by have := sumOf_at (g := Pa.sz) hj; omega
  have hlim2 : l.length ≤ 1048576 := by omega
  obtain ⟨m, hm⟩ : ∃ m, m = l.length := ⟨_, rfl⟩
  have HM : Hid (m = l.length) := hm
  rw [← hm] at hpos hlim2 ⊢
  clear hm hk hk2 hlim
  go_enter Try.func79, Try.ntmps79
  go_wp2
  go_loopw [5] (fun i wr => ∃ k : Nat, k ≤ m ∧ i = .int .i64 k ∧ Hid (Below w.heap.size w wr)) (fun i _ => m - (intOf i).toNat)
  case atStart => exact ⟨0, Nat.zero_le _, rfl, Below.refl _ _⟩
  case round =>
    obtain ⟨k, hk, rfl, HB⟩ := hrel
    by_cases hlt : k < m
    · have hkl : k < l.length := by rw [← HM.out]; exact hlt
      obtain ⟨-, vo, hf, hp⟩ := (HK.out k hkl).below HB.out
      obtain ⟨-, vo2, hf2, hp2⟩ := (HK2.out k hkl).below HB.out
      obtain ⟨q, hq⟩ : ∃ q, k * 2 = q := ⟨_, rfl⟩
      rw [hq] at hf hf2
      have HR : Hid (wr.rangeAt b (off + q) ([.int .i64 l[k].tm, vo] : List Value)) := hf
      have HR2 : Hid (wr.rangeAt b2 (off2 + q) ([.int .i64 l[k].tm, vo2] : List Value)) := hf2
      have hil : (Try.prog.info? 117).map (·.size) = some ([.int .i64 l[k].tm, vo] : List Value).length := by kernel_rfl
      have hil2 : (Try.prog.info? 117).map (·.size) = some ([.int .i64 l[k].tm, vo2] : List Value).length := by kernel_rfl
      have HPV : Hid (RawItems wr vo (l[k]).out) := hp
      have HPV2 : Hid (RawItems wr vo2 (l[k]).out) := hp2
      clear hp hf hp2 hf2
      have HS1 : Hid (b < wr.heap.size) := Nat.lt_of_lt_of_le hbw HB.out.size
      have HS2 : Hid (b2 < wr.heap.size) := Nat.lt_of_lt_of_le hbw2 HB.out.size
      go_wp2_with fail
      refine wp_region_held_drew (S := (fun x => x.rangeAt b (off + q) ([.int .i64 l[k].tm, vo] : List Value) ∧ x.rangeAt b2 (off2 + q) ([.int .i64 l[k].tm, vo2] : List Value))) (by kernel_rfl) ?_ (fun hHeld => ?_)
      · (try dsimp only); exact ⟨HR.out, HR2.out⟩
      refine wpAnyH_take (i := 0) (v := ?_) rfl (by kernel_rfl) (by kernel_rfl) (by kernel_rfl) (fun _ _ _ h => h) (Or.inl ⟨by rfl, ?_⟩) (by assumption) ?_
      rotate_left 1
      · intro w hSw; (try dsimp only at hSw); go_simp; try with_reducible rfl
      simp only [Act.put, List.getElem_toArray, List.getElem_cons_succ, List.getElem_cons_zero, List.setIfInBounds_toArray, List.set_cons_zero, List.set_cons_succ]
      refine wpAnyH_take (i := 1) (v := ?_) rfl (by kernel_rfl) (by kernel_rfl) (by kernel_rfl) (fun _ _ _ h => h) (Or.inl ⟨by rfl, ?_⟩) (by assumption) ?_
      rotate_left 1
      · intro w hSw; (try dsimp only at hSw); go_simp; try with_reducible rfl
      simp only [Act.put, List.getElem_toArray, List.getElem_cons_succ, List.getElem_cons_zero, List.setIfInBounds_toArray, List.set_cons_zero, List.set_cons_succ]
      refine wpAnyH_take (i := 2) (v := ?_) rfl (by kernel_rfl) (by kernel_rfl) (by kernel_rfl) (fun _ _ _ h => h) (Or.inl ⟨by rfl, ?_⟩) (by assumption) ?_
      rotate_left 1
      · intro w hSw; (try dsimp only at hSw); go_simp; try with_reducible rfl
      simp only [Act.put, List.getElem_toArray, List.getElem_cons_succ, List.getElem_cons_zero, List.setIfInBounds_toArray, List.set_cons_zero, List.set_cons_succ]
      refine wpAnyH_take (i := 3) (v := .agg ([.int .i64 l[k].tm, vo] : List Value).toArray) rfl (by kernel_rfl) (by kernel_rfl) (by kernel_rfl) (fun _ _ _ h => h) (yieldsIf_load_mid (by rfl) 117 _ rfl b (off + q) rfl [.int .i64 l[k].tm, vo] _ (fun x h => h.1) Try.underlying117 rfl hil) (by assumption) ?_
      simp only [Act.put, List.getElem_toArray, List.getElem_cons_succ, List.getElem_cons_zero, List.setIfInBounds_toArray, List.set_cons_zero, List.set_cons_succ]
      refine wpAnyH_take (i := 4) (v := ?_) rfl (by kernel_rfl) (by kernel_rfl) (by kernel_rfl) (fun _ _ _ h => h) (Or.inl ⟨by rfl, ?_⟩) (by assumption) ?_
      rotate_left 1
      · intro w hSw; (try dsimp only at hSw); go_simp; try with_reducible rfl
      simp only [Act.put, List.getElem_toArray, List.getElem_cons_succ, List.getElem_cons_zero, List.setIfInBounds_toArray, List.set_cons_zero, List.set_cons_succ]
      refine wpAnyH_take (i := 5) (v := ?_) rfl (by kernel_rfl) (by kernel_rfl) (by kernel_rfl) (fun _ _ _ h => h) (Or.inl ⟨by rfl, ?_⟩) (by assumption) ?_
      rotate_left 1
      · intro w hSw; (try dsimp only at hSw); go_simp; try with_reducible rfl
      simp only [Act.put, List.getElem_toArray, List.getElem_cons_succ, List.getElem_cons_zero, List.setIfInBounds_toArray, List.set_cons_zero, List.set_cons_succ]
      refine wpAnyH_take (i := 6) (v := ?_) rfl (by kernel_rfl) (by kernel_rfl) (by kernel_rfl) (fun _ _ _ h => h) (Or.inl ⟨by rfl, ?_⟩) (by assumption) ?_
      rotate_left 1
      · intro w hSw; (try dsimp only at hSw); go_simp; try with_reducible rfl
      simp only [Act.put, List.getElem_toArray, List.getElem_cons_succ, List.getElem_cons_zero, List.setIfInBounds_toArray, List.set_cons_zero, List.set_cons_succ]
      refine wpAnyH_take (i := 7) (v := .agg ([.int .i64 l[k].tm, vo2] : List Value).toArray) rfl (by kernel_rfl) (by kernel_rfl) (by kernel_rfl) (fun _ _ _ h => h) (yieldsIf_load_mid (by rfl) 117 _ rfl b2 (off2 + q) rfl [.int .i64 l[k].tm, vo2] _ (fun x h => h.2) Try.underlying117 rfl hil2) (by assumption) ?_
      simp only [Act.put, List.getElem_toArray, List.getElem_cons_succ, List.getElem_cons_zero, List.setIfInBounds_toArray, List.set_cons_zero, List.set_cons_succ]
      refine wpAnyH_ready (rs := [8]) (by kernel_rfl) (by simp) ?_
      refine AllReadyH.cons rfl (fun K hK => ?_) AllReadyH.nil
      go_simp
      (refine (eqPast_same l[k] vo vo2 _ (by first | exact HPV.out | exact HPV.out.below (Below.drew (Below.refl _ _))) (by first | exact HPV2.out | exact HPV2.out.below (Below.drew (Below.refl _ _))) (HSZ.out k hkl)).mono ?_; rintro e w2 ⟨rfl, hb2⟩; have hb : Below wr.heap.size wr w2 := (by first | exact hb2 | exact (Below.drew (Below.refl _ _)).trans hb2); have HB2 : Hid (Below w.heap.size w w2) := bel_then HB.out hb; have Y2 : w2.rangeAt b (off + q) ([.int .i64 l[k].tm, vo] : List Value) ∧ w2.rangeAt b2 (off2 + q) ([.int .i64 l[k].tm, vo2] : List Value) := ⟨range_below HR.out hb HS1.out, range_below HR2.out hb HS2.out⟩; clear hb hb2)
      refine hK.out _ _ ?_ (fun hHeld => ?_)
      · (try dsimp only); exact Y2
      clear hK K
      try simp only [Act.put, List.getElem_toArray, List.getElem_cons_succ, List.getElem_cons_zero, List.setIfInBounds_toArray, List.set_cons_zero, List.set_cons_succ]
      refine wpAnyH_take (i := 9) (v := ?_) rfl (by kernel_rfl) (by kernel_rfl) (by kernel_rfl) (fun _ _ _ h => h) (Or.inl ⟨by rfl, ?_⟩) (by assumption) ?_
      rotate_left 1
      · intro w hSw; (try dsimp only at hSw); go_simp; try with_reducible rfl
      simp only [Act.put, List.getElem_toArray, List.getElem_cons_succ, List.getElem_cons_zero, List.setIfInBounds_toArray, List.set_cons_zero, List.set_cons_succ]
      refine wpAnyH_done (by kernel_rfl) ?_ _
      clear HR HR2 hil hil2 HB HPV HPV2
      go_wp2
      go_roundw
      case rel => exact ⟨k + 1, by omega, by go_num, HB2.out⟩
      case measure => simp [intOf]; omega
    · have e : k = m := by omega
      subst e
      go_wp2
      go_ret
      exact ⟨rfl, HB.out⟩
theorem eqPastS_same (l : List Pa) (v v2 : Value) (w : World) (hv : KV 2 PaAt w v l) (hv2 : KV 2 PaAt w v2 l) (hlim : l.length + sumOf Pa.sz l ≤ 1048576) :
    Calls Try.prog 79 #[v, v2] w fun e w' => e = .returned (.bool true) ∧ Below w.heap.size w w' := by
  obtain ⟨_, a, cap, rfl, _, hc⟩ := hv
  obtain ⟨_, a2, cap2, rfl, _, hc2⟩ := hv2
  by_cases hne : l = []
  · subst hne
    exact eqPastS_none a a2 cap cap2 w
  · obtain ⟨b, off, rfl, hbw, hk⟩ := hc hne
    obtain ⟨b2, off2, rfl, hbw2, hk2⟩ := hc2 hne
    exact eqPastS_some b off cap b2 off2 cap2 l w (List.length_pos_iff.2 hne) hlim hbw hbw2 hk hk2

set_option maxHeartbeats 2000000 in
theorem eqView_same (x : Vw D n) (vc vk vd vl vr vf vb vp vc2 vk2 vd2 vl2 vr2 vf2 vb2 vp2 : Value) (w : World) (h : VwV false w x vc vk vd vl vr vf vb vp) (h2 : VwV false w x vc2 vk2 vd2 vl2 vr2 vf2 vb2 vp2) (hl : x.sz ≤ 1048576) :
    Calls Try.prog 67 #[.agg #[.int .i64 x.f.nd.p.nd.k, .int .i64 x.f.nd.p.nd.n, .int .i64 x.f.nd.p.nd.t.k, .bool x.f.nd.p.nd.t.no, .int .i64 x.f.nd.p.nd.t.l.k, .int .i64 x.f.nd.p.nd.t.l.a, .int .i64 x.f.nd.p.nd.t.l.b, .int .i64 x.f.nd.p.nd.t.l.n, .int .i64 x.f.nd.p.nd.t.r.k, .int .i64 x.f.nd.p.nd.t.r.a, .int .i64 x.f.nd.p.nd.t.r.b, .int .i64 x.f.nd.p.nd.t.r.n, vc, .int .i64 x.f.nd.p.nd.a, .int .i64 x.f.nd.p.nd.b, vk, .int .i64 x.f.nd.p.nd.g, .int .i64 x.f.nd.p.nd.c, vd, vl, vr, vf, .int .i64 x.since, vb, vp], .agg #[.int .i64 x.f.nd.p.nd.k, .int .i64 x.f.nd.p.nd.n, .int .i64 x.f.nd.p.nd.t.k, .bool x.f.nd.p.nd.t.no, .int .i64 x.f.nd.p.nd.t.l.k, .int .i64 x.f.nd.p.nd.t.l.a, .int .i64 x.f.nd.p.nd.t.l.b, .int .i64 x.f.nd.p.nd.t.l.n, .int .i64 x.f.nd.p.nd.t.r.k, .int .i64 x.f.nd.p.nd.t.r.a, .int .i64 x.f.nd.p.nd.t.r.b, .int .i64 x.f.nd.p.nd.t.r.n, vc2, .int .i64 x.f.nd.p.nd.a, .int .i64 x.f.nd.p.nd.b, vk2, .int .i64 x.f.nd.p.nd.g, .int .i64 x.f.nd.p.nd.c, vd2, vl2, vr2, vf2, .int .i64 x.since, vb2, vp2]] w fun e w' => e = .returned (.bool true) ∧ Below w.heap.size w w' := by
  obtain ⟨⟨ca, nc, cc, rfl⟩, ⟨ka, nk, kc, rfl⟩, ⟨da, nd, dc, rfl⟩⟩ := planV_shapes h.1.1.1
  obtain ⟨la, nl, lc, rfl⟩ := h.1.1.2.1.shapeN
  obtain ⟨ra, nr, rc, rfl⟩ := h.1.1.2.2.1.shapeN
  obtain ⟨fa, nf, fc, rfl⟩ := h.1.1.2.2.2.shapeN
  obtain ⟨ba, nb, bc, rfl⟩ := RawItems.shapeN' h.2.1
  obtain ⟨pa, np, pc, rfl⟩ := h.2.2.shapeN
  obtain ⟨⟨ca2, nc2, cc2, rfl⟩, ⟨ka2, nk2, kc2, rfl⟩, ⟨da2, nd2, dc2, rfl⟩⟩ := planV_shapes h2.1.1.1
  obtain ⟨la2, nl2, lc2, rfl⟩ := h2.1.1.2.1.shapeN
  obtain ⟨ra2, nr2, rc2, rfl⟩ := h2.1.1.2.2.1.shapeN
  obtain ⟨fa2, nf2, fc2, rfl⟩ := h2.1.1.2.2.2.shapeN
  obtain ⟨ba2, nb2, bc2, rfl⟩ := RawItems.shapeN' h2.2.1
  obtain ⟨pa2, np2, pc2, rfl⟩ := h2.2.2.shapeN
  have HF : Hid (FlowV (n + 1) w x.f (.slice ca nc cc) (.slice ka nk kc) (.slice da nd dc) (.slice la nl lc) (.slice ra nr rc) (.slice fa nf fc)) := h.1.1
  have HI : Hid (RawItems w (.slice ba nb bc) x.base) := h.2.1
  have HP : Hid (KV 2 PaAt w (.slice pa np pc) x.pasts) := h.2.2
  have HF2 : Hid (FlowV (n + 1) w x.f (.slice ca2 nc2 cc2) (.slice ka2 nk2 kc2) (.slice da2 nd2 dc2) (.slice la2 nl2 lc2) (.slice ra2 nr2 rc2) (.slice fa2 nf2 fc2)) := h2.1.1
  have HI2 : Hid (RawItems w (.slice ba2 nb2 bc2) x.base) := h2.2.1
  have HP2 : Hid (KV 2 PaAt w (.slice pa2 np2 pc2) x.pasts) := h2.2.2
  have HZ : Hid (Fl.sz (n + 1) x.f ≤ 1048576 ∧ x.base.length + rowsLen x.base ≤ 1048576 ∧ x.pasts.length + sumOf Pa.sz x.pasts ≤ 1048576) := by
    have e : x.sz = Fl.sz (n + 1) x.f + (x.base.length + rowsLen x.base) + (x.pasts.length + sumOf Pa.sz x.pasts) := rfl
    show _ ∧ _
    omega
  clear h h2 hl
  obtain ⟨w0, hw0⟩ : ∃ w0, w0 = (w.alloc (.cells #[.int .i64 x.f.nd.p.nd.k, .int .i64 x.f.nd.p.nd.n, .int .i64 x.f.nd.p.nd.t.k, .bool x.f.nd.p.nd.t.no, .int .i64 x.f.nd.p.nd.t.l.k, .int .i64 x.f.nd.p.nd.t.l.a, .int .i64 x.f.nd.p.nd.t.l.b, .int .i64 x.f.nd.p.nd.t.l.n, .int .i64 x.f.nd.p.nd.t.r.k, .int .i64 x.f.nd.p.nd.t.r.a, .int .i64 x.f.nd.p.nd.t.r.b, .int .i64 x.f.nd.p.nd.t.r.n, .slice ca nc cc, .int .i64 x.f.nd.p.nd.a, .int .i64 x.f.nd.p.nd.b, .slice ka nk kc, .int .i64 x.f.nd.p.nd.g, .int .i64 x.f.nd.p.nd.c, .slice da nd dc, .slice la nl lc, .slice ra nr rc, .slice fa nf fc, .int .i64 x.since, .slice ba nb bc, .slice pa np pc] 85)).alloc (.cells #[.int .i64 x.f.nd.p.nd.k, .int .i64 x.f.nd.p.nd.n, .int .i64 x.f.nd.p.nd.t.k, .bool x.f.nd.p.nd.t.no, .int .i64 x.f.nd.p.nd.t.l.k, .int .i64 x.f.nd.p.nd.t.l.a, .int .i64 x.f.nd.p.nd.t.l.b, .int .i64 x.f.nd.p.nd.t.l.n, .int .i64 x.f.nd.p.nd.t.r.k, .int .i64 x.f.nd.p.nd.t.r.a, .int .i64 x.f.nd.p.nd.t.r.b, .int .i64 x.f.nd.p.nd.t.r.n, .slice ca2 nc2 cc2, .int .i64 x.f.nd.p.nd.a, .int .i64 x.f.nd.p.nd.b, .slice ka2 nk2 kc2, .int .i64 x.f.nd.p.nd.g, .int .i64 x.f.nd.p.nd.c, .slice da2 nd2 dc2, .slice la2 nl2 lc2, .slice ra2 nr2 rc2, .slice fa2 nf2 fc2, .int .i64 x.since, .slice ba2 nb2 bc2, .slice pa2 np2 pc2] 85) := ⟨_, rfl⟩
  have HA : Hid (w0.heap[w.heap.size]? = some (.cells #[.int .i64 x.f.nd.p.nd.k, .int .i64 x.f.nd.p.nd.n, .int .i64 x.f.nd.p.nd.t.k, .bool x.f.nd.p.nd.t.no, .int .i64 x.f.nd.p.nd.t.l.k, .int .i64 x.f.nd.p.nd.t.l.a, .int .i64 x.f.nd.p.nd.t.l.b, .int .i64 x.f.nd.p.nd.t.l.n, .int .i64 x.f.nd.p.nd.t.r.k, .int .i64 x.f.nd.p.nd.t.r.a, .int .i64 x.f.nd.p.nd.t.r.b, .int .i64 x.f.nd.p.nd.t.r.n, .slice ca nc cc, .int .i64 x.f.nd.p.nd.a, .int .i64 x.f.nd.p.nd.b, .slice ka nk kc, .int .i64 x.f.nd.p.nd.g, .int .i64 x.f.nd.p.nd.c, .slice da nd dc, .slice la nl lc, .slice ra nr rc, .slice fa nf fc, .int .i64 x.since, .slice ba nb bc, .slice pa np pc] 85)) := by show _ = _; rw [hw0]; exact (two w _ _).1
  have HQ : Hid (w0.heap[w.heap.size + 1]? = some (.cells #[.int .i64 x.f.nd.p.nd.k, .int .i64 x.f.nd.p.nd.n, .int .i64 x.f.nd.p.nd.t.k, .bool x.f.nd.p.nd.t.no, .int .i64 x.f.nd.p.nd.t.l.k, .int .i64 x.f.nd.p.nd.t.l.a, .int .i64 x.f.nd.p.nd.t.l.b, .int .i64 x.f.nd.p.nd.t.l.n, .int .i64 x.f.nd.p.nd.t.r.k, .int .i64 x.f.nd.p.nd.t.r.a, .int .i64 x.f.nd.p.nd.t.r.b, .int .i64 x.f.nd.p.nd.t.r.n, .slice ca2 nc2 cc2, .int .i64 x.f.nd.p.nd.a, .int .i64 x.f.nd.p.nd.b, .slice ka2 nk2 kc2, .int .i64 x.f.nd.p.nd.g, .int .i64 x.f.nd.p.nd.c, .slice da2 nd2 dc2, .slice la2 nl2 lc2, .slice ra2 nr2 rc2, .slice fa2 nf2 fc2, .int .i64 x.since, .slice ba2 nb2 bc2, .slice pa2 np2 pc2] 85)) := by show _ = _; rw [hw0]; exact (two w _ _).2.1
  have HB : Hid (Below w.heap.size w w0) := by show Below _ _ _; rw [hw0]; exact (two w _ _).2.2
  have HRA : Hid (w0.rangeAt (w.heap.size) 0 [.int .i64 x.f.nd.p.nd.k, .int .i64 x.f.nd.p.nd.n, .int .i64 x.f.nd.p.nd.t.k, .bool x.f.nd.p.nd.t.no, .int .i64 x.f.nd.p.nd.t.l.k, .int .i64 x.f.nd.p.nd.t.l.a, .int .i64 x.f.nd.p.nd.t.l.b, .int .i64 x.f.nd.p.nd.t.l.n, .int .i64 x.f.nd.p.nd.t.r.k, .int .i64 x.f.nd.p.nd.t.r.a, .int .i64 x.f.nd.p.nd.t.r.b, .int .i64 x.f.nd.p.nd.t.r.n, .slice ca nc cc, .int .i64 x.f.nd.p.nd.a, .int .i64 x.f.nd.p.nd.b, .slice ka nk kc, .int .i64 x.f.nd.p.nd.g, .int .i64 x.f.nd.p.nd.c, .slice da nd dc, .slice la nl lc, .slice ra nr rc, .slice fa nf fc]) := flow_range HA.out
  have HRB : Hid (w0.rangeAt (w.heap.size + 1) 0 [.int .i64 x.f.nd.p.nd.k, .int .i64 x.f.nd.p.nd.n, .int .i64 x.f.nd.p.nd.t.k, .bool x.f.nd.p.nd.t.no, .int .i64 x.f.nd.p.nd.t.l.k, .int .i64 x.f.nd.p.nd.t.l.a, .int .i64 x.f.nd.p.nd.t.l.b, .int .i64 x.f.nd.p.nd.t.l.n, .int .i64 x.f.nd.p.nd.t.r.k, .int .i64 x.f.nd.p.nd.t.r.a, .int .i64 x.f.nd.p.nd.t.r.b, .int .i64 x.f.nd.p.nd.t.r.n, .slice ca2 nc2 cc2, .int .i64 x.f.nd.p.nd.a, .int .i64 x.f.nd.p.nd.b, .slice ka2 nk2 kc2, .int .i64 x.f.nd.p.nd.g, .int .i64 x.f.nd.p.nd.c, .slice da2 nd2 dc2, .slice la2 nl2 lc2, .slice ra2 nr2 rc2, .slice fa2 nf2 fc2]) := flow_range HQ.out
  have hil : (Try.prog.info? 51).map (·.size) = some ([.int .i64 x.f.nd.p.nd.k, .int .i64 x.f.nd.p.nd.n, .int .i64 x.f.nd.p.nd.t.k, .bool x.f.nd.p.nd.t.no, .int .i64 x.f.nd.p.nd.t.l.k, .int .i64 x.f.nd.p.nd.t.l.a, .int .i64 x.f.nd.p.nd.t.l.b, .int .i64 x.f.nd.p.nd.t.l.n, .int .i64 x.f.nd.p.nd.t.r.k, .int .i64 x.f.nd.p.nd.t.r.a, .int .i64 x.f.nd.p.nd.t.r.b, .int .i64 x.f.nd.p.nd.t.r.n, .slice ca nc cc, .int .i64 x.f.nd.p.nd.a, .int .i64 x.f.nd.p.nd.b, .slice ka nk kc, .int .i64 x.f.nd.p.nd.g, .int .i64 x.f.nd.p.nd.c, .slice da nd dc, .slice la nl lc, .slice ra nr rc, .slice fa nf fc] : List Value).length := by kernel_rfl
  have hil2 : (Try.prog.info? 51).map (·.size) = some ([.int .i64 x.f.nd.p.nd.k, .int .i64 x.f.nd.p.nd.n, .int .i64 x.f.nd.p.nd.t.k, .bool x.f.nd.p.nd.t.no, .int .i64 x.f.nd.p.nd.t.l.k, .int .i64 x.f.nd.p.nd.t.l.a, .int .i64 x.f.nd.p.nd.t.l.b, .int .i64 x.f.nd.p.nd.t.l.n, .int .i64 x.f.nd.p.nd.t.r.k, .int .i64 x.f.nd.p.nd.t.r.a, .int .i64 x.f.nd.p.nd.t.r.b, .int .i64 x.f.nd.p.nd.t.r.n, .slice ca2 nc2 cc2, .int .i64 x.f.nd.p.nd.a, .int .i64 x.f.nd.p.nd.b, .slice ka2 nk2 kc2, .int .i64 x.f.nd.p.nd.g, .int .i64 x.f.nd.p.nd.c, .slice da2 nd2 dc2, .slice la2 nl2 lc2, .slice ra2 nr2 rc2, .slice fa2 nf2 fc2] : List Value).length := by kernel_rfl
  have hw0' := hw0.symm
  clear hw0
  go_enter Try.func67, Try.ntmps67
  go_wp2_with (first | (refine wpList_load_mid rfl 51 _ rfl (w.heap.size) 0 rfl [.int .i64 x.f.nd.p.nd.k, .int .i64 x.f.nd.p.nd.n, .int .i64 x.f.nd.p.nd.t.k, .bool x.f.nd.p.nd.t.no, .int .i64 x.f.nd.p.nd.t.l.k, .int .i64 x.f.nd.p.nd.t.l.a, .int .i64 x.f.nd.p.nd.t.l.b, .int .i64 x.f.nd.p.nd.t.l.n, .int .i64 x.f.nd.p.nd.t.r.k, .int .i64 x.f.nd.p.nd.t.r.a, .int .i64 x.f.nd.p.nd.t.r.b, .int .i64 x.f.nd.p.nd.t.r.n, .slice ca nc cc, .int .i64 x.f.nd.p.nd.a, .int .i64 x.f.nd.p.nd.b, .slice ka nk kc, .int .i64 x.f.nd.p.nd.g, .int .i64 x.f.nd.p.nd.c, .slice da nd dc, .slice la nl lc, .slice ra nr rc, .slice fa nf fc] _ HRA.out Try.underlying51 rfl hil ?_) | (refine wpList_load_mid rfl 51 _ rfl (w.heap.size + 1) 0 rfl [.int .i64 x.f.nd.p.nd.k, .int .i64 x.f.nd.p.nd.n, .int .i64 x.f.nd.p.nd.t.k, .bool x.f.nd.p.nd.t.no, .int .i64 x.f.nd.p.nd.t.l.k, .int .i64 x.f.nd.p.nd.t.l.a, .int .i64 x.f.nd.p.nd.t.l.b, .int .i64 x.f.nd.p.nd.t.l.n, .int .i64 x.f.nd.p.nd.t.r.k, .int .i64 x.f.nd.p.nd.t.r.a, .int .i64 x.f.nd.p.nd.t.r.b, .int .i64 x.f.nd.p.nd.t.r.n, .slice ca2 nc2 cc2, .int .i64 x.f.nd.p.nd.a, .int .i64 x.f.nd.p.nd.b, .slice ka2 nk2 kc2, .int .i64 x.f.nd.p.nd.g, .int .i64 x.f.nd.p.nd.c, .slice da2 nd2 dc2, .slice la2 nl2 lc2, .slice ra2 nr2 rc2, .slice fa2 nf2 fc2] _ HRB.out Try.underlying51 rfl hil2 ?_))
  clear hw0'
  refine (eqFlow_same n x.f _ _ _ _ _ _ _ _ _ _ _ _ _ (FlowV.below HF.out HB.out) (FlowV.below HF2.out HB.out) HZ.out.1).mono ?_
  rintro e w1 ⟨rfl, hb⟩
  replace HA : Hid (w1.heap[w.heap.size]? = some (.cells #[.int .i64 x.f.nd.p.nd.k, .int .i64 x.f.nd.p.nd.n, .int .i64 x.f.nd.p.nd.t.k, .bool x.f.nd.p.nd.t.no, .int .i64 x.f.nd.p.nd.t.l.k, .int .i64 x.f.nd.p.nd.t.l.a, .int .i64 x.f.nd.p.nd.t.l.b, .int .i64 x.f.nd.p.nd.t.l.n, .int .i64 x.f.nd.p.nd.t.r.k, .int .i64 x.f.nd.p.nd.t.r.a, .int .i64 x.f.nd.p.nd.t.r.b, .int .i64 x.f.nd.p.nd.t.r.n, .slice ca nc cc, .int .i64 x.f.nd.p.nd.a, .int .i64 x.f.nd.p.nd.b, .slice ka nk kc, .int .i64 x.f.nd.p.nd.g, .int .i64 x.f.nd.p.nd.c, .slice da nd dc, .slice la nl lc, .slice ra nr rc, .slice fa nf fc, .int .i64 x.since, .slice ba nb bc, .slice pa np pc] 85)) := at_below HA.out hb
  replace HQ : Hid (w1.heap[w.heap.size + 1]? = some (.cells #[.int .i64 x.f.nd.p.nd.k, .int .i64 x.f.nd.p.nd.n, .int .i64 x.f.nd.p.nd.t.k, .bool x.f.nd.p.nd.t.no, .int .i64 x.f.nd.p.nd.t.l.k, .int .i64 x.f.nd.p.nd.t.l.a, .int .i64 x.f.nd.p.nd.t.l.b, .int .i64 x.f.nd.p.nd.t.l.n, .int .i64 x.f.nd.p.nd.t.r.k, .int .i64 x.f.nd.p.nd.t.r.a, .int .i64 x.f.nd.p.nd.t.r.b, .int .i64 x.f.nd.p.nd.t.r.n, .slice ca2 nc2 cc2, .int .i64 x.f.nd.p.nd.a, .int .i64 x.f.nd.p.nd.b, .slice ka2 nk2 kc2, .int .i64 x.f.nd.p.nd.g, .int .i64 x.f.nd.p.nd.c, .slice da2 nd2 dc2, .slice la2 nl2 lc2, .slice ra2 nr2 rc2, .slice fa2 nf2 fc2, .int .i64 x.since, .slice ba2 nb2 bc2, .slice pa2 np2 pc2] 85)) := at_below HQ.out hb
  replace HB : Hid (Below w.heap.size w w1) := bel_then HB.out hb
  clear hb HRA HRB hil hil2
  have a22 : w1.cell? ⟨w.heap.size, 22, none⟩ = some (.int .i64 x.since) := cell_at HA.out rfl
  have b22 : w1.cell? ⟨w.heap.size + 1, 22, none⟩ = some (.int .i64 x.since) := cell_at HQ.out rfl
  have a23 : w1.cell? ⟨w.heap.size, 23, none⟩ = some (.slice ba nb bc) := cell_at HA.out rfl
  have b23 : w1.cell? ⟨w.heap.size + 1, 23, none⟩ = some (.slice ba2 nb2 bc2) := cell_at HQ.out rfl
  go_wp2_with fail
  refine (eqItemS_self _ _ x.base _ ((HI.out.below HB.out).items HZ.out.2.1) ((HI2.out.below HB.out).items HZ.out.2.1)).mono ?_
  rintro e w2 ⟨rfl, hb⟩
  replace HA : Hid (w2.heap[w.heap.size]? = some (.cells #[.int .i64 x.f.nd.p.nd.k, .int .i64 x.f.nd.p.nd.n, .int .i64 x.f.nd.p.nd.t.k, .bool x.f.nd.p.nd.t.no, .int .i64 x.f.nd.p.nd.t.l.k, .int .i64 x.f.nd.p.nd.t.l.a, .int .i64 x.f.nd.p.nd.t.l.b, .int .i64 x.f.nd.p.nd.t.l.n, .int .i64 x.f.nd.p.nd.t.r.k, .int .i64 x.f.nd.p.nd.t.r.a, .int .i64 x.f.nd.p.nd.t.r.b, .int .i64 x.f.nd.p.nd.t.r.n, .slice ca nc cc, .int .i64 x.f.nd.p.nd.a, .int .i64 x.f.nd.p.nd.b, .slice ka nk kc, .int .i64 x.f.nd.p.nd.g, .int .i64 x.f.nd.p.nd.c, .slice da nd dc, .slice la nl lc, .slice ra nr rc, .slice fa nf fc, .int .i64 x.since, .slice ba nb bc, .slice pa np pc] 85)) := at_below HA.out hb
  replace HQ : Hid (w2.heap[w.heap.size + 1]? = some (.cells #[.int .i64 x.f.nd.p.nd.k, .int .i64 x.f.nd.p.nd.n, .int .i64 x.f.nd.p.nd.t.k, .bool x.f.nd.p.nd.t.no, .int .i64 x.f.nd.p.nd.t.l.k, .int .i64 x.f.nd.p.nd.t.l.a, .int .i64 x.f.nd.p.nd.t.l.b, .int .i64 x.f.nd.p.nd.t.l.n, .int .i64 x.f.nd.p.nd.t.r.k, .int .i64 x.f.nd.p.nd.t.r.a, .int .i64 x.f.nd.p.nd.t.r.b, .int .i64 x.f.nd.p.nd.t.r.n, .slice ca2 nc2 cc2, .int .i64 x.f.nd.p.nd.a, .int .i64 x.f.nd.p.nd.b, .slice ka2 nk2 kc2, .int .i64 x.f.nd.p.nd.g, .int .i64 x.f.nd.p.nd.c, .slice da2 nd2 dc2, .slice la2 nl2 lc2, .slice ra2 nr2 rc2, .slice fa2 nf2 fc2, .int .i64 x.since, .slice ba2 nb2 bc2, .slice pa2 np2 pc2] 85)) := at_below HQ.out hb
  replace HB : Hid (Below w.heap.size w w2) := bel_then HB.out hb
  clear hb a22 b22 a23 b23
  have a24 : w2.cell? ⟨w.heap.size, 24, none⟩ = some (.slice pa np pc) := cell_at HA.out rfl
  have b24 : w2.cell? ⟨w.heap.size + 1, 24, none⟩ = some (.slice pa2 np2 pc2) := cell_at HQ.out rfl
  go_wp2_with fail
  refine (eqPastS_same x.pasts _ _ _ (HP.out.below HB.out fun b o p hp => hp.below HB.out) (HP2.out.below HB.out fun b o p hp => hp.below HB.out) HZ.out.2.2).mono ?_
  rintro e w3 ⟨rfl, hb⟩
  replace HB : Hid (Below w.heap.size w w3) := bel_then HB.out hb
  clear hb a24 b24
  go_wp2
  go_ret
  exact ⟨rfl, HB.out⟩

theorem eqViewS_none (a a2 : Option Addr) (cap cap2 : Nat) (w : World) :
    Calls Try.prog 45 #[.slice a 0 cap, .slice a2 0 cap2] w fun e w' => e = .returned (.bool true) ∧ Below w.heap.size w w' := by
  go_enter Try.func45, Try.ntmps45
  go_wp2
  refine wp_loop_rounds 1 ?_
  rw [rounds_succ]
  go_wp2
  go_ret
  exact ⟨rfl, Below.refl _ _⟩
set_option maxHeartbeats 2000000 in
theorem eqViewS_some (b off cap b2 off2 cap2 : Nat) (l : List (Vw D n)) (w : World) (hpos : 0 < l.length) (hlim : l.length + sumOf Vw.sz l ≤ 1048576) (hbw : b < w.heap.size) (hbw2 : b2 < w.heap.size)
    (hk : ∀ j (hj : j < l.length), (VwAt false) w b (off + j * 25) l[j]) (hk2 : ∀ j (hj : j < l.length), (VwAt false) w b2 (off2 + j * 25) l[j]) :
    Calls Try.prog 45 #[.slice (some ⟨b, off, none⟩) l.length cap, .slice (some ⟨b2, off2, none⟩) l.length cap2] w fun e w' => e = .returned (.bool true) ∧ Below w.heap.size w w' := by
  have HK : Hid (∀ j (hj : j < l.length), (VwAt false) w b (off + j * 25) l[j]) := hk
  have HK2 : Hid (∀ j (hj : j < l.length), (VwAt false) w b2 (off2 + j * 25) l[j]) := hk2
  have HSZ : Hid (∀ j (hj : j < l.length), Vw.sz l[j] ≤ 1048576) := fun j hj => by have := sumOf_at (g := Vw.sz) hj; omega
  have hlim2 : l.length ≤ 1048576 := by omega
  obtain ⟨m, hm⟩ : ∃ m, m = l.length := ⟨_, rfl⟩
  have HM : Hid (m = l.length) := hm
  rw [← hm] at hpos hlim2 ⊢
  clear hm hk hk2 hlim
  go_enter Try.func45, Try.ntmps45
  go_wp2
  go_loopw [5] (fun i wr => ∃ k : Nat, k ≤ m ∧ i = .int .i64 k ∧ Hid (Below w.heap.size w wr)) (fun i _ => m - (intOf i).toNat)
  case atStart => exact ⟨0, Nat.zero_le _, rfl, Below.refl _ _⟩
  case round =>
    obtain ⟨k, hk, rfl, HB⟩ := hrel
    by_cases hlt : k < m
    · have hkl : k < l.length := by rw [← HM.out]; exact hlt
      obtain ⟨-, vc, vk, vd, vl, vr, vf, vb, vp, hf, hp⟩ := (HK.out k hkl).below HB.out
      obtain ⟨-, vc2, vk2, vd2, vl2, vr2, vf2, vb2, vp2, hf2, hp2⟩ := (HK2.out k hkl).below HB.out
      obtain ⟨q, hq⟩ : ∃ q, k * 25 = q := ⟨_, rfl⟩
      rw [hq] at hf hf2
      have HR : Hid (wr.rangeAt b (off + q) ([.int .i64 l[k].f.nd.p.nd.k, .int .i64 l[k].f.nd.p.nd.n, .int .i64 l[k].f.nd.p.nd.t.k, .bool l[k].f.nd.p.nd.t.no, .int .i64 l[k].f.nd.p.nd.t.l.k, .int .i64 l[k].f.nd.p.nd.t.l.a, .int .i64 l[k].f.nd.p.nd.t.l.b, .int .i64 l[k].f.nd.p.nd.t.l.n, .int .i64 l[k].f.nd.p.nd.t.r.k, .int .i64 l[k].f.nd.p.nd.t.r.a, .int .i64 l[k].f.nd.p.nd.t.r.b, .int .i64 l[k].f.nd.p.nd.t.r.n, vc, .int .i64 l[k].f.nd.p.nd.a, .int .i64 l[k].f.nd.p.nd.b, vk, .int .i64 l[k].f.nd.p.nd.g, .int .i64 l[k].f.nd.p.nd.c, vd, vl, vr, vf, .int .i64 l[k].since, vb, vp] : List Value)) := hf
      have HR2 : Hid (wr.rangeAt b2 (off2 + q) ([.int .i64 l[k].f.nd.p.nd.k, .int .i64 l[k].f.nd.p.nd.n, .int .i64 l[k].f.nd.p.nd.t.k, .bool l[k].f.nd.p.nd.t.no, .int .i64 l[k].f.nd.p.nd.t.l.k, .int .i64 l[k].f.nd.p.nd.t.l.a, .int .i64 l[k].f.nd.p.nd.t.l.b, .int .i64 l[k].f.nd.p.nd.t.l.n, .int .i64 l[k].f.nd.p.nd.t.r.k, .int .i64 l[k].f.nd.p.nd.t.r.a, .int .i64 l[k].f.nd.p.nd.t.r.b, .int .i64 l[k].f.nd.p.nd.t.r.n, vc2, .int .i64 l[k].f.nd.p.nd.a, .int .i64 l[k].f.nd.p.nd.b, vk2, .int .i64 l[k].f.nd.p.nd.g, .int .i64 l[k].f.nd.p.nd.c, vd2, vl2, vr2, vf2, .int .i64 l[k].since, vb2, vp2] : List Value)) := hf2
      have hil : (Try.prog.info? 85).map (·.size) = some ([.int .i64 l[k].f.nd.p.nd.k, .int .i64 l[k].f.nd.p.nd.n, .int .i64 l[k].f.nd.p.nd.t.k, .bool l[k].f.nd.p.nd.t.no, .int .i64 l[k].f.nd.p.nd.t.l.k, .int .i64 l[k].f.nd.p.nd.t.l.a, .int .i64 l[k].f.nd.p.nd.t.l.b, .int .i64 l[k].f.nd.p.nd.t.l.n, .int .i64 l[k].f.nd.p.nd.t.r.k, .int .i64 l[k].f.nd.p.nd.t.r.a, .int .i64 l[k].f.nd.p.nd.t.r.b, .int .i64 l[k].f.nd.p.nd.t.r.n, vc, .int .i64 l[k].f.nd.p.nd.a, .int .i64 l[k].f.nd.p.nd.b, vk, .int .i64 l[k].f.nd.p.nd.g, .int .i64 l[k].f.nd.p.nd.c, vd, vl, vr, vf, .int .i64 l[k].since, vb, vp] : List Value).length := by kernel_rfl
      have hil2 : (Try.prog.info? 85).map (·.size) = some ([.int .i64 l[k].f.nd.p.nd.k, .int .i64 l[k].f.nd.p.nd.n, .int .i64 l[k].f.nd.p.nd.t.k, .bool l[k].f.nd.p.nd.t.no, .int .i64 l[k].f.nd.p.nd.t.l.k, .int .i64 l[k].f.nd.p.nd.t.l.a, .int .i64 l[k].f.nd.p.nd.t.l.b, .int .i64 l[k].f.nd.p.nd.t.l.n, .int .i64 l[k].f.nd.p.nd.t.r.k, .int .i64 l[k].f.nd.p.nd.t.r.a, .int .i64 l[k].f.nd.p.nd.t.r.b, .int .i64 l[k].f.nd.p.nd.t.r.n, vc2, .int .i64 l[k].f.nd.p.nd.a, .int .i64 l[k].f.nd.p.nd.b, vk2, .int .i64 l[k].f.nd.p.nd.g, .int .i64 l[k].f.nd.p.nd.c, vd2, vl2, vr2, vf2, .int .i64 l[k].since, vb2, vp2] : List Value).length := by kernel_rfl
      have HPV : Hid (VwV false wr l[k] vc vk vd vl vr vf vb vp) := hp
      have HPV2 : Hid (VwV false wr l[k] vc2 vk2 vd2 vl2 vr2 vf2 vb2 vp2) := hp2
      clear hp hf hp2 hf2
      have HS1 : Hid (b < wr.heap.size) := Nat.lt_of_lt_of_le hbw HB.out.size
      have HS2 : Hid (b2 < wr.heap.size) := Nat.lt_of_lt_of_le hbw2 HB.out.size
      go_wp2_with fail
      refine wp_region_held_drew (S := (fun x => x.rangeAt b (off + q) ([.int .i64 l[k].f.nd.p.nd.k, .int .i64 l[k].f.nd.p.nd.n, .int .i64 l[k].f.nd.p.nd.t.k, .bool l[k].f.nd.p.nd.t.no, .int .i64 l[k].f.nd.p.nd.t.l.k, .int .i64 l[k].f.nd.p.nd.t.l.a, .int .i64 l[k].f.nd.p.nd.t.l.b, .int .i64 l[k].f.nd.p.nd.t.l.n, .int .i64 l[k].f.nd.p.nd.t.r.k, .int .i64 l[k].f.nd.p.nd.t.r.a, .int .i64 l[k].f.nd.p.nd.t.r.b, .int .i64 l[k].f.nd.p.nd.t.r.n, vc, .int .i64 l[k].f.nd.p.nd.a, .int .i64 l[k].f.nd.p.nd.b, vk, .int .i64 l[k].f.nd.p.nd.g, .int .i64 l[k].f.nd.p.nd.c, vd, vl, vr, vf, .int .i64 l[k].since, vb, vp] : List Value) ∧ x.rangeAt b2 (off2 + q) ([.int .i64 l[k].f.nd.p.nd.k, .int .i64 l[k].f.nd.p.nd.n, .int .i64 l[k].f.nd.p.nd.t.k, .bool l[k].f.nd.p.nd.t.no, .int .i64 l[k].f.nd.p.nd.t.l.k, .int .i64 l[k].f.nd.p.nd.t.l.a, .int .i64 l[k].f.nd.p.nd.t.l.b, .int .i64 l[k].f.nd.p.nd.t.l.n, .int .i64 l[k].f.nd.p.nd.t.r.k, .int .i64 l[k].f.nd.p.nd.t.r.a, .int .i64 l[k].f.nd.p.nd.t.r.b, .int .i64 l[k].f.nd.p.nd.t.r.n, vc2, .int .i64 l[k].f.nd.p.nd.a, .int .i64 l[k].f.nd.p.nd.b, vk2, .int .i64 l[k].f.nd.p.nd.g, .int .i64 l[k].f.nd.p.nd.c, vd2, vl2, vr2, vf2, .int .i64 l[k].since, vb2, vp2] : List Value))) (by kernel_rfl) ?_ (fun hHeld => ?_)
      · (try dsimp only); exact ⟨HR.out, HR2.out⟩
      refine wpAnyH_take (i := 0) (v := ?_) rfl (by kernel_rfl) (by kernel_rfl) (by kernel_rfl) (fun _ _ _ h => h) (Or.inl ⟨by rfl, ?_⟩) (by assumption) ?_
      rotate_left 1
      · intro w hSw; (try dsimp only at hSw); go_simp; try with_reducible rfl
      simp only [Act.put, List.getElem_toArray, List.getElem_cons_succ, List.getElem_cons_zero, List.setIfInBounds_toArray, List.set_cons_zero, List.set_cons_succ]
      refine wpAnyH_take (i := 1) (v := ?_) rfl (by kernel_rfl) (by kernel_rfl) (by kernel_rfl) (fun _ _ _ h => h) (Or.inl ⟨by rfl, ?_⟩) (by assumption) ?_
      rotate_left 1
      · intro w hSw; (try dsimp only at hSw); go_simp; try with_reducible rfl
      simp only [Act.put, List.getElem_toArray, List.getElem_cons_succ, List.getElem_cons_zero, List.setIfInBounds_toArray, List.set_cons_zero, List.set_cons_succ]
      refine wpAnyH_take (i := 2) (v := ?_) rfl (by kernel_rfl) (by kernel_rfl) (by kernel_rfl) (fun _ _ _ h => h) (Or.inl ⟨by rfl, ?_⟩) (by assumption) ?_
      rotate_left 1
      · intro w hSw; (try dsimp only at hSw); go_simp; try with_reducible rfl
      simp only [Act.put, List.getElem_toArray, List.getElem_cons_succ, List.getElem_cons_zero, List.setIfInBounds_toArray, List.set_cons_zero, List.set_cons_succ]
      refine wpAnyH_take (i := 3) (v := .agg ([.int .i64 l[k].f.nd.p.nd.k, .int .i64 l[k].f.nd.p.nd.n, .int .i64 l[k].f.nd.p.nd.t.k, .bool l[k].f.nd.p.nd.t.no, .int .i64 l[k].f.nd.p.nd.t.l.k, .int .i64 l[k].f.nd.p.nd.t.l.a, .int .i64 l[k].f.nd.p.nd.t.l.b, .int .i64 l[k].f.nd.p.nd.t.l.n, .int .i64 l[k].f.nd.p.nd.t.r.k, .int .i64 l[k].f.nd.p.nd.t.r.a, .int .i64 l[k].f.nd.p.nd.t.r.b, .int .i64 l[k].f.nd.p.nd.t.r.n, vc, .int .i64 l[k].f.nd.p.nd.a, .int .i64 l[k].f.nd.p.nd.b, vk, .int .i64 l[k].f.nd.p.nd.g, .int .i64 l[k].f.nd.p.nd.c, vd, vl, vr, vf, .int .i64 l[k].since, vb, vp] : List Value).toArray) rfl (by kernel_rfl) (by kernel_rfl) (by kernel_rfl) (fun _ _ _ h => h) (yieldsIf_load_mid (by rfl) 85 _ rfl b (off + q) rfl [.int .i64 l[k].f.nd.p.nd.k, .int .i64 l[k].f.nd.p.nd.n, .int .i64 l[k].f.nd.p.nd.t.k, .bool l[k].f.nd.p.nd.t.no, .int .i64 l[k].f.nd.p.nd.t.l.k, .int .i64 l[k].f.nd.p.nd.t.l.a, .int .i64 l[k].f.nd.p.nd.t.l.b, .int .i64 l[k].f.nd.p.nd.t.l.n, .int .i64 l[k].f.nd.p.nd.t.r.k, .int .i64 l[k].f.nd.p.nd.t.r.a, .int .i64 l[k].f.nd.p.nd.t.r.b, .int .i64 l[k].f.nd.p.nd.t.r.n, vc, .int .i64 l[k].f.nd.p.nd.a, .int .i64 l[k].f.nd.p.nd.b, vk, .int .i64 l[k].f.nd.p.nd.g, .int .i64 l[k].f.nd.p.nd.c, vd, vl, vr, vf, .int .i64 l[k].since, vb, vp] _ (fun x h => h.1) Try.underlying85 rfl hil) (by assumption) ?_
      simp only [Act.put, List.getElem_toArray, List.getElem_cons_succ, List.getElem_cons_zero, List.setIfInBounds_toArray, List.set_cons_zero, List.set_cons_succ]
      refine wpAnyH_take (i := 4) (v := ?_) rfl (by kernel_rfl) (by kernel_rfl) (by kernel_rfl) (fun _ _ _ h => h) (Or.inl ⟨by rfl, ?_⟩) (by assumption) ?_
      rotate_left 1
      · intro w hSw; (try dsimp only at hSw); go_simp; try with_reducible rfl
      simp only [Act.put, List.getElem_toArray, List.getElem_cons_succ, List.getElem_cons_zero, List.setIfInBounds_toArray, List.set_cons_zero, List.set_cons_succ]
      refine wpAnyH_take (i := 5) (v := ?_) rfl (by kernel_rfl) (by kernel_rfl) (by kernel_rfl) (fun _ _ _ h => h) (Or.inl ⟨by rfl, ?_⟩) (by assumption) ?_
      rotate_left 1
      · intro w hSw; (try dsimp only at hSw); go_simp; try with_reducible rfl
      simp only [Act.put, List.getElem_toArray, List.getElem_cons_succ, List.getElem_cons_zero, List.setIfInBounds_toArray, List.set_cons_zero, List.set_cons_succ]
      refine wpAnyH_take (i := 6) (v := ?_) rfl (by kernel_rfl) (by kernel_rfl) (by kernel_rfl) (fun _ _ _ h => h) (Or.inl ⟨by rfl, ?_⟩) (by assumption) ?_
      rotate_left 1
      · intro w hSw; (try dsimp only at hSw); go_simp; try with_reducible rfl
      simp only [Act.put, List.getElem_toArray, List.getElem_cons_succ, List.getElem_cons_zero, List.setIfInBounds_toArray, List.set_cons_zero, List.set_cons_succ]
      refine wpAnyH_take (i := 7) (v := .agg ([.int .i64 l[k].f.nd.p.nd.k, .int .i64 l[k].f.nd.p.nd.n, .int .i64 l[k].f.nd.p.nd.t.k, .bool l[k].f.nd.p.nd.t.no, .int .i64 l[k].f.nd.p.nd.t.l.k, .int .i64 l[k].f.nd.p.nd.t.l.a, .int .i64 l[k].f.nd.p.nd.t.l.b, .int .i64 l[k].f.nd.p.nd.t.l.n, .int .i64 l[k].f.nd.p.nd.t.r.k, .int .i64 l[k].f.nd.p.nd.t.r.a, .int .i64 l[k].f.nd.p.nd.t.r.b, .int .i64 l[k].f.nd.p.nd.t.r.n, vc2, .int .i64 l[k].f.nd.p.nd.a, .int .i64 l[k].f.nd.p.nd.b, vk2, .int .i64 l[k].f.nd.p.nd.g, .int .i64 l[k].f.nd.p.nd.c, vd2, vl2, vr2, vf2, .int .i64 l[k].since, vb2, vp2] : List Value).toArray) rfl (by kernel_rfl) (by kernel_rfl) (by kernel_rfl) (fun _ _ _ h => h) (yieldsIf_load_mid (by rfl) 85 _ rfl b2 (off2 + q) rfl [.int .i64 l[k].f.nd.p.nd.k, .int .i64 l[k].f.nd.p.nd.n, .int .i64 l[k].f.nd.p.nd.t.k, .bool l[k].f.nd.p.nd.t.no, .int .i64 l[k].f.nd.p.nd.t.l.k, .int .i64 l[k].f.nd.p.nd.t.l.a, .int .i64 l[k].f.nd.p.nd.t.l.b, .int .i64 l[k].f.nd.p.nd.t.l.n, .int .i64 l[k].f.nd.p.nd.t.r.k, .int .i64 l[k].f.nd.p.nd.t.r.a, .int .i64 l[k].f.nd.p.nd.t.r.b, .int .i64 l[k].f.nd.p.nd.t.r.n, vc2, .int .i64 l[k].f.nd.p.nd.a, .int .i64 l[k].f.nd.p.nd.b, vk2, .int .i64 l[k].f.nd.p.nd.g, .int .i64 l[k].f.nd.p.nd.c, vd2, vl2, vr2, vf2, .int .i64 l[k].since, vb2, vp2] _ (fun x h => h.2) Try.underlying85 rfl hil2) (by assumption) ?_
      simp only [Act.put, List.getElem_toArray, List.getElem_cons_succ, List.getElem_cons_zero, List.setIfInBounds_toArray, List.set_cons_zero, List.set_cons_succ]
      refine wpAnyH_ready (rs := [8]) (by kernel_rfl) (by simp) ?_
      refine AllReadyH.cons rfl (fun K hK => ?_) AllReadyH.nil
      go_simp
      (refine (eqView_same l[k] vc vk vd vl vr vf vb vp vc2 vk2 vd2 vl2 vr2 vf2 vb2 vp2 _ (by first | exact HPV.out | exact HPV.out.below (Below.drew (Below.refl _ _))) (by first | exact HPV2.out | exact HPV2.out.below (Below.drew (Below.refl _ _))) (HSZ.out k hkl)).mono ?_; rintro e w2 ⟨rfl, hb2⟩; have hb : Below wr.heap.size wr w2 := (by first | exact hb2 | exact (Below.drew (Below.refl _ _)).trans hb2); have HB2 : Hid (Below w.heap.size w w2) := bel_then HB.out hb; have Y2 : w2.rangeAt b (off + q) ([.int .i64 l[k].f.nd.p.nd.k, .int .i64 l[k].f.nd.p.nd.n, .int .i64 l[k].f.nd.p.nd.t.k, .bool l[k].f.nd.p.nd.t.no, .int .i64 l[k].f.nd.p.nd.t.l.k, .int .i64 l[k].f.nd.p.nd.t.l.a, .int .i64 l[k].f.nd.p.nd.t.l.b, .int .i64 l[k].f.nd.p.nd.t.l.n, .int .i64 l[k].f.nd.p.nd.t.r.k, .int .i64 l[k].f.nd.p.nd.t.r.a, .int .i64 l[k].f.nd.p.nd.t.r.b, .int .i64 l[k].f.nd.p.nd.t.r.n, vc, .int .i64 l[k].f.nd.p.nd.a, .int .i64 l[k].f.nd.p.nd.b, vk, .int .i64 l[k].f.nd.p.nd.g, .int .i64 l[k].f.nd.p.nd.c, vd, vl, vr, vf, .int .i64 l[k].since, vb, vp] : List Value) ∧ w2.rangeAt b2 (off2 + q) ([.int .i64 l[k].f.nd.p.nd.k, .int .i64 l[k].f.nd.p.nd.n, .int .i64 l[k].f.nd.p.nd.t.k, .bool l[k].f.nd.p.nd.t.no, .int .i64 l[k].f.nd.p.nd.t.l.k, .int .i64 l[k].f.nd.p.nd.t.l.a, .int .i64 l[k].f.nd.p.nd.t.l.b, .int .i64 l[k].f.nd.p.nd.t.l.n, .int .i64 l[k].f.nd.p.nd.t.r.k, .int .i64 l[k].f.nd.p.nd.t.r.a, .int .i64 l[k].f.nd.p.nd.t.r.b, .int .i64 l[k].f.nd.p.nd.t.r.n, vc2, .int .i64 l[k].f.nd.p.nd.a, .int .i64 l[k].f.nd.p.nd.b, vk2, .int .i64 l[k].f.nd.p.nd.g, .int .i64 l[k].f.nd.p.nd.c, vd2, vl2, vr2, vf2, .int .i64 l[k].since, vb2, vp2] : List Value) := ⟨range_below HR.out hb HS1.out, range_below HR2.out hb HS2.out⟩; clear hb hb2)
      refine hK.out _ _ ?_ (fun hHeld => ?_)
      · (try dsimp only); exact Y2
      clear hK K
      try simp only [Act.put, List.getElem_toArray, List.getElem_cons_succ, List.getElem_cons_zero, List.setIfInBounds_toArray, List.set_cons_zero, List.set_cons_succ]
      refine wpAnyH_take (i := 9) (v := ?_) rfl (by kernel_rfl) (by kernel_rfl) (by kernel_rfl) (fun _ _ _ h => h) (Or.inl ⟨by rfl, ?_⟩) (by assumption) ?_
      rotate_left 1
      · intro w hSw; (try dsimp only at hSw); go_simp; try with_reducible rfl
      simp only [Act.put, List.getElem_toArray, List.getElem_cons_succ, List.getElem_cons_zero, List.setIfInBounds_toArray, List.set_cons_zero, List.set_cons_succ]
      refine wpAnyH_done (by kernel_rfl) ?_ _
      clear HR HR2 hil hil2 HB HPV HPV2
      go_wp2
      go_roundw
      case rel => exact ⟨k + 1, by omega, by go_num, HB2.out⟩
      case measure => simp [intOf]; omega
    · have e : k = m := by omega
      subst e
      go_wp2
      go_ret
      exact ⟨rfl, HB.out⟩
theorem eqViewS_same (l : List (Vw D n)) (v v2 : Value) (w : World) (hv : KV 25 (VwAt false) w v l) (hv2 : KV 25 (VwAt false) w v2 l) (hlim : l.length + sumOf Vw.sz l ≤ 1048576) :
    Calls Try.prog 45 #[v, v2] w fun e w' => e = .returned (.bool true) ∧ Below w.heap.size w w' := by
  obtain ⟨_, a, cap, rfl, _, hc⟩ := hv
  obtain ⟨_, a2, cap2, rfl, _, hc2⟩ := hv2
  by_cases hne : l = []
  · subst hne
    exact eqViewS_none a a2 cap cap2 w
  · obtain ⟨b, off, rfl, hbw, hk⟩ := hc hne
    obtain ⟨b2, off2, rfl, hbw2, hk2⟩ := hc2 hne
    exact eqViewS_some b off cap b2 off2 cap2 l w (List.length_pos_iff.2 hne) hlim hbw hbw2 hk hk2

set_option maxHeartbeats 2000000 in
theorem eqStore_same (s : St D n) (vw vt vv vw2 vt2 vv2 : Value) (w : World) (h : StV false w s vw vt vv) (h2 : StV false w s vw2 vt2 vv2) (hl : s.sz ≤ 1048576) :
    Calls Try.prog 14 #[.agg #[vw, vt, vv, .int .i64 s.now, .int .i64 s.keep], .agg #[vw2, vt2, vv2, .int .i64 s.now, .int .i64 s.keep]] w fun e w' => e = .returned (.bool true) ∧ Below w.heap.size w w' := by
  obtain ⟨wa, nw, wc, rfl⟩ := RawInts.shapeN' h.1
  obtain ⟨ta, nt, tc, rfl⟩ := h.2.1.shapeN
  obtain ⟨va, nv, vc, rfl⟩ := h.2.2.shapeN
  obtain ⟨wa2, nw2, wc2, rfl⟩ := RawInts.shapeN' h2.1
  obtain ⟨ta2, nt2, tc2, rfl⟩ := h2.2.1.shapeN
  obtain ⟨va2, nv2, vc2, rfl⟩ := h2.2.2.shapeN
  have HI : Hid (RawInts w (.slice wa nw wc) s.wides) := h.1
  have HT : Hid (RawRuns w (.slice ta nt tc) s.tables) := h.2.1
  have HW : Hid (KV 25 (VwAt false) w (.slice va nv vc) s.views) := h.2.2
  have HI2 : Hid (RawInts w (.slice wa2 nw2 wc2) s.wides) := h2.1
  have HT2 : Hid (RawRuns w (.slice ta2 nt2 tc2) s.tables) := h2.2.1
  have HW2 : Hid (KV 25 (VwAt false) w (.slice va2 nv2 vc2) s.views) := h2.2.2
  have HZ : Hid (s.wides.length ≤ 1048576 ∧ s.tables.length + runsLen s.tables ≤ 1048576 ∧ s.views.length + sumOf Vw.sz s.views ≤ 1048576) := by
    have e : s.sz = s.wides.length + (s.tables.length + runsLen s.tables) + (s.views.length + sumOf Vw.sz s.views) := rfl
    show _ ∧ _
    omega
  clear h h2 hl
  obtain ⟨w0, hw0⟩ : ∃ w0, w0 = (w.alloc (.cells #[.slice wa nw wc, .slice ta nt tc, .slice va nv vc, .int .i64 s.now, .int .i64 s.keep] 61)).alloc (.cells #[.slice wa2 nw2 wc2, .slice ta2 nt2 tc2, .slice va2 nv2 vc2, .int .i64 s.now, .int .i64 s.keep] 61) := ⟨_, rfl⟩
  have HA : Hid (w0.heap[w.heap.size]? = some (.cells #[.slice wa nw wc, .slice ta nt tc, .slice va nv vc, .int .i64 s.now, .int .i64 s.keep] 61)) := by show _ = _; rw [hw0]; exact (two w _ _).1
  have HQ : Hid (w0.heap[w.heap.size + 1]? = some (.cells #[.slice wa2 nw2 wc2, .slice ta2 nt2 tc2, .slice va2 nv2 vc2, .int .i64 s.now, .int .i64 s.keep] 61)) := by show _ = _; rw [hw0]; exact (two w _ _).2.1
  have HB : Hid (Below w.heap.size w w0) := by show Below _ _ _; rw [hw0]; exact (two w _ _).2.2
  have hw0' := hw0.symm
  clear hw0
  have a0 : w0.cell? ⟨w.heap.size, 0, none⟩ = some (.slice wa nw wc) := cell_at HA.out rfl
  have b0 : w0.cell? ⟨w.heap.size + 1, 0, none⟩ = some (.slice wa2 nw2 wc2) := cell_at HQ.out rfl
  go_enter Try.func14, Try.ntmps14
  go_wp2_with fail
  clear hw0'
  refine (eqIntS_any _ _ s.wides s.wides _ ((HI.out.below HB.out).ints (by have := HZ.out; omega)) ((HI2.out.below HB.out).ints (by have := HZ.out; omega))).mono ?_
  rintro e w1 ⟨rfl, hb⟩
  rw [sameB_refl]
  replace HA : Hid (w1.heap[w.heap.size]? = some (.cells #[.slice wa nw wc, .slice ta nt tc, .slice va nv vc, .int .i64 s.now, .int .i64 s.keep] 61)) := at_below HA.out hb
  replace HQ : Hid (w1.heap[w.heap.size + 1]? = some (.cells #[.slice wa2 nw2 wc2, .slice ta2 nt2 tc2, .slice va2 nv2 vc2, .int .i64 s.now, .int .i64 s.keep] 61)) := at_below HQ.out hb
  replace HB : Hid (Below w.heap.size w w1) := bel_then HB.out hb
  clear hb a0 b0
  have a1 : w1.cell? ⟨w.heap.size, 1, none⟩ = some (.slice ta nt tc) := cell_at HA.out rfl
  have b1 : w1.cell? ⟨w.heap.size + 1, 1, none⟩ = some (.slice ta2 nt2 tc2) := cell_at HQ.out rfl
  go_wp2_with fail
  refine (eqItemSS_self _ _ s.tables _ ((HT.out.below HB.out).runsI HZ.out.2.1) ((HT2.out.below HB.out).runsI HZ.out.2.1)).mono ?_
  rintro e w2 ⟨rfl, hb⟩
  replace HA : Hid (w2.heap[w.heap.size]? = some (.cells #[.slice wa nw wc, .slice ta nt tc, .slice va nv vc, .int .i64 s.now, .int .i64 s.keep] 61)) := at_below HA.out hb
  replace HQ : Hid (w2.heap[w.heap.size + 1]? = some (.cells #[.slice wa2 nw2 wc2, .slice ta2 nt2 tc2, .slice va2 nv2 vc2, .int .i64 s.now, .int .i64 s.keep] 61)) := at_below HQ.out hb
  replace HB : Hid (Below w.heap.size w w2) := bel_then HB.out hb
  clear hb a1 b1
  have a2 : w2.cell? ⟨w.heap.size, 2, none⟩ = some (.slice va nv vc) := cell_at HA.out rfl
  have b2 : w2.cell? ⟨w.heap.size + 1, 2, none⟩ = some (.slice va2 nv2 vc2) := cell_at HQ.out rfl
  go_wp2_with fail
  refine (eqViewS_same s.views _ _ _ (HW.out.below HB.out fun b o p hp => hp.below HB.out) (HW2.out.below HB.out fun b o p hp => hp.below HB.out) HZ.out.2.2).mono ?_
  rintro e w3 ⟨rfl, hb⟩
  replace HA : Hid (w3.heap[w.heap.size]? = some (.cells #[.slice wa nw wc, .slice ta nt tc, .slice va nv vc, .int .i64 s.now, .int .i64 s.keep] 61)) := at_below HA.out hb
  replace HQ : Hid (w3.heap[w.heap.size + 1]? = some (.cells #[.slice wa2 nw2 wc2, .slice ta2 nt2 tc2, .slice va2 nv2 vc2, .int .i64 s.now, .int .i64 s.keep] 61)) := at_below HQ.out hb
  replace HB : Hid (Below w.heap.size w w3) := bel_then HB.out hb
  clear hb a2 b2
  have a3 : w3.cell? ⟨w.heap.size, 3, none⟩ = some (.int .i64 s.now) := cell_at HA.out rfl
  have b3 : w3.cell? ⟨w.heap.size + 1, 3, none⟩ = some (.int .i64 s.now) := cell_at HQ.out rfl
  have a4 : w3.cell? ⟨w.heap.size, 4, none⟩ = some (.int .i64 s.keep) := cell_at HA.out rfl
  have b4 : w3.cell? ⟨w.heap.size + 1, 4, none⟩ = some (.int .i64 s.keep) := cell_at HQ.out rfl
  go_wp2
  go_ret
  exact ⟨rfl, HB.out⟩

end Go.Proofs.Ytfmgohoddaobmaa.Fw

/-
  The contracts of spec.l9Same and spec.StoreSame at every two views and stores.
-/
namespace Go.Proofs.Ytfmgohoddaobmaa.Fw
set_option maxRecDepth 100000
open Go.RowKit
set_option linter.unusedVariables false
set_option linter.unusedSimpArgs false
variable {D : Nat}

variable {n : Nat}
theorem runsI_at {w : World} {a : Option Addr} {m c : Nat} {l : Rn} (h : RunsI w (.slice a m c) l) (h0 : 0 < m) : ∃ b off, a = some ⟨b, off, none⟩ ∧ b < w.heap.size ∧ ∀ j, j < l.length → ∃ rv, w.cell? ⟨b, off + j, none⟩ = some rv ∧ ItemsAt w rv (l.getD j []) := by
  obtain ⟨-, a', c', e, hc⟩ := h
  injection e with e1 e2 e3
  subst e1 e2
  exact hc (List.length_pos_iff.1 h0)
set_option maxHeartbeats 4000000 in
theorem l9Same_any (x y : Vw D n) (vc vk vd vl vr vf vb vp vc2 vk2 vd2 vl2 vr2 vf2 vb2 vp2 : Value) (w : World) (h : VwV false w x vc vk vd vl vr vf vb vp) (h2 : VwV false w y vc2 vk2 vd2 vl2 vr2 vf2 vb2 vp2) (hl : x.sz ≤ 1048576) (hl2 : y.sz ≤ 1048576) :
    Calls Try.prog 34 #[.agg #[.int .i64 x.f.nd.p.nd.k, .int .i64 x.f.nd.p.nd.n, .int .i64 x.f.nd.p.nd.t.k, .bool x.f.nd.p.nd.t.no, .int .i64 x.f.nd.p.nd.t.l.k, .int .i64 x.f.nd.p.nd.t.l.a, .int .i64 x.f.nd.p.nd.t.l.b, .int .i64 x.f.nd.p.nd.t.l.n, .int .i64 x.f.nd.p.nd.t.r.k, .int .i64 x.f.nd.p.nd.t.r.a, .int .i64 x.f.nd.p.nd.t.r.b, .int .i64 x.f.nd.p.nd.t.r.n, vc, .int .i64 x.f.nd.p.nd.a, .int .i64 x.f.nd.p.nd.b, vk, .int .i64 x.f.nd.p.nd.g, .int .i64 x.f.nd.p.nd.c, vd, vl, vr, vf, .int .i64 x.since, vb, vp], .agg #[.int .i64 y.f.nd.p.nd.k, .int .i64 y.f.nd.p.nd.n, .int .i64 y.f.nd.p.nd.t.k, .bool y.f.nd.p.nd.t.no, .int .i64 y.f.nd.p.nd.t.l.k, .int .i64 y.f.nd.p.nd.t.l.a, .int .i64 y.f.nd.p.nd.t.l.b, .int .i64 y.f.nd.p.nd.t.l.n, .int .i64 y.f.nd.p.nd.t.r.k, .int .i64 y.f.nd.p.nd.t.r.a, .int .i64 y.f.nd.p.nd.t.r.b, .int .i64 y.f.nd.p.nd.t.r.n, vc2, .int .i64 y.f.nd.p.nd.a, .int .i64 y.f.nd.p.nd.b, vk2, .int .i64 y.f.nd.p.nd.g, .int .i64 y.f.nd.p.nd.c, vd2, vl2, vr2, vf2, .int .i64 y.since, vb2, vp2]] w fun e w' => (∃ c : Bool, e = .returned (.bool c) ∧ (c = true ↔ x = y)) ∧ Below w.heap.size w w' := by
  obtain ⟨⟨ca, nc, cc, rfl⟩, ⟨ka, nk, kc, rfl⟩, ⟨da, nd, dc, rfl⟩⟩ := planV_shapes h.1.1.1
  obtain ⟨la, nl, lc, rfl⟩ := h.1.1.2.1.shapeN
  obtain ⟨ra, nr, rc, rfl⟩ := h.1.1.2.2.1.shapeN
  obtain ⟨fa, nf, fc, rfl⟩ := h.1.1.2.2.2.shapeN
  obtain ⟨ba, nb, bc, rfl⟩ := RawItems.shapeN' h.2.1
  obtain ⟨pa, np, pc, rfl⟩ := h.2.2.shapeN
  obtain ⟨⟨ca2, nc2, cc2, rfl⟩, ⟨ka2, nk2, kc2, rfl⟩, ⟨da2, nd2, dc2, rfl⟩⟩ := planV_shapes h2.1.1.1
  obtain ⟨la2, nl2, lc2, rfl⟩ := h2.1.1.2.1.shapeN
  obtain ⟨ra2, nr2, rc2, rfl⟩ := h2.1.1.2.2.1.shapeN
  obtain ⟨fa2, nf2, fc2, rfl⟩ := h2.1.1.2.2.2.shapeN
  obtain ⟨ba2, nb2, bc2, rfl⟩ := RawItems.shapeN' h2.2.1
  obtain ⟨pa2, np2, pc2, rfl⟩ := h2.2.2.shapeN
  have HF : Hid (FlowV (n + 1) w x.f (.slice ca nc cc) (.slice ka nk kc) (.slice da nd dc) (.slice la nl lc) (.slice ra nr rc) (.slice fa nf fc)) := h.1.1
  have HI : Hid (RawItems w (.slice ba nb bc) x.base) := h.2.1
  have HP : Hid (KV 2 PaAt w (.slice pa np pc) x.pasts) := h.2.2
  have HF2 : Hid (FlowV (n + 1) w y.f (.slice ca2 nc2 cc2) (.slice ka2 nk2 kc2) (.slice da2 nd2 dc2) (.slice la2 nl2 lc2) (.slice ra2 nr2 rc2) (.slice fa2 nf2 fc2)) := h2.1.1
  have HI2 : Hid (RawItems w (.slice ba2 nb2 bc2) y.base) := h2.2.1
  have HP2 : Hid (KV 2 PaAt w (.slice pa2 np2 pc2) y.pasts) := h2.2.2
  have HZ : Hid (Fl.sz (n + 1) x.f ≤ 1048576 ∧ x.base.length + rowsLen x.base ≤ 1048576 ∧ x.pasts.length + sumOf Pa.sz x.pasts ≤ 1048576) := by
    have e : x.sz = Fl.sz (n + 1) x.f + (x.base.length + rowsLen x.base) + (x.pasts.length + sumOf Pa.sz x.pasts) := rfl
    show _ ∧ _
    omega
  have HZ2 : Hid (Fl.sz (n + 1) y.f ≤ 1048576 ∧ y.base.length + rowsLen y.base ≤ 1048576 ∧ y.pasts.length + sumOf Pa.sz y.pasts ≤ 1048576) := by
    have e : y.sz = Fl.sz (n + 1) y.f + (y.base.length + rowsLen y.base) + (y.pasts.length + sumOf Pa.sz y.pasts) := rfl
    show _ ∧ _
    omega
  have HN : Hid (np = x.pasts.length ∧ np2 = y.pasts.length) := ⟨h.2.2.at.1, h2.2.2.at.1⟩
  have hnp : np ≤ 1048576 := by rw [h.2.2.at.1]; have := HZ.out; omega
  have HSZ : Hid (∀ j (hj : j < x.pasts.length), Pa.sz x.pasts[j] ≤ 1048576) := fun j hj => by have h1 := sumOf_at (g := Pa.sz) hj; have h2 := HZ.out; omega
  have HSZ2 : Hid (∀ j (hj : j < y.pasts.length), Pa.sz y.pasts[j] ≤ 1048576) := fun j hj => by have h1 := sumOf_at (g := Pa.sz) hj; have h2 := HZ2.out; omega
  obtain ⟨c1, h1⟩ : ∃ c, Fl.same (n + 1) x.f y.f = c := ⟨_, rfl⟩
  obtain ⟨c2, h3⟩ : ∃ c, zsB x.base y.base = c := ⟨_, rfl⟩
  have H1 : Hid (Fl.same (n + 1) x.f y.f = c1) := h1
  have H2 : Hid (zsB x.base y.base = c2) := h3
  clear h h2 hl hl2 h1 h3
  obtain ⟨w0, hw0⟩ : ∃ w0, w0 = (w.alloc (.cells #[.int .i64 x.f.nd.p.nd.k, .int .i64 x.f.nd.p.nd.n, .int .i64 x.f.nd.p.nd.t.k, .bool x.f.nd.p.nd.t.no, .int .i64 x.f.nd.p.nd.t.l.k, .int .i64 x.f.nd.p.nd.t.l.a, .int .i64 x.f.nd.p.nd.t.l.b, .int .i64 x.f.nd.p.nd.t.l.n, .int .i64 x.f.nd.p.nd.t.r.k, .int .i64 x.f.nd.p.nd.t.r.a, .int .i64 x.f.nd.p.nd.t.r.b, .int .i64 x.f.nd.p.nd.t.r.n, .slice ca nc cc, .int .i64 x.f.nd.p.nd.a, .int .i64 x.f.nd.p.nd.b, .slice ka nk kc, .int .i64 x.f.nd.p.nd.g, .int .i64 x.f.nd.p.nd.c, .slice da nd dc, .slice la nl lc, .slice ra nr rc, .slice fa nf fc, .int .i64 x.since, .slice ba nb bc, .slice pa np pc] 85)).alloc (.cells #[.int .i64 y.f.nd.p.nd.k, .int .i64 y.f.nd.p.nd.n, .int .i64 y.f.nd.p.nd.t.k, .bool y.f.nd.p.nd.t.no, .int .i64 y.f.nd.p.nd.t.l.k, .int .i64 y.f.nd.p.nd.t.l.a, .int .i64 y.f.nd.p.nd.t.l.b, .int .i64 y.f.nd.p.nd.t.l.n, .int .i64 y.f.nd.p.nd.t.r.k, .int .i64 y.f.nd.p.nd.t.r.a, .int .i64 y.f.nd.p.nd.t.r.b, .int .i64 y.f.nd.p.nd.t.r.n, .slice ca2 nc2 cc2, .int .i64 y.f.nd.p.nd.a, .int .i64 y.f.nd.p.nd.b, .slice ka2 nk2 kc2, .int .i64 y.f.nd.p.nd.g, .int .i64 y.f.nd.p.nd.c, .slice da2 nd2 dc2, .slice la2 nl2 lc2, .slice ra2 nr2 rc2, .slice fa2 nf2 fc2, .int .i64 y.since, .slice ba2 nb2 bc2, .slice pa2 np2 pc2] 85) := ⟨_, rfl⟩
  have HA : Hid (w0.heap[w.heap.size]? = some (.cells #[.int .i64 x.f.nd.p.nd.k, .int .i64 x.f.nd.p.nd.n, .int .i64 x.f.nd.p.nd.t.k, .bool x.f.nd.p.nd.t.no, .int .i64 x.f.nd.p.nd.t.l.k, .int .i64 x.f.nd.p.nd.t.l.a, .int .i64 x.f.nd.p.nd.t.l.b, .int .i64 x.f.nd.p.nd.t.l.n, .int .i64 x.f.nd.p.nd.t.r.k, .int .i64 x.f.nd.p.nd.t.r.a, .int .i64 x.f.nd.p.nd.t.r.b, .int .i64 x.f.nd.p.nd.t.r.n, .slice ca nc cc, .int .i64 x.f.nd.p.nd.a, .int .i64 x.f.nd.p.nd.b, .slice ka nk kc, .int .i64 x.f.nd.p.nd.g, .int .i64 x.f.nd.p.nd.c, .slice da nd dc, .slice la nl lc, .slice ra nr rc, .slice fa nf fc, .int .i64 x.since, .slice ba nb bc, .slice pa np pc] 85)) := by show _ = _; rw [hw0]; exact (two w _ _).1
  have HQ : Hid (w0.heap[w.heap.size + 1]? = some (.cells #[.int .i64 y.f.nd.p.nd.k, .int .i64 y.f.nd.p.nd.n, .int .i64 y.f.nd.p.nd.t.k, .bool y.f.nd.p.nd.t.no, .int .i64 y.f.nd.p.nd.t.l.k, .int .i64 y.f.nd.p.nd.t.l.a, .int .i64 y.f.nd.p.nd.t.l.b, .int .i64 y.f.nd.p.nd.t.l.n, .int .i64 y.f.nd.p.nd.t.r.k, .int .i64 y.f.nd.p.nd.t.r.a, .int .i64 y.f.nd.p.nd.t.r.b, .int .i64 y.f.nd.p.nd.t.r.n, .slice ca2 nc2 cc2, .int .i64 y.f.nd.p.nd.a, .int .i64 y.f.nd.p.nd.b, .slice ka2 nk2 kc2, .int .i64 y.f.nd.p.nd.g, .int .i64 y.f.nd.p.nd.c, .slice da2 nd2 dc2, .slice la2 nl2 lc2, .slice ra2 nr2 rc2, .slice fa2 nf2 fc2, .int .i64 y.since, .slice ba2 nb2 bc2, .slice pa2 np2 pc2] 85)) := by show _ = _; rw [hw0]; exact (two w _ _).2.1
  have HB : Hid (Below w.heap.size w w0) := by show Below _ _ _; rw [hw0]; exact (two w _ _).2.2
  have HRA : Hid (w0.rangeAt (w.heap.size) 0 [.int .i64 x.f.nd.p.nd.k, .int .i64 x.f.nd.p.nd.n, .int .i64 x.f.nd.p.nd.t.k, .bool x.f.nd.p.nd.t.no, .int .i64 x.f.nd.p.nd.t.l.k, .int .i64 x.f.nd.p.nd.t.l.a, .int .i64 x.f.nd.p.nd.t.l.b, .int .i64 x.f.nd.p.nd.t.l.n, .int .i64 x.f.nd.p.nd.t.r.k, .int .i64 x.f.nd.p.nd.t.r.a, .int .i64 x.f.nd.p.nd.t.r.b, .int .i64 x.f.nd.p.nd.t.r.n, .slice ca nc cc, .int .i64 x.f.nd.p.nd.a, .int .i64 x.f.nd.p.nd.b, .slice ka nk kc, .int .i64 x.f.nd.p.nd.g, .int .i64 x.f.nd.p.nd.c, .slice da nd dc, .slice la nl lc, .slice ra nr rc, .slice fa nf fc]) := flow_range HA.out
  have HRB : Hid (w0.rangeAt (w.heap.size + 1) 0 [.int .i64 y.f.nd.p.nd.k, .int .i64 y.f.nd.p.nd.n, .int .i64 y.f.nd.p.nd.t.k, .bool y.f.nd.p.nd.t.no, .int .i64 y.f.nd.p.nd.t.l.k, .int .i64 y.f.nd.p.nd.t.l.a, .int .i64 y.f.nd.p.nd.t.l.b, .int .i64 y.f.nd.p.nd.t.l.n, .int .i64 y.f.nd.p.nd.t.r.k, .int .i64 y.f.nd.p.nd.t.r.a, .int .i64 y.f.nd.p.nd.t.r.b, .int .i64 y.f.nd.p.nd.t.r.n, .slice ca2 nc2 cc2, .int .i64 y.f.nd.p.nd.a, .int .i64 y.f.nd.p.nd.b, .slice ka2 nk2 kc2, .int .i64 y.f.nd.p.nd.g, .int .i64 y.f.nd.p.nd.c, .slice da2 nd2 dc2, .slice la2 nl2 lc2, .slice ra2 nr2 rc2, .slice fa2 nf2 fc2]) := flow_range HQ.out
  have hil : (Try.prog.info? 51).map (·.size) = some ([.int .i64 x.f.nd.p.nd.k, .int .i64 x.f.nd.p.nd.n, .int .i64 x.f.nd.p.nd.t.k, .bool x.f.nd.p.nd.t.no, .int .i64 x.f.nd.p.nd.t.l.k, .int .i64 x.f.nd.p.nd.t.l.a, .int .i64 x.f.nd.p.nd.t.l.b, .int .i64 x.f.nd.p.nd.t.l.n, .int .i64 x.f.nd.p.nd.t.r.k, .int .i64 x.f.nd.p.nd.t.r.a, .int .i64 x.f.nd.p.nd.t.r.b, .int .i64 x.f.nd.p.nd.t.r.n, .slice ca nc cc, .int .i64 x.f.nd.p.nd.a, .int .i64 x.f.nd.p.nd.b, .slice ka nk kc, .int .i64 x.f.nd.p.nd.g, .int .i64 x.f.nd.p.nd.c, .slice da nd dc, .slice la nl lc, .slice ra nr rc, .slice fa nf fc] : List Value).length := by kernel_rfl
  have hil2 : (Try.prog.info? 51).map (·.size) = some ([.int .i64 y.f.nd.p.nd.k, .int .i64 y.f.nd.p.nd.n, .int .i64 y.f.nd.p.nd.t.k, .bool y.f.nd.p.nd.t.no, .int .i64 y.f.nd.p.nd.t.l.k, .int .i64 y.f.nd.p.nd.t.l.a, .int .i64 y.f.nd.p.nd.t.l.b, .int .i64 y.f.nd.p.nd.t.l.n, .int .i64 y.f.nd.p.nd.t.r.k, .int .i64 y.f.nd.p.nd.t.r.a, .int .i64 y.f.nd.p.nd.t.r.b, .int .i64 y.f.nd.p.nd.t.r.n, .slice ca2 nc2 cc2, .int .i64 y.f.nd.p.nd.a, .int .i64 y.f.nd.p.nd.b, .slice ka2 nk2 kc2, .int .i64 y.f.nd.p.nd.g, .int .i64 y.f.nd.p.nd.c, .slice da2 nd2 dc2, .slice la2 nl2 lc2, .slice ra2 nr2 rc2, .slice fa2 nf2 fc2] : List Value).length := by kernel_rfl
  have hw0' := hw0.symm
  clear hw0
  have a22 : w0.cell? ⟨w.heap.size, 22, none⟩ = some (.int .i64 x.since) := cell_at HA.out rfl
  have b22 : w0.cell? ⟨w.heap.size + 1, 22, none⟩ = some (.int .i64 y.since) := cell_at HQ.out rfl
  by_cases hs : x.since = y.since
  case neg =>
    have hne : (x.since != y.since) = true := by simp [hs]
    have HSN : Hid (¬ x.since = y.since) := hs
    clear hs
    go_enter Try.func34, Try.ntmps34
    go_wp2
    go_ret
    refine ⟨⟨false, rfl, ?_⟩, HB.out⟩
    simp only [Bool.false_eq_true, false_iff]
    exact fun h => HSN.out (by rw [h])
  have hne : (x.since != y.since) = false := by simp [hs]
  have HSN : Hid (x.since = y.since) := hs
  clear hs
  go_enter Try.func34, Try.ntmps34
  go_wp2_with (first | (refine wpList_load_midG (by rfl) 51 _ rfl (w.heap.size) 0 rfl [.int .i64 x.f.nd.p.nd.k, .int .i64 x.f.nd.p.nd.n, .int .i64 x.f.nd.p.nd.t.k, .bool x.f.nd.p.nd.t.no, .int .i64 x.f.nd.p.nd.t.l.k, .int .i64 x.f.nd.p.nd.t.l.a, .int .i64 x.f.nd.p.nd.t.l.b, .int .i64 x.f.nd.p.nd.t.l.n, .int .i64 x.f.nd.p.nd.t.r.k, .int .i64 x.f.nd.p.nd.t.r.a, .int .i64 x.f.nd.p.nd.t.r.b, .int .i64 x.f.nd.p.nd.t.r.n, .slice ca nc cc, .int .i64 x.f.nd.p.nd.a, .int .i64 x.f.nd.p.nd.b, .slice ka nk kc, .int .i64 x.f.nd.p.nd.g, .int .i64 x.f.nd.p.nd.c, .slice da nd dc, .slice la nl lc, .slice ra nr rc, .slice fa nf fc] _ HRA.out Try.underlying51 rfl hil ?_) | (refine wpList_load_midG (by rfl) 51 _ rfl (w.heap.size + 1) 0 rfl [.int .i64 y.f.nd.p.nd.k, .int .i64 y.f.nd.p.nd.n, .int .i64 y.f.nd.p.nd.t.k, .bool y.f.nd.p.nd.t.no, .int .i64 y.f.nd.p.nd.t.l.k, .int .i64 y.f.nd.p.nd.t.l.a, .int .i64 y.f.nd.p.nd.t.l.b, .int .i64 y.f.nd.p.nd.t.l.n, .int .i64 y.f.nd.p.nd.t.r.k, .int .i64 y.f.nd.p.nd.t.r.a, .int .i64 y.f.nd.p.nd.t.r.b, .int .i64 y.f.nd.p.nd.t.r.n, .slice ca2 nc2 cc2, .int .i64 y.f.nd.p.nd.a, .int .i64 y.f.nd.p.nd.b, .slice ka2 nk2 kc2, .int .i64 y.f.nd.p.nd.g, .int .i64 y.f.nd.p.nd.c, .slice da2 nd2 dc2, .slice la2 nl2 lc2, .slice ra2 nr2 rc2, .slice fa2 nf2 fc2] _ HRB.out Try.underlying51 rfl hil2 ?_))
  clear hw0' hne
  refine (specFlow_any n x.f y.f _ _ _ _ _ _ _ _ _ _ _ _ _ (FlowV.below HF.out HB.out) (FlowV.below HF2.out HB.out) HZ.out.1 HZ2.out.1).mono ?_
  rw [H1.out]
  rintro e w1 ⟨rfl, hb⟩
  replace HA : Hid (w1.heap[w.heap.size]? = some (.cells #[.int .i64 x.f.nd.p.nd.k, .int .i64 x.f.nd.p.nd.n, .int .i64 x.f.nd.p.nd.t.k, .bool x.f.nd.p.nd.t.no, .int .i64 x.f.nd.p.nd.t.l.k, .int .i64 x.f.nd.p.nd.t.l.a, .int .i64 x.f.nd.p.nd.t.l.b, .int .i64 x.f.nd.p.nd.t.l.n, .int .i64 x.f.nd.p.nd.t.r.k, .int .i64 x.f.nd.p.nd.t.r.a, .int .i64 x.f.nd.p.nd.t.r.b, .int .i64 x.f.nd.p.nd.t.r.n, .slice ca nc cc, .int .i64 x.f.nd.p.nd.a, .int .i64 x.f.nd.p.nd.b, .slice ka nk kc, .int .i64 x.f.nd.p.nd.g, .int .i64 x.f.nd.p.nd.c, .slice da nd dc, .slice la nl lc, .slice ra nr rc, .slice fa nf fc, .int .i64 x.since, .slice ba nb bc, .slice pa np pc] 85)) := at_below HA.out hb
  replace HQ : Hid (w1.heap[w.heap.size + 1]? = some (.cells #[.int .i64 y.f.nd.p.nd.k, .int .i64 y.f.nd.p.nd.n, .int .i64 y.f.nd.p.nd.t.k, .bool y.f.nd.p.nd.t.no, .int .i64 y.f.nd.p.nd.t.l.k, .int .i64 y.f.nd.p.nd.t.l.a, .int .i64 y.f.nd.p.nd.t.l.b, .int .i64 y.f.nd.p.nd.t.l.n, .int .i64 y.f.nd.p.nd.t.r.k, .int .i64 y.f.nd.p.nd.t.r.a, .int .i64 y.f.nd.p.nd.t.r.b, .int .i64 y.f.nd.p.nd.t.r.n, .slice ca2 nc2 cc2, .int .i64 y.f.nd.p.nd.a, .int .i64 y.f.nd.p.nd.b, .slice ka2 nk2 kc2, .int .i64 y.f.nd.p.nd.g, .int .i64 y.f.nd.p.nd.c, .slice da2 nd2 dc2, .slice la2 nl2 lc2, .slice ra2 nr2 rc2, .slice fa2 nf2 fc2, .int .i64 y.since, .slice ba2 nb2 bc2, .slice pa2 np2 pc2] 85)) := at_below HQ.out hb
  replace HB : Hid (Below w.heap.size w w1) := bel_then HB.out hb
  clear hb HRA HRB hil hil2 a22 b22
  cases c1 with
  | false =>
    go_wp2
    go_ret
    refine ⟨⟨false, rfl, ?_⟩, HB.out⟩
    simp only [Bool.false_eq_true, false_iff]
    intro h
    have := H1.out
    rw [h, Fl.same_self] at this
    cases this
  | true =>
    have a23 : w1.cell? ⟨w.heap.size, 23, none⟩ = some (.slice ba nb bc) := cell_at HA.out rfl
    have b23 : w1.cell? ⟨w.heap.size + 1, 23, none⟩ = some (.slice ba2 nb2 bc2) := cell_at HQ.out rfl
    go_wp2_with fail
    refine (specZSame_any _ _ x.base y.base _ ((HI.out.below HB.out).items HZ.out.2.1) ((HI2.out.below HB.out).items HZ2.out.2.1)).mono ?_
    rw [H2.out]
    rintro e w2 ⟨rfl, hb⟩
    replace HA : Hid (w2.heap[w.heap.size]? = some (.cells #[.int .i64 x.f.nd.p.nd.k, .int .i64 x.f.nd.p.nd.n, .int .i64 x.f.nd.p.nd.t.k, .bool x.f.nd.p.nd.t.no, .int .i64 x.f.nd.p.nd.t.l.k, .int .i64 x.f.nd.p.nd.t.l.a, .int .i64 x.f.nd.p.nd.t.l.b, .int .i64 x.f.nd.p.nd.t.l.n, .int .i64 x.f.nd.p.nd.t.r.k, .int .i64 x.f.nd.p.nd.t.r.a, .int .i64 x.f.nd.p.nd.t.r.b, .int .i64 x.f.nd.p.nd.t.r.n, .slice ca nc cc, .int .i64 x.f.nd.p.nd.a, .int .i64 x.f.nd.p.nd.b, .slice ka nk kc, .int .i64 x.f.nd.p.nd.g, .int .i64 x.f.nd.p.nd.c, .slice da nd dc, .slice la nl lc, .slice ra nr rc, .slice fa nf fc, .int .i64 x.since, .slice ba nb bc, .slice pa np pc] 85)) := at_below HA.out hb
    replace HQ : Hid (w2.heap[w.heap.size + 1]? = some (.cells #[.int .i64 y.f.nd.p.nd.k, .int .i64 y.f.nd.p.nd.n, .int .i64 y.f.nd.p.nd.t.k, .bool y.f.nd.p.nd.t.no, .int .i64 y.f.nd.p.nd.t.l.k, .int .i64 y.f.nd.p.nd.t.l.a, .int .i64 y.f.nd.p.nd.t.l.b, .int .i64 y.f.nd.p.nd.t.l.n, .int .i64 y.f.nd.p.nd.t.r.k, .int .i64 y.f.nd.p.nd.t.r.a, .int .i64 y.f.nd.p.nd.t.r.b, .int .i64 y.f.nd.p.nd.t.r.n, .slice ca2 nc2 cc2, .int .i64 y.f.nd.p.nd.a, .int .i64 y.f.nd.p.nd.b, .slice ka2 nk2 kc2, .int .i64 y.f.nd.p.nd.g, .int .i64 y.f.nd.p.nd.c, .slice da2 nd2 dc2, .slice la2 nl2 lc2, .slice ra2 nr2 rc2, .slice fa2 nf2 fc2, .int .i64 y.since, .slice ba2 nb2 bc2, .slice pa2 np2 pc2] 85)) := at_below HQ.out hb
    replace HB : Hid (Below w.heap.size w w2) := bel_then HB.out hb
    clear hb a23 b23
    have a24 : w2.cell? ⟨w.heap.size, 24, none⟩ = some (.slice pa np pc) := cell_at HA.out rfl
    have b24 : w2.cell? ⟨w.heap.size + 1, 24, none⟩ = some (.slice pa2 np2 pc2) := cell_at HQ.out rfl
    cases c2 with
    | false =>
      go_wp2
      go_ret
      refine ⟨⟨false, rfl, ?_⟩, HB.out⟩
      simp only [Bool.false_eq_true, false_iff]
      intro h
      have := H2.out
      rw [h] at this
      simp [zsB] at this
    | true =>
      by_cases hl : np = np2
      case neg =>
        have hne : ((np : Int) != (np2 : Int)) = true := by simp; omega
        go_wp2
        go_ret
        refine ⟨⟨false, rfl, ?_⟩, HB.out⟩
        simp only [Bool.false_eq_true, false_iff]
        intro h
        have := HN.out
        rw [h] at this
        omega
      have hne : ((np : Int) != (np2 : Int)) = false := by simp; omega
      have HLL : Hid (np = np2) := hl
      clear hl
      go_wp2_with fail
      clear a24 b24 hne
      go_loopw [5] (fun i wr => ∃ k : Nat, k ≤ np ∧ i = .int .i64 k ∧ Hid (wr.heap[w.heap.size]? = some (.cells #[.int .i64 x.f.nd.p.nd.k, .int .i64 x.f.nd.p.nd.n, .int .i64 x.f.nd.p.nd.t.k, .bool x.f.nd.p.nd.t.no, .int .i64 x.f.nd.p.nd.t.l.k, .int .i64 x.f.nd.p.nd.t.l.a, .int .i64 x.f.nd.p.nd.t.l.b, .int .i64 x.f.nd.p.nd.t.l.n, .int .i64 x.f.nd.p.nd.t.r.k, .int .i64 x.f.nd.p.nd.t.r.a, .int .i64 x.f.nd.p.nd.t.r.b, .int .i64 x.f.nd.p.nd.t.r.n, .slice ca nc cc, .int .i64 x.f.nd.p.nd.a, .int .i64 x.f.nd.p.nd.b, .slice ka nk kc, .int .i64 x.f.nd.p.nd.g, .int .i64 x.f.nd.p.nd.c, .slice da nd dc, .slice la nl lc, .slice ra nr rc, .slice fa nf fc, .int .i64 x.since, .slice ba nb bc, .slice pa np pc] 85)) ∧ Hid (wr.heap[w.heap.size + 1]? = some (.cells #[.int .i64 y.f.nd.p.nd.k, .int .i64 y.f.nd.p.nd.n, .int .i64 y.f.nd.p.nd.t.k, .bool y.f.nd.p.nd.t.no, .int .i64 y.f.nd.p.nd.t.l.k, .int .i64 y.f.nd.p.nd.t.l.a, .int .i64 y.f.nd.p.nd.t.l.b, .int .i64 y.f.nd.p.nd.t.l.n, .int .i64 y.f.nd.p.nd.t.r.k, .int .i64 y.f.nd.p.nd.t.r.a, .int .i64 y.f.nd.p.nd.t.r.b, .int .i64 y.f.nd.p.nd.t.r.n, .slice ca2 nc2 cc2, .int .i64 y.f.nd.p.nd.a, .int .i64 y.f.nd.p.nd.b, .slice ka2 nk2 kc2, .int .i64 y.f.nd.p.nd.g, .int .i64 y.f.nd.p.nd.c, .slice da2 nd2 dc2, .slice la2 nl2 lc2, .slice ra2 nr2 rc2, .slice fa2 nf2 fc2, .int .i64 y.since, .slice ba2 nb2 bc2, .slice pa2 np2 pc2] 85)) ∧ Hid (Below w.heap.size w wr) ∧ Hid (∀ j (h1 : j < x.pasts.length) (h2 : j < y.pasts.length), j < k → x.pasts[j] = y.pasts[j])) (fun i _ => np - (intOf i).toNat)
      case atStart => exact ⟨0, Nat.zero_le _, rfl, HA.out, HQ.out, HB.out, fun j _ _ hj => by omega⟩
      case round =>
        clear HA HQ HB
        obtain ⟨k, hk, rfl, HA, HQ, HB, HS⟩ := hrel
        have a24 : wr.cell? ⟨w.heap.size, 24, none⟩ = some (.slice pa np pc) := cell_at HA.out rfl
        have b24 : wr.cell? ⟨w.heap.size + 1, 24, none⟩ = some (.slice pa2 np2 pc2) := cell_at HQ.out rfl
        by_cases hlt : k < np
        · have hkl : k < x.pasts.length := by have := HN.out; omega
          have hkl2 : k < y.pasts.length := by have := HN.out; have := HLL.out; omega
          have hlt2 : k < np2 := by have := HLL.out; omega
          obtain ⟨b, off, rfl, hbw, h4⟩ := HP.out.at.2 (by omega)
          obtain ⟨b2, off2, rfl, hbw2, h5⟩ := HP2.out.at.2 (by omega)
          obtain ⟨-, vo, hf, hp⟩ := (h4 k hkl).below HB.out
          obtain ⟨-, vo2, hf2, hp2⟩ := (h5 k hkl2).below HB.out
          have HPI : Hid (ItemsAt wr vo x.pasts[k].out) := hp.items (HSZ.out k hkl)
          have HPI2 : Hid (ItemsAt wr vo2 y.pasts[k].out) := hp2.items (HSZ2.out k hkl2)
          have HC : Hid (wr.cell? ⟨b, off + k * 2, none⟩ = some (.int .i64 x.pasts[k].tm) ∧ wr.cell? ⟨b, off + k * 2 + 1, none⟩ = some vo ∧ wr.cell? ⟨b2, off2 + k * 2, none⟩ = some (.int .i64 y.pasts[k].tm) ∧ wr.cell? ⟨b2, off2 + k * 2 + 1, none⟩ = some vo2) := ⟨hf 0 _ rfl, hf 1 _ rfl, hf2 0 _ rfl, hf2 1 _ rfl⟩
          have HS1 : Hid (b < wr.heap.size) := Nat.lt_of_lt_of_le hbw HB.out.size
          have HS2 : Hid (b2 < wr.heap.size) := Nat.lt_of_lt_of_le hbw2 HB.out.size
          obtain ⟨c, hcc⟩ : ∃ c, zsB x.pasts[k].out y.pasts[k].out = c := ⟨_, rfl⟩
          have HCC : Hid (zsB x.pasts[k].out y.pasts[k].out = c) := hcc
          clear hcc hp hf hp2 hf2 h4 h5
          by_cases ht : x.pasts[k].tm = y.pasts[k].tm
          case neg =>
            have hne : (x.pasts[k].tm != y.pasts[k].tm) = true := by simp [ht]
            have HTN : Hid (¬ x.pasts[k].tm = y.pasts[k].tm) := ht
            clear ht
            have HBD : Hid (∀ j, Below w.heap.size w (wr.drewN j)) := fun j => below_drewN HB.out j
            have HBE : Hid (Below w.heap.size w wr.drew) := Below.drew HB.out
            go_wp2_with fail
            refine wp_region_held_drew (S := (fun x_ => x_.cell? ⟨w.heap.size, 24, none⟩ = some (.slice (some ⟨b, off, none⟩) np pc) ∧ x_.cell? ⟨w.heap.size + 1, 24, none⟩ = some (.slice (some ⟨b2, off2, none⟩) np2 pc2) ∧ x_.cell? ⟨b, off + k * 2, none⟩ = some (.int .i64 x.pasts[k].tm) ∧ x_.cell? ⟨b, off + k * 2 + 1, none⟩ = some vo ∧ x_.cell? ⟨b2, off2 + k * 2, none⟩ = some (.int .i64 y.pasts[k].tm) ∧ x_.cell? ⟨b2, off2 + k * 2 + 1, none⟩ = some vo2)) (by kernel_rfl) ?_ (fun hHeld => ?_)
            · (try dsimp only); exact ⟨a24, b24, HC.out.1, HC.out.2.1, HC.out.2.2.1, HC.out.2.2.2⟩
            refine wpAnyH_take (i := 0) (v := ?_) rfl (by kernel_rfl) (by kernel_rfl) (by kernel_rfl) (fun _ _ _ h => h) (Or.inl ⟨by rfl, ?_⟩) (by assumption) ?_
            rotate_left 1
            · intro w hSw; (try dsimp only at hSw); go_simp; try with_reducible rfl
            simp only [Act.put, List.getElem_toArray, List.getElem_cons_succ, List.getElem_cons_zero, List.setIfInBounds_toArray, List.set_cons_zero, List.set_cons_succ]
            refine wpAnyH_take (i := 1) (v := ?_) rfl (by kernel_rfl) (by kernel_rfl) (by kernel_rfl) (fun _ _ _ h => h) (Or.inl ⟨by rfl, ?_⟩) (by assumption) ?_
            rotate_left 1
            · intro w hSw; (try dsimp only at hSw); go_simp; try with_reducible rfl
            simp only [Act.put, List.getElem_toArray, List.getElem_cons_succ, List.getElem_cons_zero, List.setIfInBounds_toArray, List.set_cons_zero, List.set_cons_succ]
            refine wpAnyH_take (i := 2) (v := ?_) rfl (by kernel_rfl) (by kernel_rfl) (by kernel_rfl) (fun _ _ _ h => h) (Or.inl ⟨by rfl, ?_⟩) (by assumption) ?_
            rotate_left 1
            · intro w hSw; (try dsimp only at hSw); go_simp; try with_reducible rfl
            simp only [Act.put, List.getElem_toArray, List.getElem_cons_succ, List.getElem_cons_zero, List.setIfInBounds_toArray, List.set_cons_zero, List.set_cons_succ]
            refine wpAnyH_take (i := 3) (v := ?_) rfl (by kernel_rfl) (by kernel_rfl) (by kernel_rfl) (fun _ _ _ h => h) (Or.inl ⟨by rfl, ?_⟩) (by assumption) ?_
            rotate_left 1
            · intro w hSw; (try dsimp only at hSw); go_simp; try with_reducible rfl
            simp only [Act.put, List.getElem_toArray, List.getElem_cons_succ, List.getElem_cons_zero, List.setIfInBounds_toArray, List.set_cons_zero, List.set_cons_succ]
            refine wpAnyH_take (i := 4) (v := ?_) rfl (by kernel_rfl) (by kernel_rfl) (by kernel_rfl) (fun _ _ _ h => h) (Or.inl ⟨by rfl, ?_⟩) (by assumption) ?_
            rotate_left 1
            · intro w hSw; (try dsimp only at hSw); go_simp; try with_reducible rfl
            simp only [Act.put, List.getElem_toArray, List.getElem_cons_succ, List.getElem_cons_zero, List.setIfInBounds_toArray, List.set_cons_zero, List.set_cons_succ]
            refine wpAnyH_take (i := 5) (v := ?_) rfl (by kernel_rfl) (by kernel_rfl) (by kernel_rfl) (fun _ _ _ h => h) (Or.inl ⟨by rfl, ?_⟩) (by assumption) ?_
            rotate_left 1
            · intro w hSw; (try dsimp only at hSw); go_simp; try with_reducible rfl
            simp only [Act.put, List.getElem_toArray, List.getElem_cons_succ, List.getElem_cons_zero, List.setIfInBounds_toArray, List.set_cons_zero, List.set_cons_succ]
            refine wpAnyH_take (i := 6) (v := ?_) rfl (by kernel_rfl) (by kernel_rfl) (by kernel_rfl) (fun _ _ _ h => h) (Or.inl ⟨by rfl, ?_⟩) (by assumption) ?_
            rotate_left 1
            · intro w hSw; (try dsimp only at hSw); go_simp; try with_reducible rfl
            simp only [Act.put, List.getElem_toArray, List.getElem_cons_succ, List.getElem_cons_zero, List.setIfInBounds_toArray, List.set_cons_zero, List.set_cons_succ]
            refine wpAnyH_take (i := 7) (v := ?_) rfl (by kernel_rfl) (by kernel_rfl) (by kernel_rfl) (fun _ _ _ h => h) (Or.inl ⟨by rfl, ?_⟩) (by assumption) ?_
            rotate_left 1
            · intro w hSw; (try dsimp only at hSw); go_simp; try with_reducible rfl
            simp only [Act.put, List.getElem_toArray, List.getElem_cons_succ, List.getElem_cons_zero, List.setIfInBounds_toArray, List.set_cons_zero, List.set_cons_succ]
            refine wpAnyH_take (i := 8) (v := ?_) rfl (by kernel_rfl) (by kernel_rfl) (by kernel_rfl) (fun _ _ _ h => h) (Or.inl ⟨by rfl, ?_⟩) (by assumption) ?_
            rotate_left 1
            · intro w hSw; (try dsimp only at hSw); go_simp; try with_reducible rfl
            simp only [Act.put, List.getElem_toArray, List.getElem_cons_succ, List.getElem_cons_zero, List.setIfInBounds_toArray, List.set_cons_zero, List.set_cons_succ]
            refine wpAnyH_take (i := 9) (v := ?_) rfl (by kernel_rfl) (by kernel_rfl) (by kernel_rfl) (fun _ _ _ h => h) (Or.inl ⟨by rfl, ?_⟩) (by assumption) ?_
            rotate_left 1
            · intro w hSw; (try dsimp only at hSw); go_simp; try with_reducible rfl
            simp only [Act.put, List.getElem_toArray, List.getElem_cons_succ, List.getElem_cons_zero, List.setIfInBounds_toArray, List.set_cons_zero, List.set_cons_succ]
            refine wpAnyH_take (i := 10) (v := ?_) rfl (by kernel_rfl) (by kernel_rfl) (by kernel_rfl) (fun _ _ _ h => h) (Or.inl ⟨by rfl, ?_⟩) (by assumption) ?_
            rotate_left 1
            · intro w hSw; (try dsimp only at hSw); go_simp; try with_reducible rfl
            simp only [Act.put, List.getElem_toArray, List.getElem_cons_succ, List.getElem_cons_zero, List.setIfInBounds_toArray, List.set_cons_zero, List.set_cons_succ]
            refine wpAnyH_take (i := 11) (v := ?_) rfl (by kernel_rfl) (by kernel_rfl) (by kernel_rfl) (fun _ _ _ h => h) (Or.inl ⟨by rfl, ?_⟩) (by assumption) ?_
            rotate_left 1
            · intro w hSw; (try dsimp only at hSw); go_simp; try with_reducible rfl
            simp only [Act.put, List.getElem_toArray, List.getElem_cons_succ, List.getElem_cons_zero, List.setIfInBounds_toArray, List.set_cons_zero, List.set_cons_succ]
            refine wpAnyH_take (i := 12) (v := ?_) rfl (by kernel_rfl) (by kernel_rfl) (by kernel_rfl) (fun _ _ _ h => h) (Or.inl ⟨by rfl, ?_⟩) (by assumption) ?_
            rotate_left 1
            · intro w hSw; (try dsimp only at hSw); go_simp; try with_reducible rfl
            simp only [Act.put, List.getElem_toArray, List.getElem_cons_succ, List.getElem_cons_zero, List.setIfInBounds_toArray, List.set_cons_zero, List.set_cons_succ]
            refine wpAnyH_take (i := 13) (v := ?_) rfl (by kernel_rfl) (by kernel_rfl) (by kernel_rfl) (fun _ _ _ h => h) (Or.inl ⟨by rfl, ?_⟩) (by assumption) ?_
            rotate_left 1
            · intro w hSw; (try dsimp only at hSw); go_simp; try with_reducible rfl
            simp only [Act.put, List.getElem_toArray, List.getElem_cons_succ, List.getElem_cons_zero, List.setIfInBounds_toArray, List.set_cons_zero, List.set_cons_succ]
            refine wpAnyH_take (i := 14) (v := undef) rfl (by kernel_rfl) (by kernel_rfl) (by kernel_rfl) (fun _ _ _ h => h) (Or.inr ⟨by rfl, rfl⟩) (by assumption) ?_
            simp only [Act.put, List.getElem_toArray, List.getElem_cons_succ, List.getElem_cons_zero, List.setIfInBounds_toArray, List.set_cons_zero, List.set_cons_succ]
            refine wpAnyH_take (i := 15) (v := undef) rfl (by kernel_rfl) (by kernel_rfl) (by kernel_rfl) (fun _ _ _ h => h) (Or.inr ⟨by rfl, rfl⟩) (by assumption) ?_
            simp only [Act.put, List.getElem_toArray, List.getElem_cons_succ, List.getElem_cons_zero, List.setIfInBounds_toArray, List.set_cons_zero, List.set_cons_succ]
            refine wpAnyH_take (i := 16) (v := undef) rfl (by kernel_rfl) (by kernel_rfl) (by kernel_rfl) (fun _ _ _ h => h) (Or.inr ⟨by rfl, rfl⟩) (by assumption) ?_
            simp only [Act.put, List.getElem_toArray, List.getElem_cons_succ, List.getElem_cons_zero, List.setIfInBounds_toArray, List.set_cons_zero, List.set_cons_succ]
            refine wpAnyH_take (i := 17) (v := undef) rfl (by kernel_rfl) (by kernel_rfl) (by kernel_rfl) (fun _ _ _ h => h) (Or.inr ⟨by rfl, rfl⟩) (by assumption) ?_
            simp only [Act.put, List.getElem_toArray, List.getElem_cons_succ, List.getElem_cons_zero, List.setIfInBounds_toArray, List.set_cons_zero, List.set_cons_succ]
            refine wpAnyH_take (i := 18) (v := undef) rfl (by kernel_rfl) (by kernel_rfl) (by kernel_rfl) (fun _ _ _ h => h) (Or.inr ⟨by rfl, rfl⟩) (by assumption) ?_
            simp only [Act.put, List.getElem_toArray, List.getElem_cons_succ, List.getElem_cons_zero, List.setIfInBounds_toArray, List.set_cons_zero, List.set_cons_succ]
            refine wpAnyH_take (i := 19) (v := undef) rfl (by kernel_rfl) (by kernel_rfl) (by kernel_rfl) (fun _ _ _ h => h) (Or.inr ⟨by rfl, rfl⟩) (by assumption) ?_
            simp only [Act.put, List.getElem_toArray, List.getElem_cons_succ, List.getElem_cons_zero, List.setIfInBounds_toArray, List.set_cons_zero, List.set_cons_succ]
            refine wpAnyH_take (i := 20) (v := undef) rfl (by kernel_rfl) (by kernel_rfl) (by kernel_rfl) (fun _ _ _ h => h) (Or.inr ⟨by rfl, rfl⟩) (by assumption) ?_
            simp only [Act.put, List.getElem_toArray, List.getElem_cons_succ, List.getElem_cons_zero, List.setIfInBounds_toArray, List.set_cons_zero, List.set_cons_succ]
            refine wpAnyH_take (i := 21) (v := undef) rfl (by kernel_rfl) (by kernel_rfl) (by kernel_rfl) (fun _ _ _ h => h) (Or.inr ⟨by rfl, rfl⟩) (by assumption) ?_
            simp only [Act.put, List.getElem_toArray, List.getElem_cons_succ, List.getElem_cons_zero, List.setIfInBounds_toArray, List.set_cons_zero, List.set_cons_succ]
            refine wpAnyH_take (i := 22) (v := undef) rfl (by kernel_rfl) (by kernel_rfl) (by kernel_rfl) (fun _ _ _ h => h) (Or.inr ⟨by rfl, rfl⟩) (by assumption) ?_
            simp only [Act.put, List.getElem_toArray, List.getElem_cons_succ, List.getElem_cons_zero, List.setIfInBounds_toArray, List.set_cons_zero, List.set_cons_succ]
            refine wpAnyH_take (i := 23) (v := undef) rfl (by kernel_rfl) (by kernel_rfl) (by kernel_rfl) (fun _ _ _ h => h) (Or.inr ⟨by rfl, rfl⟩) (by assumption) ?_
            simp only [Act.put, List.getElem_toArray, List.getElem_cons_succ, List.getElem_cons_zero, List.setIfInBounds_toArray, List.set_cons_zero, List.set_cons_succ]
            refine wpAnyH_take (i := 24) (v := undef) rfl (by kernel_rfl) (by kernel_rfl) (by kernel_rfl) (fun _ _ _ h => h) (Or.inr ⟨by rfl, rfl⟩) (by assumption) ?_
            simp only [Act.put, List.getElem_toArray, List.getElem_cons_succ, List.getElem_cons_zero, List.setIfInBounds_toArray, List.set_cons_zero, List.set_cons_succ]
            refine wpAnyH_take (i := 25) (v := undef) rfl (by kernel_rfl) (by kernel_rfl) (by kernel_rfl) (fun _ _ _ h => h) (Or.inr ⟨by rfl, rfl⟩) (by assumption) ?_
            simp only [Act.put, List.getElem_toArray, List.getElem_cons_succ, List.getElem_cons_zero, List.setIfInBounds_toArray, List.set_cons_zero, List.set_cons_succ]
            refine wpAnyH_take (i := 26) (v := undef) rfl (by kernel_rfl) (by kernel_rfl) (by kernel_rfl) (fun _ _ _ h => h) (Or.inr ⟨by rfl, rfl⟩) (by assumption) ?_
            simp only [Act.put, List.getElem_toArray, List.getElem_cons_succ, List.getElem_cons_zero, List.setIfInBounds_toArray, List.set_cons_zero, List.set_cons_succ]
            refine wpAnyH_take (i := 27) (v := undef) rfl (by kernel_rfl) (by kernel_rfl) (by kernel_rfl) (fun _ _ _ h => h) (Or.inr ⟨by rfl, rfl⟩) (by assumption) ?_
            simp only [Act.put, List.getElem_toArray, List.getElem_cons_succ, List.getElem_cons_zero, List.setIfInBounds_toArray, List.set_cons_zero, List.set_cons_succ]
            refine wpAnyH_take (i := 28) (v := ?_) rfl (by kernel_rfl) (by kernel_rfl) (by kernel_rfl) (fun _ _ _ h => h) (Or.inl ⟨by rfl, ?_⟩) (by assumption) ?_
            rotate_left 1
            · intro w hSw; (try dsimp only at hSw); go_simp; try with_reducible rfl
            simp only [Act.put, List.getElem_toArray, List.getElem_cons_succ, List.getElem_cons_zero, List.setIfInBounds_toArray, List.set_cons_zero, List.set_cons_succ]
            refine wpAnyH_done (by kernel_rfl) ?_ _
            go_wp2
            go_ret
            refine ⟨⟨false, rfl, ?_⟩, by first | exact HB.out | exact HBE.out | exact HBD.out _⟩
            simp only [Bool.false_eq_true, false_iff]
            intro h
            subst h
            exact HTN.out rfl
          have hne : (x.pasts[k].tm != y.pasts[k].tm) = false := by simp [ht]
          have HTN : Hid (x.pasts[k].tm = y.pasts[k].tm) := ht
          clear ht
          go_wp2_with fail
          refine wp_region_held_drew (S := (fun x_ => x_.cell? ⟨w.heap.size, 24, none⟩ = some (.slice (some ⟨b, off, none⟩) np pc) ∧ x_.cell? ⟨w.heap.size + 1, 24, none⟩ = some (.slice (some ⟨b2, off2, none⟩) np2 pc2) ∧ x_.cell? ⟨b, off + k * 2, none⟩ = some (.int .i64 x.pasts[k].tm) ∧ x_.cell? ⟨b, off + k * 2 + 1, none⟩ = some vo ∧ x_.cell? ⟨b2, off2 + k * 2, none⟩ = some (.int .i64 y.pasts[k].tm) ∧ x_.cell? ⟨b2, off2 + k * 2 + 1, none⟩ = some vo2)) (by kernel_rfl) ?_ (fun hHeld => ?_)
          · (try dsimp only); exact ⟨a24, b24, HC.out.1, HC.out.2.1, HC.out.2.2.1, HC.out.2.2.2⟩
          refine wpAnyH_take (i := 0) (v := ?_) rfl (by kernel_rfl) (by kernel_rfl) (by kernel_rfl) (fun _ _ _ h => h) (Or.inl ⟨by rfl, ?_⟩) (by assumption) ?_
          rotate_left 1
          · intro w hSw; (try dsimp only at hSw); go_simp; try with_reducible rfl
          simp only [Act.put, List.getElem_toArray, List.getElem_cons_succ, List.getElem_cons_zero, List.setIfInBounds_toArray, List.set_cons_zero, List.set_cons_succ]
          refine wpAnyH_take (i := 1) (v := ?_) rfl (by kernel_rfl) (by kernel_rfl) (by kernel_rfl) (fun _ _ _ h => h) (Or.inl ⟨by rfl, ?_⟩) (by assumption) ?_
          rotate_left 1
          · intro w hSw; (try dsimp only at hSw); go_simp; try with_reducible rfl
          simp only [Act.put, List.getElem_toArray, List.getElem_cons_succ, List.getElem_cons_zero, List.setIfInBounds_toArray, List.set_cons_zero, List.set_cons_succ]
          refine wpAnyH_take (i := 2) (v := ?_) rfl (by kernel_rfl) (by kernel_rfl) (by kernel_rfl) (fun _ _ _ h => h) (Or.inl ⟨by rfl, ?_⟩) (by assumption) ?_
          rotate_left 1
          · intro w hSw; (try dsimp only at hSw); go_simp; try with_reducible rfl
          simp only [Act.put, List.getElem_toArray, List.getElem_cons_succ, List.getElem_cons_zero, List.setIfInBounds_toArray, List.set_cons_zero, List.set_cons_succ]
          refine wpAnyH_take (i := 3) (v := ?_) rfl (by kernel_rfl) (by kernel_rfl) (by kernel_rfl) (fun _ _ _ h => h) (Or.inl ⟨by rfl, ?_⟩) (by assumption) ?_
          rotate_left 1
          · intro w hSw; (try dsimp only at hSw); go_simp; try with_reducible rfl
          simp only [Act.put, List.getElem_toArray, List.getElem_cons_succ, List.getElem_cons_zero, List.setIfInBounds_toArray, List.set_cons_zero, List.set_cons_succ]
          refine wpAnyH_take (i := 4) (v := ?_) rfl (by kernel_rfl) (by kernel_rfl) (by kernel_rfl) (fun _ _ _ h => h) (Or.inl ⟨by rfl, ?_⟩) (by assumption) ?_
          rotate_left 1
          · intro w hSw; (try dsimp only at hSw); go_simp; try with_reducible rfl
          simp only [Act.put, List.getElem_toArray, List.getElem_cons_succ, List.getElem_cons_zero, List.setIfInBounds_toArray, List.set_cons_zero, List.set_cons_succ]
          refine wpAnyH_take (i := 5) (v := ?_) rfl (by kernel_rfl) (by kernel_rfl) (by kernel_rfl) (fun _ _ _ h => h) (Or.inl ⟨by rfl, ?_⟩) (by assumption) ?_
          rotate_left 1
          · intro w hSw; (try dsimp only at hSw); go_simp; try with_reducible rfl
          simp only [Act.put, List.getElem_toArray, List.getElem_cons_succ, List.getElem_cons_zero, List.setIfInBounds_toArray, List.set_cons_zero, List.set_cons_succ]
          refine wpAnyH_take (i := 6) (v := ?_) rfl (by kernel_rfl) (by kernel_rfl) (by kernel_rfl) (fun _ _ _ h => h) (Or.inl ⟨by rfl, ?_⟩) (by assumption) ?_
          rotate_left 1
          · intro w hSw; (try dsimp only at hSw); go_simp; try with_reducible rfl
          simp only [Act.put, List.getElem_toArray, List.getElem_cons_succ, List.getElem_cons_zero, List.setIfInBounds_toArray, List.set_cons_zero, List.set_cons_succ]
          refine wpAnyH_take (i := 7) (v := ?_) rfl (by kernel_rfl) (by kernel_rfl) (by kernel_rfl) (fun _ _ _ h => h) (Or.inl ⟨by rfl, ?_⟩) (by assumption) ?_
          rotate_left 1
          · intro w hSw; (try dsimp only at hSw); go_simp; try with_reducible rfl
          simp only [Act.put, List.getElem_toArray, List.getElem_cons_succ, List.getElem_cons_zero, List.setIfInBounds_toArray, List.set_cons_zero, List.set_cons_succ]
          refine wpAnyH_take (i := 8) (v := ?_) rfl (by kernel_rfl) (by kernel_rfl) (by kernel_rfl) (fun _ _ _ h => h) (Or.inl ⟨by rfl, ?_⟩) (by assumption) ?_
          rotate_left 1
          · intro w hSw; (try dsimp only at hSw); go_simp; try with_reducible rfl
          simp only [Act.put, List.getElem_toArray, List.getElem_cons_succ, List.getElem_cons_zero, List.setIfInBounds_toArray, List.set_cons_zero, List.set_cons_succ]
          refine wpAnyH_take (i := 9) (v := ?_) rfl (by kernel_rfl) (by kernel_rfl) (by kernel_rfl) (fun _ _ _ h => h) (Or.inl ⟨by rfl, ?_⟩) (by assumption) ?_
          rotate_left 1
          · intro w hSw; (try dsimp only at hSw); go_simp; try with_reducible rfl
          simp only [Act.put, List.getElem_toArray, List.getElem_cons_succ, List.getElem_cons_zero, List.setIfInBounds_toArray, List.set_cons_zero, List.set_cons_succ]
          refine wpAnyH_take (i := 10) (v := ?_) rfl (by kernel_rfl) (by kernel_rfl) (by kernel_rfl) (fun _ _ _ h => h) (Or.inl ⟨by rfl, ?_⟩) (by assumption) ?_
          rotate_left 1
          · intro w hSw; (try dsimp only at hSw); go_simp; try with_reducible rfl
          simp only [Act.put, List.getElem_toArray, List.getElem_cons_succ, List.getElem_cons_zero, List.setIfInBounds_toArray, List.set_cons_zero, List.set_cons_succ]
          refine wpAnyH_take (i := 11) (v := ?_) rfl (by kernel_rfl) (by kernel_rfl) (by kernel_rfl) (fun _ _ _ h => h) (Or.inl ⟨by rfl, ?_⟩) (by assumption) ?_
          rotate_left 1
          · intro w hSw; (try dsimp only at hSw); go_simp; try with_reducible rfl
          simp only [Act.put, List.getElem_toArray, List.getElem_cons_succ, List.getElem_cons_zero, List.setIfInBounds_toArray, List.set_cons_zero, List.set_cons_succ]
          refine wpAnyH_take (i := 12) (v := ?_) rfl (by kernel_rfl) (by kernel_rfl) (by kernel_rfl) (fun _ _ _ h => h) (Or.inl ⟨by rfl, ?_⟩) (by assumption) ?_
          rotate_left 1
          · intro w hSw; (try dsimp only at hSw); go_simp; try with_reducible rfl
          simp only [Act.put, List.getElem_toArray, List.getElem_cons_succ, List.getElem_cons_zero, List.setIfInBounds_toArray, List.set_cons_zero, List.set_cons_succ]
          refine wpAnyH_take (i := 13) (v := ?_) rfl (by kernel_rfl) (by kernel_rfl) (by kernel_rfl) (fun _ _ _ h => h) (Or.inl ⟨by rfl, ?_⟩) (by assumption) ?_
          rotate_left 1
          · intro w hSw; (try dsimp only at hSw); go_simp; try with_reducible rfl
          simp only [Act.put, List.getElem_toArray, List.getElem_cons_succ, List.getElem_cons_zero, List.setIfInBounds_toArray, List.set_cons_zero, List.set_cons_succ]
          refine wpAnyH_take (i := 14) (v := ?_) rfl (by kernel_rfl) (by kernel_rfl) (by kernel_rfl) (fun _ _ _ h => h) (Or.inl ⟨by rfl, ?_⟩) (by assumption) ?_
          rotate_left 1
          · intro w hSw; (try dsimp only at hSw); go_simp; try with_reducible rfl
          simp only [Act.put, List.getElem_toArray, List.getElem_cons_succ, List.getElem_cons_zero, List.setIfInBounds_toArray, List.set_cons_zero, List.set_cons_succ]
          refine wpAnyH_take (i := 15) (v := ?_) rfl (by kernel_rfl) (by kernel_rfl) (by kernel_rfl) (fun _ _ _ h => h) (Or.inl ⟨by rfl, ?_⟩) (by assumption) ?_
          rotate_left 1
          · intro w hSw; (try dsimp only at hSw); go_simp; try with_reducible rfl
          simp only [Act.put, List.getElem_toArray, List.getElem_cons_succ, List.getElem_cons_zero, List.setIfInBounds_toArray, List.set_cons_zero, List.set_cons_succ]
          refine wpAnyH_take (i := 16) (v := ?_) rfl (by kernel_rfl) (by kernel_rfl) (by kernel_rfl) (fun _ _ _ h => h) (Or.inl ⟨by rfl, ?_⟩) (by assumption) ?_
          rotate_left 1
          · intro w hSw; (try dsimp only at hSw); go_simp; try with_reducible rfl
          simp only [Act.put, List.getElem_toArray, List.getElem_cons_succ, List.getElem_cons_zero, List.setIfInBounds_toArray, List.set_cons_zero, List.set_cons_succ]
          refine wpAnyH_take (i := 17) (v := ?_) rfl (by kernel_rfl) (by kernel_rfl) (by kernel_rfl) (fun _ _ _ h => h) (Or.inl ⟨by rfl, ?_⟩) (by assumption) ?_
          rotate_left 1
          · intro w hSw; (try dsimp only at hSw); go_simp; try with_reducible rfl
          simp only [Act.put, List.getElem_toArray, List.getElem_cons_succ, List.getElem_cons_zero, List.setIfInBounds_toArray, List.set_cons_zero, List.set_cons_succ]
          refine wpAnyH_take (i := 18) (v := ?_) rfl (by kernel_rfl) (by kernel_rfl) (by kernel_rfl) (fun _ _ _ h => h) (Or.inl ⟨by rfl, ?_⟩) (by assumption) ?_
          rotate_left 1
          · intro w hSw; (try dsimp only at hSw); go_simp; try with_reducible rfl
          simp only [Act.put, List.getElem_toArray, List.getElem_cons_succ, List.getElem_cons_zero, List.setIfInBounds_toArray, List.set_cons_zero, List.set_cons_succ]
          refine wpAnyH_take (i := 19) (v := ?_) rfl (by kernel_rfl) (by kernel_rfl) (by kernel_rfl) (fun _ _ _ h => h) (Or.inl ⟨by rfl, ?_⟩) (by assumption) ?_
          rotate_left 1
          · intro w hSw; (try dsimp only at hSw); go_simp; try with_reducible rfl
          simp only [Act.put, List.getElem_toArray, List.getElem_cons_succ, List.getElem_cons_zero, List.setIfInBounds_toArray, List.set_cons_zero, List.set_cons_succ]
          refine wpAnyH_take (i := 20) (v := ?_) rfl (by kernel_rfl) (by kernel_rfl) (by kernel_rfl) (fun _ _ _ h => h) (Or.inl ⟨by rfl, ?_⟩) (by assumption) ?_
          rotate_left 1
          · intro w hSw; (try dsimp only at hSw); go_simp; try with_reducible rfl
          simp only [Act.put, List.getElem_toArray, List.getElem_cons_succ, List.getElem_cons_zero, List.setIfInBounds_toArray, List.set_cons_zero, List.set_cons_succ]
          refine wpAnyH_take (i := 21) (v := ?_) rfl (by kernel_rfl) (by kernel_rfl) (by kernel_rfl) (fun _ _ _ h => h) (Or.inl ⟨by rfl, ?_⟩) (by assumption) ?_
          rotate_left 1
          · intro w hSw; (try dsimp only at hSw); go_simp; try with_reducible rfl
          simp only [Act.put, List.getElem_toArray, List.getElem_cons_succ, List.getElem_cons_zero, List.setIfInBounds_toArray, List.set_cons_zero, List.set_cons_succ]
          refine wpAnyH_take (i := 22) (v := ?_) rfl (by kernel_rfl) (by kernel_rfl) (by kernel_rfl) (fun _ _ _ h => h) (Or.inl ⟨by rfl, ?_⟩) (by assumption) ?_
          rotate_left 1
          · intro w hSw; (try dsimp only at hSw); go_simp; try with_reducible rfl
          simp only [Act.put, List.getElem_toArray, List.getElem_cons_succ, List.getElem_cons_zero, List.setIfInBounds_toArray, List.set_cons_zero, List.set_cons_succ]
          refine wpAnyH_take (i := 23) (v := ?_) rfl (by kernel_rfl) (by kernel_rfl) (by kernel_rfl) (fun _ _ _ h => h) (Or.inl ⟨by rfl, ?_⟩) (by assumption) ?_
          rotate_left 1
          · intro w hSw; (try dsimp only at hSw); go_simp; try with_reducible rfl
          simp only [Act.put, List.getElem_toArray, List.getElem_cons_succ, List.getElem_cons_zero, List.setIfInBounds_toArray, List.set_cons_zero, List.set_cons_succ]
          refine wpAnyH_take (i := 24) (v := ?_) rfl (by kernel_rfl) (by kernel_rfl) (by kernel_rfl) (fun _ _ _ h => h) (Or.inl ⟨by rfl, ?_⟩) (by assumption) ?_
          rotate_left 1
          · intro w hSw; (try dsimp only at hSw); go_simp; try with_reducible rfl
          simp only [Act.put, List.getElem_toArray, List.getElem_cons_succ, List.getElem_cons_zero, List.setIfInBounds_toArray, List.set_cons_zero, List.set_cons_succ]
          refine wpAnyH_take (i := 25) (v := ?_) rfl (by kernel_rfl) (by kernel_rfl) (by kernel_rfl) (fun _ _ _ h => h) (Or.inl ⟨by rfl, ?_⟩) (by assumption) ?_
          rotate_left 1
          · intro w hSw; (try dsimp only at hSw); go_simp; try with_reducible rfl
          simp only [Act.put, List.getElem_toArray, List.getElem_cons_succ, List.getElem_cons_zero, List.setIfInBounds_toArray, List.set_cons_zero, List.set_cons_succ]
          refine wpAnyH_ready (rs := [26]) (by kernel_rfl) (by simp) ?_
          refine AllReadyH.cons rfl (fun K hK => ?_) AllReadyH.nil
          go_simp
          (refine (specZSame_any _ _ x.pasts[k].out y.pasts[k].out _ (by first | exact HPI.out | exact HPI.out.below (Below.drew (Below.refl _ _))) (by first | exact HPI2.out | exact HPI2.out.below (Below.drew (Below.refl _ _)))).mono ?_; rw [HCC.out]; rintro e w5 ⟨rfl, hb2⟩; have hb : Below wr.heap.size wr w5 := (by first | exact hb2 | exact (Below.drew (Below.refl _ _)).trans hb2); have HA2 : Hid (w5.heap[w.heap.size]? = some (.cells #[.int .i64 x.f.nd.p.nd.k, .int .i64 x.f.nd.p.nd.n, .int .i64 x.f.nd.p.nd.t.k, .bool x.f.nd.p.nd.t.no, .int .i64 x.f.nd.p.nd.t.l.k, .int .i64 x.f.nd.p.nd.t.l.a, .int .i64 x.f.nd.p.nd.t.l.b, .int .i64 x.f.nd.p.nd.t.l.n, .int .i64 x.f.nd.p.nd.t.r.k, .int .i64 x.f.nd.p.nd.t.r.a, .int .i64 x.f.nd.p.nd.t.r.b, .int .i64 x.f.nd.p.nd.t.r.n, .slice ca nc cc, .int .i64 x.f.nd.p.nd.a, .int .i64 x.f.nd.p.nd.b, .slice ka nk kc, .int .i64 x.f.nd.p.nd.g, .int .i64 x.f.nd.p.nd.c, .slice da nd dc, .slice la nl lc, .slice ra nr rc, .slice fa nf fc, .int .i64 x.since, .slice ba nb bc, .slice (some ⟨b, off, none⟩) np pc] 85)) := at_below HA.out hb; have HQ2 : Hid (w5.heap[w.heap.size + 1]? = some (.cells #[.int .i64 y.f.nd.p.nd.k, .int .i64 y.f.nd.p.nd.n, .int .i64 y.f.nd.p.nd.t.k, .bool y.f.nd.p.nd.t.no, .int .i64 y.f.nd.p.nd.t.l.k, .int .i64 y.f.nd.p.nd.t.l.a, .int .i64 y.f.nd.p.nd.t.l.b, .int .i64 y.f.nd.p.nd.t.l.n, .int .i64 y.f.nd.p.nd.t.r.k, .int .i64 y.f.nd.p.nd.t.r.a, .int .i64 y.f.nd.p.nd.t.r.b, .int .i64 y.f.nd.p.nd.t.r.n, .slice ca2 nc2 cc2, .int .i64 y.f.nd.p.nd.a, .int .i64 y.f.nd.p.nd.b, .slice ka2 nk2 kc2, .int .i64 y.f.nd.p.nd.g, .int .i64 y.f.nd.p.nd.c, .slice da2 nd2 dc2, .slice la2 nl2 lc2, .slice ra2 nr2 rc2, .slice fa2 nf2 fc2, .int .i64 y.since, .slice ba2 nb2 bc2, .slice (some ⟨b2, off2, none⟩) np2 pc2] 85)) := at_below HQ.out hb; have HB2 : Hid (Below w.heap.size w w5) := bel_then HB.out hb; have Y2 : w5.cell? ⟨w.heap.size, 24, none⟩ = some (.slice (some ⟨b, off, none⟩) np pc) ∧ w5.cell? ⟨w.heap.size + 1, 24, none⟩ = some (.slice (some ⟨b2, off2, none⟩) np2 pc2) ∧ w5.cell? ⟨b, off + k * 2, none⟩ = some (.int .i64 x.pasts[k].tm) ∧ w5.cell? ⟨b, off + k * 2 + 1, none⟩ = some vo ∧ w5.cell? ⟨b2, off2 + k * 2, none⟩ = some (.int .i64 y.pasts[k].tm) ∧ w5.cell? ⟨b2, off2 + k * 2 + 1, none⟩ = some vo2 := ⟨cell_at HA2.out rfl, cell_at HQ2.out rfl, (hb.cell (p := ⟨b, off + k * 2, none⟩) HS1.out).trans HC.out.1, (hb.cell (p := ⟨b, off + k * 2 + 1, none⟩) HS1.out).trans HC.out.2.1, (hb.cell (p := ⟨b2, off2 + k * 2, none⟩) HS2.out).trans HC.out.2.2.1, (hb.cell (p := ⟨b2, off2 + k * 2 + 1, none⟩) HS2.out).trans HC.out.2.2.2⟩; clear hb hb2)
          refine hK.out _ _ ?_ (fun hHeld => ?_)
          · (try dsimp only); exact Y2
          clear hK K
          try simp only [Act.put, List.getElem_toArray, List.getElem_cons_succ, List.getElem_cons_zero, List.setIfInBounds_toArray, List.set_cons_zero, List.set_cons_succ]
          refine wpAnyH_take (i := 27) (v := ?_) rfl (by kernel_rfl) (by kernel_rfl) (by kernel_rfl) (fun _ _ _ h => h) (Or.inl ⟨by rfl, ?_⟩) (by assumption) ?_
          rotate_left 1
          · intro w hSw; (try dsimp only at hSw); go_simp; try with_reducible rfl
          simp only [Act.put, List.getElem_toArray, List.getElem_cons_succ, List.getElem_cons_zero, List.setIfInBounds_toArray, List.set_cons_zero, List.set_cons_succ]
          refine wpAnyH_take (i := 28) (v := ?_) rfl (by kernel_rfl) (by kernel_rfl) (by kernel_rfl) (fun _ _ _ h => h) (Or.inl ⟨by rfl, ?_⟩) (by assumption) ?_
          rotate_left 1
          · intro w hSw; (try dsimp only at hSw); go_simp; try with_reducible rfl
          simp only [Act.put, List.getElem_toArray, List.getElem_cons_succ, List.getElem_cons_zero, List.setIfInBounds_toArray, List.set_cons_zero, List.set_cons_succ]
          refine wpAnyH_done (by kernel_rfl) ?_ _
          clear a24 b24 HA HQ HB HC HPI HPI2
          cases c with
          | true =>
            have HKE : Hid (x.pasts[k] = y.pasts[k]) := Pa.ext' HTN.out (by have := HCC.out; simpa [zsB] using this)
            go_wp2
            go_roundw
            case rel => exact ⟨k + 1, by omega, by go_num, HA2.out, HQ2.out, HB2.out, fun j h1 h2 hj => by
              rcases Nat.lt_succ_iff_lt_or_eq.1 hj with h | h
              · exact HS.out j h1 h2 h
              · subst h; exact HKE.out⟩
            case measure => simp [intOf]; omega
          | false =>
            go_wp2
            go_ret
            refine ⟨⟨false, rfl, ?_⟩, HB2.out⟩
            simp only [Bool.false_eq_true, false_iff]
            intro h
            subst h
            have := HCC.out
            simp [zsB] at this
        · obtain rfl : np = k := by omega
          have HLE : Hid (x.pasts = y.pasts) := by
            have hn := HN.out
            have hl := HLL.out
            refine List.ext_getElem (by omega) fun j h1 h2 => HS.out j h1 h2 (by omega)
          go_wp2
          go_ret
          refine ⟨⟨true, rfl, ?_⟩, HB.out⟩
          simp only [true_iff]
          exact Vw.ext' ((Fl.same_iff _ _ _).1 H1.out) HSN.out (by have := H2.out; simpa [zsB] using this) HLE.out

set_option maxHeartbeats 4000000 in
theorem specStore_any (s t : St D n) (vw vt vv vw2 vt2 vv2 : Value) (w : World) (h : StV false w s vw vt vv) (h2 : StV false w t vw2 vt2 vv2) (hl : s.sz ≤ 1048576) (hl2 : t.sz ≤ 1048576) :
    Calls Try.prog 11 #[.agg #[vw, vt, vv, .int .i64 s.now, .int .i64 s.keep], .agg #[vw2, vt2, vv2, .int .i64 t.now, .int .i64 t.keep]] w fun e w' => (∃ c : Bool, e = .returned (.bool c) ∧ (c = true ↔ s = t)) ∧ Below w.heap.size w w' := by
  obtain ⟨wa, nw, wc, rfl⟩ := RawInts.shapeN' h.1
  obtain ⟨ta, nt, tc, rfl⟩ := h.2.1.shapeN
  obtain ⟨va, nv, vc, rfl⟩ := h.2.2.shapeN
  obtain ⟨wa2, nw2, wc2, rfl⟩ := RawInts.shapeN' h2.1
  obtain ⟨ta2, nt2, tc2, rfl⟩ := h2.2.1.shapeN
  obtain ⟨va2, nv2, vc2, rfl⟩ := h2.2.2.shapeN
  have HI : Hid (RawInts w (.slice wa nw wc) s.wides) := h.1
  have HT : Hid (RawRuns w (.slice ta nt tc) s.tables) := h.2.1
  have HW : Hid (KV 25 (VwAt false) w (.slice va nv vc) s.views) := h.2.2
  have HI2 : Hid (RawInts w (.slice wa2 nw2 wc2) t.wides) := h2.1
  have HT2 : Hid (RawRuns w (.slice ta2 nt2 tc2) t.tables) := h2.2.1
  have HW2 : Hid (KV 25 (VwAt false) w (.slice va2 nv2 vc2) t.views) := h2.2.2
  have HZ : Hid (s.wides.length ≤ 1048576 ∧ s.tables.length + runsLen s.tables ≤ 1048576 ∧ s.views.length + sumOf Vw.sz s.views ≤ 1048576) := by
    have e : s.sz = s.wides.length + (s.tables.length + runsLen s.tables) + (s.views.length + sumOf Vw.sz s.views) := rfl
    show _ ∧ _
    omega
  have HZ2 : Hid (t.wides.length ≤ 1048576 ∧ t.tables.length + runsLen t.tables ≤ 1048576 ∧ t.views.length + sumOf Vw.sz t.views ≤ 1048576) := by
    have e : t.sz = t.wides.length + (t.tables.length + runsLen t.tables) + (t.views.length + sumOf Vw.sz t.views) := rfl
    show _ ∧ _
    omega
  have HN : Hid (nt = s.tables.length ∧ nt2 = t.tables.length ∧ nv = s.views.length ∧ nv2 = t.views.length) := by
    obtain ⟨-, a, c, e, -⟩ := h.2.1
    obtain ⟨-, a', c', e', -⟩ := h2.2.1
    injection e with _ e1
    injection e' with _ e2
    exact ⟨e1, e2, h.2.2.at.1, h2.2.2.at.1⟩
  have hnt : nt ≤ 1048576 := by have := HN.out; have := HZ.out; omega
  have hnv : nv ≤ 1048576 := by have := HN.out; have := HZ.out; omega
  have HSZ : Hid (∀ j (hj : j < s.views.length), Vw.sz s.views[j] ≤ 1048576) := fun j hj => by have h1 := sumOf_at (g := Vw.sz) hj; have h2 := HZ.out; omega
  have HSZ2 : Hid (∀ j (hj : j < t.views.length), Vw.sz t.views[j] ≤ 1048576) := fun j hj => by have h1 := sumOf_at (g := Vw.sz) hj; have h2 := HZ2.out; omega
  have HR : Hid (RunsI w (.slice ta nt tc) s.tables) := h.2.1.runsI HZ.out.2.1
  have HR2 : Hid (RunsI w (.slice ta2 nt2 tc2) t.tables) := h2.2.1.runsI HZ2.out.2.1
  obtain ⟨c1, h1⟩ : ∃ c, sameB s.wides t.wides = c := ⟨_, rfl⟩
  have H1 : Hid (sameB s.wides t.wides = c1) := h1
  clear h h2 hl hl2 h1
  obtain ⟨w0, hw0⟩ : ∃ w0, w0 = (w.alloc (.cells #[.slice wa nw wc, .slice ta nt tc, .slice va nv vc, .int .i64 s.now, .int .i64 s.keep] 61)).alloc (.cells #[.slice wa2 nw2 wc2, .slice ta2 nt2 tc2, .slice va2 nv2 vc2, .int .i64 t.now, .int .i64 t.keep] 61) := ⟨_, rfl⟩
  have HA : Hid (w0.heap[w.heap.size]? = some (.cells #[.slice wa nw wc, .slice ta nt tc, .slice va nv vc, .int .i64 s.now, .int .i64 s.keep] 61)) := by show _ = _; rw [hw0]; exact (two w _ _).1
  have HQ : Hid (w0.heap[w.heap.size + 1]? = some (.cells #[.slice wa2 nw2 wc2, .slice ta2 nt2 tc2, .slice va2 nv2 vc2, .int .i64 t.now, .int .i64 t.keep] 61)) := by show _ = _; rw [hw0]; exact (two w _ _).2.1
  have HB : Hid (Below w.heap.size w w0) := by show Below _ _ _; rw [hw0]; exact (two w _ _).2.2
  have hw0' := hw0.symm
  clear hw0
  have a0 : w0.cell? ⟨w.heap.size, 0, none⟩ = some (.slice wa nw wc) := cell_at HA.out rfl
  have b0 : w0.cell? ⟨w.heap.size + 1, 0, none⟩ = some (.slice wa2 nw2 wc2) := cell_at HQ.out rfl
  go_enter Try.func11, Try.ntmps11
  go_wp2_with fail
  clear hw0'
  refine (l4Ints_any _ _ s.wides t.wides _ ((HI.out.below HB.out).ints (by have := HZ.out; omega)) ((HI2.out.below HB.out).ints (by have := HZ2.out; omega))).mono ?_
  rw [H1.out]
  rintro e w1 ⟨rfl, hb⟩
  replace HA : Hid (w1.heap[w.heap.size]? = some (.cells #[.slice wa nw wc, .slice ta nt tc, .slice va nv vc, .int .i64 s.now, .int .i64 s.keep] 61)) := at_below HA.out hb
  replace HQ : Hid (w1.heap[w.heap.size + 1]? = some (.cells #[.slice wa2 nw2 wc2, .slice ta2 nt2 tc2, .slice va2 nv2 vc2, .int .i64 t.now, .int .i64 t.keep] 61)) := at_below HQ.out hb
  replace HB : Hid (Below w.heap.size w w1) := bel_then HB.out hb
  clear hb a0 b0
  have a1 : w1.cell? ⟨w.heap.size, 1, none⟩ = some (.slice ta nt tc) := cell_at HA.out rfl
  have b1 : w1.cell? ⟨w.heap.size + 1, 1, none⟩ = some (.slice ta2 nt2 tc2) := cell_at HQ.out rfl
  have a2 : w1.cell? ⟨w.heap.size, 2, none⟩ = some (.slice va nv vc) := cell_at HA.out rfl
  have b2 : w1.cell? ⟨w.heap.size + 1, 2, none⟩ = some (.slice va2 nv2 vc2) := cell_at HQ.out rfl
  have a3 : w1.cell? ⟨w.heap.size, 3, none⟩ = some (.int .i64 s.now) := cell_at HA.out rfl
  have b3 : w1.cell? ⟨w.heap.size + 1, 3, none⟩ = some (.int .i64 t.now) := cell_at HQ.out rfl
  have a4 : w1.cell? ⟨w.heap.size, 4, none⟩ = some (.int .i64 s.keep) := cell_at HA.out rfl
  have b4 : w1.cell? ⟨w.heap.size + 1, 4, none⟩ = some (.int .i64 t.keep) := cell_at HQ.out rfl
  cases c1 with
  | false =>
    go_wp2
    go_ret
    refine ⟨⟨false, rfl, ?_⟩, HB.out⟩
    simp only [Bool.false_eq_true, false_iff]
    intro h
    have := H1.out
    rw [h] at this
    simp [sameB] at this
  | true =>
    by_cases g1 : nt = nt2
    case neg =>
      have hne : ((nt : Int) != (nt2 : Int)) = true := by simp; omega
      go_wp2
      go_ret
      refine ⟨⟨false, rfl, ?_⟩, HB.out⟩
      simp only [Bool.false_eq_true, false_iff]
      intro h
      have := HN.out
      rw [h] at this
      omega
    have hn1 : ((nt : Int) != (nt2 : Int)) = false := by simp; omega
    by_cases g2 : nv = nv2
    case neg =>
      have hne : ((nv : Int) != (nv2 : Int)) = true := by simp; omega
      go_wp2
      go_ret
      refine ⟨⟨false, rfl, ?_⟩, HB.out⟩
      simp only [Bool.false_eq_true, false_iff]
      intro h
      have := HN.out
      rw [h] at this
      omega
    have hn2 : ((nv : Int) != (nv2 : Int)) = false := by simp; omega
    have HG : Hid (nt = nt2 ∧ nv = nv2) := ⟨g1, g2⟩
    clear g1 g2
    by_cases g3 : s.now = t.now
    case neg =>
      have hne : (s.now != t.now) = true := by simp [g3]
      have HG3 : Hid (¬ s.now = t.now) := g3
      clear g3
      go_wp2
      go_ret
      refine ⟨⟨false, rfl, ?_⟩, HB.out⟩
      simp only [Bool.false_eq_true, false_iff]
      exact fun h => HG3.out (by rw [h])
    have hn3 : (s.now != t.now) = false := by simp [g3]
    have HG3 : Hid (s.now = t.now) := g3
    clear g3
    by_cases g4 : s.keep = t.keep
    case neg =>
      have hne : (s.keep != t.keep) = true := by simp [g4]
      have HG4 : Hid (¬ s.keep = t.keep) := g4
      clear g4
      go_wp2
      go_ret
      refine ⟨⟨false, rfl, ?_⟩, HB.out⟩
      simp only [Bool.false_eq_true, false_iff]
      exact fun h => HG4.out (by rw [h])
    have hn4 : (s.keep != t.keep) = false := by simp [g4]
    have HG4 : Hid (s.keep = t.keep) := g4
    clear g4
    go_wp2_with fail
    clear a1 b1 a2 b2 a3 b3 a4 b4 hn1 hn2 hn3 hn4
    go_loopw [5] (fun i wr => ∃ k : Nat, k ≤ nt ∧ i = .int .i64 k ∧ Hid (wr.heap[w.heap.size]? = some (.cells #[.slice wa nw wc, .slice ta nt tc, .slice va nv vc, .int .i64 s.now, .int .i64 s.keep] 61)) ∧ Hid (wr.heap[w.heap.size + 1]? = some (.cells #[.slice wa2 nw2 wc2, .slice ta2 nt2 tc2, .slice va2 nv2 vc2, .int .i64 t.now, .int .i64 t.keep] 61)) ∧ Hid (Below w.heap.size w wr) ∧ Hid (∀ j, j < k → s.tables.getD j [] = t.tables.getD j [])) (fun i _ => nt - (intOf i).toNat)
    case atStart => exact ⟨0, Nat.zero_le _, rfl, HA.out, HQ.out, HB.out, fun j hj => by omega⟩
    case round =>
      clear HA HQ HB
      obtain ⟨k, hk, rfl, HA, HQ, HB, HS⟩ := hrel
      have a1 : wr.cell? ⟨w.heap.size, 1, none⟩ = some (.slice ta nt tc) := cell_at HA.out rfl
      have b1 : wr.cell? ⟨w.heap.size + 1, 1, none⟩ = some (.slice ta2 nt2 tc2) := cell_at HQ.out rfl
      by_cases hlt : k < nt
      · have hkl : k < s.tables.length := by have := HN.out; omega
        have hkl2 : k < t.tables.length := by have := HN.out; have := HG.out; omega
        have hlt2 : k < nt2 := by have := HG.out; omega
        obtain ⟨b, off, rfl, hbw, h4⟩ := runsI_at HR.out (by omega)
        obtain ⟨b2, off2, rfl, hbw2, h5⟩ := runsI_at HR2.out (by omega)
        obtain ⟨rv, hf, hp⟩ := h4 k hkl
        obtain ⟨rv2, hf2, hp2⟩ := h5 k hkl2
        have HPI : Hid (ItemsAt wr rv (s.tables.getD k [])) := hp.below HB.out
        have HPI2 : Hid (ItemsAt wr rv2 (t.tables.getD k [])) := hp2.below HB.out
        have HC : Hid (wr.cell? ⟨b, off + k, none⟩ = some rv ∧ wr.cell? ⟨b2, off2 + k, none⟩ = some rv2) := ⟨(HB.out.cell (p := ⟨b, off + k, none⟩) hbw).trans hf, (HB.out.cell (p := ⟨b2, off2 + k, none⟩) hbw2).trans hf2⟩
        have HS1 : Hid (b < wr.heap.size) := Nat.lt_of_lt_of_le hbw HB.out.size
        have HS2 : Hid (b2 < wr.heap.size) := Nat.lt_of_lt_of_le hbw2 HB.out.size
        obtain ⟨c, hcc⟩ : ∃ c, zsB (s.tables.getD k []) (t.tables.getD k []) = c := ⟨_, rfl⟩
        have HCC : Hid (zsB (s.tables.getD k []) (t.tables.getD k []) = c) := hcc
        clear hcc hp hf hp2 hf2 h4 h5
        go_wp2_with fail
        refine wp_region_held_drew (S := (fun x_ => x_.cell? ⟨w.heap.size, 1, none⟩ = some (.slice (some ⟨b, off, none⟩) nt tc) ∧ x_.cell? ⟨w.heap.size + 1, 1, none⟩ = some (.slice (some ⟨b2, off2, none⟩) nt2 tc2) ∧ x_.cell? ⟨b, off + k, none⟩ = some rv ∧ x_.cell? ⟨b2, off2 + k, none⟩ = some rv2)) (by kernel_rfl) ?_ (fun hHeld => ?_)
        · (try dsimp only); exact ⟨a1, b1, HC.out.1, HC.out.2⟩
        refine wpAnyH_take (i := 0) (v := ?_) rfl (by kernel_rfl) (by kernel_rfl) (by kernel_rfl) (fun _ _ _ h => h) (Or.inl ⟨by rfl, ?_⟩) (by assumption) ?_
        rotate_left 1
        · intro w hSw; (try dsimp only at hSw); go_simp; try with_reducible rfl
        simp only [Act.put, List.getElem_toArray, List.getElem_cons_succ, List.getElem_cons_zero, List.setIfInBounds_toArray, List.set_cons_zero, List.set_cons_succ]
        refine wpAnyH_take (i := 1) (v := ?_) rfl (by kernel_rfl) (by kernel_rfl) (by kernel_rfl) (fun _ _ _ h => h) (Or.inl ⟨by rfl, ?_⟩) (by assumption) ?_
        rotate_left 1
        · intro w hSw; (try dsimp only at hSw); go_simp; try with_reducible rfl
        simp only [Act.put, List.getElem_toArray, List.getElem_cons_succ, List.getElem_cons_zero, List.setIfInBounds_toArray, List.set_cons_zero, List.set_cons_succ]
        refine wpAnyH_take (i := 2) (v := ?_) rfl (by kernel_rfl) (by kernel_rfl) (by kernel_rfl) (fun _ _ _ h => h) (Or.inl ⟨by rfl, ?_⟩) (by assumption) ?_
        rotate_left 1
        · intro w hSw; (try dsimp only at hSw); go_simp; try with_reducible rfl
        simp only [Act.put, List.getElem_toArray, List.getElem_cons_succ, List.getElem_cons_zero, List.setIfInBounds_toArray, List.set_cons_zero, List.set_cons_succ]
        refine wpAnyH_take (i := 3) (v := ?_) rfl (by kernel_rfl) (by kernel_rfl) (by kernel_rfl) (fun _ _ _ h => h) (Or.inl ⟨by rfl, ?_⟩) (by assumption) ?_
        rotate_left 1
        · intro w hSw; (try dsimp only at hSw); go_simp; try with_reducible rfl
        simp only [Act.put, List.getElem_toArray, List.getElem_cons_succ, List.getElem_cons_zero, List.setIfInBounds_toArray, List.set_cons_zero, List.set_cons_succ]
        refine wpAnyH_take (i := 4) (v := ?_) rfl (by kernel_rfl) (by kernel_rfl) (by kernel_rfl) (fun _ _ _ h => h) (Or.inl ⟨by rfl, ?_⟩) (by assumption) ?_
        rotate_left 1
        · intro w hSw; (try dsimp only at hSw); go_simp; try with_reducible rfl
        simp only [Act.put, List.getElem_toArray, List.getElem_cons_succ, List.getElem_cons_zero, List.setIfInBounds_toArray, List.set_cons_zero, List.set_cons_succ]
        refine wpAnyH_take (i := 5) (v := ?_) rfl (by kernel_rfl) (by kernel_rfl) (by kernel_rfl) (fun _ _ _ h => h) (Or.inl ⟨by rfl, ?_⟩) (by assumption) ?_
        rotate_left 1
        · intro w hSw; (try dsimp only at hSw); go_simp; try with_reducible rfl
        simp only [Act.put, List.getElem_toArray, List.getElem_cons_succ, List.getElem_cons_zero, List.setIfInBounds_toArray, List.set_cons_zero, List.set_cons_succ]
        refine wpAnyH_take (i := 6) (v := ?_) rfl (by kernel_rfl) (by kernel_rfl) (by kernel_rfl) (fun _ _ _ h => h) (Or.inl ⟨by rfl, ?_⟩) (by assumption) ?_
        rotate_left 1
        · intro w hSw; (try dsimp only at hSw); go_simp; try with_reducible rfl
        simp only [Act.put, List.getElem_toArray, List.getElem_cons_succ, List.getElem_cons_zero, List.setIfInBounds_toArray, List.set_cons_zero, List.set_cons_succ]
        refine wpAnyH_take (i := 7) (v := ?_) rfl (by kernel_rfl) (by kernel_rfl) (by kernel_rfl) (fun _ _ _ h => h) (Or.inl ⟨by rfl, ?_⟩) (by assumption) ?_
        rotate_left 1
        · intro w hSw; (try dsimp only at hSw); go_simp; try with_reducible rfl
        simp only [Act.put, List.getElem_toArray, List.getElem_cons_succ, List.getElem_cons_zero, List.setIfInBounds_toArray, List.set_cons_zero, List.set_cons_succ]
        refine wpAnyH_take (i := 8) (v := ?_) rfl (by kernel_rfl) (by kernel_rfl) (by kernel_rfl) (fun _ _ _ h => h) (Or.inl ⟨by rfl, ?_⟩) (by assumption) ?_
        rotate_left 1
        · intro w hSw; (try dsimp only at hSw); go_simp; try with_reducible rfl
        simp only [Act.put, List.getElem_toArray, List.getElem_cons_succ, List.getElem_cons_zero, List.setIfInBounds_toArray, List.set_cons_zero, List.set_cons_succ]
        refine wpAnyH_take (i := 9) (v := ?_) rfl (by kernel_rfl) (by kernel_rfl) (by kernel_rfl) (fun _ _ _ h => h) (Or.inl ⟨by rfl, ?_⟩) (by assumption) ?_
        rotate_left 1
        · intro w hSw; (try dsimp only at hSw); go_simp; try with_reducible rfl
        simp only [Act.put, List.getElem_toArray, List.getElem_cons_succ, List.getElem_cons_zero, List.setIfInBounds_toArray, List.set_cons_zero, List.set_cons_succ]
        refine wpAnyH_ready (rs := [10]) (by kernel_rfl) (by simp) ?_
        refine AllReadyH.cons rfl (fun K hK => ?_) AllReadyH.nil
        go_simp
        (refine (specZSame_any _ _ (s.tables.getD k []) (t.tables.getD k []) _ (by first | exact HPI.out | exact HPI.out.below (Below.drew (Below.refl _ _))) (by first | exact HPI2.out | exact HPI2.out.below (Below.drew (Below.refl _ _)))).mono ?_; rw [HCC.out]; rintro e w5 ⟨rfl, hb2⟩; have hb : Below wr.heap.size wr w5 := (by first | exact hb2 | exact (Below.drew (Below.refl _ _)).trans hb2); have HA2 : Hid (w5.heap[w.heap.size]? = some (.cells #[.slice wa nw wc, .slice (some ⟨b, off, none⟩) nt tc, .slice va nv vc, .int .i64 s.now, .int .i64 s.keep] 61)) := at_below HA.out hb; have HQ2 : Hid (w5.heap[w.heap.size + 1]? = some (.cells #[.slice wa2 nw2 wc2, .slice (some ⟨b2, off2, none⟩) nt2 tc2, .slice va2 nv2 vc2, .int .i64 t.now, .int .i64 t.keep] 61)) := at_below HQ.out hb; have HB2 : Hid (Below w.heap.size w w5) := bel_then HB.out hb; have Y2 : w5.cell? ⟨w.heap.size, 1, none⟩ = some (.slice (some ⟨b, off, none⟩) nt tc) ∧ w5.cell? ⟨w.heap.size + 1, 1, none⟩ = some (.slice (some ⟨b2, off2, none⟩) nt2 tc2) ∧ w5.cell? ⟨b, off + k, none⟩ = some rv ∧ w5.cell? ⟨b2, off2 + k, none⟩ = some rv2 := ⟨cell_at HA2.out rfl, cell_at HQ2.out rfl, (hb.cell (p := ⟨b, off + k, none⟩) HS1.out).trans HC.out.1, (hb.cell (p := ⟨b2, off2 + k, none⟩) HS2.out).trans HC.out.2⟩; clear hb hb2)
        refine hK.out _ _ ?_ (fun hHeld => ?_)
        · (try dsimp only); exact Y2
        clear hK K
        try simp only [Act.put, List.getElem_toArray, List.getElem_cons_succ, List.getElem_cons_zero, List.setIfInBounds_toArray, List.set_cons_zero, List.set_cons_succ]
        refine wpAnyH_take (i := 11) (v := ?_) rfl (by kernel_rfl) (by kernel_rfl) (by kernel_rfl) (fun _ _ _ h => h) (Or.inl ⟨by rfl, ?_⟩) (by assumption) ?_
        rotate_left 1
        · intro w hSw; (try dsimp only at hSw); go_simp; try with_reducible rfl
        simp only [Act.put, List.getElem_toArray, List.getElem_cons_succ, List.getElem_cons_zero, List.setIfInBounds_toArray, List.set_cons_zero, List.set_cons_succ]
        refine wpAnyH_done (by kernel_rfl) ?_ _
        clear a1 b1 HA HQ HB HC HPI HPI2
        cases c with
        | true =>
          have HKE : Hid (s.tables.getD k [] = t.tables.getD k []) := zsB_true HCC.out
          go_wp2
          go_roundw
          case rel => exact ⟨k + 1, by omega, by go_num, HA2.out, HQ2.out, HB2.out, fun j hj => by
            rcases Nat.lt_succ_iff_lt_or_eq.1 hj with h | h
            · exact HS.out j h
            · subst h; exact HKE.out⟩
          case measure => simp [intOf]; omega
        | false =>
          go_wp2
          go_ret
          refine ⟨⟨false, rfl, ?_⟩, HB2.out⟩
          simp only [Bool.false_eq_true, false_iff]
          intro h
          subst h
          exact zsB_false HCC.out rfl
      · obtain rfl : nt = k := by omega
        have HTE : Hid (s.tables = t.tables) := by
          have hn := HN.out
          have hg := HG.out
          have := rsB_of s.tables t.tables (by omega) (by have := hn.1; rw [← this]; exact HS.out)
          show s.tables = t.tables
          simpa [rsB] using this
        go_wp2_with fail
        clear a1 b1
        go_loopw [6] (fun i wr => ∃ k : Nat, k ≤ nv ∧ i = .int .i64 k ∧ Hid (wr.heap[w.heap.size]? = some (.cells #[.slice wa nw wc, .slice ta nt tc, .slice va nv vc, .int .i64 s.now, .int .i64 s.keep] 61)) ∧ Hid (wr.heap[w.heap.size + 1]? = some (.cells #[.slice wa2 nw2 wc2, .slice ta2 nt2 tc2, .slice va2 nv2 vc2, .int .i64 t.now, .int .i64 t.keep] 61)) ∧ Hid (Below w.heap.size w wr) ∧ Hid (∀ j (h1 : j < s.views.length) (h2 : j < t.views.length), j < k → s.views[j] = t.views[j])) (fun i _ => nv - (intOf i).toNat)
        case atStart => exact ⟨0, Nat.zero_le _, rfl, HA.out, HQ.out, HB.out, fun j _ _ hj => by omega⟩
        case round =>
          clear HA HQ HB HS
          obtain ⟨k, hk, rfl, HA, HQ, HB, HS⟩ := hrel
          have a2 : wr.cell? ⟨w.heap.size, 2, none⟩ = some (.slice va nv vc) := cell_at HA.out rfl
          have b2' : wr.cell? ⟨w.heap.size + 1, 2, none⟩ = some (.slice va2 nv2 vc2) := cell_at HQ.out rfl
          by_cases hlt : k < nv
          · have hkl : k < s.views.length := by have := HN.out; omega
            have hkl2 : k < t.views.length := by have := HN.out; have := HG.out; omega
            have hlt2 : k < nv2 := by have := HG.out; omega
            obtain ⟨b, off, rfl, hbw, h4⟩ := HW.out.at.2 (by omega)
            obtain ⟨b2, off2, rfl, hbw2, h5⟩ := HW2.out.at.2 (by omega)
            obtain ⟨-, uc, uk, ud, ul, ur, uf, ub, up, hf, hp⟩ := (h4 k hkl).below HB.out
            obtain ⟨-, uc2, uk2, ud2, ul2, ur2, uf2, ub2, up2, hf2, hp2⟩ := (h5 k hkl2).below HB.out
            obtain ⟨qq, hq⟩ : ∃ q, k * 25 = q := ⟨_, rfl⟩
            rw [hq] at hf hf2
            have HRK : Hid (wr.rangeAt b (off + qq) ([.int .i64 s.views[k].f.nd.p.nd.k, .int .i64 s.views[k].f.nd.p.nd.n, .int .i64 s.views[k].f.nd.p.nd.t.k, .bool s.views[k].f.nd.p.nd.t.no, .int .i64 s.views[k].f.nd.p.nd.t.l.k, .int .i64 s.views[k].f.nd.p.nd.t.l.a, .int .i64 s.views[k].f.nd.p.nd.t.l.b, .int .i64 s.views[k].f.nd.p.nd.t.l.n, .int .i64 s.views[k].f.nd.p.nd.t.r.k, .int .i64 s.views[k].f.nd.p.nd.t.r.a, .int .i64 s.views[k].f.nd.p.nd.t.r.b, .int .i64 s.views[k].f.nd.p.nd.t.r.n, uc, .int .i64 s.views[k].f.nd.p.nd.a, .int .i64 s.views[k].f.nd.p.nd.b, uk, .int .i64 s.views[k].f.nd.p.nd.g, .int .i64 s.views[k].f.nd.p.nd.c, ud, ul, ur, uf, .int .i64 s.views[k].since, ub, up] : List Value)) := hf
            have HRK2 : Hid (wr.rangeAt b2 (off2 + qq) ([.int .i64 t.views[k].f.nd.p.nd.k, .int .i64 t.views[k].f.nd.p.nd.n, .int .i64 t.views[k].f.nd.p.nd.t.k, .bool t.views[k].f.nd.p.nd.t.no, .int .i64 t.views[k].f.nd.p.nd.t.l.k, .int .i64 t.views[k].f.nd.p.nd.t.l.a, .int .i64 t.views[k].f.nd.p.nd.t.l.b, .int .i64 t.views[k].f.nd.p.nd.t.l.n, .int .i64 t.views[k].f.nd.p.nd.t.r.k, .int .i64 t.views[k].f.nd.p.nd.t.r.a, .int .i64 t.views[k].f.nd.p.nd.t.r.b, .int .i64 t.views[k].f.nd.p.nd.t.r.n, uc2, .int .i64 t.views[k].f.nd.p.nd.a, .int .i64 t.views[k].f.nd.p.nd.b, uk2, .int .i64 t.views[k].f.nd.p.nd.g, .int .i64 t.views[k].f.nd.p.nd.c, ud2, ul2, ur2, uf2, .int .i64 t.views[k].since, ub2, up2] : List Value)) := hf2
            have hik : (Try.prog.info? 85).map (·.size) = some ([.int .i64 s.views[k].f.nd.p.nd.k, .int .i64 s.views[k].f.nd.p.nd.n, .int .i64 s.views[k].f.nd.p.nd.t.k, .bool s.views[k].f.nd.p.nd.t.no, .int .i64 s.views[k].f.nd.p.nd.t.l.k, .int .i64 s.views[k].f.nd.p.nd.t.l.a, .int .i64 s.views[k].f.nd.p.nd.t.l.b, .int .i64 s.views[k].f.nd.p.nd.t.l.n, .int .i64 s.views[k].f.nd.p.nd.t.r.k, .int .i64 s.views[k].f.nd.p.nd.t.r.a, .int .i64 s.views[k].f.nd.p.nd.t.r.b, .int .i64 s.views[k].f.nd.p.nd.t.r.n, uc, .int .i64 s.views[k].f.nd.p.nd.a, .int .i64 s.views[k].f.nd.p.nd.b, uk, .int .i64 s.views[k].f.nd.p.nd.g, .int .i64 s.views[k].f.nd.p.nd.c, ud, ul, ur, uf, .int .i64 s.views[k].since, ub, up] : List Value).length := by kernel_rfl
            have hik2 : (Try.prog.info? 85).map (·.size) = some ([.int .i64 t.views[k].f.nd.p.nd.k, .int .i64 t.views[k].f.nd.p.nd.n, .int .i64 t.views[k].f.nd.p.nd.t.k, .bool t.views[k].f.nd.p.nd.t.no, .int .i64 t.views[k].f.nd.p.nd.t.l.k, .int .i64 t.views[k].f.nd.p.nd.t.l.a, .int .i64 t.views[k].f.nd.p.nd.t.l.b, .int .i64 t.views[k].f.nd.p.nd.t.l.n, .int .i64 t.views[k].f.nd.p.nd.t.r.k, .int .i64 t.views[k].f.nd.p.nd.t.r.a, .int .i64 t.views[k].f.nd.p.nd.t.r.b, .int .i64 t.views[k].f.nd.p.nd.t.r.n, uc2, .int .i64 t.views[k].f.nd.p.nd.a, .int .i64 t.views[k].f.nd.p.nd.b, uk2, .int .i64 t.views[k].f.nd.p.nd.g, .int .i64 t.views[k].f.nd.p.nd.c, ud2, ul2, ur2, uf2, .int .i64 t.views[k].since, ub2, up2] : List Value).length := by kernel_rfl
            have HPV : Hid (VwV false wr s.views[k] uc uk ud ul ur uf ub up) := hp
            have HPV2 : Hid (VwV false wr t.views[k] uc2 uk2 ud2 ul2 ur2 uf2 ub2 up2) := hp2
            have HS1 : Hid (b < wr.heap.size) := Nat.lt_of_lt_of_le hbw HB.out.size
            have HS2 : Hid (b2 < wr.heap.size) := Nat.lt_of_lt_of_le hbw2 HB.out.size
            clear hp hf hp2 hf2 h4 h5
            go_wp2_with fail
            refine wp_region_held_drew (S := (fun x_ => x_.cell? ⟨w.heap.size, 2, none⟩ = some (.slice (some ⟨b, off, none⟩) nv vc) ∧ x_.cell? ⟨w.heap.size + 1, 2, none⟩ = some (.slice (some ⟨b2, off2, none⟩) nv2 vc2) ∧ x_.rangeAt b (off + qq) ([.int .i64 s.views[k].f.nd.p.nd.k, .int .i64 s.views[k].f.nd.p.nd.n, .int .i64 s.views[k].f.nd.p.nd.t.k, .bool s.views[k].f.nd.p.nd.t.no, .int .i64 s.views[k].f.nd.p.nd.t.l.k, .int .i64 s.views[k].f.nd.p.nd.t.l.a, .int .i64 s.views[k].f.nd.p.nd.t.l.b, .int .i64 s.views[k].f.nd.p.nd.t.l.n, .int .i64 s.views[k].f.nd.p.nd.t.r.k, .int .i64 s.views[k].f.nd.p.nd.t.r.a, .int .i64 s.views[k].f.nd.p.nd.t.r.b, .int .i64 s.views[k].f.nd.p.nd.t.r.n, uc, .int .i64 s.views[k].f.nd.p.nd.a, .int .i64 s.views[k].f.nd.p.nd.b, uk, .int .i64 s.views[k].f.nd.p.nd.g, .int .i64 s.views[k].f.nd.p.nd.c, ud, ul, ur, uf, .int .i64 s.views[k].since, ub, up] : List Value) ∧ x_.rangeAt b2 (off2 + qq) ([.int .i64 t.views[k].f.nd.p.nd.k, .int .i64 t.views[k].f.nd.p.nd.n, .int .i64 t.views[k].f.nd.p.nd.t.k, .bool t.views[k].f.nd.p.nd.t.no, .int .i64 t.views[k].f.nd.p.nd.t.l.k, .int .i64 t.views[k].f.nd.p.nd.t.l.a, .int .i64 t.views[k].f.nd.p.nd.t.l.b, .int .i64 t.views[k].f.nd.p.nd.t.l.n, .int .i64 t.views[k].f.nd.p.nd.t.r.k, .int .i64 t.views[k].f.nd.p.nd.t.r.a, .int .i64 t.views[k].f.nd.p.nd.t.r.b, .int .i64 t.views[k].f.nd.p.nd.t.r.n, uc2, .int .i64 t.views[k].f.nd.p.nd.a, .int .i64 t.views[k].f.nd.p.nd.b, uk2, .int .i64 t.views[k].f.nd.p.nd.g, .int .i64 t.views[k].f.nd.p.nd.c, ud2, ul2, ur2, uf2, .int .i64 t.views[k].since, ub2, up2] : List Value))) (by kernel_rfl) ?_ (fun hHeld => ?_)
            · (try dsimp only); exact ⟨a2, b2', HRK.out, HRK2.out⟩
            refine wpAnyH_take (i := 0) (v := ?_) rfl (by kernel_rfl) (by kernel_rfl) (by kernel_rfl) (fun _ _ _ h => h) (Or.inl ⟨by rfl, ?_⟩) (by assumption) ?_
            rotate_left 1
            · intro w hSw; (try dsimp only at hSw); go_simp; try with_reducible rfl
            simp only [Act.put, List.getElem_toArray, List.getElem_cons_succ, List.getElem_cons_zero, List.setIfInBounds_toArray, List.set_cons_zero, List.set_cons_succ]
            refine wpAnyH_take (i := 1) (v := ?_) rfl (by kernel_rfl) (by kernel_rfl) (by kernel_rfl) (fun _ _ _ h => h) (Or.inl ⟨by rfl, ?_⟩) (by assumption) ?_
            rotate_left 1
            · intro w hSw; (try dsimp only at hSw); go_simp; try with_reducible rfl
            simp only [Act.put, List.getElem_toArray, List.getElem_cons_succ, List.getElem_cons_zero, List.setIfInBounds_toArray, List.set_cons_zero, List.set_cons_succ]
            refine wpAnyH_take (i := 2) (v := ?_) rfl (by kernel_rfl) (by kernel_rfl) (by kernel_rfl) (fun _ _ _ h => h) (Or.inl ⟨by rfl, ?_⟩) (by assumption) ?_
            rotate_left 1
            · intro w hSw; (try dsimp only at hSw); go_simp; try with_reducible rfl
            simp only [Act.put, List.getElem_toArray, List.getElem_cons_succ, List.getElem_cons_zero, List.setIfInBounds_toArray, List.set_cons_zero, List.set_cons_succ]
            refine wpAnyH_take (i := 3) (v := ?_) rfl (by kernel_rfl) (by kernel_rfl) (by kernel_rfl) (fun _ _ _ h => h) (Or.inl ⟨by rfl, ?_⟩) (by assumption) ?_
            rotate_left 1
            · intro w hSw; (try dsimp only at hSw); go_simp; try with_reducible rfl
            simp only [Act.put, List.getElem_toArray, List.getElem_cons_succ, List.getElem_cons_zero, List.setIfInBounds_toArray, List.set_cons_zero, List.set_cons_succ]
            refine wpAnyH_take (i := 4) (v := .agg ([.int .i64 s.views[k].f.nd.p.nd.k, .int .i64 s.views[k].f.nd.p.nd.n, .int .i64 s.views[k].f.nd.p.nd.t.k, .bool s.views[k].f.nd.p.nd.t.no, .int .i64 s.views[k].f.nd.p.nd.t.l.k, .int .i64 s.views[k].f.nd.p.nd.t.l.a, .int .i64 s.views[k].f.nd.p.nd.t.l.b, .int .i64 s.views[k].f.nd.p.nd.t.l.n, .int .i64 s.views[k].f.nd.p.nd.t.r.k, .int .i64 s.views[k].f.nd.p.nd.t.r.a, .int .i64 s.views[k].f.nd.p.nd.t.r.b, .int .i64 s.views[k].f.nd.p.nd.t.r.n, uc, .int .i64 s.views[k].f.nd.p.nd.a, .int .i64 s.views[k].f.nd.p.nd.b, uk, .int .i64 s.views[k].f.nd.p.nd.g, .int .i64 s.views[k].f.nd.p.nd.c, ud, ul, ur, uf, .int .i64 s.views[k].since, ub, up] : List Value).toArray) rfl (by kernel_rfl) (by kernel_rfl) (by kernel_rfl) (fun _ _ _ h => h) (yieldsIf_load_mid (by rfl) 85 _ rfl b (off + qq) rfl [.int .i64 s.views[k].f.nd.p.nd.k, .int .i64 s.views[k].f.nd.p.nd.n, .int .i64 s.views[k].f.nd.p.nd.t.k, .bool s.views[k].f.nd.p.nd.t.no, .int .i64 s.views[k].f.nd.p.nd.t.l.k, .int .i64 s.views[k].f.nd.p.nd.t.l.a, .int .i64 s.views[k].f.nd.p.nd.t.l.b, .int .i64 s.views[k].f.nd.p.nd.t.l.n, .int .i64 s.views[k].f.nd.p.nd.t.r.k, .int .i64 s.views[k].f.nd.p.nd.t.r.a, .int .i64 s.views[k].f.nd.p.nd.t.r.b, .int .i64 s.views[k].f.nd.p.nd.t.r.n, uc, .int .i64 s.views[k].f.nd.p.nd.a, .int .i64 s.views[k].f.nd.p.nd.b, uk, .int .i64 s.views[k].f.nd.p.nd.g, .int .i64 s.views[k].f.nd.p.nd.c, ud, ul, ur, uf, .int .i64 s.views[k].since, ub, up] _ (fun x h => h.2.2.1) Try.underlying85 rfl hik) (by assumption) ?_
            simp only [Act.put, List.getElem_toArray, List.getElem_cons_succ, List.getElem_cons_zero, List.setIfInBounds_toArray, List.set_cons_zero, List.set_cons_succ]
            refine wpAnyH_take (i := 5) (v := ?_) rfl (by kernel_rfl) (by kernel_rfl) (by kernel_rfl) (fun _ _ _ h => h) (Or.inl ⟨by rfl, ?_⟩) (by assumption) ?_
            rotate_left 1
            · intro w hSw; (try dsimp only at hSw); go_simp; try with_reducible rfl
            simp only [Act.put, List.getElem_toArray, List.getElem_cons_succ, List.getElem_cons_zero, List.setIfInBounds_toArray, List.set_cons_zero, List.set_cons_succ]
            refine wpAnyH_take (i := 6) (v := ?_) rfl (by kernel_rfl) (by kernel_rfl) (by kernel_rfl) (fun _ _ _ h => h) (Or.inl ⟨by rfl, ?_⟩) (by assumption) ?_
            rotate_left 1
            · intro w hSw; (try dsimp only at hSw); go_simp; try with_reducible rfl
            simp only [Act.put, List.getElem_toArray, List.getElem_cons_succ, List.getElem_cons_zero, List.setIfInBounds_toArray, List.set_cons_zero, List.set_cons_succ]
            refine wpAnyH_take (i := 7) (v := ?_) rfl (by kernel_rfl) (by kernel_rfl) (by kernel_rfl) (fun _ _ _ h => h) (Or.inl ⟨by rfl, ?_⟩) (by assumption) ?_
            rotate_left 1
            · intro w hSw; (try dsimp only at hSw); go_simp; try with_reducible rfl
            simp only [Act.put, List.getElem_toArray, List.getElem_cons_succ, List.getElem_cons_zero, List.setIfInBounds_toArray, List.set_cons_zero, List.set_cons_succ]
            refine wpAnyH_take (i := 8) (v := ?_) rfl (by kernel_rfl) (by kernel_rfl) (by kernel_rfl) (fun _ _ _ h => h) (Or.inl ⟨by rfl, ?_⟩) (by assumption) ?_
            rotate_left 1
            · intro w hSw; (try dsimp only at hSw); go_simp; try with_reducible rfl
            simp only [Act.put, List.getElem_toArray, List.getElem_cons_succ, List.getElem_cons_zero, List.setIfInBounds_toArray, List.set_cons_zero, List.set_cons_succ]
            refine wpAnyH_take (i := 9) (v := .agg ([.int .i64 t.views[k].f.nd.p.nd.k, .int .i64 t.views[k].f.nd.p.nd.n, .int .i64 t.views[k].f.nd.p.nd.t.k, .bool t.views[k].f.nd.p.nd.t.no, .int .i64 t.views[k].f.nd.p.nd.t.l.k, .int .i64 t.views[k].f.nd.p.nd.t.l.a, .int .i64 t.views[k].f.nd.p.nd.t.l.b, .int .i64 t.views[k].f.nd.p.nd.t.l.n, .int .i64 t.views[k].f.nd.p.nd.t.r.k, .int .i64 t.views[k].f.nd.p.nd.t.r.a, .int .i64 t.views[k].f.nd.p.nd.t.r.b, .int .i64 t.views[k].f.nd.p.nd.t.r.n, uc2, .int .i64 t.views[k].f.nd.p.nd.a, .int .i64 t.views[k].f.nd.p.nd.b, uk2, .int .i64 t.views[k].f.nd.p.nd.g, .int .i64 t.views[k].f.nd.p.nd.c, ud2, ul2, ur2, uf2, .int .i64 t.views[k].since, ub2, up2] : List Value).toArray) rfl (by kernel_rfl) (by kernel_rfl) (by kernel_rfl) (fun _ _ _ h => h) (yieldsIf_load_mid (by rfl) 85 _ rfl b2 (off2 + qq) rfl [.int .i64 t.views[k].f.nd.p.nd.k, .int .i64 t.views[k].f.nd.p.nd.n, .int .i64 t.views[k].f.nd.p.nd.t.k, .bool t.views[k].f.nd.p.nd.t.no, .int .i64 t.views[k].f.nd.p.nd.t.l.k, .int .i64 t.views[k].f.nd.p.nd.t.l.a, .int .i64 t.views[k].f.nd.p.nd.t.l.b, .int .i64 t.views[k].f.nd.p.nd.t.l.n, .int .i64 t.views[k].f.nd.p.nd.t.r.k, .int .i64 t.views[k].f.nd.p.nd.t.r.a, .int .i64 t.views[k].f.nd.p.nd.t.r.b, .int .i64 t.views[k].f.nd.p.nd.t.r.n, uc2, .int .i64 t.views[k].f.nd.p.nd.a, .int .i64 t.views[k].f.nd.p.nd.b, uk2, .int .i64 t.views[k].f.nd.p.nd.g, .int .i64 t.views[k].f.nd.p.nd.c, ud2, ul2, ur2, uf2, .int .i64 t.views[k].since, ub2, up2] _ (fun x h => h.2.2.2) Try.underlying85 rfl hik2) (by assumption) ?_
            simp only [Act.put, List.getElem_toArray, List.getElem_cons_succ, List.getElem_cons_zero, List.setIfInBounds_toArray, List.set_cons_zero, List.set_cons_succ]
            refine wpAnyH_ready (rs := [10]) (by kernel_rfl) (by simp) ?_
            refine AllReadyH.cons rfl (fun K hK => ?_) AllReadyH.nil
            go_simp
            (refine (l9Same_any s.views[k] t.views[k] uc uk ud ul ur uf ub up uc2 uk2 ud2 ul2 ur2 uf2 ub2 up2 _ (by first | exact HPV.out | exact HPV.out.below (Below.drew (Below.refl _ _))) (by first | exact HPV2.out | exact HPV2.out.below (Below.drew (Below.refl _ _))) (HSZ.out k hkl) (HSZ2.out k hkl2)).mono ?_; rintro e w5 ⟨⟨c, rfl, hc⟩, hb2⟩; have HCC : Hid (c = true ↔ s.views[k] = t.views[k]) := hc; have hb : Below wr.heap.size wr w5 := (by first | exact hb2 | exact (Below.drew (Below.refl _ _)).trans hb2); have HA2 : Hid (w5.heap[w.heap.size]? = some (.cells #[.slice wa nw wc, .slice ta nt tc, .slice (some ⟨b, off, none⟩) nv vc, .int .i64 s.now, .int .i64 s.keep] 61)) := at_below HA.out hb; have HQ2 : Hid (w5.heap[w.heap.size + 1]? = some (.cells #[.slice wa2 nw2 wc2, .slice ta2 nt2 tc2, .slice (some ⟨b2, off2, none⟩) nv2 vc2, .int .i64 t.now, .int .i64 t.keep] 61)) := at_below HQ.out hb; have HB2 : Hid (Below w.heap.size w w5) := bel_then HB.out hb; have Y2 : w5.cell? ⟨w.heap.size, 2, none⟩ = some (.slice (some ⟨b, off, none⟩) nv vc) ∧ w5.cell? ⟨w.heap.size + 1, 2, none⟩ = some (.slice (some ⟨b2, off2, none⟩) nv2 vc2) ∧ w5.rangeAt b (off + qq) ([.int .i64 s.views[k].f.nd.p.nd.k, .int .i64 s.views[k].f.nd.p.nd.n, .int .i64 s.views[k].f.nd.p.nd.t.k, .bool s.views[k].f.nd.p.nd.t.no, .int .i64 s.views[k].f.nd.p.nd.t.l.k, .int .i64 s.views[k].f.nd.p.nd.t.l.a, .int .i64 s.views[k].f.nd.p.nd.t.l.b, .int .i64 s.views[k].f.nd.p.nd.t.l.n, .int .i64 s.views[k].f.nd.p.nd.t.r.k, .int .i64 s.views[k].f.nd.p.nd.t.r.a, .int .i64 s.views[k].f.nd.p.nd.t.r.b, .int .i64 s.views[k].f.nd.p.nd.t.r.n, uc, .int .i64 s.views[k].f.nd.p.nd.a, .int .i64 s.views[k].f.nd.p.nd.b, uk, .int .i64 s.views[k].f.nd.p.nd.g, .int .i64 s.views[k].f.nd.p.nd.c, ud, ul, ur, uf, .int .i64 s.views[k].since, ub, up] : List Value) ∧ w5.rangeAt b2 (off2 + qq) ([.int .i64 t.views[k].f.nd.p.nd.k, .int .i64 t.views[k].f.nd.p.nd.n, .int .i64 t.views[k].f.nd.p.nd.t.k, .bool t.views[k].f.nd.p.nd.t.no, .int .i64 t.views[k].f.nd.p.nd.t.l.k, .int .i64 t.views[k].f.nd.p.nd.t.l.a, .int .i64 t.views[k].f.nd.p.nd.t.l.b, .int .i64 t.views[k].f.nd.p.nd.t.l.n, .int .i64 t.views[k].f.nd.p.nd.t.r.k, .int .i64 t.views[k].f.nd.p.nd.t.r.a, .int .i64 t.views[k].f.nd.p.nd.t.r.b, .int .i64 t.views[k].f.nd.p.nd.t.r.n, uc2, .int .i64 t.views[k].f.nd.p.nd.a, .int .i64 t.views[k].f.nd.p.nd.b, uk2, .int .i64 t.views[k].f.nd.p.nd.g, .int .i64 t.views[k].f.nd.p.nd.c, ud2, ul2, ur2, uf2, .int .i64 t.views[k].since, ub2, up2] : List Value) := ⟨cell_at HA2.out rfl, cell_at HQ2.out rfl, range_below HRK.out hb HS1.out, range_below HRK2.out hb HS2.out⟩; clear hb hb2 hc)
            refine hK.out _ _ ?_ (fun hHeld => ?_)
            · (try dsimp only); exact Y2
            clear hK K
            try simp only [Act.put, List.getElem_toArray, List.getElem_cons_succ, List.getElem_cons_zero, List.setIfInBounds_toArray, List.set_cons_zero, List.set_cons_succ]
            refine wpAnyH_take (i := 11) (v := ?_) rfl (by kernel_rfl) (by kernel_rfl) (by kernel_rfl) (fun _ _ _ h => h) (Or.inl ⟨by rfl, ?_⟩) (by assumption) ?_
            rotate_left 1
            · intro w hSw; (try dsimp only at hSw); go_simp; try with_reducible rfl
            simp only [Act.put, List.getElem_toArray, List.getElem_cons_succ, List.getElem_cons_zero, List.setIfInBounds_toArray, List.set_cons_zero, List.set_cons_succ]
            refine wpAnyH_done (by kernel_rfl) ?_ _
            clear HRK HRK2 hik hik2 HPV HPV2 a2 b2' HA HQ HB
            cases c with
            | true =>
              have HKE : Hid (s.views[k] = t.views[k]) := HCC.out.1 rfl
              go_wp2
              go_roundw
              case rel => exact ⟨k + 1, by omega, by go_num, HA2.out, HQ2.out, HB2.out, fun j h1 h2 hj => by
                rcases Nat.lt_succ_iff_lt_or_eq.1 hj with h | h
                · exact HS.out j h1 h2 h
                · subst h; exact HKE.out⟩
              case measure => simp [intOf]; omega
            | false =>
              have HKE : Hid (¬ s.views[k] = t.views[k]) := fun h => by have := HCC.out.2 h; cases this
              go_wp2
              go_ret
              refine ⟨⟨false, rfl, ?_⟩, HB2.out⟩
              simp only [Bool.false_eq_true, false_iff]
              intro h
              subst h
              exact HKE.out rfl
          · obtain rfl : nv = k := by omega
            have HLE : Hid (s.views = t.views) := by
              have hn := HN.out
              have hg := HG.out
              refine List.ext_getElem (by omega) fun j h1 h2 => HS.out j h1 h2 (by omega)
            go_wp2
            go_ret
            refine ⟨⟨true, rfl, ?_⟩, HB.out⟩
            simp only [true_iff]
            exact St.ext' (by have := H1.out; simpa [sameB] using this) HTE.out HLE.out HG3.out HG4.out

end Go.Proofs.Ytfmgohoddaobmaa.Fw

/-
  The contracts of impl.samePast, sameView, StoreSame, and of slices.EqualFunc at times and at views.
-/
namespace Go.Proofs.Ytfmgohoddaobmaa.Fw
set_option maxRecDepth 100000
open Go.RowKit
set_option linter.unusedVariables false
set_option linter.unusedSimpArgs false
variable {D : Nat}

variable {n : Nat}
set_option maxHeartbeats 1000000 in
theorem samePast_any (p q : Pa) (vo vo2 : Value) (w : World) (h : ItemsAt w vo p.out) (h2 : ItemsAt w vo2 q.out) :
    Calls Try.prog 65 #[.agg #[.int .i64 p.tm, vo], .agg #[.int .i64 q.tm, vo2]] w fun e w' => (∃ c : Bool, e = .returned (.bool c) ∧ (c = true ↔ p = q)) ∧ Below w.heap.size w w' := by
  obtain ⟨oa, oc, hs1⟩ := h.shape1
  obtain ⟨oa2, oc2, hs2⟩ := h2.shape1
  obtain ⟨no, hno⟩ : ∃ m, m = p.out.length := ⟨_, rfl⟩
  obtain ⟨no2, hno2⟩ : ∃ m, m = q.out.length := ⟨_, rfl⟩
  rw [← hno] at hs1
  rw [← hno2] at hs2
  subst hs1 hs2
  clear hno hno2
  have HI : Hid (ItemsAt w (.slice oa no oc) p.out) := h
  have HI2 : Hid (ItemsAt w (.slice oa2 no2 oc2) q.out) := h2
  clear h h2
  by_cases ht : p.tm = q.tm
  case neg =>
    have hne : (p.tm == q.tm) = false := by simp [ht]
    have HT : Hid (¬ p.tm = q.tm) := ht
    clear ht
    go_enter Try.func65, Try.ntmps65
    go_wp2
    go_ret
    refine ⟨⟨false, rfl, ?_⟩, (two w _ _).2.2⟩
    simp only [Bool.false_eq_true, false_iff]
    exact fun h => HT.out (by rw [h])
  have hne : (p.tm == q.tm) = true := by simp [ht]
  have HT : Hid (p.tm = q.tm) := ht
  clear ht
  obtain ⟨c, hc⟩ : ∃ c, zsB p.out q.out = c := ⟨_, rfl⟩
  have HC : Hid (zsB p.out q.out = c) := hc
  clear hc
  go_enter Try.func65, Try.ntmps65
  go_wp2_with fail
  refine (implZSame_any _ _ p.out q.out _ (HI.out.below (two w _ _).2.2) (HI2.out.below (two w _ _).2.2)).mono ?_
  rw [HC.out]
  rintro e w1 ⟨rfl, hb⟩
  have HB : Hid (Below w.heap.size w w1) := bel_then (two w _ _).2.2 hb
  clear hb hne
  go_wp2
  go_ret
  refine ⟨⟨c, rfl, ?_⟩, HB.out⟩
  rw [← HC.out]
  simp only [zsB, decide_eq_true_iff]
  exact ⟨fun h => Pa.ext' HT.out h, fun h => by rw [h]⟩

set_option maxHeartbeats 4000000 in
theorem equalPasts_some (b off cap b2 off2 cap2 : Nat) (l l2 : List Pa) (w : World) (hpos : 0 < l.length) (hlim : l.length ≤ 140737488355328) (hlen : l.length = l2.length) (hbw : b < w.heap.size) (hbw2 : b2 < w.heap.size)
    (hz : ∀ j (hj : j < l.length), Pa.sz l[j] ≤ 1048576) (hz2 : ∀ j (hj : j < l2.length), Pa.sz l2[j] ≤ 1048576)
    (hc : ∀ j (hj : j < l.length), PaAt w b (off + j * 2) l[j]) (hc2 : ∀ j (hj : j < l2.length), PaAt w b2 (off2 + j * 2) l2[j]) :
    Calls Try.prog 64 #[.slice (some ⟨b, off, none⟩) l.length cap, .slice (some ⟨b2, off2, none⟩) l.length cap2, .func (.func 65) #[] #[]] w fun e w' => (∃ c : Bool, e = .returned (.bool c) ∧ (c = true ↔ l = l2)) ∧ Below w.heap.size w w' := by
  obtain ⟨n, hn⟩ : ∃ n, n = l.length := ⟨_, rfl⟩
  have HN : Hid (n = l.length) := hn
  have HL : Hid (l.length = l2.length) := hlen
  have HC : Hid (∀ j (hj : j < l.length), PaAt w b (off + j * 2) l[j]) := hc
  have HC2 : Hid (∀ j (hj : j < l2.length), PaAt w b2 (off2 + j * 2) l2[j]) := hc2
  have HZ : Hid (∀ j (hj : j < l.length), Pa.sz l[j] ≤ 1048576) := hz
  have HZ2 : Hid (∀ j (hj : j < l2.length), Pa.sz l2[j] ≤ 1048576) := hz2
  rw [← hn] at hpos hlim ⊢
  clear hn hlen hc hc2 hz hz2
  go_enter Try.func64, Try.ntmps64
  go_wp2
  go_loopw [17] (fun i wr => ∃ k : Nat, k ≤ n ∧ i = .int .i64 k ∧ Hid (Below w.heap.size w wr) ∧ Hid (∀ j (h1 : j < l.length) (h2 : j < l2.length), j < k → l[j] = l2[j])) (fun i _ => n - (intOf i).toNat)
  case atStart => exact ⟨0, Nat.zero_le _, rfl, Below.refl _ _, fun j _ _ hj => by omega⟩
  case round =>
    obtain ⟨k, hk, rfl, HW, HS⟩ := hrel
    by_cases hlt : k < n
    · have hkl : k < l.length := by rw [← HN.out]; exact hlt
      have hkl2 : k < l2.length := by rw [← HL.out]; exact hkl
      obtain ⟨hbr, vo, hf, hp⟩ := (HC.out k hkl).below HW.out
      obtain ⟨hbr2, vo2, hf2, hp2⟩ := (HC2.out k hkl2).below HW.out
      have ht : wr.cell? ⟨b, off + k * 2, none⟩ = some (.int .i64 l[k].tm) := hf 0 _ rfl
      have ho : wr.cell? ⟨b, off + k * 2 + 1, none⟩ = some vo := hf 1 _ rfl
      have ht2 : wr.cell? ⟨b2, off2 + k * 2, none⟩ = some (.int .i64 l2[k].tm) := hf2 0 _ rfl
      have ho2 : wr.cell? ⟨b2, off2 + k * 2 + 1, none⟩ = some vo2 := hf2 1 _ rfl
      have HPI : Hid (ItemsAt wr vo l[k].out) := hp.items (HZ.out k hkl)
      have HPI2 : Hid (ItemsAt wr vo2 l2[k].out) := hp2.items (HZ2.out k hkl2)
      obtain ⟨ra, rn, rc, rfl⟩ := RawItems.shapeN' hp
      obtain ⟨ra2, rn2, rc2, rfl⟩ := RawItems.shapeN' hp2
      obtain ⟨p, HP⟩ : ∃ p, Hid (p = l[k]) := ⟨l[k], hidden rfl⟩
      obtain ⟨q, HQ⟩ : ∃ q, Hid (q = l2[k]) := ⟨l2[k], hidden rfl⟩
      rw [← HP.out] at ht HPI
      rw [← HQ.out] at ht2 HPI2
      clear hf hf2 hp hp2
      go_wp2_with fail
      refine (samePast_any p q _ _ _ (HPI.out.below (bel_then (bel_alloc _) (bel_alloc _))) (HPI2.out.below (bel_then (bel_alloc _) (bel_alloc _)))).mono ?_
      rintro e w1 ⟨⟨c, rfl, hcc⟩, hb1⟩
      have HK : Hid (Below w.heap.size w w1) := bel_then (bel_then HW.out (bel_then (bel_alloc _) (bel_alloc _))) hb1
      have HCC : Hid (c = true ↔ p = q) := hcc
      clear hb1 hcc ht ht2 ho ho2 HPI HPI2
      cases c with
      | false =>
        have H2 : Hid (¬ p = q) := fun h => by have := HCC.out.2 h; cases this
        go_wp2
        go_ret
        refine ⟨⟨false, rfl, ?_⟩, HK.out⟩
        simp only [Bool.false_eq_true, false_iff]
        intro h
        subst h
        exact H2.out (by rw [HP.out, HQ.out])
      | true =>
        have H1 : Hid (p = q) := HCC.out.1 rfl
        go_wp2
        go_roundw
        case rel => exact ⟨k + 1, by omega, by go_num, HK.out, fun j h1 h2 hj => by
          rcases Nat.lt_succ_iff_lt_or_eq.1 hj with h | h
          · exact HS.out j h1 h2 h
          · subst h; rw [← HP.out, ← HQ.out]; exact H1.out⟩
        case measure => simp [intOf]; omega
    · have e : k = n := by omega
      subst e
      go_wp2
      go_ret
      refine ⟨⟨true, rfl, ?_⟩, HW.out⟩
      simp only [true_iff]
      have h1 := HN.out
      have h2 := HL.out
      exact List.ext_getElem h2 fun j h1' h2' => HS.out j h1' h2' (by omega)
theorem equalPasts_len (a : Option Addr) (cap n : Nat) (a2 : Option Addr) (cap2 m : Nat) (f : Value) (w : World) (hne : ((n : Int) != (m : Int)) = true) :
    Calls Try.prog 64 #[.slice a n cap, .slice a2 m cap2, f] w fun e w' => e = .returned (.bool false) ∧ Below w.heap.size w w' := by
  go_enter Try.func64, Try.ntmps64
  go_wp2
  go_ret
  exact ⟨rfl, Below.refl _ _⟩
theorem equalPasts_none (a : Option Addr) (cap : Nat) (a2 : Option Addr) (cap2 : Nat) (f : Value) (w : World) :
    Calls Try.prog 64 #[.slice a 0 cap, .slice a2 0 cap2, f] w fun e w' => e = .returned (.bool true) ∧ Below w.heap.size w w' := by
  go_enter Try.func64, Try.ntmps64
  go_wp2
  refine wp_loop_rounds 1 ?_
  rw [rounds_succ]
  go_wp2
  go_ret
  exact ⟨rfl, Below.refl _ _⟩
theorem equalPasts_any (l l2 : List Pa) (v v2 : Value) (w : World) (h : KV 2 PaAt w v l) (h2 : KV 2 PaAt w v2 l2) (hm : l.length + sumOf Pa.sz l ≤ 1048576) (hm2 : l2.length + sumOf Pa.sz l2 ≤ 1048576) :
    Calls Try.prog 64 #[v, v2, .func (.func 65) #[] #[]] w fun e w' => (∃ c : Bool, e = .returned (.bool c) ∧ (c = true ↔ l = l2)) ∧ Below w.heap.size w w' := by
  obtain ⟨hl, a, cap, rfl, _, hc⟩ := h
  obtain ⟨hl2, a2, cap2, rfl, _, hc2⟩ := h2
  by_cases hlen : l.length = l2.length
  · by_cases hne : l = []
    · subst hne
      obtain rfl : l2 = [] := List.length_eq_zero_iff.1 hlen.symm
      refine (equalPasts_none a cap a2 cap2 _ w).mono ?_
      rintro e w' ⟨rfl, hb⟩
      exact ⟨⟨true, rfl, by simp⟩, hb⟩
    · have hne2 : l2 ≠ [] := fun e => hne (by rw [e] at hlen; exact List.length_eq_zero_iff.1 hlen)
      obtain ⟨b, off, rfl, hbw, hk⟩ := hc hne
      obtain ⟨b2, off2, rfl, hbw2, hk2⟩ := hc2 hne2
      rw [← hlen]
      exact equalPasts_some b off cap b2 off2 cap2 l l2 w (List.length_pos_iff.2 hne) (by omega) hlen hbw hbw2 (fun j hj => by have := sumOf_at (g := Pa.sz) hj; omega) (fun j hj => by have := sumOf_at (g := Pa.sz) hj; omega) hk hk2
  · refine (equalPasts_len a cap _ a2 cap2 _ _ w (by rw [bne_iff_ne]; omega)).mono ?_
    rintro e w' ⟨rfl, hb⟩
    refine ⟨⟨false, rfl, ?_⟩, hb⟩
    simp only [Bool.false_eq_true, false_iff]
    exact fun h => hlen (by rw [h])

set_option maxHeartbeats 4000000 in
theorem sameView_any (x y : Vw D n) (vc vk vd vl vr vf vb vp vc2 vk2 vd2 vl2 vr2 vf2 vb2 vp2 : Value) (w : World) (h : VwV true w x vc vk vd vl vr vf vb vp) (h2 : VwV true w y vc2 vk2 vd2 vl2 vr2 vf2 vb2 vp2) (hl : x.sz ≤ 1048576) (hl2 : y.sz ≤ 1048576) :
    Calls Try.prog 42 #[.agg #[.int .i64 x.f.nd.p.nd.k, .int .i64 x.f.nd.p.nd.n, .int .i64 x.f.nd.p.nd.t.k, .bool x.f.nd.p.nd.t.no, .int .i64 x.f.nd.p.nd.t.l.k, .int .i64 x.f.nd.p.nd.t.l.a, .int .i64 x.f.nd.p.nd.t.l.b, .int .i64 x.f.nd.p.nd.t.l.n, .int .i64 x.f.nd.p.nd.t.r.k, .int .i64 x.f.nd.p.nd.t.r.a, .int .i64 x.f.nd.p.nd.t.r.b, .int .i64 x.f.nd.p.nd.t.r.n, vc, .int .i64 x.f.nd.p.nd.a, .int .i64 x.f.nd.p.nd.b, vk, .int .i64 x.f.nd.p.nd.g, .int .i64 x.f.nd.p.nd.c, vd, vl, vr, vf, .int .i64 x.since, vb, vp], .agg #[.int .i64 y.f.nd.p.nd.k, .int .i64 y.f.nd.p.nd.n, .int .i64 y.f.nd.p.nd.t.k, .bool y.f.nd.p.nd.t.no, .int .i64 y.f.nd.p.nd.t.l.k, .int .i64 y.f.nd.p.nd.t.l.a, .int .i64 y.f.nd.p.nd.t.l.b, .int .i64 y.f.nd.p.nd.t.l.n, .int .i64 y.f.nd.p.nd.t.r.k, .int .i64 y.f.nd.p.nd.t.r.a, .int .i64 y.f.nd.p.nd.t.r.b, .int .i64 y.f.nd.p.nd.t.r.n, vc2, .int .i64 y.f.nd.p.nd.a, .int .i64 y.f.nd.p.nd.b, vk2, .int .i64 y.f.nd.p.nd.g, .int .i64 y.f.nd.p.nd.c, vd2, vl2, vr2, vf2, .int .i64 y.since, vb2, vp2]] w fun e w' => (∃ c : Bool, e = .returned (.bool c) ∧ (c = true ↔ x = y)) ∧ Below w.heap.size w w' := by
  obtain ⟨⟨ca, nc, cc, rfl⟩, ⟨ka, nk, kc, rfl⟩, ⟨da, nd, dc, rfl⟩⟩ := planV_shapes h.1.1.1
  obtain ⟨la, nl, lc, rfl⟩ := h.1.1.2.1.shapeN
  obtain ⟨ra, nr, rc, rfl⟩ := h.1.1.2.2.1.shapeN
  obtain ⟨fa, nf, fc, rfl⟩ := h.1.1.2.2.2.shapeN
  obtain ⟨ba, nb, bc, rfl⟩ := RawItems.shapeN' h.2.1
  obtain ⟨pa, np, pc, rfl⟩ := h.2.2.shapeN
  obtain ⟨⟨ca2, nc2, cc2, rfl⟩, ⟨ka2, nk2, kc2, rfl⟩, ⟨da2, nd2, dc2, rfl⟩⟩ := planV_shapes h2.1.1.1
  obtain ⟨la2, nl2, lc2, rfl⟩ := h2.1.1.2.1.shapeN
  obtain ⟨ra2, nr2, rc2, rfl⟩ := h2.1.1.2.2.1.shapeN
  obtain ⟨fa2, nf2, fc2, rfl⟩ := h2.1.1.2.2.2.shapeN
  obtain ⟨ba2, nb2, bc2, rfl⟩ := RawItems.shapeN' h2.2.1
  obtain ⟨pa2, np2, pc2, rfl⟩ := h2.2.2.shapeN
  have HF : Hid (FlowU n w x.f (.slice ca nc cc) (.slice ka nk kc) (.slice da nd dc) (.slice la nl lc) (.slice ra nr rc) (.slice fa nf fc)) := h.1.u
  have HI : Hid (RawItems w (.slice ba nb bc) x.base) := h.2.1
  have HP : Hid (KV 2 PaAt w (.slice pa np pc) x.pasts) := h.2.2
  have HF2 : Hid (FlowU n w y.f (.slice ca2 nc2 cc2) (.slice ka2 nk2 kc2) (.slice da2 nd2 dc2) (.slice la2 nl2 lc2) (.slice ra2 nr2 rc2) (.slice fa2 nf2 fc2)) := h2.1.u
  have HI2 : Hid (RawItems w (.slice ba2 nb2 bc2) y.base) := h2.2.1
  have HP2 : Hid (KV 2 PaAt w (.slice pa2 np2 pc2) y.pasts) := h2.2.2
  have HZ : Hid (Fl.sz (n + 1) x.f ≤ 1048576 ∧ x.base.length + rowsLen x.base ≤ 1048576 ∧ x.pasts.length + sumOf Pa.sz x.pasts ≤ 1048576) := by
    have e : x.sz = Fl.sz (n + 1) x.f + (x.base.length + rowsLen x.base) + (x.pasts.length + sumOf Pa.sz x.pasts) := rfl
    show _ ∧ _
    omega
  have HZ2 : Hid (Fl.sz (n + 1) y.f ≤ 1048576 ∧ y.base.length + rowsLen y.base ≤ 1048576 ∧ y.pasts.length + sumOf Pa.sz y.pasts ≤ 1048576) := by
    have e : y.sz = Fl.sz (n + 1) y.f + (y.base.length + rowsLen y.base) + (y.pasts.length + sumOf Pa.sz y.pasts) := rfl
    show _ ∧ _
    omega
  obtain ⟨c1, h1⟩ : ∃ c, Fl.same (n + 1) x.f y.f = c := ⟨_, rfl⟩
  obtain ⟨c2, h3⟩ : ∃ c, zsB x.base y.base = c := ⟨_, rfl⟩
  have H1 : Hid (Fl.same (n + 1) x.f y.f = c1) := h1
  have H2 : Hid (zsB x.base y.base = c2) := h3
  clear h h2 hl hl2 h1 h3
  obtain ⟨w0, hw0⟩ : ∃ w0, w0 = (w.alloc (.cells #[.int .i64 x.f.nd.p.nd.k, .int .i64 x.f.nd.p.nd.n, .int .i64 x.f.nd.p.nd.t.k, .bool x.f.nd.p.nd.t.no, .int .i64 x.f.nd.p.nd.t.l.k, .int .i64 x.f.nd.p.nd.t.l.a, .int .i64 x.f.nd.p.nd.t.l.b, .int .i64 x.f.nd.p.nd.t.l.n, .int .i64 x.f.nd.p.nd.t.r.k, .int .i64 x.f.nd.p.nd.t.r.a, .int .i64 x.f.nd.p.nd.t.r.b, .int .i64 x.f.nd.p.nd.t.r.n, .slice ca nc cc, .int .i64 x.f.nd.p.nd.a, .int .i64 x.f.nd.p.nd.b, .slice ka nk kc, .int .i64 x.f.nd.p.nd.g, .int .i64 x.f.nd.p.nd.c, .slice da nd dc, .slice la nl lc, .slice ra nr rc, .slice fa nf fc, .int .i64 x.since, .slice ba nb bc, .slice pa np pc] 85)).alloc (.cells #[.int .i64 y.f.nd.p.nd.k, .int .i64 y.f.nd.p.nd.n, .int .i64 y.f.nd.p.nd.t.k, .bool y.f.nd.p.nd.t.no, .int .i64 y.f.nd.p.nd.t.l.k, .int .i64 y.f.nd.p.nd.t.l.a, .int .i64 y.f.nd.p.nd.t.l.b, .int .i64 y.f.nd.p.nd.t.l.n, .int .i64 y.f.nd.p.nd.t.r.k, .int .i64 y.f.nd.p.nd.t.r.a, .int .i64 y.f.nd.p.nd.t.r.b, .int .i64 y.f.nd.p.nd.t.r.n, .slice ca2 nc2 cc2, .int .i64 y.f.nd.p.nd.a, .int .i64 y.f.nd.p.nd.b, .slice ka2 nk2 kc2, .int .i64 y.f.nd.p.nd.g, .int .i64 y.f.nd.p.nd.c, .slice da2 nd2 dc2, .slice la2 nl2 lc2, .slice ra2 nr2 rc2, .slice fa2 nf2 fc2, .int .i64 y.since, .slice ba2 nb2 bc2, .slice pa2 np2 pc2] 85) := ⟨_, rfl⟩
  have HA : Hid (w0.heap[w.heap.size]? = some (.cells #[.int .i64 x.f.nd.p.nd.k, .int .i64 x.f.nd.p.nd.n, .int .i64 x.f.nd.p.nd.t.k, .bool x.f.nd.p.nd.t.no, .int .i64 x.f.nd.p.nd.t.l.k, .int .i64 x.f.nd.p.nd.t.l.a, .int .i64 x.f.nd.p.nd.t.l.b, .int .i64 x.f.nd.p.nd.t.l.n, .int .i64 x.f.nd.p.nd.t.r.k, .int .i64 x.f.nd.p.nd.t.r.a, .int .i64 x.f.nd.p.nd.t.r.b, .int .i64 x.f.nd.p.nd.t.r.n, .slice ca nc cc, .int .i64 x.f.nd.p.nd.a, .int .i64 x.f.nd.p.nd.b, .slice ka nk kc, .int .i64 x.f.nd.p.nd.g, .int .i64 x.f.nd.p.nd.c, .slice da nd dc, .slice la nl lc, .slice ra nr rc, .slice fa nf fc, .int .i64 x.since, .slice ba nb bc, .slice pa np pc] 85)) := by show _ = _; rw [hw0]; exact (two w _ _).1
  have HQ : Hid (w0.heap[w.heap.size + 1]? = some (.cells #[.int .i64 y.f.nd.p.nd.k, .int .i64 y.f.nd.p.nd.n, .int .i64 y.f.nd.p.nd.t.k, .bool y.f.nd.p.nd.t.no, .int .i64 y.f.nd.p.nd.t.l.k, .int .i64 y.f.nd.p.nd.t.l.a, .int .i64 y.f.nd.p.nd.t.l.b, .int .i64 y.f.nd.p.nd.t.l.n, .int .i64 y.f.nd.p.nd.t.r.k, .int .i64 y.f.nd.p.nd.t.r.a, .int .i64 y.f.nd.p.nd.t.r.b, .int .i64 y.f.nd.p.nd.t.r.n, .slice ca2 nc2 cc2, .int .i64 y.f.nd.p.nd.a, .int .i64 y.f.nd.p.nd.b, .slice ka2 nk2 kc2, .int .i64 y.f.nd.p.nd.g, .int .i64 y.f.nd.p.nd.c, .slice da2 nd2 dc2, .slice la2 nl2 lc2, .slice ra2 nr2 rc2, .slice fa2 nf2 fc2, .int .i64 y.since, .slice ba2 nb2 bc2, .slice pa2 np2 pc2] 85)) := by show _ = _; rw [hw0]; exact (two w _ _).2.1
  have HB : Hid (Below w.heap.size w w0) := by show Below _ _ _; rw [hw0]; exact (two w _ _).2.2
  have HRA : Hid (w0.rangeAt (w.heap.size) 0 [.int .i64 x.f.nd.p.nd.k, .int .i64 x.f.nd.p.nd.n, .int .i64 x.f.nd.p.nd.t.k, .bool x.f.nd.p.nd.t.no, .int .i64 x.f.nd.p.nd.t.l.k, .int .i64 x.f.nd.p.nd.t.l.a, .int .i64 x.f.nd.p.nd.t.l.b, .int .i64 x.f.nd.p.nd.t.l.n, .int .i64 x.f.nd.p.nd.t.r.k, .int .i64 x.f.nd.p.nd.t.r.a, .int .i64 x.f.nd.p.nd.t.r.b, .int .i64 x.f.nd.p.nd.t.r.n, .slice ca nc cc, .int .i64 x.f.nd.p.nd.a, .int .i64 x.f.nd.p.nd.b, .slice ka nk kc, .int .i64 x.f.nd.p.nd.g, .int .i64 x.f.nd.p.nd.c, .slice da nd dc, .slice la nl lc, .slice ra nr rc, .slice fa nf fc]) := flow_range HA.out
  have HRB : Hid (w0.rangeAt (w.heap.size + 1) 0 [.int .i64 y.f.nd.p.nd.k, .int .i64 y.f.nd.p.nd.n, .int .i64 y.f.nd.p.nd.t.k, .bool y.f.nd.p.nd.t.no, .int .i64 y.f.nd.p.nd.t.l.k, .int .i64 y.f.nd.p.nd.t.l.a, .int .i64 y.f.nd.p.nd.t.l.b, .int .i64 y.f.nd.p.nd.t.l.n, .int .i64 y.f.nd.p.nd.t.r.k, .int .i64 y.f.nd.p.nd.t.r.a, .int .i64 y.f.nd.p.nd.t.r.b, .int .i64 y.f.nd.p.nd.t.r.n, .slice ca2 nc2 cc2, .int .i64 y.f.nd.p.nd.a, .int .i64 y.f.nd.p.nd.b, .slice ka2 nk2 kc2, .int .i64 y.f.nd.p.nd.g, .int .i64 y.f.nd.p.nd.c, .slice da2 nd2 dc2, .slice la2 nl2 lc2, .slice ra2 nr2 rc2, .slice fa2 nf2 fc2]) := flow_range HQ.out
  have hil : (Try.prog.info? 51).map (·.size) = some ([.int .i64 x.f.nd.p.nd.k, .int .i64 x.f.nd.p.nd.n, .int .i64 x.f.nd.p.nd.t.k, .bool x.f.nd.p.nd.t.no, .int .i64 x.f.nd.p.nd.t.l.k, .int .i64 x.f.nd.p.nd.t.l.a, .int .i64 x.f.nd.p.nd.t.l.b, .int .i64 x.f.nd.p.nd.t.l.n, .int .i64 x.f.nd.p.nd.t.r.k, .int .i64 x.f.nd.p.nd.t.r.a, .int .i64 x.f.nd.p.nd.t.r.b, .int .i64 x.f.nd.p.nd.t.r.n, .slice ca nc cc, .int .i64 x.f.nd.p.nd.a, .int .i64 x.f.nd.p.nd.b, .slice ka nk kc, .int .i64 x.f.nd.p.nd.g, .int .i64 x.f.nd.p.nd.c, .slice da nd dc, .slice la nl lc, .slice ra nr rc, .slice fa nf fc] : List Value).length := by kernel_rfl
  have hil2 : (Try.prog.info? 51).map (·.size) = some ([.int .i64 y.f.nd.p.nd.k, .int .i64 y.f.nd.p.nd.n, .int .i64 y.f.nd.p.nd.t.k, .bool y.f.nd.p.nd.t.no, .int .i64 y.f.nd.p.nd.t.l.k, .int .i64 y.f.nd.p.nd.t.l.a, .int .i64 y.f.nd.p.nd.t.l.b, .int .i64 y.f.nd.p.nd.t.l.n, .int .i64 y.f.nd.p.nd.t.r.k, .int .i64 y.f.nd.p.nd.t.r.a, .int .i64 y.f.nd.p.nd.t.r.b, .int .i64 y.f.nd.p.nd.t.r.n, .slice ca2 nc2 cc2, .int .i64 y.f.nd.p.nd.a, .int .i64 y.f.nd.p.nd.b, .slice ka2 nk2 kc2, .int .i64 y.f.nd.p.nd.g, .int .i64 y.f.nd.p.nd.c, .slice da2 nd2 dc2, .slice la2 nl2 lc2, .slice ra2 nr2 rc2, .slice fa2 nf2 fc2] : List Value).length := by kernel_rfl
  have hw0' := hw0.symm
  clear hw0
  go_enter Try.func42, Try.ntmps42
  go_wp2_with (first | (refine wpList_load_mid rfl 51 _ rfl (w.heap.size) 0 rfl [.int .i64 x.f.nd.p.nd.k, .int .i64 x.f.nd.p.nd.n, .int .i64 x.f.nd.p.nd.t.k, .bool x.f.nd.p.nd.t.no, .int .i64 x.f.nd.p.nd.t.l.k, .int .i64 x.f.nd.p.nd.t.l.a, .int .i64 x.f.nd.p.nd.t.l.b, .int .i64 x.f.nd.p.nd.t.l.n, .int .i64 x.f.nd.p.nd.t.r.k, .int .i64 x.f.nd.p.nd.t.r.a, .int .i64 x.f.nd.p.nd.t.r.b, .int .i64 x.f.nd.p.nd.t.r.n, .slice ca nc cc, .int .i64 x.f.nd.p.nd.a, .int .i64 x.f.nd.p.nd.b, .slice ka nk kc, .int .i64 x.f.nd.p.nd.g, .int .i64 x.f.nd.p.nd.c, .slice da nd dc, .slice la nl lc, .slice ra nr rc, .slice fa nf fc] _ HRA.out Try.underlying51 rfl hil ?_) | (refine wpList_load_mid rfl 51 _ rfl (w.heap.size + 1) 0 rfl [.int .i64 y.f.nd.p.nd.k, .int .i64 y.f.nd.p.nd.n, .int .i64 y.f.nd.p.nd.t.k, .bool y.f.nd.p.nd.t.no, .int .i64 y.f.nd.p.nd.t.l.k, .int .i64 y.f.nd.p.nd.t.l.a, .int .i64 y.f.nd.p.nd.t.l.b, .int .i64 y.f.nd.p.nd.t.l.n, .int .i64 y.f.nd.p.nd.t.r.k, .int .i64 y.f.nd.p.nd.t.r.a, .int .i64 y.f.nd.p.nd.t.r.b, .int .i64 y.f.nd.p.nd.t.r.n, .slice ca2 nc2 cc2, .int .i64 y.f.nd.p.nd.a, .int .i64 y.f.nd.p.nd.b, .slice ka2 nk2 kc2, .int .i64 y.f.nd.p.nd.g, .int .i64 y.f.nd.p.nd.c, .slice da2 nd2 dc2, .slice la2 nl2 lc2, .slice ra2 nr2 rc2, .slice fa2 nf2 fc2] _ HRB.out Try.underlying51 rfl hil2 ?_))
  clear hw0'
  refine (imF n x.f y.f _ _ _ _ _ _ _ _ _ _ _ _ _ (HF.out.below HB.out) (HF2.out.below HB.out) HZ.out.1 HZ2.out.1).mono ?_
  rw [H1.out]
  rintro e w1 ⟨rfl, hb⟩
  replace HA : Hid (w1.heap[w.heap.size]? = some (.cells #[.int .i64 x.f.nd.p.nd.k, .int .i64 x.f.nd.p.nd.n, .int .i64 x.f.nd.p.nd.t.k, .bool x.f.nd.p.nd.t.no, .int .i64 x.f.nd.p.nd.t.l.k, .int .i64 x.f.nd.p.nd.t.l.a, .int .i64 x.f.nd.p.nd.t.l.b, .int .i64 x.f.nd.p.nd.t.l.n, .int .i64 x.f.nd.p.nd.t.r.k, .int .i64 x.f.nd.p.nd.t.r.a, .int .i64 x.f.nd.p.nd.t.r.b, .int .i64 x.f.nd.p.nd.t.r.n, .slice ca nc cc, .int .i64 x.f.nd.p.nd.a, .int .i64 x.f.nd.p.nd.b, .slice ka nk kc, .int .i64 x.f.nd.p.nd.g, .int .i64 x.f.nd.p.nd.c, .slice da nd dc, .slice la nl lc, .slice ra nr rc, .slice fa nf fc, .int .i64 x.since, .slice ba nb bc, .slice pa np pc] 85)) := at_below HA.out hb
  replace HQ : Hid (w1.heap[w.heap.size + 1]? = some (.cells #[.int .i64 y.f.nd.p.nd.k, .int .i64 y.f.nd.p.nd.n, .int .i64 y.f.nd.p.nd.t.k, .bool y.f.nd.p.nd.t.no, .int .i64 y.f.nd.p.nd.t.l.k, .int .i64 y.f.nd.p.nd.t.l.a, .int .i64 y.f.nd.p.nd.t.l.b, .int .i64 y.f.nd.p.nd.t.l.n, .int .i64 y.f.nd.p.nd.t.r.k, .int .i64 y.f.nd.p.nd.t.r.a, .int .i64 y.f.nd.p.nd.t.r.b, .int .i64 y.f.nd.p.nd.t.r.n, .slice ca2 nc2 cc2, .int .i64 y.f.nd.p.nd.a, .int .i64 y.f.nd.p.nd.b, .slice ka2 nk2 kc2, .int .i64 y.f.nd.p.nd.g, .int .i64 y.f.nd.p.nd.c, .slice da2 nd2 dc2, .slice la2 nl2 lc2, .slice ra2 nr2 rc2, .slice fa2 nf2 fc2, .int .i64 y.since, .slice ba2 nb2 bc2, .slice pa2 np2 pc2] 85)) := at_below HQ.out hb
  replace HB : Hid (Below w.heap.size w w1) := bel_then HB.out hb
  clear hb HRA HRB hil hil2
  cases c1 with
  | false =>
    go_wp2
    go_ret
    refine ⟨⟨false, rfl, ?_⟩, HB.out⟩
    simp only [Bool.false_eq_true, false_iff]
    intro h
    have := H1.out
    rw [h, Fl.same_self] at this
    cases this
  | true =>
    have a22 : w1.cell? ⟨w.heap.size, 22, none⟩ = some (.int .i64 x.since) := cell_at HA.out rfl
    have b22 : w1.cell? ⟨w.heap.size + 1, 22, none⟩ = some (.int .i64 y.since) := cell_at HQ.out rfl
    have a23 : w1.cell? ⟨w.heap.size, 23, none⟩ = some (.slice ba nb bc) := cell_at HA.out rfl
    have b23 : w1.cell? ⟨w.heap.size + 1, 23, none⟩ = some (.slice ba2 nb2 bc2) := cell_at HQ.out rfl
    by_cases hs : x.since = y.since
    case neg =>
      have hne : (x.since == y.since) = false := by simp [hs]
      have HSN : Hid (¬ x.since = y.since) := hs
      clear hs
      go_wp2
      go_ret
      refine ⟨⟨false, rfl, ?_⟩, HB.out⟩
      simp only [Bool.false_eq_true, false_iff]
      exact fun h => HSN.out (by rw [h])
    have hne : (x.since == y.since) = true := by simp [hs]
    have HSN : Hid (x.since = y.since) := hs
    clear hs
    go_wp2_with fail
    refine (implZSame_any _ _ x.base y.base _ ((HI.out.below HB.out).items HZ.out.2.1) ((HI2.out.below HB.out).items HZ2.out.2.1)).mono ?_
    rw [H2.out]
    rintro e w2 ⟨rfl, hb⟩
    replace HA : Hid (w2.heap[w.heap.size]? = some (.cells #[.int .i64 x.f.nd.p.nd.k, .int .i64 x.f.nd.p.nd.n, .int .i64 x.f.nd.p.nd.t.k, .bool x.f.nd.p.nd.t.no, .int .i64 x.f.nd.p.nd.t.l.k, .int .i64 x.f.nd.p.nd.t.l.a, .int .i64 x.f.nd.p.nd.t.l.b, .int .i64 x.f.nd.p.nd.t.l.n, .int .i64 x.f.nd.p.nd.t.r.k, .int .i64 x.f.nd.p.nd.t.r.a, .int .i64 x.f.nd.p.nd.t.r.b, .int .i64 x.f.nd.p.nd.t.r.n, .slice ca nc cc, .int .i64 x.f.nd.p.nd.a, .int .i64 x.f.nd.p.nd.b, .slice ka nk kc, .int .i64 x.f.nd.p.nd.g, .int .i64 x.f.nd.p.nd.c, .slice da nd dc, .slice la nl lc, .slice ra nr rc, .slice fa nf fc, .int .i64 x.since, .slice ba nb bc, .slice pa np pc] 85)) := at_below HA.out hb
    replace HQ : Hid (w2.heap[w.heap.size + 1]? = some (.cells #[.int .i64 y.f.nd.p.nd.k, .int .i64 y.f.nd.p.nd.n, .int .i64 y.f.nd.p.nd.t.k, .bool y.f.nd.p.nd.t.no, .int .i64 y.f.nd.p.nd.t.l.k, .int .i64 y.f.nd.p.nd.t.l.a, .int .i64 y.f.nd.p.nd.t.l.b, .int .i64 y.f.nd.p.nd.t.l.n, .int .i64 y.f.nd.p.nd.t.r.k, .int .i64 y.f.nd.p.nd.t.r.a, .int .i64 y.f.nd.p.nd.t.r.b, .int .i64 y.f.nd.p.nd.t.r.n, .slice ca2 nc2 cc2, .int .i64 y.f.nd.p.nd.a, .int .i64 y.f.nd.p.nd.b, .slice ka2 nk2 kc2, .int .i64 y.f.nd.p.nd.g, .int .i64 y.f.nd.p.nd.c, .slice da2 nd2 dc2, .slice la2 nl2 lc2, .slice ra2 nr2 rc2, .slice fa2 nf2 fc2, .int .i64 y.since, .slice ba2 nb2 bc2, .slice pa2 np2 pc2] 85)) := at_below HQ.out hb
    replace HB : Hid (Below w.heap.size w w2) := bel_then HB.out hb
    clear hb a22 b22 a23 b23 hne
    cases c2 with
    | false =>
      go_wp2
      go_ret
      refine ⟨⟨false, rfl, ?_⟩, HB.out⟩
      simp only [Bool.false_eq_true, false_iff]
      intro h
      have := H2.out
      rw [h] at this
      simp [zsB] at this
    | true =>
      have a24 : w2.cell? ⟨w.heap.size, 24, none⟩ = some (.slice pa np pc) := cell_at HA.out rfl
      have b24 : w2.cell? ⟨w.heap.size + 1, 24, none⟩ = some (.slice pa2 np2 pc2) := cell_at HQ.out rfl
      go_wp2_with fail
      refine (equalPasts_any x.pasts y.pasts _ _ _ (HP.out.below HB.out fun b o p hp => hp.below HB.out) (HP2.out.below HB.out fun b o p hp => hp.below HB.out) HZ.out.2.2 HZ2.out.2.2).mono ?_
      rintro e w3 ⟨⟨c, rfl, hc⟩, hb⟩
      replace HB : Hid (Below w.heap.size w w3) := bel_then HB.out hb
      have HC : Hid (c = true ↔ x.pasts = y.pasts) := hc
      clear hb hc a24 b24
      go_wp2
      go_ret
      refine ⟨⟨c, rfl, ?_⟩, HB.out⟩
      rw [HC.out]
      exact ⟨fun h => Vw.ext' ((Fl.same_iff _ _ _).1 H1.out) HSN.out (zsB_true H2.out) h, fun h => by rw [h]⟩

set_option maxHeartbeats 4000000 in
theorem equalViews_some (b off cap b2 off2 cap2 : Nat) (l l2 : List (Vw D n)) (w : World) (hpos : 0 < l.length) (hlim : l.length ≤ 140737488355328) (hlen : l.length = l2.length) (hbw : b < w.heap.size) (hbw2 : b2 < w.heap.size)
    (hz : ∀ j (hj : j < l.length), Vw.sz l[j] ≤ 1048576) (hz2 : ∀ j (hj : j < l2.length), Vw.sz l2[j] ≤ 1048576)
    (hc : ∀ j (hj : j < l.length), VwAt true w b (off + j * 25) l[j]) (hc2 : ∀ j (hj : j < l2.length), VwAt true w b2 (off2 + j * 25) l2[j]) :
    Calls Try.prog 41 #[.slice (some ⟨b, off, none⟩) l.length cap, .slice (some ⟨b2, off2, none⟩) l.length cap2, .func (.func 42) #[] #[]] w fun e w' => (∃ c : Bool, e = .returned (.bool c) ∧ (c = true ↔ l = l2)) ∧ Below w.heap.size w w' := by
  obtain ⟨m, hn⟩ : ∃ m, m = l.length := ⟨_, rfl⟩
  have HN : Hid (m = l.length) := hn
  have HL : Hid (l.length = l2.length) := hlen
  have HC : Hid (∀ j (hj : j < l.length), VwAt true w b (off + j * 25) l[j]) := hc
  have HC2 : Hid (∀ j (hj : j < l2.length), VwAt true w b2 (off2 + j * 25) l2[j]) := hc2
  have HZ : Hid (∀ j (hj : j < l.length), Vw.sz l[j] ≤ 1048576) := hz
  have HZ2 : Hid (∀ j (hj : j < l2.length), Vw.sz l2[j] ≤ 1048576) := hz2
  rw [← hn] at hpos hlim ⊢
  clear hn hlen hc hc2 hz hz2
  go_enter Try.func41, Try.ntmps41
  go_wp2
  go_loopw [17] (fun i wr => ∃ k : Nat, k ≤ m ∧ i = .int .i64 k ∧ Hid (Below w.heap.size w wr) ∧ Hid (∀ j (h1 : j < l.length) (h2 : j < l2.length), j < k → l[j] = l2[j])) (fun i _ => m - (intOf i).toNat)
  case atStart => exact ⟨0, Nat.zero_le _, rfl, Below.refl _ _, fun j _ _ hj => by omega⟩
  case round =>
    obtain ⟨k, hk, rfl, HW, HS⟩ := hrel
    by_cases hlt : k < m
    · have hkl : k < l.length := by rw [← HN.out]; exact hlt
      have hkl2 : k < l2.length := by rw [← HL.out]; exact hkl
      obtain ⟨hbr, uc, uk, ud, ul, ur, uf, ub, up, hf, hp⟩ := (HC.out k hkl).below HW.out
      obtain ⟨hbr2, uc2, uk2, ud2, ul2, ur2, uf2, ub2, up2, hf2, hp2⟩ := (HC2.out k hkl2).below HW.out
      obtain ⟨⟨ac, nac, cac, rfl⟩, ⟨ak, nak, cak, rfl⟩, ⟨ad, nad, cad, rfl⟩⟩ := planV_shapes hp.1.1.1
      obtain ⟨al, nal, cal, rfl⟩ := hp.1.1.2.1.shapeN
      obtain ⟨ar, nar, car, rfl⟩ := hp.1.1.2.2.1.shapeN
      obtain ⟨af, naf, caf, rfl⟩ := hp.1.1.2.2.2.shapeN
      obtain ⟨ab, nab, cab, rfl⟩ := RawItems.shapeN' hp.2.1
      obtain ⟨ap, nap, cap, rfl⟩ := hp.2.2.shapeN
      obtain ⟨⟨ac2, nac2, cac2, rfl⟩, ⟨ak2, nak2, cak2, rfl⟩, ⟨ad2, nad2, cad2, rfl⟩⟩ := planV_shapes hp2.1.1.1
      obtain ⟨al2, nal2, cal2, rfl⟩ := hp2.1.1.2.1.shapeN
      obtain ⟨ar2, nar2, car2, rfl⟩ := hp2.1.1.2.2.1.shapeN
      obtain ⟨af2, naf2, caf2, rfl⟩ := hp2.1.1.2.2.2.shapeN
      obtain ⟨ab2, nab2, cab2, rfl⟩ := RawItems.shapeN' hp2.2.1
      obtain ⟨ap2, nap2, cap2, rfl⟩ := hp2.2.2.shapeN
      obtain ⟨p, HP⟩ : ∃ p, Hid (p = l[k]) := ⟨l[k], hidden rfl⟩
      obtain ⟨q, HQ⟩ : ∃ q, Hid (q = l2[k]) := ⟨l2[k], hidden rfl⟩
      have HZP : Hid (Vw.sz p ≤ 1048576) := by show _ ≤ _; rw [HP.out]; exact HZ.out k hkl
      have HZQ : Hid (Vw.sz q ≤ 1048576) := by show _ ≤ _; rw [HQ.out]; exact HZ2.out k hkl2
      rw [← HP.out] at hf hp
      rw [← HQ.out] at hf2 hp2
      obtain ⟨qq, hq⟩ : ∃ qq, k * 25 = qq := ⟨_, rfl⟩
      rw [hq] at hf hf2
      have HR1 : Hid (wr.rangeAt b (off + qq) ([.int .i64 p.f.nd.p.nd.k, .int .i64 p.f.nd.p.nd.n, .int .i64 p.f.nd.p.nd.t.k, .bool p.f.nd.p.nd.t.no, .int .i64 p.f.nd.p.nd.t.l.k, .int .i64 p.f.nd.p.nd.t.l.a, .int .i64 p.f.nd.p.nd.t.l.b, .int .i64 p.f.nd.p.nd.t.l.n, .int .i64 p.f.nd.p.nd.t.r.k, .int .i64 p.f.nd.p.nd.t.r.a, .int .i64 p.f.nd.p.nd.t.r.b, .int .i64 p.f.nd.p.nd.t.r.n, .slice ac nac cac, .int .i64 p.f.nd.p.nd.a, .int .i64 p.f.nd.p.nd.b, .slice ak nak cak, .int .i64 p.f.nd.p.nd.g, .int .i64 p.f.nd.p.nd.c, .slice ad nad cad, .slice al nal cal, .slice ar nar car, .slice af naf caf, .int .i64 p.since, .slice ab nab cab, .slice ap nap cap] : List Value)) := hf
      have HV1 : Hid (VwV true wr p (.slice ac nac cac) (.slice ak nak cak) (.slice ad nad cad) (.slice al nal cal) (.slice ar nar car) (.slice af naf caf) (.slice ab nab cab) (.slice ap nap cap)) := hp
      have HV2 : Hid (VwV true wr q (.slice ac2 nac2 cac2) (.slice ak2 nak2 cak2) (.slice ad2 nad2 cad2) (.slice al2 nal2 cal2) (.slice ar2 nar2 car2) (.slice af2 naf2 caf2) (.slice ab2 nab2 cab2) (.slice ap2 nap2 cap2)) := hp2
      have hil : (Try.prog.info? 85).map (·.size) = some ([.int .i64 p.f.nd.p.nd.k, .int .i64 p.f.nd.p.nd.n, .int .i64 p.f.nd.p.nd.t.k, .bool p.f.nd.p.nd.t.no, .int .i64 p.f.nd.p.nd.t.l.k, .int .i64 p.f.nd.p.nd.t.l.a, .int .i64 p.f.nd.p.nd.t.l.b, .int .i64 p.f.nd.p.nd.t.l.n, .int .i64 p.f.nd.p.nd.t.r.k, .int .i64 p.f.nd.p.nd.t.r.a, .int .i64 p.f.nd.p.nd.t.r.b, .int .i64 p.f.nd.p.nd.t.r.n, .slice ac nac cac, .int .i64 p.f.nd.p.nd.a, .int .i64 p.f.nd.p.nd.b, .slice ak nak cak, .int .i64 p.f.nd.p.nd.g, .int .i64 p.f.nd.p.nd.c, .slice ad nad cad, .slice al nal cal, .slice ar nar car, .slice af naf caf, .int .i64 p.since, .slice ab nab cab, .slice ap nap cap] : List Value).length := by kernel_rfl
      have hil2 : (Try.prog.info? 85).map (·.size) = some ([.int .i64 q.f.nd.p.nd.k, .int .i64 q.f.nd.p.nd.n, .int .i64 q.f.nd.p.nd.t.k, .bool q.f.nd.p.nd.t.no, .int .i64 q.f.nd.p.nd.t.l.k, .int .i64 q.f.nd.p.nd.t.l.a, .int .i64 q.f.nd.p.nd.t.l.b, .int .i64 q.f.nd.p.nd.t.l.n, .int .i64 q.f.nd.p.nd.t.r.k, .int .i64 q.f.nd.p.nd.t.r.a, .int .i64 q.f.nd.p.nd.t.r.b, .int .i64 q.f.nd.p.nd.t.r.n, .slice ac2 nac2 cac2, .int .i64 q.f.nd.p.nd.a, .int .i64 q.f.nd.p.nd.b, .slice ak2 nak2 cak2, .int .i64 q.f.nd.p.nd.g, .int .i64 q.f.nd.p.nd.c, .slice ad2 nad2 cad2, .slice al2 nal2 cal2, .slice ar2 nar2 car2, .slice af2 naf2 caf2, .int .i64 q.since, .slice ab2 nab2 cab2, .slice ap2 nap2 cap2] : List Value).length := by kernel_rfl
      have hia : (Try.prog.info? 85).map (·.size) = some (#[.int .i64 p.f.nd.p.nd.k, .int .i64 p.f.nd.p.nd.n, .int .i64 p.f.nd.p.nd.t.k, .bool p.f.nd.p.nd.t.no, .int .i64 p.f.nd.p.nd.t.l.k, .int .i64 p.f.nd.p.nd.t.l.a, .int .i64 p.f.nd.p.nd.t.l.b, .int .i64 p.f.nd.p.nd.t.l.n, .int .i64 p.f.nd.p.nd.t.r.k, .int .i64 p.f.nd.p.nd.t.r.a, .int .i64 p.f.nd.p.nd.t.r.b, .int .i64 p.f.nd.p.nd.t.r.n, .slice ac nac cac, .int .i64 p.f.nd.p.nd.a, .int .i64 p.f.nd.p.nd.b, .slice ak nak cak, .int .i64 p.f.nd.p.nd.g, .int .i64 p.f.nd.p.nd.c, .slice ad nad cad, .slice al nal cal, .slice ar nar car, .slice af naf caf, .int .i64 p.since, .slice ab nab cab, .slice ap nap cap] : Array Value).size := by kernel_rfl
      have hia2 : (Try.prog.info? 85).map (·.size) = some (#[.int .i64 q.f.nd.p.nd.k, .int .i64 q.f.nd.p.nd.n, .int .i64 q.f.nd.p.nd.t.k, .bool q.f.nd.p.nd.t.no, .int .i64 q.f.nd.p.nd.t.l.k, .int .i64 q.f.nd.p.nd.t.l.a, .int .i64 q.f.nd.p.nd.t.l.b, .int .i64 q.f.nd.p.nd.t.l.n, .int .i64 q.f.nd.p.nd.t.r.k, .int .i64 q.f.nd.p.nd.t.r.a, .int .i64 q.f.nd.p.nd.t.r.b, .int .i64 q.f.nd.p.nd.t.r.n, .slice ac2 nac2 cac2, .int .i64 q.f.nd.p.nd.a, .int .i64 q.f.nd.p.nd.b, .slice ak2 nak2 cak2, .int .i64 q.f.nd.p.nd.g, .int .i64 q.f.nd.p.nd.c, .slice ad2 nad2 cad2, .slice al2 nal2 cal2, .slice ar2 nar2 car2, .slice af2 naf2 caf2, .int .i64 q.since, .slice ab2 nab2 cab2, .slice ap2 nap2 cap2] : Array Value).size := by kernel_rfl
      have HO1 : Hid ((#[.int .i64 p.f.nd.p.nd.k, .int .i64 p.f.nd.p.nd.n, .int .i64 p.f.nd.p.nd.t.k, .bool p.f.nd.p.nd.t.no, .int .i64 p.f.nd.p.nd.t.l.k, .int .i64 p.f.nd.p.nd.t.l.a, .int .i64 p.f.nd.p.nd.t.l.b, .int .i64 p.f.nd.p.nd.t.l.n, .int .i64 p.f.nd.p.nd.t.r.k, .int .i64 p.f.nd.p.nd.t.r.a, .int .i64 p.f.nd.p.nd.t.r.b, .int .i64 p.f.nd.p.nd.t.r.n, .slice ac nac cac, .int .i64 p.f.nd.p.nd.a, .int .i64 p.f.nd.p.nd.b, .slice ak nak cak, .int .i64 p.f.nd.p.nd.g, .int .i64 p.f.nd.p.nd.c, .slice ad nad cad, .slice al nal cal, .slice ar nar car, .slice af naf caf, .int .i64 p.since, .slice ab nab cab, .slice ap nap cap] : Array Value).all (·.oneCell') = true) := one25 p _ _ _ _ _ _ _ _ rfl rfl rfl rfl rfl rfl rfl rfl
      have HO2 : Hid ((#[.int .i64 q.f.nd.p.nd.k, .int .i64 q.f.nd.p.nd.n, .int .i64 q.f.nd.p.nd.t.k, .bool q.f.nd.p.nd.t.no, .int .i64 q.f.nd.p.nd.t.l.k, .int .i64 q.f.nd.p.nd.t.l.a, .int .i64 q.f.nd.p.nd.t.l.b, .int .i64 q.f.nd.p.nd.t.l.n, .int .i64 q.f.nd.p.nd.t.r.k, .int .i64 q.f.nd.p.nd.t.r.a, .int .i64 q.f.nd.p.nd.t.r.b, .int .i64 q.f.nd.p.nd.t.r.n, .slice ac2 nac2 cac2, .int .i64 q.f.nd.p.nd.a, .int .i64 q.f.nd.p.nd.b, .slice ak2 nak2 cak2, .int .i64 q.f.nd.p.nd.g, .int .i64 q.f.nd.p.nd.c, .slice ad2 nad2 cad2, .slice al2 nal2 cal2, .slice ar2 nar2 car2, .slice af2 naf2 caf2, .int .i64 q.since, .slice ab2 nab2 cab2, .slice ap2 nap2 cap2] : Array Value).all (·.oneCell') = true) := one25 q _ _ _ _ _ _ _ _ rfl rfl rfl rfl rfl rfl rfl rfl
      obtain ⟨W1, hW1⟩ : ∃ W1, W1 = ((wr.alloc (.cells #[.int .i64 0, .int .i64 0, .int .i64 0, .bool false, .int .i64 0, .int .i64 0, .int .i64 0, .int .i64 0, .int .i64 0, .int .i64 0, .int .i64 0, .int .i64 0, .slice none 0 0, .int .i64 0, .int .i64 0, .slice none 0 0, .int .i64 0, .int .i64 0, .slice none 0 0, .slice none 0 0, .slice none 0 0, .slice none 0 0, .int .i64 0, .slice none 0 0, .slice none 0 0] 85)).setCells wr.heap.size 0 [.int .i64 p.f.nd.p.nd.k, .int .i64 p.f.nd.p.nd.n, .int .i64 p.f.nd.p.nd.t.k, .bool p.f.nd.p.nd.t.no, .int .i64 p.f.nd.p.nd.t.l.k, .int .i64 p.f.nd.p.nd.t.l.a, .int .i64 p.f.nd.p.nd.t.l.b, .int .i64 p.f.nd.p.nd.t.l.n, .int .i64 p.f.nd.p.nd.t.r.k, .int .i64 p.f.nd.p.nd.t.r.a, .int .i64 p.f.nd.p.nd.t.r.b, .int .i64 p.f.nd.p.nd.t.r.n, .slice ac nac cac, .int .i64 p.f.nd.p.nd.a, .int .i64 p.f.nd.p.nd.b, .slice ak nak cak, .int .i64 p.f.nd.p.nd.g, .int .i64 p.f.nd.p.nd.c, .slice ad nad cad, .slice al nal cal, .slice ar nar car, .slice af naf caf, .int .i64 p.since, .slice ab nab cab, .slice ap nap cap]) := ⟨_, rfl⟩
      have HB1 : Hid (Below wr.heap.size wr W1) := by show Below _ _ _; rw [hW1]; exact bel_setCells _ _ _ _ (bel_alloc _) (Nat.le_refl _)
      have HS1 : Hid (wr.heap.size < W1.heap.size) := by show _ < _; rw [hW1, size_setCells, alloc_sz]; omega
      have HX1 : Hid (W1.rangeAt wr.heap.size 0 [.int .i64 p.f.nd.p.nd.k, .int .i64 p.f.nd.p.nd.n, .int .i64 p.f.nd.p.nd.t.k, .bool p.f.nd.p.nd.t.no, .int .i64 p.f.nd.p.nd.t.l.k, .int .i64 p.f.nd.p.nd.t.l.a, .int .i64 p.f.nd.p.nd.t.l.b, .int .i64 p.f.nd.p.nd.t.l.n, .int .i64 p.f.nd.p.nd.t.r.k, .int .i64 p.f.nd.p.nd.t.r.a, .int .i64 p.f.nd.p.nd.t.r.b, .int .i64 p.f.nd.p.nd.t.r.n, .slice ac nac cac, .int .i64 p.f.nd.p.nd.a, .int .i64 p.f.nd.p.nd.b, .slice ak nak cak, .int .i64 p.f.nd.p.nd.g, .int .i64 p.f.nd.p.nd.c, .slice ad nad cad, .slice al nal cal, .slice ar nar car, .slice af naf caf, .int .i64 p.since, .slice ab nab cab, .slice ap nap cap]) := by
        show World.rangeAt _ _ _ _
        rw [hW1]
        exact World.rangeAt_setCells_same _ _ _ _ (there_blk (vs := #[.int .i64 0, .int .i64 0, .int .i64 0, .bool false, .int .i64 0, .int .i64 0, .int .i64 0, .int .i64 0, .int .i64 0, .int .i64 0, .int .i64 0, .int .i64 0, .slice none 0 0, .int .i64 0, .int .i64 0, .slice none 0 0, .int .i64 0, .int .i64 0, .slice none 0 0, .slice none 0 0, .slice none 0 0, .slice none 0 0, .int .i64 0, .slice none 0 0, .slice none 0 0]) (alloc_at wr _))
      obtain ⟨W2, hW2⟩ : ∃ W2, W2 = ((W1.alloc (.cells #[.int .i64 0, .int .i64 0, .int .i64 0, .bool false, .int .i64 0, .int .i64 0, .int .i64 0, .int .i64 0, .int .i64 0, .int .i64 0, .int .i64 0, .int .i64 0, .slice none 0 0, .int .i64 0, .int .i64 0, .slice none 0 0, .int .i64 0, .int .i64 0, .slice none 0 0, .slice none 0 0, .slice none 0 0, .slice none 0 0, .int .i64 0, .slice none 0 0, .slice none 0 0] 85)).setCells W1.heap.size 0 [.int .i64 q.f.nd.p.nd.k, .int .i64 q.f.nd.p.nd.n, .int .i64 q.f.nd.p.nd.t.k, .bool q.f.nd.p.nd.t.no, .int .i64 q.f.nd.p.nd.t.l.k, .int .i64 q.f.nd.p.nd.t.l.a, .int .i64 q.f.nd.p.nd.t.l.b, .int .i64 q.f.nd.p.nd.t.l.n, .int .i64 q.f.nd.p.nd.t.r.k, .int .i64 q.f.nd.p.nd.t.r.a, .int .i64 q.f.nd.p.nd.t.r.b, .int .i64 q.f.nd.p.nd.t.r.n, .slice ac2 nac2 cac2, .int .i64 q.f.nd.p.nd.a, .int .i64 q.f.nd.p.nd.b, .slice ak2 nak2 cak2, .int .i64 q.f.nd.p.nd.g, .int .i64 q.f.nd.p.nd.c, .slice ad2 nad2 cad2, .slice al2 nal2 cal2, .slice ar2 nar2 car2, .slice af2 naf2 caf2, .int .i64 q.since, .slice ab2 nab2 cab2, .slice ap2 nap2 cap2]) := ⟨_, rfl⟩
      have HB2 : Hid (Below W1.heap.size W1 W2) := by show Below _ _ _; rw [hW2]; exact bel_setCells _ _ _ _ (bel_alloc _) (Nat.le_refl _)
      have HX2 : Hid (W2.rangeAt wr.heap.size 0 [.int .i64 p.f.nd.p.nd.k, .int .i64 p.f.nd.p.nd.n, .int .i64 p.f.nd.p.nd.t.k, .bool p.f.nd.p.nd.t.no, .int .i64 p.f.nd.p.nd.t.l.k, .int .i64 p.f.nd.p.nd.t.l.a, .int .i64 p.f.nd.p.nd.t.l.b, .int .i64 p.f.nd.p.nd.t.l.n, .int .i64 p.f.nd.p.nd.t.r.k, .int .i64 p.f.nd.p.nd.t.r.a, .int .i64 p.f.nd.p.nd.t.r.b, .int .i64 p.f.nd.p.nd.t.r.n, .slice ac nac cac, .int .i64 p.f.nd.p.nd.a, .int .i64 p.f.nd.p.nd.b, .slice ak nak cak, .int .i64 p.f.nd.p.nd.g, .int .i64 p.f.nd.p.nd.c, .slice ad nad cad, .slice al nal cal, .slice ar nar car, .slice af naf caf, .int .i64 p.since, .slice ab nab cab, .slice ap nap cap]) := range_below HX1.out HB2.out HS1.out
      have HY2 : Hid (W2.rangeAt W1.heap.size 0 [.int .i64 q.f.nd.p.nd.k, .int .i64 q.f.nd.p.nd.n, .int .i64 q.f.nd.p.nd.t.k, .bool q.f.nd.p.nd.t.no, .int .i64 q.f.nd.p.nd.t.l.k, .int .i64 q.f.nd.p.nd.t.l.a, .int .i64 q.f.nd.p.nd.t.l.b, .int .i64 q.f.nd.p.nd.t.l.n, .int .i64 q.f.nd.p.nd.t.r.k, .int .i64 q.f.nd.p.nd.t.r.a, .int .i64 q.f.nd.p.nd.t.r.b, .int .i64 q.f.nd.p.nd.t.r.n, .slice ac2 nac2 cac2, .int .i64 q.f.nd.p.nd.a, .int .i64 q.f.nd.p.nd.b, .slice ak2 nak2 cak2, .int .i64 q.f.nd.p.nd.g, .int .i64 q.f.nd.p.nd.c, .slice ad2 nad2 cad2, .slice al2 nal2 cal2, .slice ar2 nar2 car2, .slice af2 naf2 caf2, .int .i64 q.since, .slice ab2 nab2 cab2, .slice ap2 nap2 cap2]) := by
        show World.rangeAt _ _ _ _
        rw [hW2]
        exact World.rangeAt_setCells_same _ _ _ _ (there_blk (vs := #[.int .i64 0, .int .i64 0, .int .i64 0, .bool false, .int .i64 0, .int .i64 0, .int .i64 0, .int .i64 0, .int .i64 0, .int .i64 0, .int .i64 0, .int .i64 0, .slice none 0 0, .int .i64 0, .int .i64 0, .slice none 0 0, .int .i64 0, .int .i64 0, .slice none 0 0, .slice none 0 0, .slice none 0 0, .slice none 0 0, .int .i64 0, .slice none 0 0, .slice none 0 0]) (alloc_at W1 _))
      have HT1 : Hid ((wr.alloc (.cells #[.int .i64 0, .int .i64 0, .int .i64 0, .bool false, .int .i64 0, .int .i64 0, .int .i64 0, .int .i64 0, .int .i64 0, .int .i64 0, .int .i64 0, .int .i64 0, .slice none 0 0, .int .i64 0, .int .i64 0, .slice none 0 0, .int .i64 0, .int .i64 0, .slice none 0 0, .slice none 0 0, .slice none 0 0, .slice none 0 0, .int .i64 0, .slice none 0 0, .slice none 0 0] 85)).there wr.heap.size 0 (#[.int .i64 p.f.nd.p.nd.k, .int .i64 p.f.nd.p.nd.n, .int .i64 p.f.nd.p.nd.t.k, .bool p.f.nd.p.nd.t.no, .int .i64 p.f.nd.p.nd.t.l.k, .int .i64 p.f.nd.p.nd.t.l.a, .int .i64 p.f.nd.p.nd.t.l.b, .int .i64 p.f.nd.p.nd.t.l.n, .int .i64 p.f.nd.p.nd.t.r.k, .int .i64 p.f.nd.p.nd.t.r.a, .int .i64 p.f.nd.p.nd.t.r.b, .int .i64 p.f.nd.p.nd.t.r.n, .slice ac nac cac, .int .i64 p.f.nd.p.nd.a, .int .i64 p.f.nd.p.nd.b, .slice ak nak cak, .int .i64 p.f.nd.p.nd.g, .int .i64 p.f.nd.p.nd.c, .slice ad nad cad, .slice al nal cal, .slice ar nar car, .slice af naf caf, .int .i64 p.since, .slice ab nab cab, .slice ap nap cap] : Array Value).size) := there_blk (vs := #[.int .i64 0, .int .i64 0, .int .i64 0, .bool false, .int .i64 0, .int .i64 0, .int .i64 0, .int .i64 0, .int .i64 0, .int .i64 0, .int .i64 0, .int .i64 0, .slice none 0 0, .int .i64 0, .int .i64 0, .slice none 0 0, .int .i64 0, .int .i64 0, .slice none 0 0, .slice none 0 0, .slice none 0 0, .slice none 0 0, .int .i64 0, .slice none 0 0, .slice none 0 0]) (alloc_at wr _)
      have HT2 : Hid ((W1.alloc (.cells #[.int .i64 0, .int .i64 0, .int .i64 0, .bool false, .int .i64 0, .int .i64 0, .int .i64 0, .int .i64 0, .int .i64 0, .int .i64 0, .int .i64 0, .int .i64 0, .slice none 0 0, .int .i64 0, .int .i64 0, .slice none 0 0, .int .i64 0, .int .i64 0, .slice none 0 0, .slice none 0 0, .slice none 0 0, .slice none 0 0, .int .i64 0, .slice none 0 0, .slice none 0 0] 85)).there W1.heap.size 0 (#[.int .i64 q.f.nd.p.nd.k, .int .i64 q.f.nd.p.nd.n, .int .i64 q.f.nd.p.nd.t.k, .bool q.f.nd.p.nd.t.no, .int .i64 q.f.nd.p.nd.t.l.k, .int .i64 q.f.nd.p.nd.t.l.a, .int .i64 q.f.nd.p.nd.t.l.b, .int .i64 q.f.nd.p.nd.t.l.n, .int .i64 q.f.nd.p.nd.t.r.k, .int .i64 q.f.nd.p.nd.t.r.a, .int .i64 q.f.nd.p.nd.t.r.b, .int .i64 q.f.nd.p.nd.t.r.n, .slice ac2 nac2 cac2, .int .i64 q.f.nd.p.nd.a, .int .i64 q.f.nd.p.nd.b, .slice ak2 nak2 cak2, .int .i64 q.f.nd.p.nd.g, .int .i64 q.f.nd.p.nd.c, .slice ad2 nad2 cad2, .slice al2 nal2 cal2, .slice ar2 nar2 car2, .slice af2 naf2 caf2, .int .i64 q.since, .slice ab2 nab2 cab2, .slice ap2 nap2 cap2] : Array Value).size) := there_blk (vs := #[.int .i64 0, .int .i64 0, .int .i64 0, .bool false, .int .i64 0, .int .i64 0, .int .i64 0, .int .i64 0, .int .i64 0, .int .i64 0, .int .i64 0, .int .i64 0, .slice none 0 0, .int .i64 0, .int .i64 0, .slice none 0 0, .int .i64 0, .int .i64 0, .slice none 0 0, .slice none 0 0, .slice none 0 0, .slice none 0 0, .int .i64 0, .slice none 0 0, .slice none 0 0]) (alloc_at W1 _)
      have HR2 : Hid (W1.rangeAt b2 (off2 + qq) ([.int .i64 q.f.nd.p.nd.k, .int .i64 q.f.nd.p.nd.n, .int .i64 q.f.nd.p.nd.t.k, .bool q.f.nd.p.nd.t.no, .int .i64 q.f.nd.p.nd.t.l.k, .int .i64 q.f.nd.p.nd.t.l.a, .int .i64 q.f.nd.p.nd.t.l.b, .int .i64 q.f.nd.p.nd.t.l.n, .int .i64 q.f.nd.p.nd.t.r.k, .int .i64 q.f.nd.p.nd.t.r.a, .int .i64 q.f.nd.p.nd.t.r.b, .int .i64 q.f.nd.p.nd.t.r.n, .slice ac2 nac2 cac2, .int .i64 q.f.nd.p.nd.a, .int .i64 q.f.nd.p.nd.b, .slice ak2 nak2 cak2, .int .i64 q.f.nd.p.nd.g, .int .i64 q.f.nd.p.nd.c, .slice ad2 nad2 cad2, .slice al2 nal2 cal2, .slice ar2 nar2 car2, .slice af2 naf2 caf2, .int .i64 q.since, .slice ab2 nab2 cab2, .slice ap2 nap2 cap2] : List Value)) := range_below hf2 HB1.out hbr2
      have HBW : Hid (Below w.heap.size w W2) := bel_then (bel_then HW.out HB1.out) HB2.out
      have hW1' := hW1.symm
      have hW2' := hW2.symm
      clear hW1 hW2 hf hf2 hp hp2
      go_wp2_with (first | (refine wpList_load_mid rfl 85 _ rfl b (off + qq) rfl [.int .i64 p.f.nd.p.nd.k, .int .i64 p.f.nd.p.nd.n, .int .i64 p.f.nd.p.nd.t.k, .bool p.f.nd.p.nd.t.no, .int .i64 p.f.nd.p.nd.t.l.k, .int .i64 p.f.nd.p.nd.t.l.a, .int .i64 p.f.nd.p.nd.t.l.b, .int .i64 p.f.nd.p.nd.t.l.n, .int .i64 p.f.nd.p.nd.t.r.k, .int .i64 p.f.nd.p.nd.t.r.a, .int .i64 p.f.nd.p.nd.t.r.b, .int .i64 p.f.nd.p.nd.t.r.n, .slice ac nac cac, .int .i64 p.f.nd.p.nd.a, .int .i64 p.f.nd.p.nd.b, .slice ak nak cak, .int .i64 p.f.nd.p.nd.g, .int .i64 p.f.nd.p.nd.c, .slice ad nad cad, .slice al nal cal, .slice ar nar car, .slice af naf caf, .int .i64 p.since, .slice ab nab cab, .slice ap nap cap] _ HR1.out Try.underlying85 rfl hil ?_) | (refine wpList_store_mid rfl 85 _ _ rfl wr.heap.size 0 #[.int .i64 p.f.nd.p.nd.k, .int .i64 p.f.nd.p.nd.n, .int .i64 p.f.nd.p.nd.t.k, .bool p.f.nd.p.nd.t.no, .int .i64 p.f.nd.p.nd.t.l.k, .int .i64 p.f.nd.p.nd.t.l.a, .int .i64 p.f.nd.p.nd.t.l.b, .int .i64 p.f.nd.p.nd.t.l.n, .int .i64 p.f.nd.p.nd.t.r.k, .int .i64 p.f.nd.p.nd.t.r.a, .int .i64 p.f.nd.p.nd.t.r.b, .int .i64 p.f.nd.p.nd.t.r.n, .slice ac nac cac, .int .i64 p.f.nd.p.nd.a, .int .i64 p.f.nd.p.nd.b, .slice ak nak cak, .int .i64 p.f.nd.p.nd.g, .int .i64 p.f.nd.p.nd.c, .slice ad nad cad, .slice al nal cal, .slice ar nar car, .slice af naf caf, .int .i64 p.since, .slice ab nab cab, .slice ap nap cap] rfl rfl HT1.out hia HO1.out ?_; rw [hW1']) | (refine wpList_load_mid rfl 85 _ rfl b2 (off2 + qq) rfl [.int .i64 q.f.nd.p.nd.k, .int .i64 q.f.nd.p.nd.n, .int .i64 q.f.nd.p.nd.t.k, .bool q.f.nd.p.nd.t.no, .int .i64 q.f.nd.p.nd.t.l.k, .int .i64 q.f.nd.p.nd.t.l.a, .int .i64 q.f.nd.p.nd.t.l.b, .int .i64 q.f.nd.p.nd.t.l.n, .int .i64 q.f.nd.p.nd.t.r.k, .int .i64 q.f.nd.p.nd.t.r.a, .int .i64 q.f.nd.p.nd.t.r.b, .int .i64 q.f.nd.p.nd.t.r.n, .slice ac2 nac2 cac2, .int .i64 q.f.nd.p.nd.a, .int .i64 q.f.nd.p.nd.b, .slice ak2 nak2 cak2, .int .i64 q.f.nd.p.nd.g, .int .i64 q.f.nd.p.nd.c, .slice ad2 nad2 cad2, .slice al2 nal2 cal2, .slice ar2 nar2 car2, .slice af2 naf2 caf2, .int .i64 q.since, .slice ab2 nab2 cab2, .slice ap2 nap2 cap2] _ HR2.out Try.underlying85 rfl hil2 ?_) | (refine wpList_store_mid rfl 85 _ _ rfl W1.heap.size 0 #[.int .i64 q.f.nd.p.nd.k, .int .i64 q.f.nd.p.nd.n, .int .i64 q.f.nd.p.nd.t.k, .bool q.f.nd.p.nd.t.no, .int .i64 q.f.nd.p.nd.t.l.k, .int .i64 q.f.nd.p.nd.t.l.a, .int .i64 q.f.nd.p.nd.t.l.b, .int .i64 q.f.nd.p.nd.t.l.n, .int .i64 q.f.nd.p.nd.t.r.k, .int .i64 q.f.nd.p.nd.t.r.a, .int .i64 q.f.nd.p.nd.t.r.b, .int .i64 q.f.nd.p.nd.t.r.n, .slice ac2 nac2 cac2, .int .i64 q.f.nd.p.nd.a, .int .i64 q.f.nd.p.nd.b, .slice ak2 nak2 cak2, .int .i64 q.f.nd.p.nd.g, .int .i64 q.f.nd.p.nd.c, .slice ad2 nad2 cad2, .slice al2 nal2 cal2, .slice ar2 nar2 car2, .slice af2 naf2 caf2, .int .i64 q.since, .slice ab2 nab2 cab2, .slice ap2 nap2 cap2] rfl rfl HT2.out hia2 HO2.out ?_; rw [hW2']) | (refine wpList_load_mid rfl 85 _ rfl wr.heap.size 0 rfl [.int .i64 p.f.nd.p.nd.k, .int .i64 p.f.nd.p.nd.n, .int .i64 p.f.nd.p.nd.t.k, .bool p.f.nd.p.nd.t.no, .int .i64 p.f.nd.p.nd.t.l.k, .int .i64 p.f.nd.p.nd.t.l.a, .int .i64 p.f.nd.p.nd.t.l.b, .int .i64 p.f.nd.p.nd.t.l.n, .int .i64 p.f.nd.p.nd.t.r.k, .int .i64 p.f.nd.p.nd.t.r.a, .int .i64 p.f.nd.p.nd.t.r.b, .int .i64 p.f.nd.p.nd.t.r.n, .slice ac nac cac, .int .i64 p.f.nd.p.nd.a, .int .i64 p.f.nd.p.nd.b, .slice ak nak cak, .int .i64 p.f.nd.p.nd.g, .int .i64 p.f.nd.p.nd.c, .slice ad nad cad, .slice al nal cal, .slice ar nar car, .slice af naf caf, .int .i64 p.since, .slice ab nab cab, .slice ap nap cap] _ HX2.out Try.underlying85 rfl hil ?_) | (refine wpList_load_mid rfl 85 _ rfl W1.heap.size 0 rfl [.int .i64 q.f.nd.p.nd.k, .int .i64 q.f.nd.p.nd.n, .int .i64 q.f.nd.p.nd.t.k, .bool q.f.nd.p.nd.t.no, .int .i64 q.f.nd.p.nd.t.l.k, .int .i64 q.f.nd.p.nd.t.l.a, .int .i64 q.f.nd.p.nd.t.l.b, .int .i64 q.f.nd.p.nd.t.l.n, .int .i64 q.f.nd.p.nd.t.r.k, .int .i64 q.f.nd.p.nd.t.r.a, .int .i64 q.f.nd.p.nd.t.r.b, .int .i64 q.f.nd.p.nd.t.r.n, .slice ac2 nac2 cac2, .int .i64 q.f.nd.p.nd.a, .int .i64 q.f.nd.p.nd.b, .slice ak2 nak2 cak2, .int .i64 q.f.nd.p.nd.g, .int .i64 q.f.nd.p.nd.c, .slice ad2 nad2 cad2, .slice al2 nal2 cal2, .slice ar2 nar2 car2, .slice af2 naf2 caf2, .int .i64 q.since, .slice ab2 nab2 cab2, .slice ap2 nap2 cap2] _ HY2.out Try.underlying85 rfl hil2 ?_))
      clear hW1' hW2'
      refine (sameView_any p q (.slice ac nac cac) (.slice ak nak cak) (.slice ad nad cad) (.slice al nal cal) (.slice ar nar car) (.slice af naf caf) (.slice ab nab cab) (.slice ap nap cap) (.slice ac2 nac2 cac2) (.slice ak2 nak2 cak2) (.slice ad2 nad2 cad2) (.slice al2 nal2 cal2) (.slice ar2 nar2 car2) (.slice af2 naf2 caf2) (.slice ab2 nab2 cab2) (.slice ap2 nap2 cap2) _ (HV1.out.below (bel_then HB1.out HB2.out)) ((HV2.out.below HB1.out).below HB2.out) HZP.out HZQ.out).mono ?_
      rintro e w1 ⟨⟨c, rfl, hcc⟩, hb1⟩
      have HK : Hid (Below w.heap.size w w1) := bel_then HBW.out hb1
      have HCC : Hid (c = true ↔ p = q) := hcc
      clear hb1 hcc HX1 HX2 HY2 HR1 HR2 HT1 HT2 hil hil2 hia hia2 HV1 HV2 HBW HB1 HB2 HS1 HO1 HO2
      cases c with
      | false =>
        have H2 : Hid (¬ p = q) := fun h => by have := HCC.out.2 h; cases this
        go_wp2
        go_ret
        refine ⟨⟨false, rfl, ?_⟩, HK.out⟩
        simp only [Bool.false_eq_true, false_iff]
        intro h
        subst h
        exact H2.out (by rw [HP.out, HQ.out])
      | true =>
        have H1 : Hid (p = q) := HCC.out.1 rfl
        go_wp2
        go_roundw
        case rel => exact ⟨k + 1, by omega, by go_num, HK.out, fun j h1 h2 hj => by
          rcases Nat.lt_succ_iff_lt_or_eq.1 hj with h | h
          · exact HS.out j h1 h2 h
          · subst h; rw [← HP.out, ← HQ.out]; exact H1.out⟩
        case measure => simp [intOf]; omega
    · have e : k = m := by omega
      subst e
      go_wp2
      go_ret
      refine ⟨⟨true, rfl, ?_⟩, HW.out⟩
      simp only [true_iff]
      have h1 := HN.out
      have h2 := HL.out
      exact List.ext_getElem h2 fun j h1' h2' => HS.out j h1' h2' (by omega)
theorem equalViews_len (a : Option Addr) (cap n : Nat) (a2 : Option Addr) (cap2 m : Nat) (f : Value) (w : World) (hne : ((n : Int) != (m : Int)) = true) :
    Calls Try.prog 41 #[.slice a n cap, .slice a2 m cap2, f] w fun e w' => e = .returned (.bool false) ∧ Below w.heap.size w w' := by
  go_enter Try.func41, Try.ntmps41
  go_wp2
  go_ret
  exact ⟨rfl, Below.refl _ _⟩
theorem equalViews_none (a : Option Addr) (cap : Nat) (a2 : Option Addr) (cap2 : Nat) (f : Value) (w : World) :
    Calls Try.prog 41 #[.slice a 0 cap, .slice a2 0 cap2, f] w fun e w' => e = .returned (.bool true) ∧ Below w.heap.size w w' := by
  go_enter Try.func41, Try.ntmps41
  go_wp2
  refine wp_loop_rounds 1 ?_
  rw [rounds_succ]
  go_wp2
  go_ret
  exact ⟨rfl, Below.refl _ _⟩
theorem equalViews_any (l l2 : List (Vw D n)) (v v2 : Value) (w : World) (h : KV 25 (VwAt true) w v l) (h2 : KV 25 (VwAt true) w v2 l2) (hm : l.length + sumOf Vw.sz l ≤ 1048576) (hm2 : l2.length + sumOf Vw.sz l2 ≤ 1048576) :
    Calls Try.prog 41 #[v, v2, .func (.func 42) #[] #[]] w fun e w' => (∃ c : Bool, e = .returned (.bool c) ∧ (c = true ↔ l = l2)) ∧ Below w.heap.size w w' := by
  obtain ⟨hl, a, cap, rfl, _, hc⟩ := h
  obtain ⟨hl2, a2, cap2, rfl, _, hc2⟩ := h2
  by_cases hlen : l.length = l2.length
  · by_cases hne : l = []
    · subst hne
      obtain rfl : l2 = [] := List.length_eq_zero_iff.1 hlen.symm
      refine (equalViews_none a cap a2 cap2 _ w).mono ?_
      rintro e w' ⟨rfl, hb⟩
      exact ⟨⟨true, rfl, by simp⟩, hb⟩
    · have hne2 : l2 ≠ [] := fun e => hne (by rw [e] at hlen; exact List.length_eq_zero_iff.1 hlen)
      obtain ⟨b, off, rfl, hbw, hk⟩ := hc hne
      obtain ⟨b2, off2, rfl, hbw2, hk2⟩ := hc2 hne2
      rw [← hlen]
      exact equalViews_some b off cap b2 off2 cap2 l l2 w (List.length_pos_iff.2 hne) (by omega) hlen hbw hbw2 (fun j hj => by have := sumOf_at (g := Vw.sz) hj; omega) (fun j hj => by have := sumOf_at (g := Vw.sz) hj; omega) hk hk2
  · refine (equalViews_len a cap _ a2 cap2 _ _ w (by rw [bne_iff_ne]; omega)).mono ?_
    rintro e w' ⟨rfl, hb⟩
    refine ⟨⟨false, rfl, ?_⟩, hb⟩
    simp only [Bool.false_eq_true, false_iff]
    exact fun h => hlen (by rw [h])

set_option maxHeartbeats 4000000 in
theorem implStore_any (s t : St D n) (vw vt vv vw2 vt2 vv2 : Value) (w : World) (h : StV true w s vw vt vv) (h2 : StV true w t vw2 vt2 vv2) (hl : s.sz ≤ 1048576) (hl2 : t.sz ≤ 1048576) :
    Calls Try.prog 13 #[.agg #[vw, vt, vv, .int .i64 s.now, .int .i64 s.keep], .agg #[vw2, vt2, vv2, .int .i64 t.now, .int .i64 t.keep]] w fun e w' => (∃ c : Bool, e = .returned (.bool c) ∧ (c = true ↔ s = t)) ∧ Below w.heap.size w w' := by
  obtain ⟨wa, nw, wc, rfl⟩ := RawInts.shapeN' h.1
  obtain ⟨ta, nt, tc, rfl⟩ := h.2.1.shapeN
  obtain ⟨va, nv, vc, rfl⟩ := h.2.2.shapeN
  obtain ⟨wa2, nw2, wc2, rfl⟩ := RawInts.shapeN' h2.1
  obtain ⟨ta2, nt2, tc2, rfl⟩ := h2.2.1.shapeN
  obtain ⟨va2, nv2, vc2, rfl⟩ := h2.2.2.shapeN
  have HI : Hid (RawInts w (.slice wa nw wc) s.wides) := h.1
  have HT : Hid (RawRuns w (.slice ta nt tc) s.tables) := h.2.1
  have HW : Hid (KV 25 (VwAt true) w (.slice va nv vc) s.views) := h.2.2
  have HI2 : Hid (RawInts w (.slice wa2 nw2 wc2) t.wides) := h2.1
  have HT2 : Hid (RawRuns w (.slice ta2 nt2 tc2) t.tables) := h2.2.1
  have HW2 : Hid (KV 25 (VwAt true) w (.slice va2 nv2 vc2) t.views) := h2.2.2
  have HZ : Hid (s.wides.length ≤ 1048576 ∧ s.tables.length + runsLen s.tables ≤ 1048576 ∧ s.views.length + sumOf Vw.sz s.views ≤ 1048576) := by
    have e : s.sz = s.wides.length + (s.tables.length + runsLen s.tables) + (s.views.length + sumOf Vw.sz s.views) := rfl
    show _ ∧ _
    omega
  have HZ2 : Hid (t.wides.length ≤ 1048576 ∧ t.tables.length + runsLen t.tables ≤ 1048576 ∧ t.views.length + sumOf Vw.sz t.views ≤ 1048576) := by
    have e : t.sz = t.wides.length + (t.tables.length + runsLen t.tables) + (t.views.length + sumOf Vw.sz t.views) := rfl
    show _ ∧ _
    omega
  obtain ⟨c1, h1⟩ : ∃ c, sameB s.wides t.wides = c := ⟨_, rfl⟩
  obtain ⟨c2, h3⟩ : ∃ c, rsB s.tables t.tables = c := ⟨_, rfl⟩
  have H1 : Hid (sameB s.wides t.wides = c1) := h1
  have H2 : Hid (rsB s.tables t.tables = c2) := h3
  clear h h2 hl hl2 h1 h3
  obtain ⟨w0, hw0⟩ : ∃ w0, w0 = (w.alloc (.cells #[.slice wa nw wc, .slice ta nt tc, .slice va nv vc, .int .i64 s.now, .int .i64 s.keep] 61)).alloc (.cells #[.slice wa2 nw2 wc2, .slice ta2 nt2 tc2, .slice va2 nv2 vc2, .int .i64 t.now, .int .i64 t.keep] 61) := ⟨_, rfl⟩
  have HA : Hid (w0.heap[w.heap.size]? = some (.cells #[.slice wa nw wc, .slice ta nt tc, .slice va nv vc, .int .i64 s.now, .int .i64 s.keep] 61)) := by show _ = _; rw [hw0]; exact (two w _ _).1
  have HQ : Hid (w0.heap[w.heap.size + 1]? = some (.cells #[.slice wa2 nw2 wc2, .slice ta2 nt2 tc2, .slice va2 nv2 vc2, .int .i64 t.now, .int .i64 t.keep] 61)) := by show _ = _; rw [hw0]; exact (two w _ _).2.1
  have HB : Hid (Below w.heap.size w w0) := by show Below _ _ _; rw [hw0]; exact (two w _ _).2.2
  have hw0' := hw0.symm
  clear hw0
  have a0 : w0.cell? ⟨w.heap.size, 0, none⟩ = some (.slice wa nw wc) := cell_at HA.out rfl
  have b0 : w0.cell? ⟨w.heap.size + 1, 0, none⟩ = some (.slice wa2 nw2 wc2) := cell_at HQ.out rfl
  go_enter Try.func13, Try.ntmps13
  go_wp2_with fail
  clear hw0'
  refine (equalI_any _ _ s.wides t.wides _ ((HI.out.below HB.out).ints (by have := HZ.out; omega)) ((HI2.out.below HB.out).ints (by have := HZ2.out; omega))).mono ?_
  rw [H1.out]
  rintro e w1 ⟨rfl, hb⟩
  replace HA : Hid (w1.heap[w.heap.size]? = some (.cells #[.slice wa nw wc, .slice ta nt tc, .slice va nv vc, .int .i64 s.now, .int .i64 s.keep] 61)) := at_below HA.out hb
  replace HQ : Hid (w1.heap[w.heap.size + 1]? = some (.cells #[.slice wa2 nw2 wc2, .slice ta2 nt2 tc2, .slice va2 nv2 vc2, .int .i64 t.now, .int .i64 t.keep] 61)) := at_below HQ.out hb
  replace HB : Hid (Below w.heap.size w w1) := bel_then HB.out hb
  clear hb a0 b0
  cases c1 with
  | false =>
    go_wp2
    go_ret
    refine ⟨⟨false, rfl, ?_⟩, HB.out⟩
    simp only [Bool.false_eq_true, false_iff]
    intro h
    have := H1.out
    rw [h] at this
    simp [sameB] at this
  | true =>
    have a1 : w1.cell? ⟨w.heap.size, 1, none⟩ = some (.slice ta nt tc) := cell_at HA.out rfl
    have b1 : w1.cell? ⟨w.heap.size + 1, 1, none⟩ = some (.slice ta2 nt2 tc2) := cell_at HQ.out rfl
    go_wp2_with fail
    refine (equalRuns_any _ _ s.tables t.tables _ ((HT.out.below HB.out).runsI HZ.out.2.1) ((HT2.out.below HB.out).runsI HZ2.out.2.1)).mono ?_
    rw [H2.out]
    rintro e w2 ⟨rfl, hb⟩
    replace HA : Hid (w2.heap[w.heap.size]? = some (.cells #[.slice wa nw wc, .slice ta nt tc, .slice va nv vc, .int .i64 s.now, .int .i64 s.keep] 61)) := at_below HA.out hb
    replace HQ : Hid (w2.heap[w.heap.size + 1]? = some (.cells #[.slice wa2 nw2 wc2, .slice ta2 nt2 tc2, .slice va2 nv2 vc2, .int .i64 t.now, .int .i64 t.keep] 61)) := at_below HQ.out hb
    replace HB : Hid (Below w.heap.size w w2) := bel_then HB.out hb
    clear hb a1 b1
    cases c2 with
    | false =>
      go_wp2
      go_ret
      refine ⟨⟨false, rfl, ?_⟩, HB.out⟩
      simp only [Bool.false_eq_true, false_iff]
      intro h
      have := H2.out
      rw [h] at this
      simp [rsB] at this
    | true =>
      have a2 : w2.cell? ⟨w.heap.size, 2, none⟩ = some (.slice va nv vc) := cell_at HA.out rfl
      have b2 : w2.cell? ⟨w.heap.size + 1, 2, none⟩ = some (.slice va2 nv2 vc2) := cell_at HQ.out rfl
      go_wp2_with fail
      refine (equalViews_any s.views t.views _ _ _ (HW.out.below HB.out fun b o p hp => hp.below HB.out) (HW2.out.below HB.out fun b o p hp => hp.below HB.out) HZ.out.2.2 HZ2.out.2.2).mono ?_
      rintro e w3 ⟨⟨c, rfl, hc⟩, hb⟩
      replace HA : Hid (w3.heap[w.heap.size]? = some (.cells #[.slice wa nw wc, .slice ta nt tc, .slice va nv vc, .int .i64 s.now, .int .i64 s.keep] 61)) := at_below HA.out hb
      replace HQ : Hid (w3.heap[w.heap.size + 1]? = some (.cells #[.slice wa2 nw2 wc2, .slice ta2 nt2 tc2, .slice va2 nv2 vc2, .int .i64 t.now, .int .i64 t.keep] 61)) := at_below HQ.out hb
      replace HB : Hid (Below w.heap.size w w3) := bel_then HB.out hb
      have HC : Hid (c = true ↔ s.views = t.views) := hc
      clear hb hc a2 b2
      cases c with
      | false =>
        go_wp2
        go_ret
        refine ⟨⟨false, rfl, ?_⟩, HB.out⟩
        simp only [Bool.false_eq_true, false_iff]
        intro h
        have := HC.out.2 (by rw [h])
        cases this
      | true =>
        have a3 : w3.cell? ⟨w.heap.size, 3, none⟩ = some (.int .i64 s.now) := cell_at HA.out rfl
        have b3 : w3.cell? ⟨w.heap.size + 1, 3, none⟩ = some (.int .i64 t.now) := cell_at HQ.out rfl
        have a4 : w3.cell? ⟨w.heap.size, 4, none⟩ = some (.int .i64 s.keep) := cell_at HA.out rfl
        have b4 : w3.cell? ⟨w.heap.size + 1, 4, none⟩ = some (.int .i64 t.keep) := cell_at HQ.out rfl
        by_cases g3 : s.now = t.now
        case neg =>
          have hne : (s.now == t.now) = false := by simp [g3]
          have HG3 : Hid (¬ s.now = t.now) := g3
          clear g3
          go_wp2
          go_ret
          refine ⟨⟨false, rfl, ?_⟩, HB.out⟩
          simp only [Bool.false_eq_true, false_iff]
          exact fun h => HG3.out (by rw [h])
        have hn3 : (s.now == t.now) = true := by simp [g3]
        have HG3 : Hid (s.now = t.now) := g3
        clear g3
        obtain ⟨c4, h4⟩ : ∃ c, (s.keep == t.keep) = c := ⟨_, rfl⟩
        have H4 : Hid ((s.keep == t.keep) = c4) := h4
        go_wp2
        go_ret
        refine ⟨⟨c4, rfl, ?_⟩, HB.out⟩
        rw [← H4.out, beq_iff_eq]
        exact ⟨fun h => St.ext' (by have := H1.out; simpa [sameB] using this) (by have := H2.out; simpa [rsB] using this) (HC.out.1 (by simp)) HG3.out h, fun h => by rw [h]⟩

end Go.Proofs.Ytfmgohoddaobmaa.Fw

/-
  The walk of laws.FnExactStoreSame, out of the contracts.
-/
namespace Go.Proofs.Ytfmgohoddaobmaa.Fw
set_option maxRecDepth 100000
open Go.RowKit
set_option linter.unusedVariables false
set_option linter.unusedSimpArgs false
variable {D : Nat}

variable {n : Nat}
theorem store_lt (w : World) (o : Obj) (vs : List Value) : w.heap.size < ((w.alloc o).setCells w.heap.size 0 vs).heap.size := by
  rw [size_setCells, alloc_sz]
  omega
theorem bool_same {c s : Bool} {P : Prop} (h : c = true ↔ P) (k : s = true ↔ P) : s = c := by
  cases c <;> cases s <;> simp_all
set_option maxHeartbeats 4000000 in
theorem lawStoreSame (p q : St D n) (vw vt vv vw2 vt2 vv2 : Value) (w : World) (hp : StV false w p vw vt vv) (hq : StV false w q vw2 vt2 vv2) :
    Calls Try.prog 4 #[.agg #[vw, vt, vv, .int .i64 p.now, .int .i64 p.keep], .agg #[vw2, vt2, vv2, .int .i64 q.now, .int .i64 q.keep]] w fun e w' => e = .returned (.bool true) ∧ Below w.heap.size w w' := by
  have HP : Hid (StV false w p vw vt vv) := hp
  have HQ : Hid (StV false w q vw2 vt2 vv2) := hq
  clear hp hq
  obtain ⟨w0, hw0⟩ : ∃ w0, w0 = (w.alloc (.cells #[vw, vt, vv, .int .i64 p.now, .int .i64 p.keep] 56)).alloc (.cells #[vw2, vt2, vv2, .int .i64 q.now, .int .i64 q.keep] 56) := ⟨_, rfl⟩
  have HA0 : Hid (w0.heap[w.heap.size]? = some (.cells #[vw, vt, vv, .int .i64 p.now, .int .i64 p.keep] 56)) := by show _ = _; rw [hw0]; exact (two w _ _).1
  have HQ0 : Hid (w0.heap[w.heap.size + 1]? = some (.cells #[vw2, vt2, vv2, .int .i64 q.now, .int .i64 q.keep] 56)) := by show _ = _; rw [hw0]; exact (two w _ _).2.1
  have HB0 : Hid (Below w.heap.size w w0) := by show Below _ _ _; rw [hw0]; exact (two w _ _).2.2
  have HRA0 : Hid (w0.rangeAt (w.heap.size) 0 [vw, vt, vv, .int .i64 p.now, .int .i64 p.keep]) := range_blk (vs := #[vw, vt, vv, .int .i64 p.now, .int .i64 p.keep]) HA0.out
  have HRB0 : Hid (w0.rangeAt (w.heap.size + 1) 0 [vw2, vt2, vv2, .int .i64 q.now, .int .i64 q.keep]) := range_blk (vs := #[vw2, vt2, vv2, .int .i64 q.now, .int .i64 q.keep]) HQ0.out
  have hla : (Try.prog.info? 56).map (·.size) = some ([vw, vt, vv, .int .i64 p.now, .int .i64 p.keep] : List Value).length := by kernel_rfl
  have hlb : (Try.prog.info? 56).map (·.size) = some ([vw2, vt2, vv2, .int .i64 q.now, .int .i64 q.keep] : List Value).length := by kernel_rfl
  have hw0' := hw0.symm
  clear hw0
  go_enter Try.func4, Try.ntmps4
  go_wp2_with (refine wpList_load_mid rfl 56 _ rfl (w.heap.size) 0 rfl _ _ HRA0.out Try.underlying56 rfl hla ?_)
  clear hw0'
  refine (szStore_any p vw vt vv 1048576 _ (StV.below HP.out HB0.out) (by omega) (by omega)).mono ?_
  rintro e w1 ⟨y, rfl, hr, hb⟩
  have HA1 : Hid (w1.heap[w.heap.size]? = some (.cells #[vw, vt, vv, .int .i64 p.now, .int .i64 p.keep] 56)) := at_below HA0.out hb
  have HQ1 : Hid (w1.heap[w.heap.size + 1]? = some (.cells #[vw2, vt2, vv2, .int .i64 q.now, .int .i64 q.keep] 56)) := at_below HQ0.out hb
  have HB1 : Hid (Below w.heap.size w w1) := bel_then HB0.out hb
  have HRA1 : Hid (w1.rangeAt (w.heap.size) 0 [vw, vt, vv, .int .i64 p.now, .int .i64 p.keep]) := range_blk (vs := #[vw, vt, vv, .int .i64 p.now, .int .i64 p.keep]) HA1.out
  have HRB1 : Hid (w1.rangeAt (w.heap.size + 1) 0 [vw2, vt2, vv2, .int .i64 q.now, .int .i64 q.keep]) := range_blk (vs := #[vw2, vt2, vv2, .int .i64 q.now, .int .i64 q.keep]) HQ1.out
  clear hb
  by_cases g1 : y < 0
  · clear hr
    go_wp2
    go_ret
    exact ⟨rfl, HB1.out⟩
  have hy0 : 0 ≤ y := by omega
  have hy1 : y ≤ 1048576 := by omega
  have HZ1 : Hid (St.sz p ≤ 1048576) := by show _ ≤ _; omega
  clear hr
  go_wp2_with (refine wpList_load_mid rfl 56 _ rfl (w.heap.size + 1) 0 rfl _ _ HRB1.out Try.underlying56 rfl hlb ?_)
  refine (szStore_any q vw2 vt2 vv2 y _ (StV.below HQ.out HB1.out) hy0 hy1).mono ?_
  rintro e w2 ⟨z, rfl, hr, hb⟩
  have HA2 : Hid (w2.heap[w.heap.size]? = some (.cells #[vw, vt, vv, .int .i64 p.now, .int .i64 p.keep] 56)) := at_below HA1.out hb
  have HQ2 : Hid (w2.heap[w.heap.size + 1]? = some (.cells #[vw2, vt2, vv2, .int .i64 q.now, .int .i64 q.keep] 56)) := at_below HQ1.out hb
  have HB2 : Hid (Below w.heap.size w w2) := bel_then HB1.out hb
  have HRA2 : Hid (w2.rangeAt (w.heap.size) 0 [vw, vt, vv, .int .i64 p.now, .int .i64 p.keep]) := range_blk (vs := #[vw, vt, vv, .int .i64 p.now, .int .i64 p.keep]) HA2.out
  have HRB2 : Hid (w2.rangeAt (w.heap.size + 1) 0 [vw2, vt2, vv2, .int .i64 q.now, .int .i64 q.keep]) := range_blk (vs := #[vw2, vt2, vv2, .int .i64 q.now, .int .i64 q.keep]) HQ2.out
  clear hb
  by_cases g2 : z < 0
  · clear hr
    go_wp2
    go_ret
    exact ⟨rfl, HB2.out⟩
  have HZ2 : Hid (St.sz q ≤ 1048576) := by show _ ≤ _; omega
  clear hr hy0 hy1 g1
  obtain ⟨s, hs⟩ : ∃ s : Bool, (s = true ↔ p = q) := bool_of _
  have HSM : Hid (s = true ↔ p = q) := hs
  clear hs
  go_wp2_with fail
  refine wp_region_held_drew (S := (fun x => x.rangeAt (w.heap.size) 0 ([vw, vt, vv, .int .i64 p.now, .int .i64 p.keep] : List Value) ∧ x.rangeAt (w.heap.size + 1) 0 ([vw2, vt2, vv2, .int .i64 q.now, .int .i64 q.keep] : List Value))) (by kernel_rfl) ?_ (fun hHeld => ?_)
  · (try dsimp only); exact ⟨HRA2.out, HRB2.out⟩
  refine wpAnyH_take (i := 0) (v := .agg ([vw, vt, vv, .int .i64 p.now, .int .i64 p.keep] : List Value).toArray) rfl (by kernel_rfl) (by kernel_rfl) (by kernel_rfl) (fun _ _ _ h => h) (yieldsIf_load_mid (by rfl) 56 _ rfl (w.heap.size) 0 rfl [vw, vt, vv, .int .i64 p.now, .int .i64 p.keep] _ (fun x h => h.1) Try.underlying56 rfl hla) (by assumption) ?_
  simp only [Act.put, List.getElem_toArray, List.getElem_cons_succ, List.getElem_cons_zero, List.setIfInBounds_toArray, List.set_cons_zero, List.set_cons_succ]
  refine wpAnyH_take (i := 2) (v := .agg ([vw2, vt2, vv2, .int .i64 q.now, .int .i64 q.keep] : List Value).toArray) rfl (by kernel_rfl) (by kernel_rfl) (by kernel_rfl) (fun _ _ _ h => h) (yieldsIf_load_mid (by rfl) 56 _ rfl (w.heap.size + 1) 0 rfl [vw2, vt2, vv2, .int .i64 q.now, .int .i64 q.keep] _ (fun x h => h.2) Try.underlying56 rfl hlb) (by assumption) ?_
  simp only [Act.put, List.getElem_toArray, List.getElem_cons_succ, List.getElem_cons_zero, List.setIfInBounds_toArray, List.set_cons_zero, List.set_cons_succ]
  refine wpAnyH_ready (rs := [1]) (by kernel_rfl) (by simp) ?_
  refine AllReadyH.cons rfl (fun K hK => ?_) AllReadyH.nil
  go_simp
  (refine (toStore_any p vw vt vv _ (by first | exact StV.below HP.out HB2.out | exact StV.below (StV.below HP.out HB2.out) (Below.drew (Below.refl _ _))) HZ1.out).mono ?_; rintro e w3 ⟨vwa3, vta3, vva3, rfl, ⟨⟨wa3, nwa3, cwa3, rfl⟩, ⟨ta3, nta3, cta3, rfl⟩, ⟨va3, nva3, cva3, rfl⟩⟩, hup, hb⟩; have hb' : Below w2.heap.size w2 w3 := (by first | exact hb | exact (Below.drew (Below.refl _ _)).trans hb); have HA3 : Hid (w3.heap[w.heap.size]? = some (.cells #[vw, vt, vv, .int .i64 p.now, .int .i64 p.keep] 56)) := at_below HA2.out hb'; have HQ3 : Hid (w3.heap[w.heap.size + 1]? = some (.cells #[vw2, vt2, vv2, .int .i64 q.now, .int .i64 q.keep] 56)) := at_below HQ2.out hb'; have HB3 : Hid (Below w.heap.size w w3) := bel_then HB2.out hb'; have HRA3 : Hid (w3.rangeAt (w.heap.size) 0 [vw, vt, vv, .int .i64 p.now, .int .i64 p.keep]) := range_blk (vs := #[vw, vt, vv, .int .i64 p.now, .int .i64 p.keep]) HA3.out; have HRB3 : Hid (w3.rangeAt (w.heap.size + 1) 0 [vw2, vt2, vv2, .int .i64 q.now, .int .i64 q.keep]) := range_blk (vs := #[vw2, vt2, vv2, .int .i64 q.now, .int .i64 q.keep]) HQ3.out; have HV3_3 : Hid (StV true w3 p (.slice wa3 nwa3 cwa3) (.slice ta3 nta3 cta3) (.slice va3 nva3 cva3)) := hup.here; clear hup; have Y3 : w3.rangeAt (w.heap.size) 0 ([vw, vt, vv, .int .i64 p.now, .int .i64 p.keep] : List Value) ∧ w3.rangeAt (w.heap.size + 1) 0 ([vw2, vt2, vv2, .int .i64 q.now, .int .i64 q.keep] : List Value) := ⟨HRA3.out, HRB3.out⟩; clear hb hb')
  refine hK.out _ _ ?_ (fun hHeld => ?_)
  · (try dsimp only); exact Y3
  clear hK K
  try simp only [Act.put, List.getElem_toArray, List.getElem_cons_succ, List.getElem_cons_zero, List.setIfInBounds_toArray, List.set_cons_zero, List.set_cons_succ]
  refine wpAnyH_ready (rs := [3]) (by kernel_rfl) (by simp) ?_
  refine AllReadyH.cons rfl (fun K hK => ?_) AllReadyH.nil
  go_simp
  (refine (toStore_any q vw2 vt2 vv2 _ (StV.below HQ.out HB3.out) HZ2.out).mono ?_; rintro e w4 ⟨vwa4, vta4, vva4, rfl, ⟨⟨wa4, nwa4, cwa4, rfl⟩, ⟨ta4, nta4, cta4, rfl⟩, ⟨va4, nva4, cva4, rfl⟩⟩, hup, hb⟩; have hb' : Below w3.heap.size w3 w4 := (by first | exact hb | exact (Below.drew (Below.refl _ _)).trans hb); have HA4 : Hid (w4.heap[w.heap.size]? = some (.cells #[vw, vt, vv, .int .i64 p.now, .int .i64 p.keep] 56)) := at_below HA3.out hb'; have HQ4 : Hid (w4.heap[w.heap.size + 1]? = some (.cells #[vw2, vt2, vv2, .int .i64 q.now, .int .i64 q.keep] 56)) := at_below HQ3.out hb'; have HB4 : Hid (Below w.heap.size w w4) := bel_then HB3.out hb'; have HRA4 : Hid (w4.rangeAt (w.heap.size) 0 [vw, vt, vv, .int .i64 p.now, .int .i64 p.keep]) := range_blk (vs := #[vw, vt, vv, .int .i64 p.now, .int .i64 p.keep]) HA4.out; have HRB4 : Hid (w4.rangeAt (w.heap.size + 1) 0 [vw2, vt2, vv2, .int .i64 q.now, .int .i64 q.keep]) := range_blk (vs := #[vw2, vt2, vv2, .int .i64 q.now, .int .i64 q.keep]) HQ4.out; have HV3_4 : Hid (StV true w4 p (.slice wa3 nwa3 cwa3) (.slice ta3 nta3 cta3) (.slice va3 nva3 cva3)) := StV.below HV3_3.out hb'; have HV4_4 : Hid (StV true w4 q (.slice wa4 nwa4 cwa4) (.slice ta4 nta4 cta4) (.slice va4 nva4 cva4)) := hup.here; clear hup; have Y4 : w4.rangeAt (w.heap.size) 0 ([vw, vt, vv, .int .i64 p.now, .int .i64 p.keep] : List Value) ∧ w4.rangeAt (w.heap.size + 1) 0 ([vw2, vt2, vv2, .int .i64 q.now, .int .i64 q.keep] : List Value) := ⟨HRA4.out, HRB4.out⟩; clear hb hb')
  refine hK.out _ _ ?_ (fun hHeld => ?_)
  · (try dsimp only); exact Y4
  clear hK K
  try simp only [Act.put, List.getElem_toArray, List.getElem_cons_succ, List.getElem_cons_zero, List.setIfInBounds_toArray, List.set_cons_zero, List.set_cons_succ]
  refine wpAnyH_ready (rs := [4]) (by kernel_rfl) (by simp) ?_
  refine AllReadyH.cons rfl (fun K hK => ?_) AllReadyH.nil
  go_simp
  (refine (specStore_any p q _ _ _ _ _ _ _ (HV3_4.out).weak (HV4_4.out).weak HZ1.out HZ2.out).mono ?_; rintro e w5 ⟨⟨c, rfl, hc⟩, hb⟩; obtain rfl : s = c := bool_same hc HSM.out; clear hc; have hb' : Below w4.heap.size w4 w5 := (by first | exact hb | exact (Below.drew (Below.refl _ _)).trans hb); have HA5 : Hid (w5.heap[w.heap.size]? = some (.cells #[vw, vt, vv, .int .i64 p.now, .int .i64 p.keep] 56)) := at_below HA4.out hb'; have HQ5 : Hid (w5.heap[w.heap.size + 1]? = some (.cells #[vw2, vt2, vv2, .int .i64 q.now, .int .i64 q.keep] 56)) := at_below HQ4.out hb'; have HB5 : Hid (Below w.heap.size w w5) := bel_then HB4.out hb'; have HRA5 : Hid (w5.rangeAt (w.heap.size) 0 [vw, vt, vv, .int .i64 p.now, .int .i64 p.keep]) := range_blk (vs := #[vw, vt, vv, .int .i64 p.now, .int .i64 p.keep]) HA5.out; have HRB5 : Hid (w5.rangeAt (w.heap.size + 1) 0 [vw2, vt2, vv2, .int .i64 q.now, .int .i64 q.keep]) := range_blk (vs := #[vw2, vt2, vv2, .int .i64 q.now, .int .i64 q.keep]) HQ5.out; have Y5 : w5.rangeAt (w.heap.size) 0 ([vw, vt, vv, .int .i64 p.now, .int .i64 p.keep] : List Value) ∧ w5.rangeAt (w.heap.size + 1) 0 ([vw2, vt2, vv2, .int .i64 q.now, .int .i64 q.keep] : List Value) := ⟨HRA5.out, HRB5.out⟩; clear hb hb')
  refine hK.out _ _ ?_ (fun hHeld => ?_)
  · (try dsimp only); exact Y5
  clear hK K
  try simp only [Act.put, List.getElem_toArray, List.getElem_cons_succ, List.getElem_cons_zero, List.setIfInBounds_toArray, List.set_cons_zero, List.set_cons_succ]
  refine wpAnyH_take (i := 5) (v := ?_) rfl (by kernel_rfl) (by kernel_rfl) (by kernel_rfl) (fun _ _ _ h => h) (Or.inl ⟨by rfl, ?_⟩) (by assumption) ?_
  rotate_left 1
  · intro w hSw; (try dsimp only at hSw); go_simp; try with_reducible rfl
  simp only [Act.put, List.getElem_toArray, List.getElem_cons_succ, List.getElem_cons_zero, List.setIfInBounds_toArray, List.set_cons_zero, List.set_cons_succ]
  refine wpAnyH_done (by kernel_rfl) ?_ _
  clear Y3 Y4 Y5 HV3_3 HV3_4 HV4_4
  go_wp2_with (refine wpList_load_mid rfl 56 _ rfl (w.heap.size) 0 rfl _ _ HRA5.out Try.underlying56 rfl hla ?_)
  refine (toStore_any p vw vt vv _ (StV.below HP.out HB5.out) HZ1.out).mono ?_
  rintro e w6 ⟨vwa6, vta6, vva6, rfl, ⟨⟨wa6, nwa6, cwa6, rfl⟩, ⟨ta6, nta6, cta6, rfl⟩, ⟨va6, nva6, cva6, rfl⟩⟩, hup, hb⟩
  have HA6 : Hid (w6.heap[w.heap.size]? = some (.cells #[vw, vt, vv, .int .i64 p.now, .int .i64 p.keep] 56)) := at_below HA5.out hb
  have HQ6 : Hid (w6.heap[w.heap.size + 1]? = some (.cells #[vw2, vt2, vv2, .int .i64 q.now, .int .i64 q.keep] 56)) := at_below HQ5.out hb
  have HB6 : Hid (Below w.heap.size w w6) := bel_then HB5.out hb
  have HRA6 : Hid (w6.rangeAt (w.heap.size) 0 [vw, vt, vv, .int .i64 p.now, .int .i64 p.keep]) := range_blk (vs := #[vw, vt, vv, .int .i64 p.now, .int .i64 p.keep]) HA6.out
  have HRB6 : Hid (w6.rangeAt (w.heap.size + 1) 0 [vw2, vt2, vv2, .int .i64 q.now, .int .i64 q.keep]) := range_blk (vs := #[vw2, vt2, vv2, .int .i64 q.now, .int .i64 q.keep]) HQ6.out
  have HV6_6 : Hid (StV true w6 p (.slice wa6 nwa6 cwa6) (.slice ta6 nta6 cta6) (.slice va6 nva6 cva6)) := hup.here
  clear hup hb
  have hb : Below w6.heap.size w6 ((w6.alloc (.cells #[.slice none 0 0, .slice none 0 0, .slice none 0 0, .int .i64 0, .int .i64 0] 61)).setCells w6.heap.size 0 [.slice wa6 nwa6 cwa6, .slice ta6 nta6 cta6, .slice va6 nva6 cva6, .int .i64 p.now, .int .i64 p.keep]) := bel_setCells _ _ _ _ (bel_alloc _) (Nat.le_refl _)
  have HA7 : Hid (((w6.alloc (.cells #[.slice none 0 0, .slice none 0 0, .slice none 0 0, .int .i64 0, .int .i64 0] 61)).setCells w6.heap.size 0 [.slice wa6 nwa6 cwa6, .slice ta6 nta6 cta6, .slice va6 nva6 cva6, .int .i64 p.now, .int .i64 p.keep]).heap[w.heap.size]? = some (.cells #[vw, vt, vv, .int .i64 p.now, .int .i64 p.keep] 56)) := at_below HA6.out hb
  have HQ7 : Hid (((w6.alloc (.cells #[.slice none 0 0, .slice none 0 0, .slice none 0 0, .int .i64 0, .int .i64 0] 61)).setCells w6.heap.size 0 [.slice wa6 nwa6 cwa6, .slice ta6 nta6 cta6, .slice va6 nva6 cva6, .int .i64 p.now, .int .i64 p.keep]).heap[w.heap.size + 1]? = some (.cells #[vw2, vt2, vv2, .int .i64 q.now, .int .i64 q.keep] 56)) := at_below HQ6.out hb
  have HB7 : Hid (Below w.heap.size w ((w6.alloc (.cells #[.slice none 0 0, .slice none 0 0, .slice none 0 0, .int .i64 0, .int .i64 0] 61)).setCells w6.heap.size 0 [.slice wa6 nwa6 cwa6, .slice ta6 nta6 cta6, .slice va6 nva6 cva6, .int .i64 p.now, .int .i64 p.keep])) := bel_then HB6.out hb
  have HRA7 : Hid (((w6.alloc (.cells #[.slice none 0 0, .slice none 0 0, .slice none 0 0, .int .i64 0, .int .i64 0] 61)).setCells w6.heap.size 0 [.slice wa6 nwa6 cwa6, .slice ta6 nta6 cta6, .slice va6 nva6 cva6, .int .i64 p.now, .int .i64 p.keep]).rangeAt (w.heap.size) 0 [vw, vt, vv, .int .i64 p.now, .int .i64 p.keep]) := range_blk (vs := #[vw, vt, vv, .int .i64 p.now, .int .i64 p.keep]) HA7.out
  have HRB7 : Hid (((w6.alloc (.cells #[.slice none 0 0, .slice none 0 0, .slice none 0 0, .int .i64 0, .int .i64 0] 61)).setCells w6.heap.size 0 [.slice wa6 nwa6 cwa6, .slice ta6 nta6 cta6, .slice va6 nva6 cva6, .int .i64 p.now, .int .i64 p.keep]).rangeAt (w.heap.size + 1) 0 [vw2, vt2, vv2, .int .i64 q.now, .int .i64 q.keep]) := range_blk (vs := #[vw2, vt2, vv2, .int .i64 q.now, .int .i64 q.keep]) HQ7.out
  have HV6_7 : Hid (StV true ((w6.alloc (.cells #[.slice none 0 0, .slice none 0 0, .slice none 0 0, .int .i64 0, .int .i64 0] 61)).setCells w6.heap.size 0 [.slice wa6 nwa6 cwa6, .slice ta6 nta6 cta6, .slice va6 nva6 cva6, .int .i64 p.now, .int .i64 p.keep]) p (.slice wa6 nwa6 cwa6) (.slice ta6 nta6 cta6) (.slice va6 nva6 cva6)) := StV.below HV6_6.out hb
  have HTHX : Hid ((w6.alloc (.cells #[.slice none 0 0, .slice none 0 0, .slice none 0 0, .int .i64 0, .int .i64 0] 61)).there w6.heap.size 0 (#[.slice wa6 nwa6 cwa6, .slice ta6 nta6 cta6, .slice va6 nva6 cva6, .int .i64 p.now, .int .i64 p.keep] : Array Value).size) := there_blk (vs := #[.slice none 0 0, .slice none 0 0, .slice none 0 0, .int .i64 0, .int .i64 0]) (alloc_at w6 _)
  have HX7 : Hid (((w6.alloc (.cells #[.slice none 0 0, .slice none 0 0, .slice none 0 0, .int .i64 0, .int .i64 0] 61)).setCells w6.heap.size 0 [.slice wa6 nwa6 cwa6, .slice ta6 nta6 cta6, .slice va6 nva6 cva6, .int .i64 p.now, .int .i64 p.keep]).rangeAt (w6.heap.size) 0 [.slice wa6 nwa6 cwa6, .slice ta6 nta6 cta6, .slice va6 nva6 cva6, .int .i64 p.now, .int .i64 p.keep]) := World.rangeAt_setCells_same _ _ _ _ HTHX.out
  have HSHX7 : Hid (w6.heap.size < ((w6.alloc (.cells #[.slice none 0 0, .slice none 0 0, .slice none 0 0, .int .i64 0, .int .i64 0] 61)).setCells w6.heap.size 0 [.slice wa6 nwa6 cwa6, .slice ta6 nta6 cta6, .slice va6 nva6 cva6, .int .i64 p.now, .int .i64 p.keep]).heap.size) := store_lt _ _ _
  have hiHX : (Try.prog.info? 61).map (·.size) = some (#[.slice wa6 nwa6 cwa6, .slice ta6 nta6 cta6, .slice va6 nva6 cva6, .int .i64 p.now, .int .i64 p.keep] : Array Value).size := by kernel_rfl
  have hlHX : (Try.prog.info? 61).map (·.size) = some ([.slice wa6 nwa6 cwa6, .slice ta6 nta6 cta6, .slice va6 nva6 cva6, .int .i64 p.now, .int .i64 p.keep] : List Value).length := by kernel_rfl
  have HOHX : Hid ((#[.slice wa6 nwa6 cwa6, .slice ta6 nta6 cta6, .slice va6 nva6 cva6, .int .i64 p.now, .int .i64 p.keep] : Array Value).all (·.oneCell') = true) := by show _ = _ <;> simp [Value.oneCell']
  clear hb
  go_wp2_with (first | (refine wpList_store_mid rfl 61 _ _ rfl w6.heap.size 0 #[.slice wa6 nwa6 cwa6, .slice ta6 nta6 cta6, .slice va6 nva6 cva6, .int .i64 p.now, .int .i64 p.keep] rfl rfl ?_ hiHX HOHX.out ?_) | (refine wpList_load_mid rfl 56 _ rfl (w.heap.size + 1) 0 rfl [vw2, vt2, vv2, .int .i64 q.now, .int .i64 q.keep] _ ?_ Try.underlying56 rfl hlb ?_))
  · exact HTHX.out
  · exact HRB7.out
  refine (toStore_any q vw2 vt2 vv2 _ (StV.below HQ.out HB7.out) HZ2.out).mono ?_
  rintro e w8 ⟨vwa8, vta8, vva8, rfl, ⟨⟨wa8, nwa8, cwa8, rfl⟩, ⟨ta8, nta8, cta8, rfl⟩, ⟨va8, nva8, cva8, rfl⟩⟩, hup, hb⟩
  have HA8 : Hid (w8.heap[w.heap.size]? = some (.cells #[vw, vt, vv, .int .i64 p.now, .int .i64 p.keep] 56)) := at_below HA7.out hb
  have HQ8 : Hid (w8.heap[w.heap.size + 1]? = some (.cells #[vw2, vt2, vv2, .int .i64 q.now, .int .i64 q.keep] 56)) := at_below HQ7.out hb
  have HB8 : Hid (Below w.heap.size w w8) := bel_then HB7.out hb
  have HRA8 : Hid (w8.rangeAt (w.heap.size) 0 [vw, vt, vv, .int .i64 p.now, .int .i64 p.keep]) := range_blk (vs := #[vw, vt, vv, .int .i64 p.now, .int .i64 p.keep]) HA8.out
  have HRB8 : Hid (w8.rangeAt (w.heap.size + 1) 0 [vw2, vt2, vv2, .int .i64 q.now, .int .i64 q.keep]) := range_blk (vs := #[vw2, vt2, vv2, .int .i64 q.now, .int .i64 q.keep]) HQ8.out
  have HX8 : Hid (w8.rangeAt (w6.heap.size) 0 [.slice wa6 nwa6 cwa6, .slice ta6 nta6 cta6, .slice va6 nva6 cva6, .int .i64 p.now, .int .i64 p.keep]) := range_below HX7.out hb HSHX7.out
  have HSHX8 : Hid (w6.heap.size < w8.heap.size) := Nat.lt_of_lt_of_le HSHX7.out hb.size
  have HV6_8 : Hid (StV true w8 p (.slice wa6 nwa6 cwa6) (.slice ta6 nta6 cta6) (.slice va6 nva6 cva6)) := StV.below HV6_7.out hb
  have HV8_8 : Hid (StV true w8 q (.slice wa8 nwa8 cwa8) (.slice ta8 nta8 cta8) (.slice va8 nva8 cva8)) := hup.here
  clear hup hb
  have hb : Below w8.heap.size w8 ((w8.alloc (.cells #[.slice none 0 0, .slice none 0 0, .slice none 0 0, .int .i64 0, .int .i64 0] 61)).setCells w8.heap.size 0 [.slice wa8 nwa8 cwa8, .slice ta8 nta8 cta8, .slice va8 nva8 cva8, .int .i64 q.now, .int .i64 q.keep]) := bel_setCells _ _ _ _ (bel_alloc _) (Nat.le_refl _)
  have HA9 : Hid (((w8.alloc (.cells #[.slice none 0 0, .slice none 0 0, .slice none 0 0, .int .i64 0, .int .i64 0] 61)).setCells w8.heap.size 0 [.slice wa8 nwa8 cwa8, .slice ta8 nta8 cta8, .slice va8 nva8 cva8, .int .i64 q.now, .int .i64 q.keep]).heap[w.heap.size]? = some (.cells #[vw, vt, vv, .int .i64 p.now, .int .i64 p.keep] 56)) := at_below HA8.out hb
  have HQ9 : Hid (((w8.alloc (.cells #[.slice none 0 0, .slice none 0 0, .slice none 0 0, .int .i64 0, .int .i64 0] 61)).setCells w8.heap.size 0 [.slice wa8 nwa8 cwa8, .slice ta8 nta8 cta8, .slice va8 nva8 cva8, .int .i64 q.now, .int .i64 q.keep]).heap[w.heap.size + 1]? = some (.cells #[vw2, vt2, vv2, .int .i64 q.now, .int .i64 q.keep] 56)) := at_below HQ8.out hb
  have HB9 : Hid (Below w.heap.size w ((w8.alloc (.cells #[.slice none 0 0, .slice none 0 0, .slice none 0 0, .int .i64 0, .int .i64 0] 61)).setCells w8.heap.size 0 [.slice wa8 nwa8 cwa8, .slice ta8 nta8 cta8, .slice va8 nva8 cva8, .int .i64 q.now, .int .i64 q.keep])) := bel_then HB8.out hb
  have HRA9 : Hid (((w8.alloc (.cells #[.slice none 0 0, .slice none 0 0, .slice none 0 0, .int .i64 0, .int .i64 0] 61)).setCells w8.heap.size 0 [.slice wa8 nwa8 cwa8, .slice ta8 nta8 cta8, .slice va8 nva8 cva8, .int .i64 q.now, .int .i64 q.keep]).rangeAt (w.heap.size) 0 [vw, vt, vv, .int .i64 p.now, .int .i64 p.keep]) := range_blk (vs := #[vw, vt, vv, .int .i64 p.now, .int .i64 p.keep]) HA9.out
  have HRB9 : Hid (((w8.alloc (.cells #[.slice none 0 0, .slice none 0 0, .slice none 0 0, .int .i64 0, .int .i64 0] 61)).setCells w8.heap.size 0 [.slice wa8 nwa8 cwa8, .slice ta8 nta8 cta8, .slice va8 nva8 cva8, .int .i64 q.now, .int .i64 q.keep]).rangeAt (w.heap.size + 1) 0 [vw2, vt2, vv2, .int .i64 q.now, .int .i64 q.keep]) := range_blk (vs := #[vw2, vt2, vv2, .int .i64 q.now, .int .i64 q.keep]) HQ9.out
  have HX9 : Hid (((w8.alloc (.cells #[.slice none 0 0, .slice none 0 0, .slice none 0 0, .int .i64 0, .int .i64 0] 61)).setCells w8.heap.size 0 [.slice wa8 nwa8 cwa8, .slice ta8 nta8 cta8, .slice va8 nva8 cva8, .int .i64 q.now, .int .i64 q.keep]).rangeAt (w6.heap.size) 0 [.slice wa6 nwa6 cwa6, .slice ta6 nta6 cta6, .slice va6 nva6 cva6, .int .i64 p.now, .int .i64 p.keep]) := range_below HX8.out hb HSHX8.out
  have HSHX9 : Hid (w6.heap.size < ((w8.alloc (.cells #[.slice none 0 0, .slice none 0 0, .slice none 0 0, .int .i64 0, .int .i64 0] 61)).setCells w8.heap.size 0 [.slice wa8 nwa8 cwa8, .slice ta8 nta8 cta8, .slice va8 nva8 cva8, .int .i64 q.now, .int .i64 q.keep]).heap.size) := Nat.lt_of_lt_of_le HSHX8.out hb.size
  have HV6_9 : Hid (StV true ((w8.alloc (.cells #[.slice none 0 0, .slice none 0 0, .slice none 0 0, .int .i64 0, .int .i64 0] 61)).setCells w8.heap.size 0 [.slice wa8 nwa8 cwa8, .slice ta8 nta8 cta8, .slice va8 nva8 cva8, .int .i64 q.now, .int .i64 q.keep]) p (.slice wa6 nwa6 cwa6) (.slice ta6 nta6 cta6) (.slice va6 nva6 cva6)) := StV.below HV6_8.out hb
  have HV8_9 : Hid (StV true ((w8.alloc (.cells #[.slice none 0 0, .slice none 0 0, .slice none 0 0, .int .i64 0, .int .i64 0] 61)).setCells w8.heap.size 0 [.slice wa8 nwa8 cwa8, .slice ta8 nta8 cta8, .slice va8 nva8 cva8, .int .i64 q.now, .int .i64 q.keep]) q (.slice wa8 nwa8 cwa8) (.slice ta8 nta8 cta8) (.slice va8 nva8 cva8)) := StV.below HV8_8.out hb
  have HTHY : Hid ((w8.alloc (.cells #[.slice none 0 0, .slice none 0 0, .slice none 0 0, .int .i64 0, .int .i64 0] 61)).there w8.heap.size 0 (#[.slice wa8 nwa8 cwa8, .slice ta8 nta8 cta8, .slice va8 nva8 cva8, .int .i64 q.now, .int .i64 q.keep] : Array Value).size) := there_blk (vs := #[.slice none 0 0, .slice none 0 0, .slice none 0 0, .int .i64 0, .int .i64 0]) (alloc_at w8 _)
  have HY9 : Hid (((w8.alloc (.cells #[.slice none 0 0, .slice none 0 0, .slice none 0 0, .int .i64 0, .int .i64 0] 61)).setCells w8.heap.size 0 [.slice wa8 nwa8 cwa8, .slice ta8 nta8 cta8, .slice va8 nva8 cva8, .int .i64 q.now, .int .i64 q.keep]).rangeAt (w8.heap.size) 0 [.slice wa8 nwa8 cwa8, .slice ta8 nta8 cta8, .slice va8 nva8 cva8, .int .i64 q.now, .int .i64 q.keep]) := World.rangeAt_setCells_same _ _ _ _ HTHY.out
  have HSHY9 : Hid (w8.heap.size < ((w8.alloc (.cells #[.slice none 0 0, .slice none 0 0, .slice none 0 0, .int .i64 0, .int .i64 0] 61)).setCells w8.heap.size 0 [.slice wa8 nwa8 cwa8, .slice ta8 nta8 cta8, .slice va8 nva8 cva8, .int .i64 q.now, .int .i64 q.keep]).heap.size) := store_lt _ _ _
  have hiHY : (Try.prog.info? 61).map (·.size) = some (#[.slice wa8 nwa8 cwa8, .slice ta8 nta8 cta8, .slice va8 nva8 cva8, .int .i64 q.now, .int .i64 q.keep] : Array Value).size := by kernel_rfl
  have hlHY : (Try.prog.info? 61).map (·.size) = some ([.slice wa8 nwa8 cwa8, .slice ta8 nta8 cta8, .slice va8 nva8 cva8, .int .i64 q.now, .int .i64 q.keep] : List Value).length := by kernel_rfl
  have HOHY : Hid ((#[.slice wa8 nwa8 cwa8, .slice ta8 nta8 cta8, .slice va8 nva8 cva8, .int .i64 q.now, .int .i64 q.keep] : Array Value).all (·.oneCell') = true) := by show _ = _ <;> simp [Value.oneCell']
  clear hb
  go_wp2_with (first | (refine wpList_store_mid rfl 61 _ _ rfl w8.heap.size 0 #[.slice wa8 nwa8 cwa8, .slice ta8 nta8 cta8, .slice va8 nva8 cva8, .int .i64 q.now, .int .i64 q.keep] rfl rfl ?_ hiHY HOHY.out ?_) | (refine wpList_load_mid rfl 61 _ rfl (w6.heap.size) 0 rfl [.slice wa6 nwa6 cwa6, .slice ta6 nta6 cta6, .slice va6 nva6 cva6, .int .i64 p.now, .int .i64 p.keep] _ ?_ Try.underlying61 rfl hlHX ?_) | (refine wpList_load_mid rfl 61 _ rfl (w8.heap.size) 0 rfl [.slice wa8 nwa8 cwa8, .slice ta8 nta8 cta8, .slice va8 nva8 cva8, .int .i64 q.now, .int .i64 q.keep] _ ?_ Try.underlying61 rfl hlHY ?_))
  · exact HTHY.out
  · exact HX9.out
  · exact HY9.out
  refine (implStore_any p q _ _ _ _ _ _ _ (HV6_9.out) (HV8_9.out) HZ1.out HZ2.out).mono ?_
  rintro e w10 ⟨⟨c, rfl, hc⟩, hb⟩
  obtain rfl : s = c := bool_same hc HSM.out
  clear hc
  have HA10 : Hid (w10.heap[w.heap.size]? = some (.cells #[vw, vt, vv, .int .i64 p.now, .int .i64 p.keep] 56)) := at_below HA9.out hb
  have HQ10 : Hid (w10.heap[w.heap.size + 1]? = some (.cells #[vw2, vt2, vv2, .int .i64 q.now, .int .i64 q.keep] 56)) := at_below HQ9.out hb
  have HB10 : Hid (Below w.heap.size w w10) := bel_then HB9.out hb
  have HRA10 : Hid (w10.rangeAt (w.heap.size) 0 [vw, vt, vv, .int .i64 p.now, .int .i64 p.keep]) := range_blk (vs := #[vw, vt, vv, .int .i64 p.now, .int .i64 p.keep]) HA10.out
  have HRB10 : Hid (w10.rangeAt (w.heap.size + 1) 0 [vw2, vt2, vv2, .int .i64 q.now, .int .i64 q.keep]) := range_blk (vs := #[vw2, vt2, vv2, .int .i64 q.now, .int .i64 q.keep]) HQ10.out
  have HX10 : Hid (w10.rangeAt (w6.heap.size) 0 [.slice wa6 nwa6 cwa6, .slice ta6 nta6 cta6, .slice va6 nva6 cva6, .int .i64 p.now, .int .i64 p.keep]) := range_below HX9.out hb HSHX9.out
  have HSHX10 : Hid (w6.heap.size < w10.heap.size) := Nat.lt_of_lt_of_le HSHX9.out hb.size
  have HY10 : Hid (w10.rangeAt (w8.heap.size) 0 [.slice wa8 nwa8 cwa8, .slice ta8 nta8 cta8, .slice va8 nva8 cva8, .int .i64 q.now, .int .i64 q.keep]) := range_below HY9.out hb HSHY9.out
  have HSHY10 : Hid (w8.heap.size < w10.heap.size) := Nat.lt_of_lt_of_le HSHY9.out hb.size
  have HV6_10 : Hid (StV true w10 p (.slice wa6 nwa6 cwa6) (.slice ta6 nta6 cta6) (.slice va6 nva6 cva6)) := StV.below HV6_9.out hb
  have HV8_10 : Hid (StV true w10 q (.slice wa8 nwa8 cwa8) (.slice ta8 nta8 cta8) (.slice va8 nva8 cva8)) := StV.below HV8_9.out hb
  clear hb
  have hss : (s != s) = false := by simp
  go_wp2_with fail
  refine wp_region_held_drew (S := (fun x => x.rangeAt (w6.heap.size) 0 ([.slice wa6 nwa6 cwa6, .slice ta6 nta6 cta6, .slice va6 nva6 cva6, .int .i64 p.now, .int .i64 p.keep] : List Value) ∧ x.rangeAt (w.heap.size) 0 ([vw, vt, vv, .int .i64 p.now, .int .i64 p.keep] : List Value))) (by kernel_rfl) ?_ (fun hHeld => ?_)
  · (try dsimp only); exact ⟨HX10.out, HRA10.out⟩
  refine wpAnyH_take (i := 0) (v := .agg ([.slice wa6 nwa6 cwa6, .slice ta6 nta6 cta6, .slice va6 nva6 cva6, .int .i64 p.now, .int .i64 p.keep] : List Value).toArray) rfl (by kernel_rfl) (by kernel_rfl) (by kernel_rfl) (fun _ _ _ h => h) (yieldsIf_load_mid (by rfl) 61 _ rfl (w6.heap.size) 0 rfl [.slice wa6 nwa6 cwa6, .slice ta6 nta6 cta6, .slice va6 nva6 cva6, .int .i64 p.now, .int .i64 p.keep] _ (fun x h => h.1) Try.underlying61 rfl hlHX) (by assumption) ?_
  simp only [Act.put, List.getElem_toArray, List.getElem_cons_succ, List.getElem_cons_zero, List.setIfInBounds_toArray, List.set_cons_zero, List.set_cons_succ]
  refine wpAnyH_take (i := 1) (v := .agg ([vw, vt, vv, .int .i64 p.now, .int .i64 p.keep] : List Value).toArray) rfl (by kernel_rfl) (by kernel_rfl) (by kernel_rfl) (fun _ _ _ h => h) (yieldsIf_load_mid (by rfl) 56 _ rfl (w.heap.size) 0 rfl [vw, vt, vv, .int .i64 p.now, .int .i64 p.keep] _ (fun x h => h.2) Try.underlying56 rfl hla) (by assumption) ?_
  simp only [Act.put, List.getElem_toArray, List.getElem_cons_succ, List.getElem_cons_zero, List.setIfInBounds_toArray, List.set_cons_zero, List.set_cons_succ]
  refine wpAnyH_ready (rs := [2]) (by kernel_rfl) (by simp) ?_
  refine AllReadyH.cons rfl (fun K hK => ?_) AllReadyH.nil
  go_simp
  (refine (toStore_any p vw vt vv _ (by first | exact StV.below HP.out HB10.out | exact StV.below (StV.below HP.out HB10.out) (Below.drew (Below.refl _ _))) HZ1.out).mono ?_; rintro e w11 ⟨vwa11, vta11, vva11, rfl, ⟨⟨wa11, nwa11, cwa11, rfl⟩, ⟨ta11, nta11, cta11, rfl⟩, ⟨va11, nva11, cva11, rfl⟩⟩, hup, hb⟩; have hb' : Below w10.heap.size w10 w11 := (by first | exact hb | exact (Below.drew (Below.refl _ _)).trans hb); have HA11 : Hid (w11.heap[w.heap.size]? = some (.cells #[vw, vt, vv, .int .i64 p.now, .int .i64 p.keep] 56)) := at_below HA10.out hb'; have HQ11 : Hid (w11.heap[w.heap.size + 1]? = some (.cells #[vw2, vt2, vv2, .int .i64 q.now, .int .i64 q.keep] 56)) := at_below HQ10.out hb'; have HB11 : Hid (Below w.heap.size w w11) := bel_then HB10.out hb'; have HRA11 : Hid (w11.rangeAt (w.heap.size) 0 [vw, vt, vv, .int .i64 p.now, .int .i64 p.keep]) := range_blk (vs := #[vw, vt, vv, .int .i64 p.now, .int .i64 p.keep]) HA11.out; have HRB11 : Hid (w11.rangeAt (w.heap.size + 1) 0 [vw2, vt2, vv2, .int .i64 q.now, .int .i64 q.keep]) := range_blk (vs := #[vw2, vt2, vv2, .int .i64 q.now, .int .i64 q.keep]) HQ11.out; have HX11 : Hid (w11.rangeAt (w6.heap.size) 0 [.slice wa6 nwa6 cwa6, .slice ta6 nta6 cta6, .slice va6 nva6 cva6, .int .i64 p.now, .int .i64 p.keep]) := range_below HX10.out hb' HSHX10.out; have HSHX11 : Hid (w6.heap.size < w11.heap.size) := Nat.lt_of_lt_of_le HSHX10.out hb'.size; have HY11 : Hid (w11.rangeAt (w8.heap.size) 0 [.slice wa8 nwa8 cwa8, .slice ta8 nta8 cta8, .slice va8 nva8 cva8, .int .i64 q.now, .int .i64 q.keep]) := range_below HY10.out hb' HSHY10.out; have HSHY11 : Hid (w8.heap.size < w11.heap.size) := Nat.lt_of_lt_of_le HSHY10.out hb'.size; have HV6_11 : Hid (StV true w11 p (.slice wa6 nwa6 cwa6) (.slice ta6 nta6 cta6) (.slice va6 nva6 cva6)) := StV.below HV6_10.out hb'; have HV8_11 : Hid (StV true w11 q (.slice wa8 nwa8 cwa8) (.slice ta8 nta8 cta8) (.slice va8 nva8 cva8)) := StV.below HV8_10.out hb'; have HV11_11 : Hid (StV true w11 p (.slice wa11 nwa11 cwa11) (.slice ta11 nta11 cta11) (.slice va11 nva11 cva11)) := hup.here; clear hup; have Y11 : w11.rangeAt (w6.heap.size) 0 ([.slice wa6 nwa6 cwa6, .slice ta6 nta6 cta6, .slice va6 nva6 cva6, .int .i64 p.now, .int .i64 p.keep] : List Value) ∧ w11.rangeAt (w.heap.size) 0 ([vw, vt, vv, .int .i64 p.now, .int .i64 p.keep] : List Value) := ⟨HX11.out, HRA11.out⟩; clear hb hb')
  refine hK.out _ _ ?_ (fun hHeld => ?_)
  · (try dsimp only); exact Y11
  clear hK K
  try simp only [Act.put, List.getElem_toArray, List.getElem_cons_succ, List.getElem_cons_zero, List.setIfInBounds_toArray, List.set_cons_zero, List.set_cons_succ]
  refine wpAnyH_ready (rs := [3]) (by kernel_rfl) (by simp) ?_
  refine AllReadyH.cons rfl (fun K hK => ?_) AllReadyH.nil
  go_simp
  (refine (eqStore_same p _ _ _ _ _ _ _ (HV6_11.out).weak (HV11_11.out).weak HZ1.out).mono ?_; rintro e w12 ⟨rfl, hb⟩; have hb' : Below w11.heap.size w11 w12 := (by first | exact hb | exact (Below.drew (Below.refl _ _)).trans hb); have HA12 : Hid (w12.heap[w.heap.size]? = some (.cells #[vw, vt, vv, .int .i64 p.now, .int .i64 p.keep] 56)) := at_below HA11.out hb'; have HQ12 : Hid (w12.heap[w.heap.size + 1]? = some (.cells #[vw2, vt2, vv2, .int .i64 q.now, .int .i64 q.keep] 56)) := at_below HQ11.out hb'; have HB12 : Hid (Below w.heap.size w w12) := bel_then HB11.out hb'; have HRA12 : Hid (w12.rangeAt (w.heap.size) 0 [vw, vt, vv, .int .i64 p.now, .int .i64 p.keep]) := range_blk (vs := #[vw, vt, vv, .int .i64 p.now, .int .i64 p.keep]) HA12.out; have HRB12 : Hid (w12.rangeAt (w.heap.size + 1) 0 [vw2, vt2, vv2, .int .i64 q.now, .int .i64 q.keep]) := range_blk (vs := #[vw2, vt2, vv2, .int .i64 q.now, .int .i64 q.keep]) HQ12.out; have HX12 : Hid (w12.rangeAt (w6.heap.size) 0 [.slice wa6 nwa6 cwa6, .slice ta6 nta6 cta6, .slice va6 nva6 cva6, .int .i64 p.now, .int .i64 p.keep]) := range_below HX11.out hb' HSHX11.out; have HSHX12 : Hid (w6.heap.size < w12.heap.size) := Nat.lt_of_lt_of_le HSHX11.out hb'.size; have HY12 : Hid (w12.rangeAt (w8.heap.size) 0 [.slice wa8 nwa8 cwa8, .slice ta8 nta8 cta8, .slice va8 nva8 cva8, .int .i64 q.now, .int .i64 q.keep]) := range_below HY11.out hb' HSHY11.out; have HSHY12 : Hid (w8.heap.size < w12.heap.size) := Nat.lt_of_lt_of_le HSHY11.out hb'.size; have HV6_12 : Hid (StV true w12 p (.slice wa6 nwa6 cwa6) (.slice ta6 nta6 cta6) (.slice va6 nva6 cva6)) := StV.below HV6_11.out hb'; have HV8_12 : Hid (StV true w12 q (.slice wa8 nwa8 cwa8) (.slice ta8 nta8 cta8) (.slice va8 nva8 cva8)) := StV.below HV8_11.out hb'; have Y12 : w12.rangeAt (w6.heap.size) 0 ([.slice wa6 nwa6 cwa6, .slice ta6 nta6 cta6, .slice va6 nva6 cva6, .int .i64 p.now, .int .i64 p.keep] : List Value) ∧ w12.rangeAt (w.heap.size) 0 ([vw, vt, vv, .int .i64 p.now, .int .i64 p.keep] : List Value) := ⟨HX12.out, HRA12.out⟩; clear hb hb')
  refine hK.out _ _ ?_ (fun hHeld => ?_)
  · (try dsimp only); exact Y12
  clear hK K
  try simp only [Act.put, List.getElem_toArray, List.getElem_cons_succ, List.getElem_cons_zero, List.setIfInBounds_toArray, List.set_cons_zero, List.set_cons_succ]
  refine wpAnyH_take (i := 4) (v := ?_) rfl (by kernel_rfl) (by kernel_rfl) (by kernel_rfl) (fun _ _ _ h => h) (Or.inl ⟨by rfl, ?_⟩) (by assumption) ?_
  rotate_left 1
  · intro w hSw; (try dsimp only at hSw); go_simp; try with_reducible rfl
  simp only [Act.put, List.getElem_toArray, List.getElem_cons_succ, List.getElem_cons_zero, List.setIfInBounds_toArray, List.set_cons_zero, List.set_cons_succ]
  refine wpAnyH_done (by kernel_rfl) ?_ _
  go_wp2_with fail
  refine wp_region_held_drew (S := (fun x => x.rangeAt (w8.heap.size) 0 ([.slice wa8 nwa8 cwa8, .slice ta8 nta8 cta8, .slice va8 nva8 cva8, .int .i64 q.now, .int .i64 q.keep] : List Value) ∧ x.rangeAt (w.heap.size + 1) 0 ([vw2, vt2, vv2, .int .i64 q.now, .int .i64 q.keep] : List Value))) (by kernel_rfl) ?_ (fun hHeld => ?_)
  · (try dsimp only); exact ⟨HY12.out, HRB12.out⟩
  refine wpAnyH_take (i := 0) (v := .agg ([.slice wa8 nwa8 cwa8, .slice ta8 nta8 cta8, .slice va8 nva8 cva8, .int .i64 q.now, .int .i64 q.keep] : List Value).toArray) rfl (by kernel_rfl) (by kernel_rfl) (by kernel_rfl) (fun _ _ _ h => h) (yieldsIf_load_mid (by rfl) 61 _ rfl (w8.heap.size) 0 rfl [.slice wa8 nwa8 cwa8, .slice ta8 nta8 cta8, .slice va8 nva8 cva8, .int .i64 q.now, .int .i64 q.keep] _ (fun x h => h.1) Try.underlying61 rfl hlHY) (by assumption) ?_
  simp only [Act.put, List.getElem_toArray, List.getElem_cons_succ, List.getElem_cons_zero, List.setIfInBounds_toArray, List.set_cons_zero, List.set_cons_succ]
  refine wpAnyH_take (i := 1) (v := .agg ([vw2, vt2, vv2, .int .i64 q.now, .int .i64 q.keep] : List Value).toArray) rfl (by kernel_rfl) (by kernel_rfl) (by kernel_rfl) (fun _ _ _ h => h) (yieldsIf_load_mid (by rfl) 56 _ rfl (w.heap.size + 1) 0 rfl [vw2, vt2, vv2, .int .i64 q.now, .int .i64 q.keep] _ (fun x h => h.2) Try.underlying56 rfl hlb) (by assumption) ?_
  simp only [Act.put, List.getElem_toArray, List.getElem_cons_succ, List.getElem_cons_zero, List.setIfInBounds_toArray, List.set_cons_zero, List.set_cons_succ]
  refine wpAnyH_ready (rs := [2]) (by kernel_rfl) (by simp) ?_
  refine AllReadyH.cons rfl (fun K hK => ?_) AllReadyH.nil
  go_simp
  (refine (toStore_any q vw2 vt2 vv2 _ (by first | exact StV.below HQ.out HB12.out | exact StV.below (StV.below HQ.out HB12.out) (Below.drew (Below.refl _ _))) HZ2.out).mono ?_; rintro e w13 ⟨vwa13, vta13, vva13, rfl, ⟨⟨wa13, nwa13, cwa13, rfl⟩, ⟨ta13, nta13, cta13, rfl⟩, ⟨va13, nva13, cva13, rfl⟩⟩, hup, hb⟩; have hb' : Below w12.heap.size w12 w13 := (by first | exact hb | exact (Below.drew (Below.refl _ _)).trans hb); have HA13 : Hid (w13.heap[w.heap.size]? = some (.cells #[vw, vt, vv, .int .i64 p.now, .int .i64 p.keep] 56)) := at_below HA12.out hb'; have HQ13 : Hid (w13.heap[w.heap.size + 1]? = some (.cells #[vw2, vt2, vv2, .int .i64 q.now, .int .i64 q.keep] 56)) := at_below HQ12.out hb'; have HB13 : Hid (Below w.heap.size w w13) := bel_then HB12.out hb'; have HRA13 : Hid (w13.rangeAt (w.heap.size) 0 [vw, vt, vv, .int .i64 p.now, .int .i64 p.keep]) := range_blk (vs := #[vw, vt, vv, .int .i64 p.now, .int .i64 p.keep]) HA13.out; have HRB13 : Hid (w13.rangeAt (w.heap.size + 1) 0 [vw2, vt2, vv2, .int .i64 q.now, .int .i64 q.keep]) := range_blk (vs := #[vw2, vt2, vv2, .int .i64 q.now, .int .i64 q.keep]) HQ13.out; have HX13 : Hid (w13.rangeAt (w6.heap.size) 0 [.slice wa6 nwa6 cwa6, .slice ta6 nta6 cta6, .slice va6 nva6 cva6, .int .i64 p.now, .int .i64 p.keep]) := range_below HX12.out hb' HSHX12.out; have HSHX13 : Hid (w6.heap.size < w13.heap.size) := Nat.lt_of_lt_of_le HSHX12.out hb'.size; have HY13 : Hid (w13.rangeAt (w8.heap.size) 0 [.slice wa8 nwa8 cwa8, .slice ta8 nta8 cta8, .slice va8 nva8 cva8, .int .i64 q.now, .int .i64 q.keep]) := range_below HY12.out hb' HSHY12.out; have HSHY13 : Hid (w8.heap.size < w13.heap.size) := Nat.lt_of_lt_of_le HSHY12.out hb'.size; have HV6_13 : Hid (StV true w13 p (.slice wa6 nwa6 cwa6) (.slice ta6 nta6 cta6) (.slice va6 nva6 cva6)) := StV.below HV6_12.out hb'; have HV8_13 : Hid (StV true w13 q (.slice wa8 nwa8 cwa8) (.slice ta8 nta8 cta8) (.slice va8 nva8 cva8)) := StV.below HV8_12.out hb'; have HV13_13 : Hid (StV true w13 q (.slice wa13 nwa13 cwa13) (.slice ta13 nta13 cta13) (.slice va13 nva13 cva13)) := hup.here; clear hup; have Y13 : w13.rangeAt (w8.heap.size) 0 ([.slice wa8 nwa8 cwa8, .slice ta8 nta8 cta8, .slice va8 nva8 cva8, .int .i64 q.now, .int .i64 q.keep] : List Value) ∧ w13.rangeAt (w.heap.size + 1) 0 ([vw2, vt2, vv2, .int .i64 q.now, .int .i64 q.keep] : List Value) := ⟨HY13.out, HRB13.out⟩; clear hb hb')
  refine hK.out _ _ ?_ (fun hHeld => ?_)
  · (try dsimp only); exact Y13
  clear hK K
  try simp only [Act.put, List.getElem_toArray, List.getElem_cons_succ, List.getElem_cons_zero, List.setIfInBounds_toArray, List.set_cons_zero, List.set_cons_succ]
  refine wpAnyH_ready (rs := [3]) (by kernel_rfl) (by simp) ?_
  refine AllReadyH.cons rfl (fun K hK => ?_) AllReadyH.nil
  go_simp
  (refine (eqStore_same q _ _ _ _ _ _ _ (HV8_13.out).weak (HV13_13.out).weak HZ2.out).mono ?_; rintro e w14 ⟨rfl, hb⟩; have hb' : Below w13.heap.size w13 w14 := (by first | exact hb | exact (Below.drew (Below.refl _ _)).trans hb); have HA14 : Hid (w14.heap[w.heap.size]? = some (.cells #[vw, vt, vv, .int .i64 p.now, .int .i64 p.keep] 56)) := at_below HA13.out hb'; have HQ14 : Hid (w14.heap[w.heap.size + 1]? = some (.cells #[vw2, vt2, vv2, .int .i64 q.now, .int .i64 q.keep] 56)) := at_below HQ13.out hb'; have HB14 : Hid (Below w.heap.size w w14) := bel_then HB13.out hb'; have HRA14 : Hid (w14.rangeAt (w.heap.size) 0 [vw, vt, vv, .int .i64 p.now, .int .i64 p.keep]) := range_blk (vs := #[vw, vt, vv, .int .i64 p.now, .int .i64 p.keep]) HA14.out; have HRB14 : Hid (w14.rangeAt (w.heap.size + 1) 0 [vw2, vt2, vv2, .int .i64 q.now, .int .i64 q.keep]) := range_blk (vs := #[vw2, vt2, vv2, .int .i64 q.now, .int .i64 q.keep]) HQ14.out; have HX14 : Hid (w14.rangeAt (w6.heap.size) 0 [.slice wa6 nwa6 cwa6, .slice ta6 nta6 cta6, .slice va6 nva6 cva6, .int .i64 p.now, .int .i64 p.keep]) := range_below HX13.out hb' HSHX13.out; have HSHX14 : Hid (w6.heap.size < w14.heap.size) := Nat.lt_of_lt_of_le HSHX13.out hb'.size; have HY14 : Hid (w14.rangeAt (w8.heap.size) 0 [.slice wa8 nwa8 cwa8, .slice ta8 nta8 cta8, .slice va8 nva8 cva8, .int .i64 q.now, .int .i64 q.keep]) := range_below HY13.out hb' HSHY13.out; have HSHY14 : Hid (w8.heap.size < w14.heap.size) := Nat.lt_of_lt_of_le HSHY13.out hb'.size; have HV6_14 : Hid (StV true w14 p (.slice wa6 nwa6 cwa6) (.slice ta6 nta6 cta6) (.slice va6 nva6 cva6)) := StV.below HV6_13.out hb'; have HV8_14 : Hid (StV true w14 q (.slice wa8 nwa8 cwa8) (.slice ta8 nta8 cta8) (.slice va8 nva8 cva8)) := StV.below HV8_13.out hb'; have Y14 : w14.rangeAt (w8.heap.size) 0 ([.slice wa8 nwa8 cwa8, .slice ta8 nta8 cta8, .slice va8 nva8 cva8, .int .i64 q.now, .int .i64 q.keep] : List Value) ∧ w14.rangeAt (w.heap.size + 1) 0 ([vw2, vt2, vv2, .int .i64 q.now, .int .i64 q.keep] : List Value) := ⟨HY14.out, HRB14.out⟩; clear hb hb')
  refine hK.out _ _ ?_ (fun hHeld => ?_)
  · (try dsimp only); exact Y14
  clear hK K
  try simp only [Act.put, List.getElem_toArray, List.getElem_cons_succ, List.getElem_cons_zero, List.setIfInBounds_toArray, List.set_cons_zero, List.set_cons_succ]
  refine wpAnyH_take (i := 4) (v := ?_) rfl (by kernel_rfl) (by kernel_rfl) (by kernel_rfl) (fun _ _ _ h => h) (Or.inl ⟨by rfl, ?_⟩) (by assumption) ?_
  rotate_left 1
  · intro w hSw; (try dsimp only at hSw); go_simp; try with_reducible rfl
  simp only [Act.put, List.getElem_toArray, List.getElem_cons_succ, List.getElem_cons_zero, List.setIfInBounds_toArray, List.set_cons_zero, List.set_cons_succ]
  refine wpAnyH_done (by kernel_rfl) ?_ _
  go_wp2_with fail
  go_ret
  exact ⟨rfl, HB14.out⟩

end Go.Proofs.Ytfmgohoddaobmaa.Fw

/-
  What a frame tells of a store that came in.
-/
namespace Go.Proofs.Ytfmgohoddaobmaa.Fw
set_option maxRecDepth 100000
open Go.RowKit Go.ChangeShapes Go.WideShapes Go.ChangeAt
set_option linter.unusedVariables false
set_option linter.unusedSimpArgs false
variable {D : Nat}

variable {n : Nat}
theorem KV.up {α β : Type} {k : Nat} {N : World → Nat → Nat → α → Prop} {N' : World → Nat → Nat → β → Prop} {w : World} {v : Value} {l : List α} (h : KV k N w v l) (hN : ∀ b o x, N w b o x → ∃ y, N' w b o y) : ∃ l', KV k N' w v l' := by
  obtain ⟨hl, a, cap, rfl, hn, hc⟩ := h
  by_cases hne : l = []
  · subst hne
    exact ⟨[], hl, a, cap, rfl, hn, fun h => absurd rfl h⟩
  · obtain ⟨b, off, rfl, hb, hk⟩ := hc hne
    obtain ⟨l', hl', hr⟩ := list_of (R := fun j y => N' w b (off + j * k) y) l.length fun j hj => hN _ _ _ (hk j hj)
    exact ⟨l', by omega, some ⟨b, off, none⟩, cap, by rw [hl'], hn, fun _ => ⟨b, off, rfl, hb, hr⟩⟩
theorem VwAt.le {D' n' : Nat} (hD : D ≤ D') (hn : n ≤ n') {w : World} {b o : Nat} {x : Vw D n} (h : VwAt false w b o x) : ∃ y : Vw D' n', VwAt false w b o y := by
  obtain ⟨hl, vc, vk, vd, vl, vr, vf, vb, vp, hr, hf, hi, hp⟩ := h
  obtain ⟨p', e, hp'⟩ := FlowV.le hD hn hf.1
  refine ⟨⟨p', x.since, x.base, x.pasts⟩, hl, vc, vk, vd, vl, vr, vf, vb, vp, ?_, ⟨hp', fun e => by cases e⟩, hi, hp⟩
  show w.rangeAt b o [.int .i64 p'.nd.p.nd.k, .int .i64 p'.nd.p.nd.n, .int .i64 p'.nd.p.nd.t.k, .bool p'.nd.p.nd.t.no, .int .i64 p'.nd.p.nd.t.l.k, .int .i64 p'.nd.p.nd.t.l.a, .int .i64 p'.nd.p.nd.t.l.b, .int .i64 p'.nd.p.nd.t.l.n, .int .i64 p'.nd.p.nd.t.r.k, .int .i64 p'.nd.p.nd.t.r.a, .int .i64 p'.nd.p.nd.t.r.b, .int .i64 p'.nd.p.nd.t.r.n, vc, .int .i64 p'.nd.p.nd.a, .int .i64 p'.nd.p.nd.b, vk, .int .i64 p'.nd.p.nd.g, .int .i64 p'.nd.p.nd.c, vd, vl, vr, vf, .int .i64 x.since, vb, vp]
  rw [e]
  exact hr
theorem StV.le {D' n' : Nat} (hD : D ≤ D') (hn : n ≤ n') {w : World} {s : St D n} {vw vt vv : Value} (h : StV false w s vw vt vv) : ∃ s' : St D' n', s'.now = s.now ∧ s'.keep = s.keep ∧ StV false w s' vw vt vv := by
  obtain ⟨h1, h2, h3⟩ := h
  obtain ⟨l', hl'⟩ := h3.up (N' := VwAt (D := D') (n := n') false) fun b o x hx => hx.le hD hn
  exact ⟨⟨s.wides, s.tables, l', s.now, s.keep⟩, rfl, rfl, h1, h2, hl'⟩
theorem kv_in {α : Type} {k : Nat} {N : World → Nat → Nat → α → Prop} {H : Type} {enc : TypeId × Value → H} {w : World} {base : Nat} {spare : Nat → Bool} {held : Bool} {fuel : Nat} {T E : TypeId} {v : Value} {x : DataW H × List MemPlace}
    (hu : Try.prog.underlying T = some (.slice E)) (hk : Try.prog.cellsOf E = k) (hk0 : 0 < k) (h : DataW.trod enc Try.prog w base spare held fuel T [v] = some x)
    (each : ∀ m cs y, m < fuel → DataW.trod enc Try.prog w base spare held m E cs = some y → ∃ z : α, ∀ b o, b < w.heap.size → w.rangeAt b o cs → N w b o z) : ∃ l, KV k N w v l := by
  rcases DataW.trod_slice hu h with ⟨hcs, _⟩ | ⟨a, len, cap, elems, rest, m, hm, hcs, _, _, hlc, hcap, hel, hx, _, _⟩
  · simp at hcs
    subst hcs
    exact ⟨[], by simp, none, 0, rfl, fun _ => rfl, fun h => absurd rfl h⟩
  · simp only [List.cons.injEq, and_true] at hcs
    subst hcs
    have hmax : cap ≤ 9223372036854775807 := by simp only [maxLen] at hcap; omega
    obtain ⟨b, off, spot⟩ := a
    have all : ∀ j, j < len → ∃ q : α, (j = 0 → spot = none) ∧ b < w.heap.size ∧ N w b (off + j * k) q := by
      intro j hj
      have h10 := hx j hj
      rw [List.getElem?_eq_getElem (by omega), hk] at h10
      obtain ⟨cs', h11, h12⟩ := Option.bind_eq_some_iff.1 h10
      obtain ⟨_, hlen, hcell⟩ := World.cells?_some h11
      obtain ⟨q, hq⟩ := each m cs' _ (by omega) h12
      have h0 : ∃ u, cs'[0]? = some u := ⟨_, List.getElem?_eq_getElem (by omega)⟩
      obtain ⟨u, hu0⟩ := h0
      have hspot : j = 0 → spot = none := fun e => by
        subst e
        have h00 := (hcell 0 (by omega)).trans hu0
        simpa [Addr.add] using World.cell?_spot h00
      have hadd : (⟨b, off, spot⟩ : Addr).add (j * k) = ⟨b, off + j * k, none⟩ := by
        by_cases e : j = 0
        · rw [hspot e, Addr.add_lit]
        · have e2 : ¬ j * k = 0 := by
            have : 0 < j * k := Nat.mul_pos (by omega) hk0
            omega
          simp only [Addr.add, e2, if_false]
      rw [hadd] at hcell
      have hr : w.rangeAt b (off + j * k) cs' := fun i u hu => by
        have := hcell i (by have := (List.getElem?_eq_some_iff.1 hu).1; omega)
        rw [Addr.add_lit] at this
        exact this.trans hu
      have hb : b < w.heap.size := World.block_lt_of_cell? _ _ (hr 0 u hu0)
      exact ⟨q, hspot, hb, hq b _ hb hr⟩
    obtain ⟨l, hl0, hl1⟩ := list_of len all
    refine ⟨l, by omega, some ⟨b, off, spot⟩, cap, by rw [hl0], fun h => by simp at h, fun hne => ?_⟩
    obtain ⟨hs, hb, _⟩ := hl1 0 (List.length_pos_iff.2 hne)
    have hs := hs rfl
    subst hs
    exact ⟨b, off, rfl, hb, fun j hj => (hl1 j hj).2.2⟩
theorem past_in {H : Type} {enc : TypeId × Value → H} {w : World} {base : Nat} {spare : Nat → Bool} {held : Bool} {fuel : Nat} {cs : List Value} {x : DataW H × List MemPlace}
    (h : DataW.trod enc Try.prog w base spare held fuel 141 cs = some x) : ∃ (p : Pa) (vo : Value), cs = [.int .i64 p.tm, vo] ∧ RawItems w vo p.out := by
  obtain ⟨_, m, rfl, _, hl, _, _⟩ := DataW.trod_struct Try.underlying141 h
  rw [show Try.prog.cellsOf 141 = 2 from by kernel_rfl] at hl
  have hi : Try.prog.cellsOf 3 = 1 := by kernel_rfl
  have hs : Try.prog.cellsOf 108 = 1 := by kernel_rfl
  match cs, hl with
  | [v0, v1], _ =>
    obtain ⟨y0, h0⟩ := field_atN Try.underlying141 h 0 3 0 rfl
    obtain ⟨y1, h1⟩ := field_atN Try.underlying141 h 1 108 1 rfl
    simp only [hi, hs, List.drop_succ_cons, List.drop_zero, List.take_succ_cons, List.take_zero] at h0 h1
    obtain ⟨n0, e0, _, _⟩ := DataW.trod_int Try.underlying3 h0
    obtain ⟨zs, hz, _⟩ := raw_items h1
    simp only [List.cons.injEq, and_true] at e0
    subst e0
    exact ⟨⟨n0, zs⟩, v1, rfl, hz⟩
set_option maxHeartbeats 1000000 in
theorem view_in {H : Type} {enc : TypeId × Value → H} {w : World} {base : Nat} {spare : Nat → Bool} {held : Bool} {fuel : Nat} (hD : fuel ≤ D) (hn : fuel ≤ n) {cs : List Value} {x : DataW H × List MemPlace}
    (h : DataW.trod enc Try.prog w base spare held fuel 112 cs = some x) : ∃ (p : Vw D n) (vc vk vd vl vr vf vb vp : Value), cs = [.int .i64 p.f.nd.p.nd.k, .int .i64 p.f.nd.p.nd.n, .int .i64 p.f.nd.p.nd.t.k, .bool p.f.nd.p.nd.t.no, .int .i64 p.f.nd.p.nd.t.l.k, .int .i64 p.f.nd.p.nd.t.l.a, .int .i64 p.f.nd.p.nd.t.l.b, .int .i64 p.f.nd.p.nd.t.l.n, .int .i64 p.f.nd.p.nd.t.r.k, .int .i64 p.f.nd.p.nd.t.r.a, .int .i64 p.f.nd.p.nd.t.r.b, .int .i64 p.f.nd.p.nd.t.r.n, vc, .int .i64 p.f.nd.p.nd.a, .int .i64 p.f.nd.p.nd.b, vk, .int .i64 p.f.nd.p.nd.g, .int .i64 p.f.nd.p.nd.c, vd, vl, vr, vf, .int .i64 p.since, vb, vp] ∧ VwV false w p vc vk vd vl vr vf vb vp := by
  obtain ⟨_, m, rfl, _, hl, _, _⟩ := DataW.trod_struct Try.underlying112 h
  rw [show Try.prog.cellsOf 112 = 25 from by kernel_rfl] at hl
  have hcf : Try.prog.cellsOf 36 = 22 := by kernel_rfl
  have hci : Try.prog.cellsOf 3 = 1 := by kernel_rfl
  have hcs : Try.prog.cellsOf 108 = 1 := by kernel_rfl
  have hcp : Try.prog.cellsOf 110 = 1 := by kernel_rfl
  match cs, hl with
  | [v0, v1, v2, v3, v4, v5, v6, v7, v8, v9, v10, v11, v12, v13, v14, v15, v16, v17, v18, v19, v20, v21, v22, v23, v24], _ =>
    obtain ⟨y0, h0⟩ := field_atN Try.underlying112 h 0 36 0 rfl
    obtain ⟨y1, h1⟩ := field_atN Try.underlying112 h 1 3 22 rfl
    obtain ⟨y2, h2⟩ := field_atN Try.underlying112 h 2 108 23 rfl
    obtain ⟨y3, h3⟩ := field_atN Try.underlying112 h 3 110 24 rfl
    simp only [hcf, hci, hcs, hcp, List.drop_succ_cons, List.drop_zero, List.take_succ_cons, List.take_zero] at h0 h1 h2 h3
    obtain ⟨f, vc, vk, vd, vl, vr, vf, e0, hf⟩ := flow_in m h0
    obtain ⟨n1, e1, _, _⟩ := DataW.trod_int Try.underlying3 h1
    obtain ⟨zs, hz, _⟩ := raw_items h2
    obtain ⟨ps, hps⟩ := kv_in (k := 2) (N := PaAt) Try.underlying110 (by kernel_rfl) (by omega) h3 (fun m cs y _ hm => by
      obtain ⟨p, vo, rfl, hp⟩ := past_in hm
      exact ⟨p, fun b o hb hr => ⟨hb, vo, hr, hp⟩⟩)
    simp only [List.cons.injEq, and_true] at e0 e1
    obtain ⟨rfl, rfl, rfl, rfl, rfl, rfl, rfl, rfl, rfl, rfl, rfl, rfl, rfl, rfl, rfl, rfl, rfl, rfl, rfl, rfl, rfl, rfl⟩ := e0
    subst e1
    obtain ⟨f', ef, hf'⟩ := FlowV.le (D' := D) (m := n) (by omega) (by omega) hf
    refine ⟨⟨f', n1, zs, ps⟩, v12, v15, v18, v19, v20, v21, v23, v24, ?_, ⟨hf', fun e => by cases e⟩, hz, hps⟩
    show _ = [.int .i64 f'.nd.p.nd.k, .int .i64 f'.nd.p.nd.n, .int .i64 f'.nd.p.nd.t.k, .bool f'.nd.p.nd.t.no, .int .i64 f'.nd.p.nd.t.l.k, .int .i64 f'.nd.p.nd.t.l.a, .int .i64 f'.nd.p.nd.t.l.b, .int .i64 f'.nd.p.nd.t.l.n, .int .i64 f'.nd.p.nd.t.r.k, .int .i64 f'.nd.p.nd.t.r.a, .int .i64 f'.nd.p.nd.t.r.b, .int .i64 f'.nd.p.nd.t.r.n, v12, .int .i64 f'.nd.p.nd.a, .int .i64 f'.nd.p.nd.b, v15, .int .i64 f'.nd.p.nd.g, .int .i64 f'.nd.p.nd.c, v18, v19, v20, v21, .int .i64 n1, v23, v24]
    rw [ef]
theorem store_in {H : Type} {enc : TypeId × Value → H} {w : World} {base : Nat} {spare : Nat → Bool} {held : Bool} (fuel : Nat) {cs : List Value} {x : DataW H × List MemPlace}
    (h : DataW.trod enc Try.prog w base spare held fuel 56 cs = some x) : ∃ (s : St fuel fuel) (vw vt vv : Value), cs = [vw, vt, vv, .int .i64 s.now, .int .i64 s.keep] ∧ StV false w s vw vt vv := by
  obtain ⟨_, m, rfl, _, hl, _, _⟩ := DataW.trod_struct Try.underlying56 h
  rw [show Try.prog.cellsOf 56 = 5 from by kernel_rfl] at hl
  have hci : Try.prog.cellsOf 3 = 1 := by kernel_rfl
  have hcw : Try.prog.cellsOf 27 = 1 := by kernel_rfl
  have hct : Try.prog.cellsOf 31 = 1 := by kernel_rfl
  have hcv : Try.prog.cellsOf 54 = 1 := by kernel_rfl
  match cs, hl with
  | [v0, v1, v2, v3, v4], _ =>
    obtain ⟨y0, h0⟩ := field_atN Try.underlying56 h 0 27 0 rfl
    obtain ⟨y1, h1⟩ := field_atN Try.underlying56 h 1 31 1 rfl
    obtain ⟨y2, h2⟩ := field_atN Try.underlying56 h 2 54 2 rfl
    obtain ⟨y3, h3⟩ := field_atN Try.underlying56 h 3 3 3 rfl
    obtain ⟨y4, h4⟩ := field_atN Try.underlying56 h 4 3 4 rfl
    simp only [hci, hcw, hct, hcv, List.drop_succ_cons, List.drop_zero, List.take_succ_cons, List.take_zero] at h0 h1 h2 h3 h4
    obtain ⟨xs, hxs⟩ := raw_intsP h0
    obtain ⟨zss, hzs⟩ := raw_runs h1
    obtain ⟨n3, e3, _, _⟩ := DataW.trod_int Try.underlying3 h3
    obtain ⟨n4, e4, _, _⟩ := DataW.trod_int Try.underlying3 h4
    obtain ⟨vs, hvs⟩ := kv_in (k := 25) (N := VwAt (D := m + 1) (n := m + 1) false) Try.underlying54 (by kernel_rfl) (by omega) h2 (fun m' cs y hm hc => by
      obtain ⟨p, vc, vk, vd, vl, vr, vf, vb, vp, rfl, hp⟩ := view_in (D := m + 1) (n := m + 1) (by omega) (by omega) hc
      exact ⟨p, fun b o hb hr => ⟨hb, vc, vk, vd, vl, vr, vf, vb, vp, hr, hp⟩⟩)
    simp only [List.cons.injEq, and_true] at e3 e4
    subst e3 e4
    exact ⟨⟨xs, zss, vs, n3, n4⟩, v0, v1, v2, rfl, hxs, hzs, hvs⟩

end Go.Proofs.Ytfmgohoddaobmaa.Fw

/-
  The walk of laws.FnExactStoreSame at two stores, each of its own depth.
-/
namespace Go.Proofs.Ytfmgohoddaobmaa.Fw
set_option maxRecDepth 100000
open Go.RowKit
set_option linter.unusedVariables false
set_option linter.unusedSimpArgs false
variable {D : Nat}

theorem lawStoreTop {D D' n m : Nat} (p : St D n) (vw vt vv : Value) (q : St D' m) (vw2 vt2 vv2 : Value) (w : World) (hp : StV false w p vw vt vv) (hq : StV false w q vw2 vt2 vv2) :
    Calls Try.prog 4 #[.agg #[vw, vt, vv, .int .i64 p.now, .int .i64 p.keep], .agg #[vw2, vt2, vv2, .int .i64 q.now, .int .i64 q.keep]] w fun e w' => e = .returned (.bool true) ∧ Below w.heap.size w w' := by
  obtain ⟨p', e1, e2, hp'⟩ := hp.le (D' := D + D') (n' := n + m) (by omega) (by omega)
  obtain ⟨q', e3, e4, hq'⟩ := hq.le (D' := D + D') (n' := n + m) (by omega) (by omega)
  rw [← e1, ← e2, ← e3, ← e4]
  exact lawStoreSame p' q' vw vt vv vw2 vt2 vv2 w hp' hq'

end Go.Proofs.Ytfmgohoddaobmaa.Fw
