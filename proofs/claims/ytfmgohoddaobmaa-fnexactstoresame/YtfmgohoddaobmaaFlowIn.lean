/-
  What a frame tells of a flow that came in: a tree of parts of some depth.
-/
import Derived.Test.YtfmgohoddaobmaaFlowMem
import Derived.Test.YtfmgohoddaobmaaPlanIn
import Derived.Test.YtfmgohoddaobmaaRunsFrame
namespace Go.Proofs.Ytfmgohoddaobmaa.Fw
set_option maxRecDepth 100000
open Go.RowKit Go.ChangeShapes Go.WideShapes Go.ChangeAt
set_option linter.unusedVariables false
set_option linter.unusedSimpArgs false
variable {D : Nat}

theorem FKidsV.up {α β : Type} {N : World → Nat → Nat → α → Prop} {N' : World → Nat → Nat → β → Prop} {w : World} {v : Value} {l : List α} (h : FKidsV N w v l) (hN : ∀ b o x, N w b o x → ∃ y, N' w b o y) : ∃ l', FKidsV N' w v l' := by
  obtain ⟨hl, a, cap, rfl, hn, hc⟩ := h
  by_cases hne : l = []
  · subst hne
    exact ⟨[], hl, a, cap, rfl, hn, fun h => absurd rfl h⟩
  · obtain ⟨b, off, rfl, hb, hk⟩ := hc hne
    obtain ⟨l', hl', hr⟩ := list_of (R := fun j y => N' w b (off + j * 22) y) l.length fun j hj => hN _ _ _ (hk j hj)
    exact ⟨l', by omega, some ⟨b, off, none⟩, cap, by rw [hl'], hn, fun _ => ⟨b, off, rfl, hb, hr⟩⟩
theorem FFields.alike {D' : Nat} {w : World} {b o : Nat} {x : FN D} {y : FN D'} {vc vk vd vl vr vf : Value} (h : FFields w b o x vc vk vd vl vr vf) (e : y.p.nd = x.p.nd) : FFields w b o y vc vk vd vl vr vf := by
  unfold FFields
  rw [e]
  exact h
theorem FNodeAt.le {D' : Nat} (hD : D ≤ D') : ∀ (n m : Nat), n ≤ m → ∀ {w : World} {b o : Nat} {p : Fl D n}, FNodeAt n w b o p → ∃ p' : Fl D' m, FNodeAt m w b o p'
  | 0, _, _, _, _, _, _, h => h.elim
  | n + 1, 0, hnm, _, _, _, _, _ => by omega
  | n + 1, m + 1, hnm, w, b, o, p, h => by
    obtain ⟨hl, vc, vk, vd, vl, vr, vf, hf, hp, hL, hR, hK⟩ := h
    obtain ⟨pp, e, hpp⟩ := PlanV.le hD hp
    obtain ⟨l', hl'⟩ := hK.up (N' := FNodeAt (D := D') m) fun b o x hx => FNodeAt.le hD n m (by omega) hx
    exact ⟨Fl.mk ⟨pp, p.nd.l, p.nd.r⟩ l', hl, vc, vk, vd, vl, vr, vf, hf.alike e, hpp, hL, hR, hl'⟩
theorem FlowV.le {D' n m : Nat} (hD : D ≤ D') (hnm : n ≤ m) {w : World} {p : Fl D (n + 1)} {vc vk vd vl vr vf : Value} (h : FlowV (n + 1) w p vc vk vd vl vr vf) : ∃ p' : Fl D' (m + 1), p'.nd.p.nd = p.nd.p.nd ∧ FlowV (m + 1) w p' vc vk vd vl vr vf := by
  obtain ⟨hp, hL, hR, hK⟩ := h
  obtain ⟨pp, e, hpp⟩ := PlanV.le hD hp
  obtain ⟨l', hl'⟩ := hK.up (N' := FNodeAt (D := D') m) fun b o x hx => FNodeAt.le hD n m hnm hx
  exact ⟨Fl.mk ⟨pp, p.nd.l, p.nd.r⟩ l', e, hpp, hL, hR, hl'⟩

set_option maxHeartbeats 1000000 in
theorem flow_in {H : Type} {enc : TypeId × Value → H} {w : World} {base : Nat} {spare : Nat → Bool} {held : Bool} : ∀ (fuel : Nat) {cs : List Value} {x : DataW H × List MemPlace},
    DataW.trod enc Try.prog w base spare held fuel 36 cs = some x → ∃ (p : Fl fuel (fuel + 1)) (vc vk vd vl vr vf : Value), cs = [.int .i64 p.nd.p.nd.k, .int .i64 p.nd.p.nd.n, .int .i64 p.nd.p.nd.t.k, .bool p.nd.p.nd.t.no, .int .i64 p.nd.p.nd.t.l.k, .int .i64 p.nd.p.nd.t.l.a, .int .i64 p.nd.p.nd.t.l.b, .int .i64 p.nd.p.nd.t.l.n, .int .i64 p.nd.p.nd.t.r.k, .int .i64 p.nd.p.nd.t.r.a, .int .i64 p.nd.p.nd.t.r.b, .int .i64 p.nd.p.nd.t.r.n, vc, .int .i64 p.nd.p.nd.a, .int .i64 p.nd.p.nd.b, vk, .int .i64 p.nd.p.nd.g, .int .i64 p.nd.p.nd.c, vd, vl, vr, vf] ∧ FlowV (fuel + 1) w p vc vk vd vl vr vf := by
  intro fuel
  induction fuel using Nat.strongRecOn with
  | _ fuel ih =>
    intro cs x h
    obtain ⟨_, n, rfl, _, hl, _, _⟩ := DataW.trod_struct Try.underlying36 h
    rw [show Try.prog.cellsOf 36 = 22 from by kernel_rfl] at hl
    have hcp : Try.prog.cellsOf 30 = 19 := by kernel_rfl
    have hcs : Try.prog.cellsOf 33 = 1 := by kernel_rfl
    have hck : Try.prog.cellsOf 34 = 1 := by kernel_rfl
    have hfl : Try.prog.cellsOf 36 = 22 := by kernel_rfl
    match cs, hl with
    | [v0, v1, v2, v3, v4, v5, v6, v7, v8, v9, v10, v11, v12, v13, v14, v15, v16, v17, v18, v19, v20, v21], _ =>
      obtain ⟨y0, h0⟩ := field_atN Try.underlying36 h 0 30 0 rfl
      obtain ⟨y1, h1⟩ := field_atN Try.underlying36 h 1 33 19 rfl
      obtain ⟨y2, h2⟩ := field_atN Try.underlying36 h 2 33 20 rfl
      obtain ⟨y3, h3⟩ := field_atN Try.underlying36 h 3 34 21 rfl
      simp only [hcp, hcs, hck, List.drop_succ_cons, List.drop_zero, List.take_succ_cons, List.take_zero] at h0 h1 h2 h3
      obtain ⟨pp, vc, vk, vd, e0, hpp⟩ := plan_in n h0
      obtain ⟨vl, zl, e1, hL⟩ := spine_in h1
      obtain ⟨vr, zr, e2, hR⟩ := spine_in h2
      simp only [List.cons.injEq, and_true] at e0 e1 e2
      obtain ⟨rfl, rfl, rfl, rfl, rfl, rfl, rfl, rfl, rfl, rfl, rfl, rfl, rfl, rfl, rfl, rfl, rfl, rfl, rfl⟩ := e0
      subst e1 e2
      obtain ⟨p1, ep, hp1⟩ := PlanV.le (m := n + 1) (by omega) hpp
      obtain ⟨l, hl⟩ : ∃ l, FKidsV (FNodeAt (D := n + 1) (n + 1)) w v21 l := by
        rcases DataW.trod_slice Try.underlying34 h3 with ⟨hcs, _⟩ | ⟨a, len, cap, elems, rest, m, hm, hcs, _, _, hlc, hcap, hel, hx, _, _⟩
        · simp at hcs
          subst hcs
          exact ⟨[], by simp, none, 0, rfl, fun _ => rfl, fun h => absurd rfl h⟩
        · simp only [List.cons.injEq, and_true] at hcs
          subst hcs
          have hmax : cap ≤ 9223372036854775807 := by simp only [maxLen] at hcap; omega
          obtain ⟨b, off, spot⟩ := a
          have each : ∀ j, j < len → ∃ q : Fl (n + 1) (n + 1), (j = 0 → spot = none) ∧ b < w.heap.size ∧ FNodeAt (n + 1) w b (off + j * 22) q := by
            intro j hj
            have h10 := hx j hj
            rw [List.getElem?_eq_getElem (by omega), hfl] at h10
            obtain ⟨cs', h11, h12⟩ := Option.bind_eq_some_iff.1 h10
            obtain ⟨_, hlen, hcell⟩ := World.cells?_some h11
            obtain ⟨q, vc1, vk1, vd1, vl1, vr1, vf1, rfl, hq⟩ := ih m (by omega) h12
            have hspot : j = 0 → spot = none := fun e => by
              subst e
              simpa [Addr.add] using World.cell?_spot (hcell 0 (by simp))
            have hadd : (⟨b, off, spot⟩ : Addr).add (j * 22) = ⟨b, off + j * 22, none⟩ := by
              by_cases e : j = 0
              · rw [hspot e, Addr.add_lit]
              · have e2 : ¬ j * 22 = 0 := by omega
                simp only [Addr.add, e2, if_false]
            rw [hadd] at hcell
            have hcell' : ∀ i (hi : i < 22), w.cell? ⟨b, off + j * 22 + i, none⟩ = ([.int .i64 q.nd.p.nd.k, .int .i64 q.nd.p.nd.n, .int .i64 q.nd.p.nd.t.k, .bool q.nd.p.nd.t.no, .int .i64 q.nd.p.nd.t.l.k, .int .i64 q.nd.p.nd.t.l.a, .int .i64 q.nd.p.nd.t.l.b, .int .i64 q.nd.p.nd.t.l.n, .int .i64 q.nd.p.nd.t.r.k, .int .i64 q.nd.p.nd.t.r.a, .int .i64 q.nd.p.nd.t.r.b, .int .i64 q.nd.p.nd.t.r.n, vc1, .int .i64 q.nd.p.nd.a, .int .i64 q.nd.p.nd.b, vk1, .int .i64 q.nd.p.nd.g, .int .i64 q.nd.p.nd.c, vd1, vl1, vr1, vf1] : List Value)[i]? := fun i hi => by
              have := hcell i (by simpa using hi)
              simpa only [Addr.add_lit] using this
            have hb : b < w.heap.size := World.block_lt_of_cell? _ _ (hcell' 0 (by simp))
            have hnode : FNodeAt (m + 1) w b (off + j * 22) q := ⟨hb, vc1, vk1, vd1, vl1, vr1, vf1, ⟨⟨hcell' 0 (by simp), hcell' 1 (by simp), hcell' 2 (by simp), hcell' 3 (by simp), hcell' 4 (by simp), hcell' 5 (by simp), hcell' 6 (by simp), hcell' 7 (by simp), hcell' 8 (by simp), hcell' 9 (by simp), hcell' 10 (by simp), hcell' 11 (by simp), hcell' 12 (by simp), hcell' 13 (by simp), hcell' 14 (by simp), hcell' 15 (by simp), hcell' 16 (by simp), hcell' 17 (by simp), hcell' 18 (by simp)⟩, hcell' 19 (by simp), hcell' 20 (by simp), hcell' 21 (by simp)⟩, hq⟩
            obtain ⟨q', hq'⟩ := FNodeAt.le (D' := n + 1) (by omega) (m + 1) (n + 1) (by omega) hnode
            exact ⟨q', hspot, hb, hq'⟩
          obtain ⟨l, hl0, hl1⟩ := list_of len each
          refine ⟨l, by omega, some ⟨b, off, spot⟩, cap, by rw [hl0], fun h => by simp at h, fun hne => ?_⟩
          obtain ⟨hs, hb, _⟩ := hl1 0 (List.length_pos_iff.2 hne)
          have hs := hs rfl
          subst hs
          exact ⟨b, off, rfl, hb, fun j hj => (hl1 j hj).2.2⟩
      refine ⟨Fl.mk ⟨p1, zl, zr⟩ l, v12, v15, v18, v19, v20, v21, ?_, hp1, hL, hR, hl⟩
      show _ = [.int .i64 p1.nd.k, .int .i64 p1.nd.n, .int .i64 p1.nd.t.k, .bool p1.nd.t.no, .int .i64 p1.nd.t.l.k, .int .i64 p1.nd.t.l.a, .int .i64 p1.nd.t.l.b, .int .i64 p1.nd.t.l.n, .int .i64 p1.nd.t.r.k, .int .i64 p1.nd.t.r.a, .int .i64 p1.nd.t.r.b, .int .i64 p1.nd.t.r.n, v12, .int .i64 p1.nd.a, .int .i64 p1.nd.b, v15, .int .i64 p1.nd.g, .int .i64 p1.nd.c, v18, v19, v20, v21]
      rw [ep]

end Go.Proofs.Ytfmgohoddaobmaa.Fw
