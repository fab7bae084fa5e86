/-
  What a frame tells of a plan that came in: a tree of parts of some depth.
-/
import Derived.Test.YtkmihnagmbdbgaaPlanMem
import Derived.Test.YtkmihnagmbdbgaaCellIn
import Derived.Deep.SlicePairs
import Derived.OpenShut
import Derived.ProofKit
namespace Go.Proofs.Ytkmihnagmbdbgaa
set_option maxRecDepth 100000
set_option linter.unusedVariables false
open Go.RowKit Go.ChangeShapes Go.WideShapes Go.ChangeAt

theorem list_of {α : Type} {R : Nat → α → Prop} : ∀ m, (∀ j, j < m → ∃ x, R j x) → ∃ l : List α, l.length = m ∧ ∀ j (hj : j < l.length), R j l[j]
  | 0, _ => ⟨[], rfl, fun j hj => by simp at hj⟩
  | m + 1, h => by
    obtain ⟨l, hl, hr⟩ := list_of m fun j hj => h j (by omega)
    obtain ⟨x, hx⟩ := h m (by omega)
    refine ⟨l ++ [x], by simp [hl], fun j hj => ?_⟩
    simp at hj
    by_cases e : j < l.length
    · rw [List.getElem_append_left e]; exact hr j e
    · obtain rfl : j = m := by omega
      rw [List.getElem_append_right (by omega)]
      simpa [hl] using hx
theorem KidsV.up {α β : Type} {N : World → Nat → Nat → α → Prop} {N' : World → Nat → Nat → β → Prop} {w : World} {v : Value} {l : List α} (h : KidsV N w v l) (hN : ∀ b o x, N w b o x → ∃ y, N' w b o y) : ∃ l', KidsV N' w v l' := by
  obtain ⟨hl, a, cap, rfl, hn, hc⟩ := h
  by_cases hne : l = []
  · subst hne
    exact ⟨[], hl, a, cap, rfl, hn, fun h => absurd rfl h⟩
  · obtain ⟨b, off, rfl, hb, hk⟩ := hc hne
    obtain ⟨l', hl', hr⟩ := list_of (R := fun j y => N' w b (off + j * 19) y) l.length fun j hj => hN _ _ _ (hk j hj)
    exact ⟨l', by omega, some ⟨b, off, none⟩, cap, by rw [hl'], hn, fun _ => ⟨b, off, rfl, hb, hr⟩⟩
theorem NodeAt.up : ∀ (n : Nat) {w : World} {b o : Nat} {p : Pl n}, NodeAt n w b o p → ∃ p' : Pl (n + 1), NodeAt (n + 1) w b o p'
  | 0, _, _, _, _, h => h.elim
  | n + 1, w, b, o, p, h => by
    obtain ⟨hl, vc, vk, vd, hf, hc, hk, hd⟩ := h
    obtain ⟨l', hl'⟩ := hd.up (N' := NodeAt (n + 1)) fun b o x hx => NodeAt.up n hx
    exact ⟨Pl.mk p.nd l', hl, vc, vk, vd, hf, hc, hk, hl'⟩
theorem NodeAt.le {n m : Nat} (hnm : n ≤ m) {w : World} {b o : Nat} {p : Pl n} (h : NodeAt n w b o p) : ∃ p' : Pl m, NodeAt m w b o p' := by
  induction hnm with
  | refl => exact ⟨p, h⟩
  | step _ ih =>
    obtain ⟨p', h'⟩ := ih
    exact NodeAt.up _ h'
theorem PlanV.le {n m : Nat} (hnm : n ≤ m) {w : World} {p : Pl (n + 1)} {vc vk vd : Value} (h : PlanV (n + 1) w p vc vk vd) : ∃ p' : Pl (m + 1), p'.nd = p.nd ∧ PlanV (m + 1) w p' vc vk vd := by
  obtain ⟨hc, hk, hd⟩ := h
  obtain ⟨l', hl'⟩ := hd.up (N' := NodeAt m) fun b o x hx => NodeAt.le hnm hx
  exact ⟨Pl.mk p.nd l', rfl, hc, hk, hl'⟩

theorem raw_intsP {H : Type} {enc : TypeId × Value → H} {w : World} {base : Nat} {spare : Nat → Bool} {held : Bool} {fuel : Nat} {v : Value} {x : DataW H × List MemPlace}
    (h : DataW.trod enc Try.prog w base spare held fuel 27 [v] = some x) : ∃ xs, RawInts w v xs := by
  rcases open_ints Try.underlying27 Try.underlying3 (by kernel_rfl) h with ⟨hcs, _⟩ | ⟨a, len, cap, zs, hcs, _, hl, hm, hz, _, hcell, hwz⟩
  · simp at hcs
    subst hcs
    exact ⟨[], by simp, none, 0, rfl, fun _ => rfl, fun h => absurd rfl h⟩
  · simp at hcs
    subst hcs
    have hmax : cap ≤ 9223372036854775807 := by have := hm; simp only [maxLen] at this; omega
    have hzl : len ≤ zs.length := by rw [hz]; split <;> omega
    have hlen : (zs.take len).length = len := by rw [List.length_take]; omega
    refine ⟨zs.take len, by omega, some a, cap, by rw [hlen], fun h => by simp at h, fun hne => ?_⟩
    have h0 : 0 < len := by
      rcases Nat.eq_zero_or_pos len with h | h
      · subst h; simp at hne
      · exact h
    obtain ⟨b, off, spot⟩ := a
    have hc0 := hcell 0 (by omega)
    have hspot : spot = none := by simpa [Addr.add] using World.cell?_spot hc0
    subst hspot
    refine ⟨b, off, rfl, World.block_lt_of_cell? _ _ hc0, fun j hj => ?_⟩
    rw [hlen] at hj
    have := hcell j (by omega)
    rw [Addr.add_lit] at this
    simpa [List.getD, hj] using this
theorem raw_celsP {H : Type} {enc : TypeId × Value → H} {w : World} {base : Nat} {spare : Nat → Bool} {held : Bool} {fuel : Nat} {v : Value} {x : DataW H × List MemPlace}
    (h : DataW.trod enc Try.prog w base spare held fuel 26 [v] = some x) : ∃ cs, RawCels w v cs := by
  rcases Go.Deep.open_slice Try.underlying26 h with ⟨hcs, _⟩ | ⟨a, len, cap, m, n, D, Pl, hcs, _, hl, hm, hmm, _, hx⟩
  · simp at hcs
    subst hcs
    exact ⟨[], by simp, none, 0, rfl, fun _ => rfl, fun h => absurd rfl h⟩
  · simp at hcs
    subst hcs
    have hmax : cap ≤ 9223372036854775807 := by have := hm; simp only [maxLen] at this; omega
    have hlm : len ≤ m := by rw [hmm]; split <;> omega
    have ce : Try.prog.cellsOf 23 = 4 := by kernel_rfl
    have each : ∀ j, j < len → ∃ c : Cel, w.cell? (a.add (j * 4)) = some (.int .i64 c.k) ∧ w.cell? ((a.add (j * 4)).add 1) = some (.int .i64 c.a) ∧ w.cell? ((a.add (j * 4)).add 2) = some (.int .i64 c.b) ∧ w.cell? ((a.add (j * 4)).add 3) = some (.int .i64 c.n) := by
      intro j hj
      obtain ⟨cs', h1, h2⟩ := hx j (by omega)
      rw [ce] at h1
      obtain ⟨_, hlen, hcell⟩ := World.cells?_some h1
      obtain ⟨c, rfl, _⟩ := cel_in h2
      have e0 := hcell 0 (by omega)
      have e1 := hcell 1 (by omega)
      have e2 := hcell 2 (by omega)
      have e3 := hcell 3 (by omega)
      exact ⟨c, by simpa [Addr.add] using e0, by simpa using e1, by simpa using e2, by simpa using e3⟩
    obtain ⟨q, hq0, hq⟩ := list_of len each
    refine ⟨q, by omega, some a, cap, by rw [hq0], fun h => by simp at h, fun hne => ?_⟩
    have h0 : 0 < q.length := List.length_pos_iff.2 hne
    obtain ⟨b, off, spot⟩ := a
    have hc0 := (hq 0 h0).1
    have hspot : spot = none := by simpa [Addr.add] using World.cell?_spot hc0
    subst hspot
    refine ⟨b, off, rfl, World.block_lt_of_cell? _ _ hc0, fun j hj => ?_⟩
    obtain ⟨e0, e1, e2, e3⟩ := hq j hj
    simp only [Addr.add_lit] at e0 e1 e2 e3
    rw [show q.getD j Cel.zero = q[j] by simp [List.getD, hj]]
    exact ⟨e0, e1, e2, e3⟩
theorem field_atN {H : Type} {enc : TypeId × Value → H} {P : Program} {w : World} {base : Nat} {spare : Nat → Bool} {held : Bool} {fuel : Nat} {t : TypeId} {fs : Array Field} {cs : List Value} {x : DataW H × List MemPlace}
    (ht : P.underlying t = some (.struct fs)) (h : DataW.trod enc P w base spare held (fuel + 1) t cs = some x) (i : Nat) (u : TypeId) (o : Nat) (hi : (fs[i]?).map (fun f => (f.type, f.offset)) = some (u, o)) :
    ∃ y, DataW.trod enc P w base spare held fuel u ((cs.drop o).take (P.cellsOf u)) = some y := by
  obtain ⟨xs, n, hn, rfl, hl, hlen, hf⟩ := DataW.trod_struct ht h
  obtain rfl : n = fuel := by omega
  obtain ⟨f, hfi, e⟩ := Option.map_eq_some_iff.1 hi
  simp only [Prod.mk.injEq] at e
  obtain ⟨rfl, rfl⟩ := e
  have h1 := hf i f hfi
  have hlt : i < xs.length := by
    rw [hlen]
    exact (Array.getElem?_eq_some_iff.1 hfi).1
  rw [List.getElem?_eq_getElem hlt] at h1
  exact ⟨_, h1⟩

set_option maxHeartbeats 1000000 in
theorem plan_in {H : Type} {enc : TypeId × Value → H} {w : World} {base : Nat} {spare : Nat → Bool} {held : Bool} : ∀ (fuel : Nat) {cs : List Value} {x : DataW H × List MemPlace},
    DataW.trod enc Try.prog w base spare held fuel 30 cs = some x → ∃ (p : Pl (fuel + 1)) (vc vk vd : Value), cs = [.int .i64 p.nd.k, .int .i64 p.nd.n, .int .i64 p.nd.t.k, .bool p.nd.t.no, .int .i64 p.nd.t.l.k, .int .i64 p.nd.t.l.a, .int .i64 p.nd.t.l.b, .int .i64 p.nd.t.l.n, .int .i64 p.nd.t.r.k, .int .i64 p.nd.t.r.a, .int .i64 p.nd.t.r.b, .int .i64 p.nd.t.r.n, vc, .int .i64 p.nd.a, .int .i64 p.nd.b, vk, .int .i64 p.nd.g, .int .i64 p.nd.c, vd] ∧ PlanV (fuel + 1) w p vc vk vd := by
  intro fuel
  induction fuel using Nat.strongRecOn with
  | _ fuel ih =>
    intro cs x h
    obtain ⟨_, n, rfl, _, hl, _, _⟩ := DataW.trod_struct Try.underlying30 h
    rw [show Try.prog.cellsOf 30 = 19 from by kernel_rfl] at hl
    have hi : Try.prog.cellsOf 3 = 1 := by kernel_rfl
    have ht : Try.prog.cellsOf 25 = 10 := by kernel_rfl
    have hsc : Try.prog.cellsOf 26 = 1 := by kernel_rfl
    have hsi : Try.prog.cellsOf 27 = 1 := by kernel_rfl
    have hsp : Try.prog.cellsOf 28 = 1 := by kernel_rfl
    have hpl : Try.prog.cellsOf 30 = 19 := by kernel_rfl
    match cs, hl with
    | [v0, v1, v2, v3, v4, v5, v6, v7, v8, v9, v10, v11, v12, v13, v14, v15, v16, v17, v18], _ =>
      obtain ⟨y0, h0⟩ := field_atN Try.underlying30 h 0 3 0 rfl
      obtain ⟨y1, h1⟩ := field_atN Try.underlying30 h 1 3 1 rfl
      obtain ⟨y2, h2⟩ := field_atN Try.underlying30 h 2 25 2 rfl
      obtain ⟨y3, h3⟩ := field_atN Try.underlying30 h 3 26 12 rfl
      obtain ⟨y4, h4⟩ := field_atN Try.underlying30 h 4 3 13 rfl
      obtain ⟨y5, h5⟩ := field_atN Try.underlying30 h 5 3 14 rfl
      obtain ⟨y6, h6⟩ := field_atN Try.underlying30 h 6 27 15 rfl
      obtain ⟨y7, h7⟩ := field_atN Try.underlying30 h 7 3 16 rfl
      obtain ⟨y8, h8⟩ := field_atN Try.underlying30 h 8 3 17 rfl
      obtain ⟨y9, h9⟩ := field_atN Try.underlying30 h 9 28 18 rfl
      simp only [hi, ht, hsc, hsi, hsp, List.drop_succ_cons, List.drop_zero, List.take_succ_cons, List.take_zero] at h0 h1 h2 h3 h4 h5 h6 h7 h8 h9
      obtain ⟨n0, e0, _, _⟩ := DataW.trod_int Try.underlying3 h0
      obtain ⟨n1, e1, _, _⟩ := DataW.trod_int Try.underlying3 h1
      obtain ⟨t2, e2, _⟩ := tst_in h2
      obtain ⟨cc, hcc⟩ := raw_celsP h3
      obtain ⟨n4, e4, _, _⟩ := DataW.trod_int Try.underlying3 h4
      obtain ⟨n5, e5, _, _⟩ := DataW.trod_int Try.underlying3 h5
      obtain ⟨kk, hkk⟩ := raw_intsP h6
      obtain ⟨n7, e7, _, _⟩ := DataW.trod_int Try.underlying3 h7
      obtain ⟨n8, e8, _, _⟩ := DataW.trod_int Try.underlying3 h8
      simp only [List.cons.injEq, and_true] at e0 e1 e2 e4 e5 e7 e8
      obtain ⟨rfl, rfl, rfl, rfl, rfl, rfl, rfl, rfl, rfl, rfl⟩ := e2
      subst e0 e1 e4 e5 e7 e8
      obtain ⟨l, hl⟩ : ∃ l, KidsV (NodeAt (n + 1)) w v18 l := by
        rcases DataW.trod_slice Try.underlying28 h9 with ⟨hcs, _⟩ | ⟨a, len, cap, elems, rest, m, hm, hcs, _, _, hlc, hcap, hel, hx, _, _⟩
        · simp at hcs
          subst hcs
          exact ⟨[], by simp, none, 0, rfl, fun _ => rfl, fun h => absurd rfl h⟩
        · simp only [List.cons.injEq, and_true] at hcs
          subst hcs
          have hmax : cap ≤ 9223372036854775807 := by simp only [maxLen] at hcap; omega
          obtain ⟨b, off, spot⟩ := a
          have each : ∀ j, j < len → ∃ q : Pl (n + 1), (j = 0 → spot = none) ∧ b < w.heap.size ∧ NodeAt (n + 1) w b (off + j * 19) q := by
            intro j hj
            have h10 := hx j hj
            rw [List.getElem?_eq_getElem (by omega), hpl] at h10
            obtain ⟨cs', h11, h12⟩ := Option.bind_eq_some_iff.1 h10
            obtain ⟨_, hlen, hcell⟩ := World.cells?_some h11
            obtain ⟨q, vc, vk, vd, rfl, hq⟩ := ih m (by omega) h12
            have hspot : j = 0 → spot = none := fun e => by
              subst e
              simpa [Addr.add] using World.cell?_spot (hcell 0 (by simp))
            have hadd : (⟨b, off, spot⟩ : Addr).add (j * 19) = ⟨b, off + j * 19, none⟩ := by
              by_cases e : j = 0
              · rw [hspot e, Addr.add_lit]
              · have e2 : ¬ j * 19 = 0 := by omega
                simp only [Addr.add, e2, if_false]
            rw [hadd] at hcell
            have hcell' : ∀ i (hi : i < 19), w.cell? ⟨b, off + j * 19 + i, none⟩ = ([.int .i64 q.nd.k, .int .i64 q.nd.n, .int .i64 q.nd.t.k, .bool q.nd.t.no, .int .i64 q.nd.t.l.k, .int .i64 q.nd.t.l.a, .int .i64 q.nd.t.l.b, .int .i64 q.nd.t.l.n, .int .i64 q.nd.t.r.k, .int .i64 q.nd.t.r.a, .int .i64 q.nd.t.r.b, .int .i64 q.nd.t.r.n, vc, .int .i64 q.nd.a, .int .i64 q.nd.b, vk, .int .i64 q.nd.g, .int .i64 q.nd.c, vd] : List Value)[i]? := fun i hi => by
              have := hcell i (by simpa using hi)
              simpa only [Addr.add_lit] using this
            have hb : b < w.heap.size := World.block_lt_of_cell? _ _ (hcell' 0 (by simp))
            have hnode : NodeAt (m + 1) w b (off + j * 19) q := ⟨hb, vc, vk, vd, ⟨hcell' 0 (by simp), hcell' 1 (by simp), hcell' 2 (by simp), hcell' 3 (by simp), hcell' 4 (by simp), hcell' 5 (by simp), hcell' 6 (by simp), hcell' 7 (by simp), hcell' 8 (by simp), hcell' 9 (by simp), hcell' 10 (by simp), hcell' 11 (by simp), hcell' 12 (by simp), hcell' 13 (by simp), hcell' 14 (by simp), hcell' 15 (by simp), hcell' 16 (by simp), hcell' 17 (by simp), hcell' 18 (by simp)⟩, hq⟩
            obtain ⟨q', hq'⟩ := NodeAt.le (m := n + 1) (by omega) hnode
            exact ⟨q', hspot, hb, hq'⟩
          obtain ⟨l, hl0, hl1⟩ := list_of len each
          refine ⟨l, by omega, some ⟨b, off, spot⟩, cap, by rw [hl0], fun h => by simp at h, fun hne => ?_⟩
          obtain ⟨hs, hb, _⟩ := hl1 0 (List.length_pos_iff.2 hne)
          have hs := hs rfl
          subst hs
          exact ⟨b, off, rfl, hb, fun j hj => (hl1 j hj).2.2⟩
      exact ⟨Pl.mk ⟨n0, n1, t2, cc, n4, n5, kk, n7, n8⟩ l, v12, v15, v18, rfl, hcc, hkk, hl⟩

end Go.Proofs.Ytkmihnagmbdbgaa
