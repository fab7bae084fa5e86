/-
  The contract of spec.PlanSame, whole: whether two plans are one.
-/
import Derived.Test.YtkmihnagmbdbgaaPlanSpec2
namespace Go.Proofs.Ytkmihnagmbdbgaa
set_option maxRecDepth 100000
open Go.RowKit
set_option linter.unusedVariables false
set_option linter.unusedSimpArgs false


theorem RawCels.at {w : World} {ca : Option Addr} {nc cc : Nat} {cs : List Cel} (h : RawCels w (.slice ca nc cc) cs) : nc = cs.length ∧ (0 < nc → ∃ b off, ca = some ⟨b, off, none⟩ ∧ b < w.heap.size ∧ ∀ j, j < nc → Cell4 w b (off + j * 4) (cs.getD j Cel.zero)) := by
  obtain ⟨_, a, cap, heq, _, hc⟩ := h
  simp only [Value.slice.injEq] at heq
  obtain ⟨rfl, rfl, rfl⟩ := heq
  exact ⟨rfl, fun hp => hc (List.length_pos_iff.1 hp)⟩
theorem KidsV.at {α : Type} {N : World → Nat → Nat → α → Prop} {w : World} {ca : Option Addr} {nc cc : Nat} {cs : List α} (h : KidsV N w (.slice ca nc cc) cs) : nc = cs.length ∧ (0 < nc → ∃ b off, ca = some ⟨b, off, none⟩ ∧ b < w.heap.size ∧ ∀ j (hj : j < cs.length), N w b (off + j * 19) cs[j]) := by
  obtain ⟨_, a, cap, heq, _, hc⟩ := h
  simp only [Value.slice.injEq] at heq
  obtain ⟨rfl, rfl, rfl⟩ := heq
  exact ⟨rfl, fun hp => hc (List.length_pos_iff.1 hp)⟩
/-- The contract of spec.PlanSame at plans that are not deeper than so. -/
def SpOk (n : Nat) : Prop := ∀ (p q : Pl (n + 1)) (vc vk vd vc2 vk2 vd2 : Value) (w : World), PlanV (n + 1) w p vc vk vd → PlanV (n + 1) w q vc2 vk2 vd2 → Pl.sz (n + 1) p ≤ 1048576 → Pl.sz (n + 1) q ≤ 1048576 →
  Calls Try.prog 5 #[.agg #[.int .i64 p.nd.k, .int .i64 p.nd.n, .int .i64 p.nd.t.k, .bool p.nd.t.no, .int .i64 p.nd.t.l.k, .int .i64 p.nd.t.l.a, .int .i64 p.nd.t.l.b, .int .i64 p.nd.t.l.n, .int .i64 p.nd.t.r.k, .int .i64 p.nd.t.r.a, .int .i64 p.nd.t.r.b, .int .i64 p.nd.t.r.n, vc, .int .i64 p.nd.a, .int .i64 p.nd.b, vk, .int .i64 p.nd.g, .int .i64 p.nd.c, vd], .agg #[.int .i64 q.nd.k, .int .i64 q.nd.n, .int .i64 q.nd.t.k, .bool q.nd.t.no, .int .i64 q.nd.t.l.k, .int .i64 q.nd.t.l.a, .int .i64 q.nd.t.l.b, .int .i64 q.nd.t.l.n, .int .i64 q.nd.t.r.k, .int .i64 q.nd.t.r.a, .int .i64 q.nd.t.r.b, .int .i64 q.nd.t.r.n, vc2, .int .i64 q.nd.a, .int .i64 q.nd.b, vk2, .int .i64 q.nd.g, .int .i64 q.nd.c, vd2]] w fun e w' => e = .returned (.bool (Pl.same (n + 1) p q)) ∧ Below w.heap.size w w'

/-- The kids of two parts, held against each other. -/
def SpKids (n : Nat) : Prop := ∀ m, n = m + 1 → SpOk m
set_option maxHeartbeats 4000000 in
theorem specThrough (n : Nat) (dcs ecs : List Cel) (l l2 : List (Pl (n + 1))) (IH : 0 < l.length → SpOk n) (dk dn da db dg dc : Int) (dt : Tst) (dks : List Int) (ek en ea eb eg ec : Int) (et : Tst) (eks : List Int) (ca ka xa ca2 ka2 xa2 : Option Addr) (nc cc nk kc nx xc nc2 cc2 nk2 kc2 nx2 xc2 : Nat) (w : World)
    (hk : RawInts w (.slice ka nk kc) dks) (hk2 : RawInts w (.slice ka2 nk2 kc2) eks) (hl3 : dks.length ≤ 140737488355328) (hl4 : eks.length ≤ 140737488355328) (hc : RawCels w (.slice ca nc cc) dcs) (hc2 : RawCels w (.slice ca2 nc2 cc2) ecs)
    (hx : KidsV (NodeAt (n + 1)) w (.slice xa nx xc) l) (hx2 : KidsV (NodeAt (n + 1)) w (.slice xa2 nx2 xc2) l2) (hm : nc ≤ 1048576) (hm2 : nx ≤ 1048576) (hz : ∀ j (hj : j < l.length), Pl.sz (n + 1) l[j] ≤ 1048576) (hz2 : ∀ j (hj : j < l2.length), Pl.sz (n + 1) l2[j] ≤ 1048576) (e0 : dk = ek) (e1 : dn = en) (e2 : dt = et) (e3 : da = ea) (e4 : db = eb) (e5 : dg = eg) (e6 : dc = ec) (e7 : dks = eks) (e8 : nc = nc2) (e9 : nx = nx2) :
    Calls Try.prog 5 #[.agg #[.int .i64 dk, .int .i64 dn, .int .i64 dt.k, .bool dt.no, .int .i64 dt.l.k, .int .i64 dt.l.a, .int .i64 dt.l.b, .int .i64 dt.l.n, .int .i64 dt.r.k, .int .i64 dt.r.a, .int .i64 dt.r.b, .int .i64 dt.r.n, .slice ca nc cc, .int .i64 da, .int .i64 db, .slice ka nk kc, .int .i64 dg, .int .i64 dc, .slice xa nx xc], .agg #[.int .i64 ek, .int .i64 en, .int .i64 et.k, .bool et.no, .int .i64 et.l.k, .int .i64 et.l.a, .int .i64 et.l.b, .int .i64 et.l.n, .int .i64 et.r.k, .int .i64 et.r.a, .int .i64 et.r.b, .int .i64 et.r.n, .slice ca2 nc2 cc2, .int .i64 ea, .int .i64 eb, .slice ka2 nk2 kc2, .int .i64 eg, .int .i64 ec, .slice xa2 nx2 xc2]] w fun r w' => (∃ c : Bool, r = .returned (.bool c) ∧ (c = true ↔ (dcs = ecs ∧ l = l2))) ∧ Below w.heap.size w w' := by
  have HIH : Hid (0 < l.length → SpOk n) := IH
  have HSZ : Hid (∀ j (hj : j < l.length), Pl.sz (n + 1) l[j] ≤ 1048576) := hz
  have HSZ2 : Hid (∀ j (hj : j < l2.length), Pl.sz (n + 1) l2[j] ≤ 1048576) := hz2
  have HC : Hid (RawCels w (.slice ca nc cc) dcs) := hc
  have HC2 : Hid (RawCels w (.slice ca2 nc2 cc2) ecs) := hc2
  have HX : Hid (KidsV (NodeAt (n + 1)) w (.slice xa nx xc) l) := hx
  have HX2 : Hid (KidsV (NodeAt (n + 1)) w (.slice xa2 nx2 xc2) l2) := hx2
  have HN1 : Hid (nc = dcs.length ∧ nc2 = ecs.length ∧ nx = l.length ∧ nx2 = l2.length ∧ nc = nc2 ∧ nx = nx2) := ⟨hc.at.1, hc2.at.1, hx.at.1, hx2.at.1, e8, e9⟩
  clear hc hc2 hx hx2 hz hz2 IH
  have HK : Hid (RawInts w (.slice ka nk kc) dks) := hk
  have HK2 : Hid (RawInts w (.slice ka2 nk2 kc2) eks) := hk2
  have HL3 : Hid (dks.length ≤ 140737488355328) := hl3
  have HL4 : Hid (eks.length ≤ 140737488355328) := hl4
  clear hk hk2 hl3 hl4
  have g0 : (dk != ek) = false := by rw [e0]; simp
  have g1 : (dn != en) = false := by rw [e1]; simp
  have g2 : ∀ w : World, (binOp .neq 35 (.agg #[.int .i64 dt.k, .bool dt.no, .int .i64 dt.l.k, .int .i64 dt.l.a, .int .i64 dt.l.b, .int .i64 dt.l.n, .int .i64 dt.r.k, .int .i64 dt.r.a, .int .i64 dt.r.b, .int .i64 dt.r.n]) (.agg #[.int .i64 et.k, .bool et.no, .int .i64 et.l.k, .int .i64 et.l.a, .int .i64 et.l.b, .int .i64 et.l.n, .int .i64 et.r.k, .int .i64 et.r.a, .int .i64 et.r.b, .int .i64 et.r.n])).run Try.prog w = .ok (.bool false) w := fun w => by rw [testNeq]; rw [Tst.eqB_iff.2 e2]; rfl
  have g3 : (da != ea) = false := by rw [e3]; simp
  have g4 : (db != eb) = false := by rw [e4]; simp
  have g5 : (dg != eg) = false := by rw [e5]; simp
  have g6 : (dc != ec) = false := by rw [e6]; simp
  have HE7 : Hid (sameB dks eks = true) := by show _ = _; rw [e7]; exact sameB_refl _
  have g8 : ((nc : Int) != (nc2 : Int)) = false := by rw [e8]; simp
  have g9 : ((nx : Int) != (nx2 : Int)) = false := by rw [e9]; simp
  clear e0 e1 e2 e3 e4 e5 e6 e7 e8 e9
  have HA0 : Hid (((w.alloc (.cells #[.int .i64 dk, .int .i64 dn, .int .i64 dt.k, .bool dt.no, .int .i64 dt.l.k, .int .i64 dt.l.a, .int .i64 dt.l.b, .int .i64 dt.l.n, .int .i64 dt.r.k, .int .i64 dt.r.a, .int .i64 dt.r.b, .int .i64 dt.r.n, .slice ca nc cc, .int .i64 da, .int .i64 db, .slice ka nk kc, .int .i64 dg, .int .i64 dc, .slice xa nx xc] 39)).alloc (.cells #[.int .i64 ek, .int .i64 en, .int .i64 et.k, .bool et.no, .int .i64 et.l.k, .int .i64 et.l.a, .int .i64 et.l.b, .int .i64 et.l.n, .int .i64 et.r.k, .int .i64 et.r.a, .int .i64 et.r.b, .int .i64 et.r.n, .slice ca2 nc2 cc2, .int .i64 ea, .int .i64 eb, .slice ka2 nk2 kc2, .int .i64 eg, .int .i64 ec, .slice xa2 nx2 xc2] 39)).heap[w.heap.size]? = some (.cells #[.int .i64 dk, .int .i64 dn, .int .i64 dt.k, .bool dt.no, .int .i64 dt.l.k, .int .i64 dt.l.a, .int .i64 dt.l.b, .int .i64 dt.l.n, .int .i64 dt.r.k, .int .i64 dt.r.a, .int .i64 dt.r.b, .int .i64 dt.r.n, .slice ca nc cc, .int .i64 da, .int .i64 db, .slice ka nk kc, .int .i64 dg, .int .i64 dc, .slice xa nx xc] 39)) := (two w _ _).1
  have HQ0 : Hid (((w.alloc (.cells #[.int .i64 dk, .int .i64 dn, .int .i64 dt.k, .bool dt.no, .int .i64 dt.l.k, .int .i64 dt.l.a, .int .i64 dt.l.b, .int .i64 dt.l.n, .int .i64 dt.r.k, .int .i64 dt.r.a, .int .i64 dt.r.b, .int .i64 dt.r.n, .slice ca nc cc, .int .i64 da, .int .i64 db, .slice ka nk kc, .int .i64 dg, .int .i64 dc, .slice xa nx xc] 39)).alloc (.cells #[.int .i64 ek, .int .i64 en, .int .i64 et.k, .bool et.no, .int .i64 et.l.k, .int .i64 et.l.a, .int .i64 et.l.b, .int .i64 et.l.n, .int .i64 et.r.k, .int .i64 et.r.a, .int .i64 et.r.b, .int .i64 et.r.n, .slice ca2 nc2 cc2, .int .i64 ea, .int .i64 eb, .slice ka2 nk2 kc2, .int .i64 eg, .int .i64 ec, .slice xa2 nx2 xc2] 39)).heap[w.heap.size + 1]? = some (.cells #[.int .i64 ek, .int .i64 en, .int .i64 et.k, .bool et.no, .int .i64 et.l.k, .int .i64 et.l.a, .int .i64 et.l.b, .int .i64 et.l.n, .int .i64 et.r.k, .int .i64 et.r.a, .int .i64 et.r.b, .int .i64 et.r.n, .slice ca2 nc2 cc2, .int .i64 ea, .int .i64 eb, .slice ka2 nk2 kc2, .int .i64 eg, .int .i64 ec, .slice xa2 nx2 xc2] 39)) := (two w _ _).2.1
  have HB0 : Hid (Below w.heap.size w ((w.alloc (.cells #[.int .i64 dk, .int .i64 dn, .int .i64 dt.k, .bool dt.no, .int .i64 dt.l.k, .int .i64 dt.l.a, .int .i64 dt.l.b, .int .i64 dt.l.n, .int .i64 dt.r.k, .int .i64 dt.r.a, .int .i64 dt.r.b, .int .i64 dt.r.n, .slice ca nc cc, .int .i64 da, .int .i64 db, .slice ka nk kc, .int .i64 dg, .int .i64 dc, .slice xa nx xc] 39)).alloc (.cells #[.int .i64 ek, .int .i64 en, .int .i64 et.k, .bool et.no, .int .i64 et.l.k, .int .i64 et.l.a, .int .i64 et.l.b, .int .i64 et.l.n, .int .i64 et.r.k, .int .i64 et.r.a, .int .i64 et.r.b, .int .i64 et.r.n, .slice ca2 nc2 cc2, .int .i64 ea, .int .i64 eb, .slice ka2 nk2 kc2, .int .i64 eg, .int .i64 ec, .slice xa2 nx2 xc2] 39))) := (two w _ _).2.2
  go_enter Try.func5, Try.ntmps5
  go_wp2_with fail
  refine (l4Ints_any _ _ dks eks _ ((HK.out.below HB0.out).ints HL3.out) ((HK2.out.below HB0.out).ints HL4.out)).mono ?_
  rw [HE7.out]
  rintro r w1 ⟨rfl, hb⟩
  have HA1 : Hid (w1.heap[w.heap.size]? = some (.cells #[.int .i64 dk, .int .i64 dn, .int .i64 dt.k, .bool dt.no, .int .i64 dt.l.k, .int .i64 dt.l.a, .int .i64 dt.l.b, .int .i64 dt.l.n, .int .i64 dt.r.k, .int .i64 dt.r.a, .int .i64 dt.r.b, .int .i64 dt.r.n, .slice ca nc cc, .int .i64 da, .int .i64 db, .slice ka nk kc, .int .i64 dg, .int .i64 dc, .slice xa nx xc] 39)) := at_below HA0.out hb
  have HQ1 : Hid (w1.heap[w.heap.size + 1]? = some (.cells #[.int .i64 ek, .int .i64 en, .int .i64 et.k, .bool et.no, .int .i64 et.l.k, .int .i64 et.l.a, .int .i64 et.l.b, .int .i64 et.l.n, .int .i64 et.r.k, .int .i64 et.r.a, .int .i64 et.r.b, .int .i64 et.r.n, .slice ca2 nc2 cc2, .int .i64 ea, .int .i64 eb, .slice ka2 nk2 kc2, .int .i64 eg, .int .i64 ec, .slice xa2 nx2 xc2] 39)) := at_below HQ0.out hb
  have HB1 : Hid (Below w.heap.size w w1) := bel_then HB0.out hb
  clear hb
  have a12 : w1.cell? ⟨w.heap.size, 12, none⟩ = some (.slice ca nc cc) := cell_at HA1.out rfl
  have b12 : w1.cell? ⟨w.heap.size + 1, 12, none⟩ = some (.slice ca2 nc2 cc2) := cell_at HQ1.out rfl
  have a18 : w1.cell? ⟨w.heap.size, 18, none⟩ = some (.slice xa nx xc) := cell_at HA1.out rfl
  have b18 : w1.cell? ⟨w.heap.size + 1, 18, none⟩ = some (.slice xa2 nx2 xc2) := cell_at HQ1.out rfl
  go_wp2_with fail
  clear a12 b12 a18 b18
  go_loopw [5] (fun i wr => ∃ k : Nat, k ≤ nc ∧ i = .int .i64 k ∧ Hid (wr.heap[w.heap.size]? = some (.cells #[.int .i64 dk, .int .i64 dn, .int .i64 dt.k, .bool dt.no, .int .i64 dt.l.k, .int .i64 dt.l.a, .int .i64 dt.l.b, .int .i64 dt.l.n, .int .i64 dt.r.k, .int .i64 dt.r.a, .int .i64 dt.r.b, .int .i64 dt.r.n, .slice ca nc cc, .int .i64 da, .int .i64 db, .slice ka nk kc, .int .i64 dg, .int .i64 dc, .slice xa nx xc] 39)) ∧ Hid (wr.heap[w.heap.size + 1]? = some (.cells #[.int .i64 ek, .int .i64 en, .int .i64 et.k, .bool et.no, .int .i64 et.l.k, .int .i64 et.l.a, .int .i64 et.l.b, .int .i64 et.l.n, .int .i64 et.r.k, .int .i64 et.r.a, .int .i64 et.r.b, .int .i64 et.r.n, .slice ca2 nc2 cc2, .int .i64 ea, .int .i64 eb, .slice ka2 nk2 kc2, .int .i64 eg, .int .i64 ec, .slice xa2 nx2 xc2] 39)) ∧ Hid (Below w.heap.size w wr) ∧ Hid (∀ j, j < k → dcs.getD j Cel.zero = ecs.getD j Cel.zero)) (fun i _ => nc - (intOf i).toNat)
  case atStart => exact ⟨0, Nat.zero_le _, rfl, HA1.out, HQ1.out, HB1.out, fun j hj => by omega⟩
  case round =>
    obtain ⟨k, hk, rfl, HA, HQ, HB, HS⟩ := hrel
    clear HA0 HQ0 HB0 HA1 HQ1 HB1
    have a12 : wr.cell? ⟨w.heap.size, 12, none⟩ = some (.slice ca nc cc) := cell_at HA.out rfl
    have b12 : wr.cell? ⟨w.heap.size + 1, 12, none⟩ = some (.slice ca2 nc2 cc2) := cell_at HQ.out rfl
    by_cases hlt : k < nc
    · have hlt2 : k < nc2 := by have := HN1.out.2.2.2.2.1; omega
      obtain ⟨b, off, rfl, hbw, h4⟩ := HC.out.at.2 (by omega)
      obtain ⟨b2, off2, rfl, hbw2, h5⟩ := HC2.out.at.2 (by omega)
      obtain ⟨x0, x1, x2, x3⟩ := (h4 k hlt).below HB.out hbw
      obtain ⟨y0, y1, y2, y3⟩ := (h5 k hlt2).below HB.out hbw2
      clear h4 h5
      obtain ⟨x, HXX⟩ : ∃ x, Hid (x = dcs.getD k Cel.zero) := ⟨_, rfl⟩
      obtain ⟨y, HYY⟩ : ∃ y, Hid (y = ecs.getD k Cel.zero) := ⟨_, rfl⟩
      rw [← HXX.out] at x0 x1 x2 x3
      rw [← HYY.out] at y0 y1 y2 y3
      have hq := cellNe x y
      cases hxy : x.eqB y with
      | true =>
        have HXY : Hid (x = y) := Cel.eqB_iff.1 hxy
        rw [hxy] at hq
        clear hxy
        go_wp2
        go_quiet (fail)
        go_wp2
        go_roundw
        case rel => exact ⟨k + 1, by omega, by go_num, at_below HA.out (below_drewN (Below.refl _ _) _), at_below HQ.out (below_drewN (Below.refl _ _) _), below_drewN HB.out _, fun j hj => by
          rcases Nat.lt_succ_iff_lt_or_eq.1 hj with h | h
          · exact HS.out j h
          · rw [h, ← HXX.out, ← HYY.out]; exact HXY.out⟩
        case measure => simp [intOf]; omega
      | false =>
        have HXY : Hid (x ≠ y) := fun h => by rw [Cel.eqB_iff.2 h] at hxy; cases hxy
        rw [hxy] at hq
        clear hxy
        go_wp2
        go_quiet (fail)
        go_wp2
        go_ret
        refine ⟨⟨false, rfl, ?_⟩, below_drewN HB.out _⟩
        simp only [Bool.false_eq_true, false_iff, not_and]
        intro h
        exact absurd (by rw [HXX.out, HYY.out, h]) HXY.out
    · obtain rfl : nc = k := by omega
      have HCE : Hid (dcs = ecs) := by
        have h := celsB_of dcs ecs (by have := HN1.out; omega) (by have := HN1.out.1; rw [← this]; exact HS.out)
        exact (celsB_iff _ _).1 h
      go_wp2
      clear a12 b12
      go_loopw [6] (fun i wr => ∃ k : Nat, k ≤ nx ∧ i = .int .i64 k ∧ Hid (wr.heap[w.heap.size]? = some (.cells #[.int .i64 dk, .int .i64 dn, .int .i64 dt.k, .bool dt.no, .int .i64 dt.l.k, .int .i64 dt.l.a, .int .i64 dt.l.b, .int .i64 dt.l.n, .int .i64 dt.r.k, .int .i64 dt.r.a, .int .i64 dt.r.b, .int .i64 dt.r.n, .slice ca nc cc, .int .i64 da, .int .i64 db, .slice ka nk kc, .int .i64 dg, .int .i64 dc, .slice xa nx xc] 39)) ∧ Hid (wr.heap[w.heap.size + 1]? = some (.cells #[.int .i64 ek, .int .i64 en, .int .i64 et.k, .bool et.no, .int .i64 et.l.k, .int .i64 et.l.a, .int .i64 et.l.b, .int .i64 et.l.n, .int .i64 et.r.k, .int .i64 et.r.a, .int .i64 et.r.b, .int .i64 et.r.n, .slice ca2 nc2 cc2, .int .i64 ea, .int .i64 eb, .slice ka2 nk2 kc2, .int .i64 eg, .int .i64 ec, .slice xa2 nx2 xc2] 39)) ∧ Hid (Below w.heap.size w wr) ∧ Hid (∀ j (h1 : j < l.length) (h2 : j < l2.length), j < k → l[j] = l2[j])) (fun i _ => nx - (intOf i).toNat)
      case atStart => exact ⟨0, Nat.zero_le _, rfl, HA.out, HQ.out, HB.out, fun j _ _ hj => by omega⟩
      case round =>
        clear HA HQ HB HS
        obtain ⟨k, hk, rfl, HA, HQ, HB, HS⟩ := hrel
        have a18 : wr.cell? ⟨w.heap.size, 18, none⟩ = some (.slice xa nx xc) := cell_at HA.out rfl
        have b18 : wr.cell? ⟨w.heap.size + 1, 18, none⟩ = some (.slice xa2 nx2 xc2) := cell_at HQ.out rfl
        by_cases hlt : k < nx
        · have hkl : k < l.length := by have := HN1.out; omega
          have hkl2 : k < l2.length := by have := HN1.out; omega
          have hlt2 : k < nx2 := by have := HN1.out; omega
          obtain ⟨b, off, rfl, hbw, h4⟩ := HX.out.at.2 (by omega)
          obtain ⟨b2, off2, rfl, hbw2, h5⟩ := HX2.out.at.2 (by omega)
          obtain ⟨vc, vk, vd, hf, hp⟩ := fields_of (NodeAt.below _ (h4 k hkl) HB.out)
          obtain ⟨vc2, vk2, vd2, hf2, hp2⟩ := fields_of (NodeAt.below _ (h5 k hkl2) HB.out)
          obtain ⟨q, hq⟩ : ∃ q, k * 19 = q := ⟨_, rfl⟩
          rw [hq] at hf hf2
          have HR : Hid (wr.rangeAt b (off + q) ([.int .i64 l[k].nd.k, .int .i64 l[k].nd.n, .int .i64 l[k].nd.t.k, .bool l[k].nd.t.no, .int .i64 l[k].nd.t.l.k, .int .i64 l[k].nd.t.l.a, .int .i64 l[k].nd.t.l.b, .int .i64 l[k].nd.t.l.n, .int .i64 l[k].nd.t.r.k, .int .i64 l[k].nd.t.r.a, .int .i64 l[k].nd.t.r.b, .int .i64 l[k].nd.t.r.n, vc, .int .i64 l[k].nd.a, .int .i64 l[k].nd.b, vk, .int .i64 l[k].nd.g, .int .i64 l[k].nd.c, vd] : List Value)) := hf.range
          have HR2 : Hid (wr.rangeAt b2 (off2 + q) ([.int .i64 l2[k].nd.k, .int .i64 l2[k].nd.n, .int .i64 l2[k].nd.t.k, .bool l2[k].nd.t.no, .int .i64 l2[k].nd.t.l.k, .int .i64 l2[k].nd.t.l.a, .int .i64 l2[k].nd.t.l.b, .int .i64 l2[k].nd.t.l.n, .int .i64 l2[k].nd.t.r.k, .int .i64 l2[k].nd.t.r.a, .int .i64 l2[k].nd.t.r.b, .int .i64 l2[k].nd.t.r.n, vc2, .int .i64 l2[k].nd.a, .int .i64 l2[k].nd.b, vk2, .int .i64 l2[k].nd.g, .int .i64 l2[k].nd.c, vd2] : List Value)) := hf2.range
          have hil : (Try.prog.info? 39).map (·.size) = some ([.int .i64 l[k].nd.k, .int .i64 l[k].nd.n, .int .i64 l[k].nd.t.k, .bool l[k].nd.t.no, .int .i64 l[k].nd.t.l.k, .int .i64 l[k].nd.t.l.a, .int .i64 l[k].nd.t.l.b, .int .i64 l[k].nd.t.l.n, .int .i64 l[k].nd.t.r.k, .int .i64 l[k].nd.t.r.a, .int .i64 l[k].nd.t.r.b, .int .i64 l[k].nd.t.r.n, vc, .int .i64 l[k].nd.a, .int .i64 l[k].nd.b, vk, .int .i64 l[k].nd.g, .int .i64 l[k].nd.c, vd] : List Value).length := by kernel_rfl
          have hil2 : (Try.prog.info? 39).map (·.size) = some ([.int .i64 l2[k].nd.k, .int .i64 l2[k].nd.n, .int .i64 l2[k].nd.t.k, .bool l2[k].nd.t.no, .int .i64 l2[k].nd.t.l.k, .int .i64 l2[k].nd.t.l.a, .int .i64 l2[k].nd.t.l.b, .int .i64 l2[k].nd.t.l.n, .int .i64 l2[k].nd.t.r.k, .int .i64 l2[k].nd.t.r.a, .int .i64 l2[k].nd.t.r.b, .int .i64 l2[k].nd.t.r.n, vc2, .int .i64 l2[k].nd.a, .int .i64 l2[k].nd.b, vk2, .int .i64 l2[k].nd.g, .int .i64 l2[k].nd.c, vd2] : List Value).length := by kernel_rfl
          have HPV : Hid (PlanV (n + 1) wr l[k] vc vk vd) := hp
          have HPV2 : Hid (PlanV (n + 1) wr l2[k] vc2 vk2 vd2) := hp2
          have HS1 : Hid (b < wr.heap.size) := Nat.lt_of_lt_of_le hbw HB.out.size
          have HS2 : Hid (b2 < wr.heap.size) := Nat.lt_of_lt_of_le hbw2 HB.out.size
          obtain ⟨c, hcc⟩ : ∃ c, Pl.same (n + 1) l[k] l2[k] = c := ⟨_, rfl⟩
          have HCC : Hid (Pl.same (n + 1) l[k] l2[k] = c) := hcc
          clear hcc
          clear hp hf hp2 hf2 h4 h5
          go_wp2_with fail
          refine wp_region_held_drew (S := (fun x => x.cell? ⟨w.heap.size, 18, none⟩ = some (.slice (some ⟨b, off, none⟩) nx xc) ∧ x.cell? ⟨w.heap.size + 1, 18, none⟩ = some (.slice (some ⟨b2, off2, none⟩) nx2 xc2) ∧ x.rangeAt b (off + q) ([.int .i64 l[k].nd.k, .int .i64 l[k].nd.n, .int .i64 l[k].nd.t.k, .bool l[k].nd.t.no, .int .i64 l[k].nd.t.l.k, .int .i64 l[k].nd.t.l.a, .int .i64 l[k].nd.t.l.b, .int .i64 l[k].nd.t.l.n, .int .i64 l[k].nd.t.r.k, .int .i64 l[k].nd.t.r.a, .int .i64 l[k].nd.t.r.b, .int .i64 l[k].nd.t.r.n, vc, .int .i64 l[k].nd.a, .int .i64 l[k].nd.b, vk, .int .i64 l[k].nd.g, .int .i64 l[k].nd.c, vd] : List Value) ∧ x.rangeAt b2 (off2 + q) ([.int .i64 l2[k].nd.k, .int .i64 l2[k].nd.n, .int .i64 l2[k].nd.t.k, .bool l2[k].nd.t.no, .int .i64 l2[k].nd.t.l.k, .int .i64 l2[k].nd.t.l.a, .int .i64 l2[k].nd.t.l.b, .int .i64 l2[k].nd.t.l.n, .int .i64 l2[k].nd.t.r.k, .int .i64 l2[k].nd.t.r.a, .int .i64 l2[k].nd.t.r.b, .int .i64 l2[k].nd.t.r.n, vc2, .int .i64 l2[k].nd.a, .int .i64 l2[k].nd.b, vk2, .int .i64 l2[k].nd.g, .int .i64 l2[k].nd.c, vd2] : List Value))) (by kernel_rfl) ?_ (fun hHeld => ?_)
          · (try dsimp only); exact ⟨a18, b18, HR.out, HR2.out⟩
          refine wpAnyH_take (i := 0) (v := ?_) rfl (by kernel_rfl) (by kernel_rfl) (by kernel_rfl) (fun _ _ _ h => h) (Or.inl ⟨by rfl, ?_⟩) (by assumption) ?_
          rotate_left 1
          · intro w hSw; (try dsimp only at hSw); go_simp; try with_reducible rfl
          simp only [Act.put, List.getElem_toArray, List.getElem_cons_succ, List.getElem_cons_zero, List.setIfInBounds_toArray, List.set_cons_zero, List.set_cons_succ]
          refine wpAnyH_take (i := 1) (v := ?_) rfl (by kernel_rfl) (by kernel_rfl) (by kernel_rfl) (fun _ _ _ h => h) (Or.inl ⟨by rfl, ?_⟩) (by assumption) ?_
          rotate_left 1
          · intro w hSw; (try dsimp only at hSw); go_simp; try with_reducible rfl
          simp only [Act.put, List.getElem_toArray, List.getElem_cons_succ, List.getElem_cons_zero, List.setIfInBounds_toArray, List.set_cons_zero, List.set_cons_succ]
          refine wpAnyH_take (i := 2) (v := ?_) rfl (by kernel_rfl) (by kernel_rfl) (by kernel_rfl) (fun _ _ _ h => h) (Or.inl ⟨by rfl, ?_⟩) (by assumption) ?_
          rotate_left 1
          · intro w hSw; (try dsimp only at hSw); go_simp; try with_reducible rfl
          simp only [Act.put, List.getElem_toArray, List.getElem_cons_succ, List.getElem_cons_zero, List.setIfInBounds_toArray, List.set_cons_zero, List.set_cons_succ]
          refine wpAnyH_take (i := 3) (v := ?_) rfl (by kernel_rfl) (by kernel_rfl) (by kernel_rfl) (fun _ _ _ h => h) (Or.inl ⟨by rfl, ?_⟩) (by assumption) ?_
          rotate_left 1
          · intro w hSw; (try dsimp only at hSw); go_simp; try with_reducible rfl
          simp only [Act.put, List.getElem_toArray, List.getElem_cons_succ, List.getElem_cons_zero, List.setIfInBounds_toArray, List.set_cons_zero, List.set_cons_succ]
          refine wpAnyH_take (i := 4) (v := .agg ([.int .i64 l[k].nd.k, .int .i64 l[k].nd.n, .int .i64 l[k].nd.t.k, .bool l[k].nd.t.no, .int .i64 l[k].nd.t.l.k, .int .i64 l[k].nd.t.l.a, .int .i64 l[k].nd.t.l.b, .int .i64 l[k].nd.t.l.n, .int .i64 l[k].nd.t.r.k, .int .i64 l[k].nd.t.r.a, .int .i64 l[k].nd.t.r.b, .int .i64 l[k].nd.t.r.n, vc, .int .i64 l[k].nd.a, .int .i64 l[k].nd.b, vk, .int .i64 l[k].nd.g, .int .i64 l[k].nd.c, vd] : List Value).toArray) rfl (by kernel_rfl) (by kernel_rfl) (by kernel_rfl) (fun _ _ _ h => h) (yieldsIf_load_mid (by rfl) 39 _ rfl b (off + q) rfl [.int .i64 l[k].nd.k, .int .i64 l[k].nd.n, .int .i64 l[k].nd.t.k, .bool l[k].nd.t.no, .int .i64 l[k].nd.t.l.k, .int .i64 l[k].nd.t.l.a, .int .i64 l[k].nd.t.l.b, .int .i64 l[k].nd.t.l.n, .int .i64 l[k].nd.t.r.k, .int .i64 l[k].nd.t.r.a, .int .i64 l[k].nd.t.r.b, .int .i64 l[k].nd.t.r.n, vc, .int .i64 l[k].nd.a, .int .i64 l[k].nd.b, vk, .int .i64 l[k].nd.g, .int .i64 l[k].nd.c, vd] _ (fun x h => h.2.2.1) Try.underlying39 rfl hil) (by assumption) ?_
          simp only [Act.put, List.getElem_toArray, List.getElem_cons_succ, List.getElem_cons_zero, List.setIfInBounds_toArray, List.set_cons_zero, List.set_cons_succ]
          refine wpAnyH_take (i := 5) (v := ?_) rfl (by kernel_rfl) (by kernel_rfl) (by kernel_rfl) (fun _ _ _ h => h) (Or.inl ⟨by rfl, ?_⟩) (by assumption) ?_
          rotate_left 1
          · intro w hSw; (try dsimp only at hSw); go_simp; try with_reducible rfl
          simp only [Act.put, List.getElem_toArray, List.getElem_cons_succ, List.getElem_cons_zero, List.setIfInBounds_toArray, List.set_cons_zero, List.set_cons_succ]
          refine wpAnyH_take (i := 6) (v := ?_) rfl (by kernel_rfl) (by kernel_rfl) (by kernel_rfl) (fun _ _ _ h => h) (Or.inl ⟨by rfl, ?_⟩) (by assumption) ?_
          rotate_left 1
          · intro w hSw; (try dsimp only at hSw); go_simp; try with_reducible rfl
          simp only [Act.put, List.getElem_toArray, List.getElem_cons_succ, List.getElem_cons_zero, List.setIfInBounds_toArray, List.set_cons_zero, List.set_cons_succ]
          refine wpAnyH_take (i := 7) (v := ?_) rfl (by kernel_rfl) (by kernel_rfl) (by kernel_rfl) (fun _ _ _ h => h) (Or.inl ⟨by rfl, ?_⟩) (by assumption) ?_
          rotate_left 1
          · intro w hSw; (try dsimp only at hSw); go_simp; try with_reducible rfl
          simp only [Act.put, List.getElem_toArray, List.getElem_cons_succ, List.getElem_cons_zero, List.setIfInBounds_toArray, List.set_cons_zero, List.set_cons_succ]
          refine wpAnyH_take (i := 8) (v := ?_) rfl (by kernel_rfl) (by kernel_rfl) (by kernel_rfl) (fun _ _ _ h => h) (Or.inl ⟨by rfl, ?_⟩) (by assumption) ?_
          rotate_left 1
          · intro w hSw; (try dsimp only at hSw); go_simp; try with_reducible rfl
          simp only [Act.put, List.getElem_toArray, List.getElem_cons_succ, List.getElem_cons_zero, List.setIfInBounds_toArray, List.set_cons_zero, List.set_cons_succ]
          refine wpAnyH_take (i := 9) (v := .agg ([.int .i64 l2[k].nd.k, .int .i64 l2[k].nd.n, .int .i64 l2[k].nd.t.k, .bool l2[k].nd.t.no, .int .i64 l2[k].nd.t.l.k, .int .i64 l2[k].nd.t.l.a, .int .i64 l2[k].nd.t.l.b, .int .i64 l2[k].nd.t.l.n, .int .i64 l2[k].nd.t.r.k, .int .i64 l2[k].nd.t.r.a, .int .i64 l2[k].nd.t.r.b, .int .i64 l2[k].nd.t.r.n, vc2, .int .i64 l2[k].nd.a, .int .i64 l2[k].nd.b, vk2, .int .i64 l2[k].nd.g, .int .i64 l2[k].nd.c, vd2] : List Value).toArray) rfl (by kernel_rfl) (by kernel_rfl) (by kernel_rfl) (fun _ _ _ h => h) (yieldsIf_load_mid (by rfl) 39 _ rfl b2 (off2 + q) rfl [.int .i64 l2[k].nd.k, .int .i64 l2[k].nd.n, .int .i64 l2[k].nd.t.k, .bool l2[k].nd.t.no, .int .i64 l2[k].nd.t.l.k, .int .i64 l2[k].nd.t.l.a, .int .i64 l2[k].nd.t.l.b, .int .i64 l2[k].nd.t.l.n, .int .i64 l2[k].nd.t.r.k, .int .i64 l2[k].nd.t.r.a, .int .i64 l2[k].nd.t.r.b, .int .i64 l2[k].nd.t.r.n, vc2, .int .i64 l2[k].nd.a, .int .i64 l2[k].nd.b, vk2, .int .i64 l2[k].nd.g, .int .i64 l2[k].nd.c, vd2] _ (fun x h => h.2.2.2) Try.underlying39 rfl hil2) (by assumption) ?_
          simp only [Act.put, List.getElem_toArray, List.getElem_cons_succ, List.getElem_cons_zero, List.setIfInBounds_toArray, List.set_cons_zero, List.set_cons_succ]
          refine wpAnyH_ready (rs := [10]) (by kernel_rfl) (by simp) ?_
          refine AllReadyH.cons rfl (fun K hK => ?_) AllReadyH.nil
          go_simp
          (refine (HIH.out (Nat.lt_of_le_of_lt (Nat.zero_le _) hkl) l[k] l2[k] vc vk vd vc2 vk2 vd2 _ (by first | exact HPV.out | exact HPV.out.below (Below.drew (Below.refl _ _))) (by first | exact HPV2.out | exact HPV2.out.below (Below.drew (Below.refl _ _))) (HSZ.out k hkl) (HSZ2.out k hkl2)).mono ?_; rw [HCC.out]; rintro r w2 ⟨rfl, hb2⟩; have hb : Below wr.heap.size wr w2 := (by first | exact hb2 | exact (Below.drew (Below.refl _ _)).trans hb2); clear hb2; have HA2 : Hid (w2.heap[w.heap.size]? = some (.cells #[.int .i64 dk, .int .i64 dn, .int .i64 dt.k, .bool dt.no, .int .i64 dt.l.k, .int .i64 dt.l.a, .int .i64 dt.l.b, .int .i64 dt.l.n, .int .i64 dt.r.k, .int .i64 dt.r.a, .int .i64 dt.r.b, .int .i64 dt.r.n, .slice ca nc cc, .int .i64 da, .int .i64 db, .slice ka nk kc, .int .i64 dg, .int .i64 dc, .slice (some ⟨b, off, none⟩) nx xc] 39)) := at_below HA.out hb; have HQ2 : Hid (w2.heap[w.heap.size + 1]? = some (.cells #[.int .i64 ek, .int .i64 en, .int .i64 et.k, .bool et.no, .int .i64 et.l.k, .int .i64 et.l.a, .int .i64 et.l.b, .int .i64 et.l.n, .int .i64 et.r.k, .int .i64 et.r.a, .int .i64 et.r.b, .int .i64 et.r.n, .slice ca2 nc2 cc2, .int .i64 ea, .int .i64 eb, .slice ka2 nk2 kc2, .int .i64 eg, .int .i64 ec, .slice (some ⟨b2, off2, none⟩) nx2 xc2] 39)) := at_below HQ.out hb; have HB2 : Hid (Below w.heap.size w w2) := bel_then HB.out hb; have Y2 : w2.cell? ⟨w.heap.size, 18, none⟩ = some (.slice (some ⟨b, off, none⟩) nx xc) ∧ w2.cell? ⟨w.heap.size + 1, 18, none⟩ = some (.slice (some ⟨b2, off2, none⟩) nx2 xc2) ∧ w2.rangeAt b (off + q) ([.int .i64 l[k].nd.k, .int .i64 l[k].nd.n, .int .i64 l[k].nd.t.k, .bool l[k].nd.t.no, .int .i64 l[k].nd.t.l.k, .int .i64 l[k].nd.t.l.a, .int .i64 l[k].nd.t.l.b, .int .i64 l[k].nd.t.l.n, .int .i64 l[k].nd.t.r.k, .int .i64 l[k].nd.t.r.a, .int .i64 l[k].nd.t.r.b, .int .i64 l[k].nd.t.r.n, vc, .int .i64 l[k].nd.a, .int .i64 l[k].nd.b, vk, .int .i64 l[k].nd.g, .int .i64 l[k].nd.c, vd] : List Value) ∧ w2.rangeAt b2 (off2 + q) ([.int .i64 l2[k].nd.k, .int .i64 l2[k].nd.n, .int .i64 l2[k].nd.t.k, .bool l2[k].nd.t.no, .int .i64 l2[k].nd.t.l.k, .int .i64 l2[k].nd.t.l.a, .int .i64 l2[k].nd.t.l.b, .int .i64 l2[k].nd.t.l.n, .int .i64 l2[k].nd.t.r.k, .int .i64 l2[k].nd.t.r.a, .int .i64 l2[k].nd.t.r.b, .int .i64 l2[k].nd.t.r.n, vc2, .int .i64 l2[k].nd.a, .int .i64 l2[k].nd.b, vk2, .int .i64 l2[k].nd.g, .int .i64 l2[k].nd.c, vd2] : List Value) := ⟨cell_at HA2.out rfl, cell_at HQ2.out rfl, range_below HR.out hb HS1.out, range_below HR2.out hb HS2.out⟩; clear hb)
          refine hK.out _ _ ?_ (fun hHeld => ?_)
          · (try dsimp only); exact Y2
          clear hK K
          try simp only [Act.put, List.getElem_toArray, List.getElem_cons_succ, List.getElem_cons_zero, List.setIfInBounds_toArray, List.set_cons_zero, List.set_cons_succ]
          refine wpAnyH_take (i := 11) (v := ?_) rfl (by kernel_rfl) (by kernel_rfl) (by kernel_rfl) (fun _ _ _ h => h) (Or.inl ⟨by rfl, ?_⟩) (by assumption) ?_
          rotate_left 1
          · intro w hSw; (try dsimp only at hSw); go_simp; try with_reducible rfl
          simp only [Act.put, List.getElem_toArray, List.getElem_cons_succ, List.getElem_cons_zero, List.setIfInBounds_toArray, List.set_cons_zero, List.set_cons_succ]
          refine wpAnyH_done (by kernel_rfl) ?_ _
          clear HR HR2 hil hil2 HPV HPV2 a18 b18 HA HQ HB
          cases c with
          | true =>
            have HKE : Hid (l[k] = l2[k]) := (Pl.same_iff _ _ _).1 HCC.out
            go_wp2
            go_roundw
            case rel => exact ⟨k + 1, by omega, by go_num, HA2.out, HQ2.out, HB2.out, fun j h1 h2 hj => by
              rcases Nat.lt_succ_iff_lt_or_eq.1 hj with h | h
              · exact HS.out j h1 h2 h
              · subst h; exact HKE.out⟩
            case measure => simp [intOf]; omega
          | false =>
            have HKE : Hid (l[k] ≠ l2[k]) := fun h => by have h2 := HCC.out; rw [(Pl.same_iff _ _ _).2 h] at h2; cases h2
            go_wp2
            go_ret
            refine ⟨⟨false, rfl, ?_⟩, HB2.out⟩
            simp only [Bool.false_eq_true, false_iff, not_and]
            intro _ h
            subst h
            exact HKE.out rfl
        · obtain rfl : nx = k := by omega
          have HLE : Hid (l = l2) := by
            have hn := HN1.out
            refine List.ext_getElem (by omega) fun j h1 h2 => HS.out j h1 h2 (by omega)
          go_wp2
          go_ret
          exact ⟨⟨true, rfl, by simp only [true_iff]; exact ⟨HCE.out, HLE.out⟩⟩, HB.out⟩

end Go.Proofs.Ytkmihnagmbdbgaa
