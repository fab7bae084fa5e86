/-
  spec.l3Test and spec.l3TestBent: a drawn test, one in ten bent.
-/
import Derived.Test.YtehfpceghdaajaaGreatDoorDrawC2
namespace Go.Proofs.YtehfpceghdaajaaGreatDoor
open Go.RowKit
set_option linter.unusedVariables false

/-- Ten stores into one block of the call's own. -/
theorem fin10 {w wk : World} {g b P : Nat} (v0 v1 v2 v3 v4 v5 v6 v7 v8 v9 : Value) (h : Rd wk g P ∧ w.grownBy wk (some g)) (hb : w.heap.size ≤ b) (hg : g < w.heap.size) :
    Rd ((((((((((wk.setCell ⟨b, 0, none⟩ v0).setCell ⟨b, 1, none⟩ v1).setCell ⟨b, 2, none⟩ v2).setCell ⟨b, 3, none⟩ v3).setCell ⟨b, 4, none⟩ v4).setCell ⟨b, 5, none⟩ v5).setCell ⟨b, 6, none⟩ v6).setCell ⟨b, 7, none⟩ v7).setCell ⟨b, 8, none⟩ v8).setCell ⟨b, 9, none⟩ v9) g P ∧ w.grownBy ((((((((((wk.setCell ⟨b, 0, none⟩ v0).setCell ⟨b, 1, none⟩ v1).setCell ⟨b, 2, none⟩ v2).setCell ⟨b, 3, none⟩ v3).setCell ⟨b, 4, none⟩ v4).setCell ⟨b, 5, none⟩ v5).setCell ⟨b, 6, none⟩ v6).setCell ⟨b, 7, none⟩ v7).setCell ⟨b, 8, none⟩ v8).setCell ⟨b, 9, none⟩ v9) (some g) :=
  (fin_set v9 (fin_set v8 (fin_set v7 (fin_set v6 (fin_set v5 (fin_set v4 (fin_set v3 (fin_set v2 (fin_set v1 (fin_set v0 h hb hg) hb hg) hb hg) hb hg) hb hg) hb hg) hb hg) hb hg) hb hg) hb hg)

def Tst.Low (t : Tst) : Prop := (-2000000000 ≤ t.k ∧ t.k ≤ 2000000000) ∧ t.l.Low ∧ t.r.Low

set_option maxRecDepth 100000 in
set_option maxHeartbeats 2000000 in
theorem l3Test_any (g P : Nat) (wide : Int) (w : World) (h1 : 1 ≤ wide) (h2 : wide ≤ 1000) (hP : P ≤ 1099511624000) (h : Rd w g P) :
    Calls Tryz.prog 43 #[.pointer (some ⟨g, 0, none⟩), .int .i64 wide] w fun e w' =>
      ∃ t : Tst, e = .returned (.agg #[.int .i64 t.k, .bool t.no, .int .i64 t.l.k, .int .i64 t.l.a, .int .i64 t.l.b, .int .i64 t.l.n, .int .i64 t.r.k, .int .i64 t.r.a, .int .i64 t.r.b, .int .i64 t.r.n]) ∧ t.Low ∧ Rd w' g (P + 8) ∧ w.grownBy w' (some g) := by
  have hgw := h.lt
  go_enter Tryz.func43, Tryz.ntmps43
  go_wp2_with fail
  refine (pick_any g P 2 _ (by omega) (by omega) (by omega) (h.below (bel_alloc _))).mono ?_
  rintro e w1 ⟨r, hr0, hr2, rfl, hrd1, hg1⟩
  have z1 := kept_at hg1 (alloc_at w _) (by omega)
  have G1 : Hid (w.grownBy w1 (some g)) := grown_trans (World.grownBy_alloc w _ _) hg1
  clear hg1 h
  go_wp2_with fail
  refine (pick_any g _ 3 _ (by omega) (by omega) (by omega) hrd1).mono ?_
  rintro e w2 ⟨q, hq0, hq3, rfl, hrd2, hg2⟩
  have z2 := kept_at hg2 z1 (by omega)
  have G2 : Hid (w.grownBy w2 (some g)) := grown_trans G1.out hg2
  clear hg2 hrd1 z1
  go_wp2_with fail
  refine (l3Cell_any g _ wide _ h1 h2 (by omega) hrd2).mono ?_
  rintro e w3 ⟨⟨lk, la, lb, ln⟩, rfl, hl, hrd3, hg3⟩
  have z3 := kept_at hg3 z2 (by omega)
  have G3 : Hid (w.grownBy w3 (some g)) := grown_trans G2.out hg3
  have HLL : Hid (Cel.Low ⟨lk, la, lb, ln⟩) := hl
  clear hg3 hrd2 z2 hl
  simp only
  go_wp2_with fail
  refine (l3Cell_any g _ wide _ h1 h2 (by omega) hrd3).mono ?_
  rintro e w4 ⟨⟨rk, ra, rb, rn⟩, rfl, hl, hrd4, hg4⟩
  have z4 := kept_at hg4 z3 (by omega)
  have G4 : Hid (w.grownBy w4 (some g)) := grown_trans G3.out hg4
  have HLR : Hid (Cel.Low ⟨rk, ra, rb, rn⟩) := hl
  clear hg4 hrd3 z3 hl
  simp only
  obtain ⟨⟨c0, c1, c2, c3, c4, c5, c6, c7, c8, c9⟩, f0, f1, f2, f3, f4, f5, f6, f7, f8, f9⟩ := ten_cells z4
  have hwr : IntKind.i64.wrap (1 + r) = 1 + r := by unfold IntKind.wrap; simp [IntKind.bits, IntKind.signed]; omega
  have F := fin10 (b := w.heap.size) (.int .i64 (1 + r)) (.bool (q == 0)) (.int .i64 lk) (.int .i64 la) (.int .i64 lb) (.int .i64 ln) (.int .i64 rk) (.int .i64 ra) (.int .i64 rb) (.int .i64 rn) ⟨hrd4.le (Q := P + 8) (by omega), G4.out⟩ (Nat.le_refl _) hgw
  clear z4
  go_wp2
  refine bodyPost_ret (v := .agg #[.int .i64 (1 + r), .bool (q == 0), .int .i64 lk, .int .i64 la, .int .i64 lb, .int .i64 ln, .int .i64 rk, .int .i64 ra, .int .i64 rb, .int .i64 rn]) (by simp [results, Tryz.results43, go_sem, c0, c1, c2, c3, c4, c5, c6, c7, c8, c9]) rfl ⟨⟨1 + r, q == 0, ⟨lk, la, lb, ln⟩, ⟨rk, ra, rb, rn⟩⟩, rfl, ⟨by simp only; omega, HLL.out, HLR.out⟩, F.1, F.2⟩

set_option maxRecDepth 100000 in
set_option maxHeartbeats 2000000 in
theorem l3TestBent_any (g P : Nat) (wide : Int) (w : World) (h1 : 1 ≤ wide) (h2 : wide ≤ 1000) (hP : P ≤ 1099511623000) (h : Rd w g P) :
    Calls Tryz.prog 20 #[.pointer (some ⟨g, 0, none⟩), .int .i64 wide] w fun e w' =>
      ∃ t : Tst, e = .returned (.agg #[.int .i64 t.k, .bool t.no, .int .i64 t.l.k, .int .i64 t.l.a, .int .i64 t.l.b, .int .i64 t.l.n, .int .i64 t.r.k, .int .i64 t.r.a, .int .i64 t.r.b, .int .i64 t.r.n]) ∧ t.Low ∧ Rd w' g (P + 16) ∧ w.grownBy w' (some g) := by
  have hgw := h.lt
  go_enter Tryz.func20, Tryz.ntmps20
  go_wp2_with fail
  refine (l3Test_any g P wide _ h1 h2 (by omega) (h.below (bel_alloc _))).mono ?_
  rintro e w1 ⟨⟨tk, tn, ⟨lk, la, lb, ln⟩, ⟨rk, ra, rb, rn⟩⟩, rfl, hlow, hrd1, hg1⟩
  have HLOW : Hid (Tst.Low ⟨tk, tn, ⟨lk, la, lb, ln⟩, ⟨rk, ra, rb, rn⟩⟩) := hlow
  have z1 := kept_at hg1 (alloc_at w _) (by omega)
  have G1 : Hid (w.grownBy w1 (some g)) := grown_trans (World.grownBy_alloc w _ _) hg1
  have hs1 : w.heap.size < w1.heap.size := (Array.getElem?_eq_some_iff.1 z1).1
  clear hg1 h hlow
  simp only
  go_wp2_with fail
  refine (pick_any g _ 30 _ (by omega) (by omega) (by omega) (hrd1.below (bel_alloc _))).mono ?_
  rintro e w2 ⟨s, hs0, hs40, rfl, hrd2, hg2⟩
  have zc := kept_at hg2 (alloc_at w1 _) (by omega)
  have zr := kept_at (grown_trans (World.grownBy_alloc w1 _ _) hg2) z1 (by omega)
  have G2 : Hid (w.grownBy w2 (some g)) := grown_trans G1.out (grown_trans (World.grownBy_alloc w1 _ _) hg2)
  have hs2 : w1.heap.size < w2.heap.size := (Array.getElem?_eq_some_iff.1 zc).1
  clear hg2 z1 hrd1
  by_cases hq0 : s = 0
  · subst hq0
    have hlit := own_lit w2 [0, 3] (by simp)
    have hr4 : Rd (w2.alloc (.cells #[.int .i64 0, .int .i64 3] 3)) g _ := hrd2.below (bel_alloc _)
    go_wp2_with fail
    refine (num_any g _ _ _ _ _ _ (by omega) hr4 hlit (by omega) (by simp) (by simp)).mono ?_
    rintro e w3 ⟨z, hz, rfl, hrd3, hg3⟩
    have hz2 : -2000000000 ≤ z ∧ z ≤ 2000000000 := by simp at hz; omega
    replace zc := kept_at (grown_trans (World.grownBy_alloc w2 _ _) hg3) zc (by omega)
    replace zr := kept_at (grown_trans (World.grownBy_alloc w2 _ _) hg3) zr (by omega)
    have GL : Hid (w.grownBy w3 (some g)) := grown_trans G2.out (grown_trans (World.grownBy_alloc w2 _ _) hg3)
    clear hz hlit hr4 hg3 hrd2
    have F := fin10 (b := w.heap.size) (.int .i64 z) (.bool tn) (.int .i64 lk) (.int .i64 la) (.int .i64 lb) (.int .i64 ln) (.int .i64 rk) (.int .i64 ra) (.int .i64 rb) (.int .i64 rn) (fin_set (b := w1.heap.size) (o := 0) (.int .i64 z) ⟨hrd3.le (Q := P + 16) (by omega), GL.out⟩ (Nat.le_of_lt hs1) hgw) (Nat.le_refl _) hgw
    obtain ⟨⟨c0, c1, c2, c3, c4, c5, c6, c7, c8, c9⟩, f0, f1, f2, f3, f4, f5, f6, f7, f8, f9⟩ := ten_cells zc
    obtain ⟨⟨d0, d1, d2, d3, d4, d5, d6, d7, d8, d9⟩, e0, e1, e2, e3, e4, e5, e6, e7, e8, e9⟩ := ten_cells zr
    have hnb : w.heap.size ≠ w1.heap.size := by omega
    have hnb2 : w1.heap.size ≠ w.heap.size := by omega
    clear zc zr
    go_wp2
    exact bodyPost_ret (v := .agg #[.int .i64 z, .bool tn, .int .i64 lk, .int .i64 la, .int .i64 lb, .int .i64 ln, .int .i64 rk, .int .i64 ra, .int .i64 rb, .int .i64 rn]) (by simp [results, Tryz.results20, go_sem, d0, d1, d2, d3, d4, d5, d6, d7, d8, d9]) rfl ⟨⟨z, tn, ⟨lk, la, lb, ln⟩, ⟨rk, ra, rb, rn⟩⟩, rfl, ⟨hz2, HLOW.out.2⟩, F.1, F.2⟩
  · have hp0 : (s == 0) = false := by simpa using hq0
    by_cases hq1 : s = 1
    · subst hq1
      go_wp2_with fail
      refine (l3CellBent_any g _ wide _ h1 h2 (by omega) hrd2).mono ?_
      rintro e w3 ⟨⟨nk, na, nb, nn⟩, rfl, hl, hrd3, hg3⟩
      have HLN : Hid (Cel.Low ⟨nk, na, nb, nn⟩) := hl
      replace zc := kept_at hg3 zc (by omega)
      replace zr := kept_at hg3 zr (by omega)
      have GL : Hid (w.grownBy w3 (some g)) := grown_trans G2.out hg3
      clear hg3 hrd2 hl
      simp only
      have F := fin10 (b := w.heap.size) (.int .i64 tk) (.bool tn) (.int .i64 nk) (.int .i64 na) (.int .i64 nb) (.int .i64 nn) (.int .i64 rk) (.int .i64 ra) (.int .i64 rb) (.int .i64 rn) (fin_set (b := w1.heap.size) (o := 5) (.int .i64 nn) (fin_set (b := w1.heap.size) (o := 4) (.int .i64 nb) (fin_set (b := w1.heap.size) (o := 3) (.int .i64 na) (fin_set (b := w1.heap.size) (o := 2) (.int .i64 nk) ⟨hrd3.le (Q := P + 16) (by omega), GL.out⟩ (Nat.le_of_lt hs1) hgw) (Nat.le_of_lt hs1) hgw) (Nat.le_of_lt hs1) hgw) (Nat.le_of_lt hs1) hgw) (Nat.le_refl _) hgw
      obtain ⟨⟨c0, c1, c2, c3, c4, c5, c6, c7, c8, c9⟩, f0, f1, f2, f3, f4, f5, f6, f7, f8, f9⟩ := ten_cells zc
      obtain ⟨⟨d0, d1, d2, d3, d4, d5, d6, d7, d8, d9⟩, e0, e1, e2, e3, e4, e5, e6, e7, e8, e9⟩ := ten_cells zr
      have hnb : w.heap.size ≠ w1.heap.size := by omega
      have hnb2 : w1.heap.size ≠ w.heap.size := by omega
      clear zc zr
      go_wp2
      exact bodyPost_ret (v := .agg #[.int .i64 tk, .bool tn, .int .i64 nk, .int .i64 na, .int .i64 nb, .int .i64 nn, .int .i64 rk, .int .i64 ra, .int .i64 rb, .int .i64 rn]) (by simp [results, Tryz.results20, go_sem, d0, d1, d2, d3, d4, d5, d6, d7, d8, d9]) rfl ⟨⟨tk, tn, ⟨nk, na, nb, nn⟩, ⟨rk, ra, rb, rn⟩⟩, rfl, ⟨HLOW.out.1, HLN.out, HLOW.out.2.2⟩, F.1, F.2⟩
    · have hp1 : (s == 1) = false := by simpa using hq1
      by_cases hq2 : s = 2
      · subst hq2
        go_wp2_with fail
        refine (l3CellBent_any g _ wide _ h1 h2 (by omega) hrd2).mono ?_
        rintro e w3 ⟨⟨nk, na, nb, nn⟩, rfl, hl, hrd3, hg3⟩
        have HLN : Hid (Cel.Low ⟨nk, na, nb, nn⟩) := hl
        replace zc := kept_at hg3 zc (by omega)
        replace zr := kept_at hg3 zr (by omega)
        have GL : Hid (w.grownBy w3 (some g)) := grown_trans G2.out hg3
        clear hg3 hrd2 hl
        simp only
        have F := fin10 (b := w.heap.size) (.int .i64 tk) (.bool tn) (.int .i64 lk) (.int .i64 la) (.int .i64 lb) (.int .i64 ln) (.int .i64 nk) (.int .i64 na) (.int .i64 nb) (.int .i64 nn) (fin_set (b := w1.heap.size) (o := 9) (.int .i64 nn) (fin_set (b := w1.heap.size) (o := 8) (.int .i64 nb) (fin_set (b := w1.heap.size) (o := 7) (.int .i64 na) (fin_set (b := w1.heap.size) (o := 6) (.int .i64 nk) ⟨hrd3.le (Q := P + 16) (by omega), GL.out⟩ (Nat.le_of_lt hs1) hgw) (Nat.le_of_lt hs1) hgw) (Nat.le_of_lt hs1) hgw) (Nat.le_of_lt hs1) hgw) (Nat.le_refl _) hgw
        obtain ⟨⟨c0, c1, c2, c3, c4, c5, c6, c7, c8, c9⟩, f0, f1, f2, f3, f4, f5, f6, f7, f8, f9⟩ := ten_cells zc
        obtain ⟨⟨d0, d1, d2, d3, d4, d5, d6, d7, d8, d9⟩, e0, e1, e2, e3, e4, e5, e6, e7, e8, e9⟩ := ten_cells zr
        have hnb : w.heap.size ≠ w1.heap.size := by omega
        have hnb2 : w1.heap.size ≠ w.heap.size := by omega
        clear zc zr
        go_wp2
        exact bodyPost_ret (v := .agg #[.int .i64 tk, .bool tn, .int .i64 lk, .int .i64 la, .int .i64 lb, .int .i64 ln, .int .i64 nk, .int .i64 na, .int .i64 nb, .int .i64 nn]) (by simp [results, Tryz.results20, go_sem, d0, d1, d2, d3, d4, d5, d6, d7, d8, d9]) rfl ⟨⟨tk, tn, ⟨lk, la, lb, ln⟩, ⟨nk, na, nb, nn⟩⟩, rfl, ⟨HLOW.out.1, HLOW.out.2.1, HLN.out⟩, F.1, F.2⟩
      · have hp2 : (s == 2) = false := by simpa using hq2
        have F := fin10 (b := w.heap.size) (.int .i64 tk) (.bool tn) (.int .i64 lk) (.int .i64 la) (.int .i64 lb) (.int .i64 ln) (.int .i64 rk) (.int .i64 ra) (.int .i64 rb) (.int .i64 rn) ⟨hrd2.le (Q := P + 16) (by omega), G2.out⟩ (Nat.le_refl _) hgw
        obtain ⟨⟨c0, c1, c2, c3, c4, c5, c6, c7, c8, c9⟩, f0, f1, f2, f3, f4, f5, f6, f7, f8, f9⟩ := ten_cells zc
        obtain ⟨⟨d0, d1, d2, d3, d4, d5, d6, d7, d8, d9⟩, e0, e1, e2, e3, e4, e5, e6, e7, e8, e9⟩ := ten_cells zr
        have hnb : w.heap.size ≠ w1.heap.size := by omega
        have hnb2 : w1.heap.size ≠ w.heap.size := by omega
        clear zc zr
        go_wp2
        exact bodyPost_ret (v := .agg #[.int .i64 tk, .bool tn, .int .i64 lk, .int .i64 la, .int .i64 lb, .int .i64 ln, .int .i64 rk, .int .i64 ra, .int .i64 rb, .int .i64 rn]) (by simp [results, Tryz.results20, go_sem, d0, d1, d2, d3, d4, d5, d6, d7, d8, d9]) rfl ⟨⟨tk, tn, ⟨lk, la, lb, ln⟩, ⟨rk, ra, rb, rn⟩⟩, rfl, HLOW.out, F.1, F.2⟩

end Go.Proofs.YtehfpceghdaajaaGreatDoor
