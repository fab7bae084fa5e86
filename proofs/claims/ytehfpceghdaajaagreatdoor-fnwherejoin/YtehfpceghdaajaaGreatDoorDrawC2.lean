/-
  spec.l3CellBent: a drawn cell, one in ten bent.
-/
import Derived.Test.YtehfpceghdaajaaGreatDoorDrawC
namespace Go.Proofs.YtehfpceghdaajaaGreatDoor
open Go.RowKit
set_option linter.unusedVariables false

/-- Four stores into one block of the call's own. -/
theorem fin4 {w wk : World} {g b P : Nat} (v0 v1 v2 v3 : Value) (h : Rd wk g P ∧ w.grownBy wk (some g)) (hb : w.heap.size ≤ b) (hg : g < w.heap.size) :
    Rd ((((wk.setCell ⟨b, 0, none⟩ v0).setCell ⟨b, 1, none⟩ v1).setCell ⟨b, 2, none⟩ v2).setCell ⟨b, 3, none⟩ v3) g P ∧ w.grownBy ((((wk.setCell ⟨b, 0, none⟩ v0).setCell ⟨b, 1, none⟩ v1).setCell ⟨b, 2, none⟩ v2).setCell ⟨b, 3, none⟩ v3) (some g) :=
  fin_set v3 (fin_set v2 (fin_set v1 (fin_set v0 h hb hg) hb hg) hb hg) hb hg

set_option maxRecDepth 100000 in
set_option maxHeartbeats 1000000 in
theorem l3CellBent_any (g P : Nat) (wide : Int) (w : World) (h1 : 1 ≤ wide) (h2 : wide ≤ 1000) (hP : P ≤ 1099511625000) (h : Rd w g P) :
    Calls Tryz.prog 19 #[.pointer (some ⟨g, 0, none⟩), .int .i64 wide] w fun e w' =>
      ∃ c : Cel, e = .returned (.agg #[.int .i64 c.k, .int .i64 c.a, .int .i64 c.b, .int .i64 c.n]) ∧ c.Low ∧ Rd w' g (P + 5) ∧ w.grownBy w' (some g) := by
  have hgw := h.lt
  go_enter Tryz.func19, Tryz.ntmps19
  go_wp2_with fail
  refine (l3Cell_any g P wide _ h1 h2 (by omega) (h.below (bel_alloc _))).mono ?_
  rintro e w1 ⟨⟨k, a, b, n⟩, rfl, hlow, hrd1, hg1⟩
  have HLOW : Hid (Cel.Low ⟨k, a, b, n⟩) := hlow
  have z1 := kept_at hg1 (alloc_at w _) (by omega)
  have G1 : Hid (w.grownBy w1 (some g)) := grown_trans (World.grownBy_alloc w _ _) hg1
  have hs1 : w.heap.size < w1.heap.size := (Array.getElem?_eq_some_iff.1 z1).1
  clear hg1 h hlow
  simp only
  go_wp2_with fail
  refine (pick_any g _ 40 _ (by omega) (by omega) (by omega) (hrd1.below (bel_alloc _))).mono ?_
  rintro e w2 ⟨s, hs0, hs40, rfl, hrd2, hg2⟩
  have zc := kept_at hg2 (alloc_at w1 _) (by omega)
  have zr := kept_at (grown_trans (World.grownBy_alloc w1 _ _) hg2) z1 (by omega)
  have G2 : Hid (w.grownBy w2 (some g)) := grown_trans G1.out (grown_trans (World.grownBy_alloc w1 _ _) hg2)
  have hs2 : w1.heap.size < w2.heap.size := (Array.getElem?_eq_some_iff.1 zc).1
  clear hg2 z1 hrd1
  by_cases hq0 : s = 0
  · subst hq0
    have hlit := own_lit w2 [0, 4, 1, 2] (by simp)
    have hr4 : Rd (w2.alloc (.cells #[.int .i64 0, .int .i64 4, .int .i64 1, .int .i64 2] 3)) g _ := hrd2.below (bel_alloc _)
    go_wp2_with fail
    refine (num_any g _ _ _ _ _ _ (by omega) hr4 hlit (by omega) (by simp) (by simp)).mono ?_
    rintro e w3 ⟨z, hz, rfl, hrd3, hg3⟩
    have hz2 : -2000000000 ≤ z ∧ z ≤ 2000000000 := by simp at hz; omega
    replace zc := kept_at (grown_trans (World.grownBy_alloc w2 _ _) hg3) zc (by omega)
    replace zr := kept_at (grown_trans (World.grownBy_alloc w2 _ _) hg3) zr (by omega)
    have GL : Hid (w.grownBy w3 (some g)) := grown_trans G2.out (grown_trans (World.grownBy_alloc w2 _ _) hg3)
    clear hz hlit hr4 hg3 hrd2
    have F := fin4 (b := w.heap.size) (.int .i64 z) (.int .i64 a) (.int .i64 b) (.int .i64 n) (fin_set (b := w1.heap.size) (o := 0) (.int .i64 z) ⟨hrd3.le (Q := P + 5) (by omega), GL.out⟩ (Nat.le_of_lt hs1) hgw) (Nat.le_refl _) hgw
    have hl := HLOW.out
    obtain ⟨c0, c1, c2, c3, f0, f1, f2, f3⟩ := zero_cells zc
    obtain ⟨d0, d1, d2, d3, e0, e1, e2, e3⟩ := zero_cells zr
    have hnb : w.heap.size ≠ w1.heap.size := by omega
    have hnb2 : w1.heap.size ≠ w.heap.size := by omega
    clear zc zr
    go_wp2
    refine bodyPost_ret (v := .agg #[.int .i64 z, .int .i64 a, .int .i64 b, .int .i64 n]) (by simp [results, Tryz.results19, go_sem, d0, d1, d2, d3]) rfl ⟨⟨z, a, b, n⟩, rfl, ?_, F.1, F.2⟩
    obtain ⟨q0, q1, q2, q3⟩ := hl
    simp only at q0 q1 q2 q3
    exact ⟨by simp only; omega, by simp only; omega, by simp only; omega, by simp only; omega⟩
  · have hp0 : (s == 0) = false := by simpa using hq0
    by_cases hq1 : s = 1
    · subst hq1
      have hlit := own_lit w2 [-1, wide, 6] (by simp)
      have hr4 : Rd (w2.alloc (.cells #[.int .i64 (-1), .int .i64 wide, .int .i64 6] 3)) g _ := hrd2.below (bel_alloc _)
      go_wp2_with fail
      refine (num_any g _ _ _ _ _ _ (by omega) hr4 hlit (by omega) (by simp) (by simp)).mono ?_
      rintro e w3 ⟨z, hz, rfl, hrd3, hg3⟩
      have hz2 : -2000000000 ≤ z ∧ z ≤ 2000000000 := by simp at hz; omega
      replace zc := kept_at (grown_trans (World.grownBy_alloc w2 _ _) hg3) zc (by omega)
      replace zr := kept_at (grown_trans (World.grownBy_alloc w2 _ _) hg3) zr (by omega)
      have GL : Hid (w.grownBy w3 (some g)) := grown_trans G2.out (grown_trans (World.grownBy_alloc w2 _ _) hg3)
      clear hz hlit hr4 hg3 hrd2
      have F := fin4 (b := w.heap.size) (.int .i64 k) (.int .i64 z) (.int .i64 b) (.int .i64 n) (fin_set (b := w1.heap.size) (o := 1) (.int .i64 z) ⟨hrd3.le (Q := P + 5) (by omega), GL.out⟩ (Nat.le_of_lt hs1) hgw) (Nat.le_refl _) hgw
      have hl := HLOW.out
      obtain ⟨c0, c1, c2, c3, f0, f1, f2, f3⟩ := zero_cells zc
      obtain ⟨d0, d1, d2, d3, e0, e1, e2, e3⟩ := zero_cells zr
      have hnb : w.heap.size ≠ w1.heap.size := by omega
      have hnb2 : w1.heap.size ≠ w.heap.size := by omega
      clear zc zr
      go_wp2
      refine bodyPost_ret (v := .agg #[.int .i64 k, .int .i64 z, .int .i64 b, .int .i64 n]) (by simp [results, Tryz.results19, go_sem, d0, d1, d2, d3]) rfl ⟨⟨k, z, b, n⟩, rfl, ?_, F.1, F.2⟩
      obtain ⟨q0, q1, q2, q3⟩ := hl
      simp only at q0 q1 q2 q3
      exact ⟨by simp only; omega, by simp only; omega, by simp only; omega, by simp only; omega⟩
    · have hp1 : (s == 1) = false := by simpa using hq1
      by_cases hq2 : s = 2
      · subst hq2
        have hlit := own_lit w2 [1000000001, 1, -1000000000] (by simp)
        have hr4 : Rd (w2.alloc (.cells #[.int .i64 1000000001, .int .i64 1, .int .i64 (-1000000000)] 3)) g _ := hrd2.below (bel_alloc _)
        go_wp2_with fail
        refine (num_any g _ _ _ _ _ _ (by omega) hr4 hlit (by omega) (by simp) (by simp)).mono ?_
        rintro e w3 ⟨z, hz, rfl, hrd3, hg3⟩
        have hz2 : -2000000000 ≤ z ∧ z ≤ 2000000000 := by simp at hz; omega
        replace zc := kept_at (grown_trans (World.grownBy_alloc w2 _ _) hg3) zc (by omega)
        replace zr := kept_at (grown_trans (World.grownBy_alloc w2 _ _) hg3) zr (by omega)
        have GL : Hid (w.grownBy w3 (some g)) := grown_trans G2.out (grown_trans (World.grownBy_alloc w2 _ _) hg3)
        clear hz hlit hr4 hg3 hrd2
        have F := fin4 (b := w.heap.size) (.int .i64 k) (.int .i64 a) (.int .i64 b) (.int .i64 z) (fin_set (b := w1.heap.size) (o := 3) (.int .i64 z) ⟨hrd3.le (Q := P + 5) (by omega), GL.out⟩ (Nat.le_of_lt hs1) hgw) (Nat.le_refl _) hgw
        have hl := HLOW.out
        obtain ⟨c0, c1, c2, c3, f0, f1, f2, f3⟩ := zero_cells zc
        obtain ⟨d0, d1, d2, d3, e0, e1, e2, e3⟩ := zero_cells zr
        have hnb : w.heap.size ≠ w1.heap.size := by omega
        have hnb2 : w1.heap.size ≠ w.heap.size := by omega
        clear zc zr
        go_wp2
        refine bodyPost_ret (v := .agg #[.int .i64 k, .int .i64 a, .int .i64 b, .int .i64 z]) (by simp [results, Tryz.results19, go_sem, d0, d1, d2, d3]) rfl ⟨⟨k, a, b, z⟩, rfl, ?_, F.1, F.2⟩
        obtain ⟨q0, q1, q2, q3⟩ := hl
        simp only at q0 q1 q2 q3
        exact ⟨by simp only; omega, by simp only; omega, by simp only; omega, by simp only; omega⟩
      · have hp2 : (s == 2) = false := by simpa using hq2
        by_cases hq3 : s = 3
        · subst hq3
          have hlit := own_lit w2 [1, -1, 6] (by simp)
          have hr4 : Rd (w2.alloc (.cells #[.int .i64 1, .int .i64 (-1), .int .i64 6] 3)) g _ := hrd2.below (bel_alloc _)
          go_wp2_with fail
          refine (num_any g _ _ _ _ _ _ (by omega) hr4 hlit (by omega) (by simp) (by simp)).mono ?_
          rintro e w3 ⟨z, hz, rfl, hrd3, hg3⟩
          have hz2 : -2000000000 ≤ z ∧ z ≤ 2000000000 := by simp at hz; omega
          replace zc := kept_at (grown_trans (World.grownBy_alloc w2 _ _) hg3) zc (by omega)
          replace zr := kept_at (grown_trans (World.grownBy_alloc w2 _ _) hg3) zr (by omega)
          have GL : Hid (w.grownBy w3 (some g)) := grown_trans G2.out (grown_trans (World.grownBy_alloc w2 _ _) hg3)
          clear hz hlit hr4 hg3 hrd2
          have F := fin4 (b := w.heap.size) (.int .i64 k) (.int .i64 a) (.int .i64 z) (.int .i64 n) (fin_set (b := w1.heap.size) (o := 2) (.int .i64 z) ⟨hrd3.le (Q := P + 5) (by omega), GL.out⟩ (Nat.le_of_lt hs1) hgw) (Nat.le_refl _) hgw
          have hl := HLOW.out
          obtain ⟨c0, c1, c2, c3, f0, f1, f2, f3⟩ := zero_cells zc
          obtain ⟨d0, d1, d2, d3, e0, e1, e2, e3⟩ := zero_cells zr
          have hnb : w.heap.size ≠ w1.heap.size := by omega
          have hnb2 : w1.heap.size ≠ w.heap.size := by omega
          clear zc zr
          go_wp2
          refine bodyPost_ret (v := .agg #[.int .i64 k, .int .i64 a, .int .i64 z, .int .i64 n]) (by simp [results, Tryz.results19, go_sem, d0, d1, d2, d3]) rfl ⟨⟨k, a, z, n⟩, rfl, ?_, F.1, F.2⟩
          obtain ⟨q0, q1, q2, q3⟩ := hl
          simp only at q0 q1 q2 q3
          exact ⟨by simp only; omega, by simp only; omega, by simp only; omega, by simp only; omega⟩
        · have hp3 : (s == 3) = false := by simpa using hq3
          have F := fin4 (b := w.heap.size) (.int .i64 k) (.int .i64 a) (.int .i64 b) (.int .i64 n) ⟨hrd2.le (Q := P + 5) (by omega), G2.out⟩ (Nat.le_refl _) hgw
          have hl := HLOW.out
          obtain ⟨c0, c1, c2, c3, f0, f1, f2, f3⟩ := zero_cells zc
          obtain ⟨d0, d1, d2, d3, e0, e1, e2, e3⟩ := zero_cells zr
          have hnb : w.heap.size ≠ w1.heap.size := by omega
          have hnb2 : w1.heap.size ≠ w.heap.size := by omega
          clear zc zr
          go_wp2
          refine bodyPost_ret (v := .agg #[.int .i64 k, .int .i64 a, .int .i64 b, .int .i64 n]) (by simp [results, Tryz.results19, go_sem, d0, d1, d2, d3]) rfl ⟨⟨k, a, b, n⟩, rfl, ?_, F.1, F.2⟩
          obtain ⟨q0, q1, q2, q3⟩ := hl
          simp only at q0 q1 q2 q3
          exact ⟨by simp only; omega, by simp only; omega, by simp only; omega, by simp only; omega⟩

end Go.Proofs.YtehfpceghdaajaaGreatDoor
