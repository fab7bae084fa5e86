/-
  What is drawn of cells and tests: spec.l3Cell, l3CellBent, l3Test, l3TestBent: whatever the bytes are, a cell, a test of numbers that are not great; only the reader's own block is written.
-/
import Derived.Test.YtehfpceghdaajaaGreatDoorDraw
import Derived.Test.YtehfpceghdaajaaGreatDoorCellBox
namespace Go.Proofs.YtehfpceghdaajaaGreatDoor
open Go.RowKit
set_option linter.unusedVariables false

/-- Numbers that are not great. -/
def Cel.Low (c : Cel) : Prop := (-2000000000 ≤ c.k ∧ c.k ≤ 2000000000) ∧ (-2000000000 ≤ c.a ∧ c.a ≤ 2000000000) ∧ (-2000000000 ≤ c.b ∧ c.b ≤ 2000000000) ∧ -2000000000 ≤ c.n ∧ c.n ≤ 2000000000

theorem kept_at {w w1 : World} {g b : Nat} {o : Obj} (hg : w.grownBy w1 (some g)) (h : w.heap[b]? = some o) (hne : b ≠ g) : w1.heap[b]? = some o :=
  (hg.block b (Array.getElem?_eq_some_iff.1 h).1 (by simpa using hne)).trans h
theorem grown_set (W : World) (b o : Nat) (v : Value) : W.grownBy (W.setCell ⟨b, o, none⟩ v) (some b) :=
  ⟨rfl, rfl, rfl, by simp, fun k _ hk => Below.heap_setCell _ _ _ _ (by simpa using hk)⟩
/-- The reader and the memory behind a store into a block of the call's own. -/
theorem fin_set {w wk : World} {g b P o : Nat} (v : Value) (h : Rd wk g P ∧ w.grownBy wk (some g)) (hb : w.heap.size ≤ b) (hg : g < w.heap.size) : Rd (wk.setCell ⟨b, o, none⟩ v) g P ∧ w.grownBy (wk.setCell ⟨b, o, none⟩ v) (some g) :=
  ⟨h.1.grown (grown_set wk b o v) (fun k hk => by simp at hk; omega), grown_via h.2 (grown_set wk b o v) (fun k hk => by simp at hk; omega)⟩

set_option maxRecDepth 100000 in
set_option maxHeartbeats 1000000 in
theorem l3Cell_any (g P : Nat) (wide : Int) (w : World) (h1 : 1 ≤ wide) (h2 : wide ≤ 1000) (hP : P ≤ 1099511626000) (h : Rd w g P) :
    Calls Tryz.prog 41 #[.pointer (some ⟨g, 0, none⟩), .int .i64 wide] w fun e w' =>
      ∃ c : Cel, e = .returned (.agg #[.int .i64 c.k, .int .i64 c.a, .int .i64 c.b, .int .i64 c.n]) ∧ c.Low ∧ Rd w' g (P + 3) ∧ w.grownBy w' (some g) := by
  have hgw := h.lt
  go_enter Tryz.func41, Tryz.ntmps41
  go_wp2_with fail
  refine (pick_any g P 5 _ (by omega) (by omega) (by omega) (h.below (bel_alloc _))).mono ?_
  rintro e w1 ⟨r, hr0, hr5, rfl, hrd1, hg1⟩
  have z1 := kept_at hg1 (alloc_at w _) (by omega)
  have G1 : Hid (w.grownBy w1 (some g)) := grown_trans (World.grownBy_alloc w _ _) hg1
  have hs1 : w.heap.size < w1.heap.size := (Array.getElem?_eq_some_iff.1 z1).1
  clear hg1 h
  by_cases hr : r = 0
  · subst hr
    have hlit := own_lit w1 [0, 1, 2, -1, 5] (by simp)
    have hr4 : Rd (w1.alloc (.cells #[.int .i64 0, .int .i64 1, .int .i64 2, .int .i64 (-1), .int .i64 5] 3)) g _ := hrd1.below (bel_alloc _)
    go_wp2_with fail
    refine (num_any g _ _ _ _ _ _ (by omega) hr4 hlit (by omega) (by simp) (by simp)).mono ?_
    rintro e w2 ⟨z, hz, rfl, hrd2, hg2⟩
    have hz2 : -1 ≤ z ∧ z ≤ 5 := by simp at hz; omega
    have zl := kept_at (grown_trans (World.grownBy_alloc w1 _ _) hg2) z1 (by omega)
    have GL : Hid (w.grownBy w2 (some g)) := grown_trans G1.out (grown_trans (World.grownBy_alloc w1 _ _) hg2)
    clear hz hlit hr4 hg2 z1 hrd1
    have F := fin_set (o := 3) (.int .i64 z) (fin_set (o := 2) (.int .i64 0) (fin_set (o := 1) (.int .i64 0) (fin_set (o := 0) (.int .i64 2) ⟨hrd2.le (Q := P + 3) (by omega), GL.out⟩ (Nat.le_refl _) hgw) (Nat.le_refl _) hgw) (Nat.le_refl _) hgw) (Nat.le_refl _) hgw
    obtain ⟨c0, c1, c2, c3, f0, f1, f2, f3⟩ := zero_cells zl
    go_wp2
    exact bodyPost_ret (v := .agg #[.int .i64 2, .int .i64 0, .int .i64 0, .int .i64 z]) (by simp [results, Tryz.results41, go_sem, c0, c1, c2, c3]) rfl ⟨⟨2, 0, 0, z⟩, rfl, ⟨by simp only; omega, by simp only; omega, by simp only; omega, by simp only; omega⟩, F.1, F.2⟩
  · have hf : (r == 0) = false := by simpa using hr
    by_cases hq : r = 1
    · subst hq
      go_wp2_with fail
      refine (pick_any g _ wide _ (by omega) (by omega) (by omega) hrd1).mono ?_
      rintro e w2 ⟨x, hx0, hx1, rfl, hrd2, hg2⟩
      have z2 := kept_at hg2 z1 (by omega)
      have G2 : Hid (w.grownBy w2 (some g)) := grown_trans G1.out hg2
      clear hg2 z1 hrd1
      go_wp2_with fail
      refine (pick_any g _ wide _ (by omega) (by omega) (by omega) hrd2).mono ?_
      rintro e w3 ⟨y, hy0, hy1, rfl, hrd3, hg3⟩
      have zl := kept_at hg3 z2 (by omega)
      have GL : Hid (w.grownBy w3 (some g)) := grown_trans G2.out hg3
      clear hg3 z2 hrd2
      have F := fin_set (o := 3) (.int .i64 0) (fin_set (o := 2) (.int .i64 y) (fin_set (o := 1) (.int .i64 x) (fin_set (o := 0) (.int .i64 3) ⟨hrd3.le (Q := P + 3) (by omega), GL.out⟩ (Nat.le_refl _) hgw) (Nat.le_refl _) hgw) (Nat.le_refl _) hgw) (Nat.le_refl _) hgw
      obtain ⟨c0, c1, c2, c3, f0, f1, f2, f3⟩ := zero_cells zl
      go_wp2
      exact bodyPost_ret (v := .agg #[.int .i64 3, .int .i64 x, .int .i64 y, .int .i64 0]) (by simp [results, Tryz.results41, go_sem, c0, c1, c2, c3]) rfl ⟨⟨3, x, y, 0⟩, rfl, ⟨by simp only; omega, by simp only; omega, by simp only; omega, by simp only; omega⟩, F.1, F.2⟩
    · have hf2 : (r == 1) = false := by simpa using hq
      go_wp2_with fail
      refine (pick_any g _ wide _ (by omega) (by omega) (by omega) hrd1).mono ?_
      rintro e w2 ⟨x, hx0, hx1, rfl, hrd2, hg2⟩
      have zl := kept_at hg2 z1 (by omega)
      have GL : Hid (w.grownBy w2 (some g)) := grown_trans G1.out hg2
      clear hg2 z1 hrd1
      have F := fin_set (o := 3) (.int .i64 0) (fin_set (o := 2) (.int .i64 0) (fin_set (o := 1) (.int .i64 x) (fin_set (o := 0) (.int .i64 1) ⟨hrd2.le (Q := P + 3) (by omega), GL.out⟩ (Nat.le_refl _) hgw) (Nat.le_refl _) hgw) (Nat.le_refl _) hgw) (Nat.le_refl _) hgw
      obtain ⟨c0, c1, c2, c3, f0, f1, f2, f3⟩ := zero_cells zl
      go_wp2
      exact bodyPost_ret (v := .agg #[.int .i64 1, .int .i64 x, .int .i64 0, .int .i64 0]) (by simp [results, Tryz.results41, go_sem, c0, c1, c2, c3]) rfl ⟨⟨1, x, 0, 0⟩, rfl, ⟨by simp only; omega, by simp only; omega, by simp only; omega, by simp only; omega⟩, F.1, F.2⟩

end Go.Proofs.YtehfpceghdaajaaGreatDoor
