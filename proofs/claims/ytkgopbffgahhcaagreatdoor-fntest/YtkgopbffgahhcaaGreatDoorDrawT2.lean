/-
  What is drawn for the laws of chapter 3: DrawCellOk, DrawCellOf, DrawTestOk, DrawTestOf.
-/
import Derived.Test.YtkgopbffgahhcaaGreatDoorDrawT
import Derived.Deep.RegionWith
namespace Go.Proofs.YtkgopbffgahhcaaGreatDoor
open Go.RowKit
set_option linter.unusedVariables false

theorem sets4 (wk : World) (b : Nat) (v0 v1 v2 v3 : Value) : wk.grownBy ((((wk.setCell ⟨b, 0, none⟩ v0).setCell ⟨b, 1, none⟩ v1).setCell ⟨b, 2, none⟩ v2).setCell ⟨b, 3, none⟩ v3) (some b) := grown_trans (grown_trans (grown_trans (grown_trans (grown_refl _ _) (grown_set _ b 0 v0)) (grown_set _ b 1 v1)) (grown_set _ b 2 v2)) (grown_set _ b 3 v3)
theorem sets10 (wk : World) (b : Nat) (v0 v1 v2 v3 v4 v5 v6 v7 v8 v9 : Value) : wk.grownBy ((((((((((wk.setCell ⟨b, 0, none⟩ v0).setCell ⟨b, 1, none⟩ v1).setCell ⟨b, 2, none⟩ v2).setCell ⟨b, 3, none⟩ v3).setCell ⟨b, 4, none⟩ v4).setCell ⟨b, 5, none⟩ v5).setCell ⟨b, 6, none⟩ v6).setCell ⟨b, 7, none⟩ v7).setCell ⟨b, 8, none⟩ v8).setCell ⟨b, 9, none⟩ v9) (some b) := grown_trans (grown_trans (grown_trans (grown_trans (grown_trans (grown_trans (grown_trans (grown_trans (grown_trans (grown_trans (grown_refl _ _) (grown_set _ b 0 v0)) (grown_set _ b 1 v1)) (grown_set _ b 2 v2)) (grown_set _ b 3 v3)) (grown_set _ b 4 v4)) (grown_set _ b 5 v5)) (grown_set _ b 6 v6)) (grown_set _ b 7 v7)) (grown_set _ b 8 v8)) (grown_set _ b 9 v9)
theorem below_grow {w a b : World} {row : Option Nat} (h : Below w.heap.size w a) (hg : a.grownBy b row) (hr : ∀ k, row = some k → w.heap.size ≤ k) : Below w.heap.size w b := h.grown hg h.size hr

theorem l1Max_any (x y : Int) (w : World) : Calls Tryz.prog 78 #[.int .i64 x, .int .i64 y] w fun e w' => ∃ z : Int, e = .returned (.int .i64 z) ∧ (z = x ∨ z = y) ∧ x ≤ z ∧ y ≤ z ∧ w' = w := by
  by_cases h : y < x
  · go_enter Tryz.func78, Tryz.ntmps78
    go_wp2
    go_ret
    exact ⟨_, rfl, by omega, by omega, by omega, rfl⟩
  · go_enter Tryz.func78, Tryz.ntmps78
    go_wp2
    go_ret
    exact ⟨_, rfl, by omega, by omega, by omega, rfl⟩

set_option maxRecDepth 100000 in
set_option maxHeartbeats 2000000 in
theorem drawTestOf_any (a : Option Addr) (len cap : Nat) (zs : List Int) (w : World) (h : IsRow .u8 w a len cap zs) :
    Calls Tryz.prog 39 #[.slice a len cap] w fun e w' =>
      ∃ (t : Tst) (v : Value), e = .returned (.tuple #[.agg #[.int .i64 t.k, .bool t.no, .int .i64 t.l.k, .int .i64 t.l.a, .int .i64 t.l.b, .int .i64 t.l.n, .int .i64 t.r.k, .int .i64 t.r.a, .int .i64 t.r.b, .int .i64 t.r.n], v]) ∧ t.Low ∧ ∃ xs : List Int, xs.length ≤ 7 ∧ Small xs ∧ IntsAt w' v xs ∧ Below w.heap.size w w' := by
  go_enter Tryz.func39, Tryz.ntmps39
  go_wp2_with fail
  refine (l12Open_any a len cap zs _ (h.below (bel_alloc _))).mono ?_
  rintro e w1 ⟨rfl, hrd1, hb1⟩
  have z1 := at_below (alloc_at w _) hb1
  have B1 : Hid (Below w.heap.size w w1) := bel_then (bel_alloc _) hb1
  have hs1 := hb1.size
  clear hb1 h
  rw [alloc_size] at hrd1 hs1
  simp only [alloc_size]
  obtain ⟨g, hg⟩ : ∃ g, g = w.heap.size + 1 := ⟨_, rfl⟩
  rw [← hg] at hrd1 hs1 ⊢
  have hgw : w.heap.size < g := by omega
  have HG : Hid (g = w.heap.size + 1) := hg
  clear hg
  go_wp2_with fail
  refine (l1Bent_any g _ _ (by omega) hrd1).mono ?_
  rintro e w2 ⟨v, rfl, xs, hxl, hsm, ho2, hrd2, hg2⟩
  have HSM : Hid (Small xs) := hsm
  obtain ⟨_, sa, sc, hv, _⟩ := ho2.ints
  subst hv
  have z2 := kept_at hg2 z1 (by omega)
  have hgl : g < w1.heap.size := hrd1.lt
  have HO2 : Hid (Own w2 w1.heap.size w2.heap.size (.slice sa xs.length sc) xs) := ho2
  have B2 : Hid (Below w.heap.size w w2) := below_grow B1.out hg2 (fun k hk => by simp at hk; omega)
  clear hsm ho2 hg2 hrd1 z1
  go_wp2_with fail
  refine (l1Max_any _ _ _).mono ?_
  rintro e w3 ⟨z, rfl, hz, hz1, hz2, rfl⟩
  have hzb : z ≤ 1000 := by omega
  clear hz
  go_wp2_with fail
  refine (l3TestBent_any g _ z _ hz1 hzb (by omega) hrd2).mono ?_
  rintro e w4 ⟨t0, rfl, hlow, hrd4, hg4⟩
  obtain ⟨tk, tn, ⟨lk, la, lb, ln⟩, ⟨rk, ra, rb, rn⟩⟩ := t0
  have HLOW : Hid (Tst.Low ⟨tk, tn, ⟨lk, la, lb, ln⟩, ⟨rk, ra, rb, rn⟩⟩) := hlow
  simp only
  have z4 := kept_at hg4 z2 (by omega)
  have HO4 := HO2.out.kept hg4 (fun k hk => .inl (by simp at hk; omega))
  have B4 : Hid (Below w.heap.size w w4) := below_grow B2.out hg4 (fun k hk => by simp at hk; omega)
  clear hrd2 hrd4 hg4 z2 hlow
  have S := sets10 w4 w.heap.size (.int .i64 tk) (.bool tn) (.int .i64 lk) (.int .i64 la) (.int .i64 lb) (.int .i64 ln) (.int .i64 rk) (.int .i64 ra) (.int .i64 rb) (.int .i64 rn)
  have I5 := (HO4.kept S (fun k hk => .inl (by simp at hk; omega))).ints
  have B5 := below_grow B4.out S (fun k hk => by simp at hk; omega)
  clear S HO4
  obtain ⟨⟨c0, c1, c2, c3, c4, c5, c6, c7, c8, c9⟩, f0, f1, f2, f3, f4, f5, f6, f7, f8, f9⟩ := ten_cells z4
  clear z4
  go_wp2
  exact bodyPost_ret (v := .tuple #[.agg #[.int .i64 tk, .bool tn, .int .i64 lk, .int .i64 la, .int .i64 lb, .int .i64 ln, .int .i64 rk, .int .i64 ra, .int .i64 rb, .int .i64 rn], .slice sa xs.length sc]) (by simp [results, Tryz.results39, go_sem, c0, c1, c2, c3, c4, c5, c6, c7, c8, c9]) rfl ⟨⟨tk, tn, ⟨lk, la, lb, ln⟩, ⟨rk, ra, rb, rn⟩⟩, _, rfl, HLOW.out, xs, hxl, HSM.out, I5, B5⟩

set_option maxRecDepth 100000 in
set_option maxHeartbeats 2000000 in
theorem drawCellOf_any (a : Option Addr) (len cap : Nat) (zs : List Int) (w : World) (h : IsRow .u8 w a len cap zs) :
    Calls Tryz.prog 28 #[.slice a len cap] w fun e w' =>
      ∃ (c : Cel) (v : Value), e = .returned (.tuple #[.agg #[.int .i64 c.k, .int .i64 c.a, .int .i64 c.b, .int .i64 c.n], v]) ∧ c.Low ∧ ∃ xs : List Int, xs.length ≤ 7 ∧ Small xs ∧ IntsAt w' v xs ∧ Below w.heap.size w w' := by
  go_enter Tryz.func28, Tryz.ntmps28
  go_wp2_with fail
  refine (l12Open_any a len cap zs _ (h.below (bel_alloc _))).mono ?_
  rintro e w1 ⟨rfl, hrd1, hb1⟩
  have z1 := at_below (alloc_at w _) hb1
  have B1 : Hid (Below w.heap.size w w1) := bel_then (bel_alloc _) hb1
  have hs1 := hb1.size
  clear hb1 h
  rw [alloc_size] at hrd1 hs1
  simp only [alloc_size]
  obtain ⟨g, hg⟩ : ∃ g, g = w.heap.size + 1 := ⟨_, rfl⟩
  rw [← hg] at hrd1 hs1 ⊢
  have hgw : w.heap.size < g := by omega
  have HG : Hid (g = w.heap.size + 1) := hg
  clear hg
  go_wp2_with fail
  refine (l1Bent_any g _ _ (by omega) hrd1).mono ?_
  rintro e w2 ⟨v, rfl, xs, hxl, hsm, ho2, hrd2, hg2⟩
  have HSM : Hid (Small xs) := hsm
  obtain ⟨_, sa, sc, hv, _⟩ := ho2.ints
  subst hv
  have z2 := kept_at hg2 z1 (by omega)
  have hgl : g < w1.heap.size := hrd1.lt
  have HO2 : Hid (Own w2 w1.heap.size w2.heap.size (.slice sa xs.length sc) xs) := ho2
  have B2 : Hid (Below w.heap.size w w2) := below_grow B1.out hg2 (fun k hk => by simp at hk; omega)
  clear hsm ho2 hg2 hrd1 z1
  go_wp2_with fail
  refine (l1Max_any _ _ _).mono ?_
  rintro e w3 ⟨z, rfl, hz, hz1, hz2, rfl⟩
  have hzb : z ≤ 1000 := by omega
  clear hz
  go_wp2_with fail
  refine (l3CellBent_any g _ z _ hz1 hzb (by omega) hrd2).mono ?_
  rintro e w4 ⟨t0, rfl, hlow, hrd4, hg4⟩
  obtain ⟨ck, ca, cb, cn⟩ := t0
  have HLOW : Hid (Cel.Low ⟨ck, ca, cb, cn⟩) := hlow
  simp only
  have z4 := kept_at hg4 z2 (by omega)
  have HO4 := HO2.out.kept hg4 (fun k hk => .inl (by simp at hk; omega))
  have B4 : Hid (Below w.heap.size w w4) := below_grow B2.out hg4 (fun k hk => by simp at hk; omega)
  clear hrd2 hrd4 hg4 z2 hlow
  have S := sets4 w4 w.heap.size (.int .i64 ck) (.int .i64 ca) (.int .i64 cb) (.int .i64 cn)
  have I5 := (HO4.kept S (fun k hk => .inl (by simp at hk; omega))).ints
  have B5 := below_grow B4.out S (fun k hk => by simp at hk; omega)
  clear S HO4
  obtain ⟨c0, c1, c2, c3, f0, f1, f2, f3⟩ := zero_cells z4
  clear z4
  go_wp2
  exact bodyPost_ret (v := .tuple #[.agg #[.int .i64 ck, .int .i64 ca, .int .i64 cb, .int .i64 cn], .slice sa xs.length sc]) (by simp [results, Tryz.results28, go_sem, c0, c1, c2, c3]) rfl ⟨⟨ck, ca, cb, cn⟩, _, rfl, HLOW.out, xs, hxl, HSM.out, I5, B5⟩

set_option maxRecDepth 100000 in
set_option maxHeartbeats 2000000 in
theorem drawCellOk_any (a : Option Addr) (len cap : Nat) (zs : List Int) (w : World) (h : IsRow .u8 w a len cap zs) :
    Calls Tryz.prog 20 #[.slice a len cap] w fun e w' =>
      ∃ (c : Cel) (n : Int), e = .returned (.tuple #[.agg #[.int .i64 c.k, .int .i64 c.a, .int .i64 c.b, .int .i64 c.n], .int .i64 n]) ∧ c.Low ∧ -1 ≤ n ∧ n ≤ 7 ∧ Below w.heap.size w w' := by
  go_enter Tryz.func20, Tryz.ntmps20
  go_wp2_with fail
  refine (l12Open_any a len cap zs _ (h.below (bel_alloc _))).mono ?_
  rintro e w1 ⟨rfl, hrd1, hb1⟩
  have z1 := at_below (alloc_at w _) hb1
  have B1 : Hid (Below w.heap.size w w1) := bel_then (bel_alloc _) hb1
  have hs1 := hb1.size
  clear hb1 h
  rw [alloc_size] at hrd1 hs1
  simp only [alloc_size]
  obtain ⟨g, hg⟩ : ∃ g, g = w.heap.size + 1 := ⟨_, rfl⟩
  rw [← hg] at hrd1 hs1 ⊢
  have hgw : w.heap.size < g := by omega
  have HG : Hid (g = w.heap.size + 1) := hg
  clear hg
  go_wp2_with fail
  refine (l3CellBent_any g _ 3 _ (by omega) (by omega) (by omega) hrd1).mono ?_
  rintro e w2 ⟨t0, rfl, hlow, hrd2, hg2⟩
  obtain ⟨ck, ca, cb, cn⟩ := t0
  have HLOW : Hid (Cel.Low ⟨ck, ca, cb, cn⟩) := hlow
  have z2 := kept_at hg2 z1 (by omega)
  have hgl : g < w1.heap.size := hrd1.lt
  have hs2 := hg2.size
  have B2 : Hid (Below w.heap.size w w2) := below_grow B1.out hg2 (fun k hk => by simp at hk; omega)
  simp only
  clear hlow hg2 hrd1 z1
  obtain ⟨X, HXE⟩ : ∃ X, Hid (X = ((w2.alloc (.cells #[.int .i64 ck, .int .i64 ca, .int .i64 cb, .int .i64 cn] 40)).alloc (.cells #[.int .i64 3, .int .i64 1, .int .i64 2, .int .i64 6, .int .i64 0, .int .i64 7, .int .i64 (-1)] 3)).drew) := ⟨_, Eq.refl _⟩
  have BX : Below w2.heap.size w2 X := by rw [HXE.out]; exact (bel_then (bel_alloc _) (bel_alloc _)).drew
  have hrX : Rd X g _ := hrd2.below BX
  have hoX : Own X (w2.heap.size + 1) (w2.heap.size + 1 + 1) (.slice (some ⟨w2.heap.size + 1, 0, none⟩) 7 7) [3, 1, 2, 6, 0, 7, -1] := by
    have := own_lit (w2.alloc (.cells #[.int .i64 ck, .int .i64 ca, .int .i64 cb, .int .i64 cn] 40)) [3, 1, 2, 6, 0, 7, -1] (by simp)
    rw [alloc_size] at this
    rw [HXE.out]
    exact this.keep' ((Below.refl _ _).drew)
  have zrX := at_below z2 BX
  have zcX : X.heap[w2.heap.size]? = some (.cells #[.int .i64 ck, .int .i64 ca, .int .i64 cb, .int .i64 cn] 40) := by
    rw [HXE.out]
    exact at_below (alloc_at w2 _) ((bel_alloc _).drew)
  have BWX : Hid (Below w.heap.size w X) := bel_then B2.out BX
  have hnb : w.heap.size ≠ w2.heap.size := by omega
  have hnb2 : w2.heap.size ≠ w.heap.size := by omega
  have hgX : g < w2.heap.size := by omega
  clear z2 hrd2 BX
  rw [HXE.out] at hrX hoX zrX zcX BWX
  clear HXE X
  go_wp2_with fail
  go_region_with (go_at_call 68; refine (num_any g _ _ _ _ _ _ (by omega) hrX hoX (by omega) (by simp) (by simp)).mono ?_; rintro e w3 ⟨z, hz, rfl, hrd3, hg3⟩; have hz2 : -1 ≤ z ∧ z ≤ 7 := (by simp at hz; omega); have zc := kept_at hg3 zcX (by omega); have zr := kept_at hg3 zrX (by omega); have B3 : Hid (Below w.heap.size w w3) := below_grow BWX.out hg3 (fun k hk => (by simp at hk; omega)); have S := sets4 w3 w.heap.size (.int .i64 ck) (.int .i64 ca) (.int .i64 cb) (.int .i64 cn); have B5 := below_grow B3.out S (fun k hk => (by simp at hk; omega)); obtain ⟨c0, c1, c2, c3, f0, f1, f2, f3⟩ := zero_cells zc; obtain ⟨d0, d1, d2, d3, e0, e1, e2, e3⟩ := zero_cells zr; clear hz zc zr hg3 hrd3 S)
  all_goals (try go_wp2)
  all_goals (exact bodyPost_ret (v := .tuple #[.agg #[.int .i64 ck, .int .i64 ca, .int .i64 cb, .int .i64 cn], .int .i64 z]) (by simp [results, Tryz.results20, go_sem, d0, d1, d2, d3]) rfl ⟨⟨ck, ca, cb, cn⟩, z, rfl, HLOW.out, hz2.1, hz2.2, B5⟩)

set_option maxRecDepth 100000 in
set_option maxHeartbeats 2000000 in
theorem drawTestOk_any (a : Option Addr) (len cap : Nat) (zs : List Int) (w : World) (h : IsRow .u8 w a len cap zs) :
    Calls Tryz.prog 31 #[.slice a len cap] w fun e w' =>
      ∃ (t : Tst) (n : Int), e = .returned (.tuple #[.agg #[.int .i64 t.k, .bool t.no, .int .i64 t.l.k, .int .i64 t.l.a, .int .i64 t.l.b, .int .i64 t.l.n, .int .i64 t.r.k, .int .i64 t.r.a, .int .i64 t.r.b, .int .i64 t.r.n], .int .i64 n]) ∧ t.Low ∧ -1 ≤ n ∧ n ≤ 7 ∧ Below w.heap.size w w' := by
  go_enter Tryz.func31, Tryz.ntmps31
  go_wp2_with fail
  refine (l12Open_any a len cap zs _ (h.below (bel_alloc _))).mono ?_
  rintro e w1 ⟨rfl, hrd1, hb1⟩
  have z1 := at_below (alloc_at w _) hb1
  have B1 : Hid (Below w.heap.size w w1) := bel_then (bel_alloc _) hb1
  have hs1 := hb1.size
  clear hb1 h
  rw [alloc_size] at hrd1 hs1
  simp only [alloc_size]
  obtain ⟨g, hg⟩ : ∃ g, g = w.heap.size + 1 := ⟨_, rfl⟩
  rw [← hg] at hrd1 hs1 ⊢
  have hgw : w.heap.size < g := by omega
  have HG : Hid (g = w.heap.size + 1) := hg
  clear hg
  go_wp2_with fail
  refine (l3TestBent_any g _ 3 _ (by omega) (by omega) (by omega) hrd1).mono ?_
  rintro e w2 ⟨t0, rfl, hlow, hrd2, hg2⟩
  obtain ⟨tk, tn, ⟨lk, la, lb, ln⟩, ⟨rk, ra, rb, rn⟩⟩ := t0
  have HLOW : Hid (Tst.Low ⟨tk, tn, ⟨lk, la, lb, ln⟩, ⟨rk, ra, rb, rn⟩⟩) := hlow
  have z2 := kept_at hg2 z1 (by omega)
  have hgl : g < w1.heap.size := hrd1.lt
  have hs2 := hg2.size
  have B2 : Hid (Below w.heap.size w w2) := below_grow B1.out hg2 (fun k hk => by simp at hk; omega)
  simp only
  clear hlow hg2 hrd1 z1
  obtain ⟨X, HXE⟩ : ∃ X, Hid (X = ((w2.alloc (.cells #[.int .i64 tk, .bool tn, .int .i64 lk, .int .i64 la, .int .i64 lb, .int .i64 ln, .int .i64 rk, .int .i64 ra, .int .i64 rb, .int .i64 rn] 52)).alloc (.cells #[.int .i64 3, .int .i64 1, .int .i64 2, .int .i64 6, .int .i64 0] 3)).drew) := ⟨_, Eq.refl _⟩
  have BX : Below w2.heap.size w2 X := by rw [HXE.out]; exact (bel_then (bel_alloc _) (bel_alloc _)).drew
  have hrX : Rd X g _ := hrd2.below BX
  have hoX : Own X (w2.heap.size + 1) (w2.heap.size + 1 + 1) (.slice (some ⟨w2.heap.size + 1, 0, none⟩) 5 5) [3, 1, 2, 6, 0] := by
    have := own_lit (w2.alloc (.cells #[.int .i64 tk, .bool tn, .int .i64 lk, .int .i64 la, .int .i64 lb, .int .i64 ln, .int .i64 rk, .int .i64 ra, .int .i64 rb, .int .i64 rn] 52)) [3, 1, 2, 6, 0] (by simp)
    rw [alloc_size] at this
    rw [HXE.out]
    exact this.keep' ((Below.refl _ _).drew)
  have zrX := at_below z2 BX
  have zcX : X.heap[w2.heap.size]? = some (.cells #[.int .i64 tk, .bool tn, .int .i64 lk, .int .i64 la, .int .i64 lb, .int .i64 ln, .int .i64 rk, .int .i64 ra, .int .i64 rb, .int .i64 rn] 52) := by
    rw [HXE.out]
    exact at_below (alloc_at w2 _) ((bel_alloc _).drew)
  have BWX : Hid (Below w.heap.size w X) := bel_then B2.out BX
  have hnb : w.heap.size ≠ w2.heap.size := by omega
  have hnb2 : w2.heap.size ≠ w.heap.size := by omega
  have hgX : g < w2.heap.size := by omega
  clear z2 hrd2 BX
  rw [HXE.out] at hrX hoX zrX zcX BWX
  clear HXE X
  go_wp2_with fail
  go_region_with (go_at_call 68; refine (num_any g _ _ _ _ _ _ (by omega) hrX hoX (by omega) (by simp) (by simp)).mono ?_; rintro e w3 ⟨z, hz, rfl, hrd3, hg3⟩; have hz2 : -1 ≤ z ∧ z ≤ 7 := (by simp at hz; omega); have zc := kept_at hg3 zcX (by omega); have zr := kept_at hg3 zrX (by omega); have B3 : Hid (Below w.heap.size w w3) := below_grow BWX.out hg3 (fun k hk => (by simp at hk; omega)); have S := sets10 w3 w.heap.size (.int .i64 tk) (.bool tn) (.int .i64 lk) (.int .i64 la) (.int .i64 lb) (.int .i64 ln) (.int .i64 rk) (.int .i64 ra) (.int .i64 rb) (.int .i64 rn); have B5 := below_grow B3.out S (fun k hk => (by simp at hk; omega)); obtain ⟨⟨c0, c1, c2, c3, c4, c5, c6, c7, c8, c9⟩, f0, f1, f2, f3, f4, f5, f6, f7, f8, f9⟩ := ten_cells zc; obtain ⟨⟨d0, d1, d2, d3, d4, d5, d6, d7, d8, d9⟩, e0, e1, e2, e3, e4, e5, e6, e7, e8, e9⟩ := ten_cells zr; clear hz zc zr hg3 hrd3 S)
  all_goals (try go_wp2)
  all_goals (exact bodyPost_ret (v := .tuple #[.agg #[.int .i64 tk, .bool tn, .int .i64 lk, .int .i64 la, .int .i64 lb, .int .i64 ln, .int .i64 rk, .int .i64 ra, .int .i64 rb, .int .i64 rn], .int .i64 z]) (by simp [results, Tryz.results31, go_sem, d0, d1, d2, d3, d4, d5, d6, d7, d8, d9]) rfl ⟨⟨tk, tn, ⟨lk, la, lb, ln⟩, ⟨rk, ra, rb, rn⟩⟩, z, rfl, HLOW.out, hz2.1, hz2.2, B5⟩)

end Go.Proofs.YtkgopbffgahhcaaGreatDoor
