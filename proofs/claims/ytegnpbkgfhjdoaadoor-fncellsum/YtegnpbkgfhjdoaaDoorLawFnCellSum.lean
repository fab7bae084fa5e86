/-
  The walk of laws.FnCellSum, out of the contracts: whatever the bytes are, it answers true, and nothing that was there is written. Condition: the error of chapter 3 reads as it was laid.
-/
import Derived.Test.YtegnpbkgfhjdoaaDoorTestImpl
import Derived.Test.YtegnpbkgfhjdoaaDoorDrawT2
import Derived.Test.YtegnpbkgfhjdoaaDoorLaidSent
namespace Go.Proofs.YtegnpbkgfhjdoaaDoor
open Go.RowKit
set_option linter.unusedVariables false

theorem swap_ok (a b n wide : Int) : Cel.okB ⟨3, b, a, n⟩ wide = Cel.okB ⟨3, a, b, n⟩ wide := by
  rw [Bool.eq_iff_iff, ok_iff, ok_iff]
  simp
  constructor <;> (intro h; omega)
theorem swap_num (a b n : Int) (xs : List Int) : Cel.num ⟨3, b, a, n⟩ xs = Cel.num ⟨3, a, b, n⟩ xs := by simp [Cel.num, Int.add_comm]
theorem swap_told (a b n : Int) (xs : List Int) : Cel.toldB ⟨3, b, a, n⟩ xs = Cel.toldB ⟨3, a, b, n⟩ xs := by unfold Cel.toldB; rw [swap_ok, swap_num]
theorem swap_val (a b n : Int) (xs : List Int) : Cel.valI ⟨3, b, a, n⟩ xs = Cel.valI ⟨3, a, b, n⟩ xs := by unfold Cel.valI; rw [swap_told, swap_num]

/-- Just one of three, where both sides are told. -/
theorem one_of (l r : Cel) (xs : List Int) :
    (l.toldB xs && r.toldB xs) = false ∧ Tst.toldB ⟨1, false, l, r⟩ xs = false ∧ Tst.toldB ⟨1, false, r, l⟩ xs = false ∧ Tst.toldB ⟨2, false, l, r⟩ xs = false ∧ Tst.valB ⟨1, false, l, r⟩ xs = false ∧ Tst.valB ⟨1, false, r, l⟩ xs = false ∧ Tst.valB ⟨2, false, l, r⟩ xs = false ∨
    (Tst.toldB ⟨1, false, l, r⟩ xs = true ∧ Tst.toldB ⟨1, false, r, l⟩ xs = true ∧ Tst.toldB ⟨2, false, l, r⟩ xs = true) ∧
      ((Tst.valB ⟨1, false, l, r⟩ xs = true ∧ Tst.valB ⟨1, false, r, l⟩ xs = false ∧ Tst.valB ⟨2, false, l, r⟩ xs = false) ∨
       (Tst.valB ⟨1, false, l, r⟩ xs = false ∧ Tst.valB ⟨1, false, r, l⟩ xs = true ∧ Tst.valB ⟨2, false, l, r⟩ xs = false) ∨
       (Tst.valB ⟨1, false, l, r⟩ xs = false ∧ Tst.valB ⟨1, false, r, l⟩ xs = false ∧ Tst.valB ⟨2, false, l, r⟩ xs = true)) := by
  cases hl : l.toldB xs
  · exact .inl (by simp [Tst.valB, Tst.toldB, hl])
  · cases hr : r.toldB xs
    · exact .inl (by simp [Tst.valB, Tst.toldB, hr])
    · refine .inr ⟨by simp [Tst.toldB, hl, hr], ?_⟩
      rcases Int.lt_trichotomy (l.num xs) (r.num xs) with h | h | h
      · exact .inl (by simp [Tst.valB, Tst.toldB, Tst.holdsB, hl, hr]; omega)
      · exact .inr (.inr (by simp [Tst.valB, Tst.toldB, Tst.holdsB, hl, hr]; omega))
      · exact .inr (.inl (by simp [Tst.valB, Tst.toldB, Tst.holdsB, hl, hr]; omega))

set_option maxRecDepth 100000 in
set_option maxHeartbeats 4000000 in
theorem lawFnCellSum (a : Option Addr) (len cap : Nat) (zs : List Int) (w : World) (h : IsRow .u8 w a len cap zs) (hs : HasSent w) :
    Calls Tryd.prog 3 #[.slice a len cap] w fun e w' => e = .returned (.bool true) ∧ Below w.heap.size w w' := by
  by_cases hlim : len ≤ 1048576
  · obtain ⟨p, hp⟩ := hs
    go_enter Tryd.func3, Tryd.ntmps3
    go_wp2_with fail
    refine (drawTestOf_any a len cap zs _ h).mono ?_
    rintro e w1 ⟨⟨tk, tn, ⟨lk, la, lb, ln⟩, ⟨rk, ra, rb, rn⟩⟩, v, rfl, hlow, xs, hxl, hsm, hx, hb1⟩
    clear hlow hsm
    simp only
    have B1 : Hid (Below w.heap.size w w1) := hb1
    have HX : Hid (IntsAt w1 v xs) := hx
    have HP : Hid (Sent w p) := hp
    obtain ⟨va, vn, vc, rfl⟩ : ∃ va vn vc, v = .slice va vn vc := by obtain ⟨_, va, vc, hv, _⟩ := hx; exact ⟨_, _, _, hv⟩
    clear hb1 hx hp h
    obtain ⟨x, HXV⟩ : ∃ x, Hid (x = Cel.valI ⟨lk, la, lb, ln⟩ xs) := ⟨_, Eq.refl _⟩
    obtain ⟨d, HXD⟩ : ∃ d, Hid (d = Cel.toldB ⟨lk, la, lb, ln⟩ xs) := ⟨_, Eq.refl _⟩
    have hxx : (x != x) = false := by simp
    have hdd : (d != d) = false := by simp
    go_wp2_with fail
    refine (implCellOf_any ⟨lk, la, lb, ln⟩ _ xs _ p (HP.out.below (bel_then B1.out (bel_alloc _))) (HX.out.below (bel_alloc _))).mono ?_
    rw [← HXV.out, ← HXD.out]
    rintro e w2 ⟨rfl, hb2⟩
    have X2 := (Box10.start w1 ⟨tk, tn, ⟨lk, la, lb, ln⟩, ⟨rk, ra, rb, rn⟩⟩ _).below hb2
    have XX2 : Hid (Box10 w2 w1.heap.size ⟨tk, tn, ⟨lk, la, lb, ln⟩, ⟨rk, ra, rb, rn⟩⟩) := X2
    have B2 : Hid (Below w1.heap.size w1 w2) := bel_then (bel_alloc _) hb2
    clear hb2
    obtain ⟨_, c0, c1, ⟨c2, c3, c4, c5⟩, c6, c7, c8, c9⟩ := X2
    simp only at c0 c1 c2 c3 c4 c5 c6 c7 c8 c9
    go_wp2_with fail
    refine (specCellOf_any ⟨lk, la, lb, ln⟩ _ xs _ (HX.out.below B2.out)).mono ?_
    rw [← HXV.out, ← HXD.out]
    rintro e w3 ⟨rfl, hb3⟩
    have X3 := XX2.out.below hb3
    have XX3 : Hid (Box10 w3 w1.heap.size ⟨tk, tn, ⟨lk, la, lb, ln⟩, ⟨rk, ra, rb, rn⟩⟩) := X3
    have B3 : Hid (Below w1.heap.size w1 w3) := bel_then B2.out hb3
    clear hb3 c0 c1 c2 c3 c4 c5 c6 c7 c8 c9
    obtain ⟨hlt3, c0, c1, ⟨c2, c3, c4, c5⟩, c6, c7, c8, c9⟩ := X3
    simp only at c0 c1 c2 c3 c4 c5 c6 c7 c8 c9
    by_cases hk : lk = 3
    · subst hk
      go_wp2_with fail
      refine (implCellOf_any ⟨3, lb, la, ln⟩ _ xs _ p (HP.out.below (bel_then B1.out (bel_then B3.out (bel_alloc _)))) (HX.out.below (bel_then B3.out (bel_alloc _)))).mono ?_
      rw [swap_val, swap_told, ← HXV.out, ← HXD.out]
      rintro e w4 ⟨rfl, hb4⟩
      have X4 := XX3.out.below (bel_then (bel_alloc _) hb4)
      have XX4 : Hid (Box10 w4 w1.heap.size ⟨tk, tn, ⟨3, la, lb, ln⟩, ⟨rk, ra, rb, rn⟩⟩) := X4
      have B4 : Hid (Below w1.heap.size w1 w4) := bel_then B3.out (bel_then (bel_alloc _) hb4)
      clear hb4 X4
      obtain ⟨_, g0, g1, ⟨g2, g3, g4, g5⟩, g6, g7, g8, g9⟩ := XX4.out.below (Below.refl _ _)
      simp only at g0 g1 g2 g3 g4 g5 g6 g7 g8 g9
      clear g0 g1
      obtain ⟨_, j0, j1, ⟨j2, j3, j4, j5⟩, j6, j7, j8, j9⟩ := XX4.out.below (bel_then (Below.refl _ _) (bel_alloc (w := w4) (.cells #[.int .i64 1, .bool false, .int .i64 3, .int .i64 la, .int .i64 lb, .int .i64 ln, .int .i64 rk, .int .i64 ra, .int .i64 rb, .int .i64 rn] 26)))
      simp only at j0 j1 j2 j3 j4 j5 j6 j7 j8 j9
      clear j0 j1
      obtain ⟨_, m0, m1, ⟨m2, m3, m4, m5⟩, m6, m7, m8, m9⟩ := XX4.out.below (bel_then (bel_then (Below.refl _ _) (bel_alloc (w := w4) (.cells #[.int .i64 1, .bool false, .int .i64 3, .int .i64 la, .int .i64 lb, .int .i64 ln, .int .i64 rk, .int .i64 ra, .int .i64 rb, .int .i64 rn] 26))) (bel_alloc (w := (w4.alloc (.cells #[.int .i64 1, .bool false, .int .i64 3, .int .i64 la, .int .i64 lb, .int .i64 ln, .int .i64 rk, .int .i64 ra, .int .i64 rb, .int .i64 rn] 26))) (.cells #[.int .i64 1, .bool false, .int .i64 rk, .int .i64 ra, .int .i64 rb, .int .i64 rn, .int .i64 3, .int .i64 la, .int .i64 lb, .int .i64 ln] 26)))
      simp only at m0 m1 m2 m3 m4 m5 m6 m7 m8 m9
      clear m0 m1
      clear c0 c1 c2 c3 c4 c5 c6 c7 c8 c9
      have BW : Hid (Below w1.heap.size w1 (((w4.alloc (.cells #[.int .i64 1, .bool false, .int .i64 3, .int .i64 la, .int .i64 lb, .int .i64 ln, .int .i64 rk, .int .i64 ra, .int .i64 rb, .int .i64 rn] 26)).alloc (.cells #[.int .i64 1, .bool false, .int .i64 rk, .int .i64 ra, .int .i64 rb, .int .i64 rn, .int .i64 3, .int .i64 la, .int .i64 lb, .int .i64 ln] 26)).alloc (.cells #[.int .i64 2, .bool false, .int .i64 3, .int .i64 la, .int .i64 lb, .int .i64 ln, .int .i64 rk, .int .i64 ra, .int .i64 rb, .int .i64 rn] 26))) := bel_then B4.out (bel_then (bel_then (bel_then (Below.refl _ _) (bel_alloc (w := w4) (.cells #[.int .i64 1, .bool false, .int .i64 3, .int .i64 la, .int .i64 lb, .int .i64 ln, .int .i64 rk, .int .i64 ra, .int .i64 rb, .int .i64 rn] 26))) (bel_alloc (w := (w4.alloc (.cells #[.int .i64 1, .bool false, .int .i64 3, .int .i64 la, .int .i64 lb, .int .i64 ln, .int .i64 rk, .int .i64 ra, .int .i64 rb, .int .i64 rn] 26))) (.cells #[.int .i64 1, .bool false, .int .i64 rk, .int .i64 ra, .int .i64 rb, .int .i64 rn, .int .i64 3, .int .i64 la, .int .i64 lb, .int .i64 ln] 26))) (bel_alloc (w := ((w4.alloc (.cells #[.int .i64 1, .bool false, .int .i64 3, .int .i64 la, .int .i64 lb, .int .i64 ln, .int .i64 rk, .int .i64 ra, .int .i64 rb, .int .i64 rn] 26)).alloc (.cells #[.int .i64 1, .bool false, .int .i64 rk, .int .i64 ra, .int .i64 rb, .int .i64 rn, .int .i64 3, .int .i64 la, .int .i64 lb, .int .i64 ln] 26))) (.cells #[.int .i64 2, .bool false, .int .i64 3, .int .i64 la, .int .i64 lb, .int .i64 ln, .int .i64 rk, .int .i64 ra, .int .i64 rb, .int .i64 rn] 26)))
      have YM : Hid (Box10 (((w4.alloc (.cells #[.int .i64 1, .bool false, .int .i64 3, .int .i64 la, .int .i64 lb, .int .i64 ln, .int .i64 rk, .int .i64 ra, .int .i64 rb, .int .i64 rn] 26)).alloc (.cells #[.int .i64 1, .bool false, .int .i64 rk, .int .i64 ra, .int .i64 rb, .int .i64 rn, .int .i64 3, .int .i64 la, .int .i64 lb, .int .i64 ln] 26)).alloc (.cells #[.int .i64 2, .bool false, .int .i64 3, .int .i64 la, .int .i64 lb, .int .i64 ln, .int .i64 rk, .int .i64 ra, .int .i64 rb, .int .i64 rn] 26)) (w4.alloc (.cells #[.int .i64 1, .bool false, .int .i64 3, .int .i64 la, .int .i64 lb, .int .i64 ln, .int .i64 rk, .int .i64 ra, .int .i64 rb, .int .i64 rn] 26)).heap.size ⟨1, false, ⟨rk, ra, rb, rn⟩, ⟨3, la, lb, ln⟩⟩) := (Box10.start (w4.alloc (.cells #[.int .i64 1, .bool false, .int .i64 3, .int .i64 la, .int .i64 lb, .int .i64 ln, .int .i64 rk, .int .i64 ra, .int .i64 rb, .int .i64 rn] 26)) ⟨1, false, ⟨rk, ra, rb, rn⟩, ⟨3, la, lb, ln⟩⟩ 26).below (bel_alloc _)
      have YS : Hid (Box10 (((w4.alloc (.cells #[.int .i64 1, .bool false, .int .i64 3, .int .i64 la, .int .i64 lb, .int .i64 ln, .int .i64 rk, .int .i64 ra, .int .i64 rb, .int .i64 rn] 26)).alloc (.cells #[.int .i64 1, .bool false, .int .i64 rk, .int .i64 ra, .int .i64 rb, .int .i64 rn, .int .i64 3, .int .i64 la, .int .i64 lb, .int .i64 ln] 26)).alloc (.cells #[.int .i64 2, .bool false, .int .i64 3, .int .i64 la, .int .i64 lb, .int .i64 ln, .int .i64 rk, .int .i64 ra, .int .i64 rb, .int .i64 rn] 26)) ((w4.alloc (.cells #[.int .i64 1, .bool false, .int .i64 3, .int .i64 la, .int .i64 lb, .int .i64 ln, .int .i64 rk, .int .i64 ra, .int .i64 rb, .int .i64 rn] 26)).alloc (.cells #[.int .i64 1, .bool false, .int .i64 rk, .int .i64 ra, .int .i64 rb, .int .i64 rn, .int .i64 3, .int .i64 la, .int .i64 lb, .int .i64 ln] 26)).heap.size ⟨2, false, ⟨3, la, lb, ln⟩, ⟨rk, ra, rb, rn⟩⟩) := Box10.start ((w4.alloc (.cells #[.int .i64 1, .bool false, .int .i64 3, .int .i64 la, .int .i64 lb, .int .i64 ln, .int .i64 rk, .int .i64 ra, .int .i64 rb, .int .i64 rn] 26)).alloc (.cells #[.int .i64 1, .bool false, .int .i64 rk, .int .i64 ra, .int .i64 rb, .int .i64 rn, .int .i64 3, .int .i64 la, .int .i64 lb, .int .i64 ln] 26)) ⟨2, false, ⟨3, la, lb, ln⟩, ⟨rk, ra, rb, rn⟩⟩ 26
      simp only [alloc_size] at YM YS
      go_wp2_with fail
      refine (implTestOf_any ⟨1, false, ⟨3, la, lb, ln⟩, ⟨rk, ra, rb, rn⟩⟩ _ xs _ p (HP.out.below (bel_then B1.out BW.out)) (HX.out.below BW.out)).mono ?_
      rintro e w5 ⟨rfl, hb5⟩
      have B5 : Hid (Below w1.heap.size w1 w5) := bel_then BW.out hb5
      have YM5 := YM.out.below hb5
      have YS5 : Hid (Box10 w5 _ _) := YS.out.below hb5
      clear hb5 g2 g3 g4 g5 g6 g7 g8 g9 j2 j3 j4 j5 j6 j7 j8 j9 m2 m3 m4 m5 m6 m7 m8 m9
      obtain ⟨_, c0, c1, ⟨c2, c3, c4, c5⟩, c6, c7, c8, c9⟩ := YM5
      simp only at c0 c1 c2 c3 c4 c5 c6 c7 c8 c9
      rcases one_of ⟨3, la, lb, ln⟩ ⟨rk, ra, rb, rn⟩ xs with ⟨_, o1, o2, o3, o4, o5, o6⟩ | ⟨⟨o1, o2, o3⟩, ⟨o4, o5, o6⟩ | ⟨o4, o5, o6⟩ | ⟨o4, o5, o6⟩⟩
      · rw [o1, o4]
        go_wp2_with fail
        refine (implTestOf_any ⟨1, false, ⟨rk, ra, rb, rn⟩, ⟨3, la, lb, ln⟩⟩ _ xs _ p (HP.out.below (bel_then B1.out B5.out)) (HX.out.below B5.out)).mono ?_
        rintro e w6 ⟨rfl, hb6⟩
        rw [o2, o5]
        have B6 : Hid (Below w1.heap.size w1 w6) := bel_then B5.out hb6
        have YS6 := YS5.out.below hb6
        clear hb6 c0 c1 c2 c3 c4 c5 c6 c7 c8 c9
        obtain ⟨_, c0, c1, ⟨c2, c3, c4, c5⟩, c6, c7, c8, c9⟩ := YS6
        simp only at c0 c1 c2 c3 c4 c5 c6 c7 c8 c9
        go_wp2_with fail
        refine (implTestOf_any ⟨2, false, ⟨3, la, lb, ln⟩, ⟨rk, ra, rb, rn⟩⟩ _ xs _ p (HP.out.below (bel_then B1.out B6.out)) (HX.out.below B6.out)).mono ?_
        rintro e w7 ⟨rfl, hb7⟩
        rw [o3, o6]
        have B7 : Hid (Below w1.heap.size w1 w7) := bel_then B6.out hb7
        clear hb7 c0 c1 c2 c3 c4 c5 c6 c7 c8 c9
        go_wp2
        go_ret
        exact ⟨rfl, bel_then B1.out B7.out⟩
      · rw [o1, o4]
        go_wp2_with fail
        refine (implTestOf_any ⟨1, false, ⟨rk, ra, rb, rn⟩, ⟨3, la, lb, ln⟩⟩ _ xs _ p (HP.out.below (bel_then B1.out B5.out)) (HX.out.below B5.out)).mono ?_
        rintro e w6 ⟨rfl, hb6⟩
        rw [o2, o5]
        have B6 : Hid (Below w1.heap.size w1 w6) := bel_then B5.out hb6
        have YS6 := YS5.out.below hb6
        clear hb6 c0 c1 c2 c3 c4 c5 c6 c7 c8 c9
        obtain ⟨_, c0, c1, ⟨c2, c3, c4, c5⟩, c6, c7, c8, c9⟩ := YS6
        simp only at c0 c1 c2 c3 c4 c5 c6 c7 c8 c9
        go_wp2_with fail
        refine (implTestOf_any ⟨2, false, ⟨3, la, lb, ln⟩, ⟨rk, ra, rb, rn⟩⟩ _ xs _ p (HP.out.below (bel_then B1.out B6.out)) (HX.out.below B6.out)).mono ?_
        rintro e w7 ⟨rfl, hb7⟩
        rw [o3, o6]
        have B7 : Hid (Below w1.heap.size w1 w7) := bel_then B6.out hb7
        clear hb7 c0 c1 c2 c3 c4 c5 c6 c7 c8 c9
        go_wp2
        go_ret
        exact ⟨rfl, bel_then B1.out B7.out⟩
      · rw [o1, o4]
        go_wp2_with fail
        refine (implTestOf_any ⟨1, false, ⟨rk, ra, rb, rn⟩, ⟨3, la, lb, ln⟩⟩ _ xs _ p (HP.out.below (bel_then B1.out B5.out)) (HX.out.below B5.out)).mono ?_
        rintro e w6 ⟨rfl, hb6⟩
        rw [o2, o5]
        have B6 : Hid (Below w1.heap.size w1 w6) := bel_then B5.out hb6
        have YS6 := YS5.out.below hb6
        clear hb6 c0 c1 c2 c3 c4 c5 c6 c7 c8 c9
        obtain ⟨_, c0, c1, ⟨c2, c3, c4, c5⟩, c6, c7, c8, c9⟩ := YS6
        simp only at c0 c1 c2 c3 c4 c5 c6 c7 c8 c9
        go_wp2_with fail
        refine (implTestOf_any ⟨2, false, ⟨3, la, lb, ln⟩, ⟨rk, ra, rb, rn⟩⟩ _ xs _ p (HP.out.below (bel_then B1.out B6.out)) (HX.out.below B6.out)).mono ?_
        rintro e w7 ⟨rfl, hb7⟩
        rw [o3, o6]
        have B7 : Hid (Below w1.heap.size w1 w7) := bel_then B6.out hb7
        clear hb7 c0 c1 c2 c3 c4 c5 c6 c7 c8 c9
        go_wp2
        go_ret
        exact ⟨rfl, bel_then B1.out B7.out⟩
      · rw [o1, o4]
        go_wp2_with fail
        refine (implTestOf_any ⟨1, false, ⟨rk, ra, rb, rn⟩, ⟨3, la, lb, ln⟩⟩ _ xs _ p (HP.out.below (bel_then B1.out B5.out)) (HX.out.below B5.out)).mono ?_
        rintro e w6 ⟨rfl, hb6⟩
        rw [o2, o5]
        have B6 : Hid (Below w1.heap.size w1 w6) := bel_then B5.out hb6
        have YS6 := YS5.out.below hb6
        clear hb6 c0 c1 c2 c3 c4 c5 c6 c7 c8 c9
        obtain ⟨_, c0, c1, ⟨c2, c3, c4, c5⟩, c6, c7, c8, c9⟩ := YS6
        simp only at c0 c1 c2 c3 c4 c5 c6 c7 c8 c9
        go_wp2_with fail
        refine (implTestOf_any ⟨2, false, ⟨3, la, lb, ln⟩, ⟨rk, ra, rb, rn⟩⟩ _ xs _ p (HP.out.below (bel_then B1.out B6.out)) (HX.out.below B6.out)).mono ?_
        rintro e w7 ⟨rfl, hb7⟩
        rw [o3, o6]
        have B7 : Hid (Below w1.heap.size w1 w7) := bel_then B6.out hb7
        clear hb7 c0 c1 c2 c3 c4 c5 c6 c7 c8 c9
        go_wp2
        go_ret
        exact ⟨rfl, bel_then B1.out B7.out⟩
    · have hkf : (lk == 3) = false := by simpa using hk
      obtain ⟨_, g0, g1, ⟨g2, g3, g4, g5⟩, g6, g7, g8, g9⟩ := XX3.out.below (bel_alloc (w := w3) (.cells #[.int .i64 lk, .int .i64 la, .int .i64 lb, .int .i64 ln] 24))
      simp only at g0 g1 g2 g3 g4 g5 g6 g7 g8 g9
      clear g0 g1
      obtain ⟨_, j0, j1, ⟨j2, j3, j4, j5⟩, j6, j7, j8, j9⟩ := XX3.out.below (bel_then (bel_alloc (w := w3) (.cells #[.int .i64 lk, .int .i64 la, .int .i64 lb, .int .i64 ln] 24)) (bel_alloc (w := (w3.alloc (.cells #[.int .i64 lk, .int .i64 la, .int .i64 lb, .int .i64 ln] 24))) (.cells #[.int .i64 1, .bool false, .int .i64 lk, .int .i64 la, .int .i64 lb, .int .i64 ln, .int .i64 rk, .int .i64 ra, .int .i64 rb, .int .i64 rn] 26)))
      simp only at j0 j1 j2 j3 j4 j5 j6 j7 j8 j9
      clear j0 j1
      obtain ⟨_, m0, m1, ⟨m2, m3, m4, m5⟩, m6, m7, m8, m9⟩ := XX3.out.below (bel_then (bel_then (bel_alloc (w := w3) (.cells #[.int .i64 lk, .int .i64 la, .int .i64 lb, .int .i64 ln] 24)) (bel_alloc (w := (w3.alloc (.cells #[.int .i64 lk, .int .i64 la, .int .i64 lb, .int .i64 ln] 24))) (.cells #[.int .i64 1, .bool false, .int .i64 lk, .int .i64 la, .int .i64 lb, .int .i64 ln, .int .i64 rk, .int .i64 ra, .int .i64 rb, .int .i64 rn] 26))) (bel_alloc (w := ((w3.alloc (.cells #[.int .i64 lk, .int .i64 la, .int .i64 lb, .int .i64 ln] 24)).alloc (.cells #[.int .i64 1, .bool false, .int .i64 lk, .int .i64 la, .int .i64 lb, .int .i64 ln, .int .i64 rk, .int .i64 ra, .int .i64 rb, .int .i64 rn] 26))) (.cells #[.int .i64 1, .bool false, .int .i64 rk, .int .i64 ra, .int .i64 rb, .int .i64 rn, .int .i64 lk, .int .i64 la, .int .i64 lb, .int .i64 ln] 26)))
      simp only at m0 m1 m2 m3 m4 m5 m6 m7 m8 m9
      clear m0 m1
      clear c0 c1 c6 c7 c8 c9
      have BW : Hid (Below w1.heap.size w1 ((((w3.alloc (.cells #[.int .i64 lk, .int .i64 la, .int .i64 lb, .int .i64 ln] 24)).alloc (.cells #[.int .i64 1, .bool false, .int .i64 lk, .int .i64 la, .int .i64 lb, .int .i64 ln, .int .i64 rk, .int .i64 ra, .int .i64 rb, .int .i64 rn] 26)).alloc (.cells #[.int .i64 1, .bool false, .int .i64 rk, .int .i64 ra, .int .i64 rb, .int .i64 rn, .int .i64 lk, .int .i64 la, .int .i64 lb, .int .i64 ln] 26)).alloc (.cells #[.int .i64 2, .bool false, .int .i64 lk, .int .i64 la, .int .i64 lb, .int .i64 ln, .int .i64 rk, .int .i64 ra, .int .i64 rb, .int .i64 rn] 26))) := bel_then B3.out (bel_then (bel_then (bel_then (bel_alloc (w := w3) (.cells #[.int .i64 lk, .int .i64 la, .int .i64 lb, .int .i64 ln] 24)) (bel_alloc (w := (w3.alloc (.cells #[.int .i64 lk, .int .i64 la, .int .i64 lb, .int .i64 ln] 24))) (.cells #[.int .i64 1, .bool false, .int .i64 lk, .int .i64 la, .int .i64 lb, .int .i64 ln, .int .i64 rk, .int .i64 ra, .int .i64 rb, .int .i64 rn] 26))) (bel_alloc (w := ((w3.alloc (.cells #[.int .i64 lk, .int .i64 la, .int .i64 lb, .int .i64 ln] 24)).alloc (.cells #[.int .i64 1, .bool false, .int .i64 lk, .int .i64 la, .int .i64 lb, .int .i64 ln, .int .i64 rk, .int .i64 ra, .int .i64 rb, .int .i64 rn] 26))) (.cells #[.int .i64 1, .bool false, .int .i64 rk, .int .i64 ra, .int .i64 rb, .int .i64 rn, .int .i64 lk, .int .i64 la, .int .i64 lb, .int .i64 ln] 26))) (bel_alloc (w := (((w3.alloc (.cells #[.int .i64 lk, .int .i64 la, .int .i64 lb, .int .i64 ln] 24)).alloc (.cells #[.int .i64 1, .bool false, .int .i64 lk, .int .i64 la, .int .i64 lb, .int .i64 ln, .int .i64 rk, .int .i64 ra, .int .i64 rb, .int .i64 rn] 26)).alloc (.cells #[.int .i64 1, .bool false, .int .i64 rk, .int .i64 ra, .int .i64 rb, .int .i64 rn, .int .i64 lk, .int .i64 la, .int .i64 lb, .int .i64 ln] 26))) (.cells #[.int .i64 2, .bool false, .int .i64 lk, .int .i64 la, .int .i64 lb, .int .i64 ln, .int .i64 rk, .int .i64 ra, .int .i64 rb, .int .i64 rn] 26)))
      have YM : Hid (Box10 ((((w3.alloc (.cells #[.int .i64 lk, .int .i64 la, .int .i64 lb, .int .i64 ln] 24)).alloc (.cells #[.int .i64 1, .bool false, .int .i64 lk, .int .i64 la, .int .i64 lb, .int .i64 ln, .int .i64 rk, .int .i64 ra, .int .i64 rb, .int .i64 rn] 26)).alloc (.cells #[.int .i64 1, .bool false, .int .i64 rk, .int .i64 ra, .int .i64 rb, .int .i64 rn, .int .i64 lk, .int .i64 la, .int .i64 lb, .int .i64 ln] 26)).alloc (.cells #[.int .i64 2, .bool false, .int .i64 lk, .int .i64 la, .int .i64 lb, .int .i64 ln, .int .i64 rk, .int .i64 ra, .int .i64 rb, .int .i64 rn] 26)) ((w3.alloc (.cells #[.int .i64 lk, .int .i64 la, .int .i64 lb, .int .i64 ln] 24)).alloc (.cells #[.int .i64 1, .bool false, .int .i64 lk, .int .i64 la, .int .i64 lb, .int .i64 ln, .int .i64 rk, .int .i64 ra, .int .i64 rb, .int .i64 rn] 26)).heap.size ⟨1, false, ⟨rk, ra, rb, rn⟩, ⟨lk, la, lb, ln⟩⟩) := (Box10.start ((w3.alloc (.cells #[.int .i64 lk, .int .i64 la, .int .i64 lb, .int .i64 ln] 24)).alloc (.cells #[.int .i64 1, .bool false, .int .i64 lk, .int .i64 la, .int .i64 lb, .int .i64 ln, .int .i64 rk, .int .i64 ra, .int .i64 rb, .int .i64 rn] 26)) ⟨1, false, ⟨rk, ra, rb, rn⟩, ⟨lk, la, lb, ln⟩⟩ 26).below (bel_alloc _)
      have YS : Hid (Box10 ((((w3.alloc (.cells #[.int .i64 lk, .int .i64 la, .int .i64 lb, .int .i64 ln] 24)).alloc (.cells #[.int .i64 1, .bool false, .int .i64 lk, .int .i64 la, .int .i64 lb, .int .i64 ln, .int .i64 rk, .int .i64 ra, .int .i64 rb, .int .i64 rn] 26)).alloc (.cells #[.int .i64 1, .bool false, .int .i64 rk, .int .i64 ra, .int .i64 rb, .int .i64 rn, .int .i64 lk, .int .i64 la, .int .i64 lb, .int .i64 ln] 26)).alloc (.cells #[.int .i64 2, .bool false, .int .i64 lk, .int .i64 la, .int .i64 lb, .int .i64 ln, .int .i64 rk, .int .i64 ra, .int .i64 rb, .int .i64 rn] 26)) (((w3.alloc (.cells #[.int .i64 lk, .int .i64 la, .int .i64 lb, .int .i64 ln] 24)).alloc (.cells #[.int .i64 1, .bool false, .int .i64 lk, .int .i64 la, .int .i64 lb, .int .i64 ln, .int .i64 rk, .int .i64 ra, .int .i64 rb, .int .i64 rn] 26)).alloc (.cells #[.int .i64 1, .bool false, .int .i64 rk, .int .i64 ra, .int .i64 rb, .int .i64 rn, .int .i64 lk, .int .i64 la, .int .i64 lb, .int .i64 ln] 26)).heap.size ⟨2, false, ⟨lk, la, lb, ln⟩, ⟨rk, ra, rb, rn⟩⟩) := Box10.start (((w3.alloc (.cells #[.int .i64 lk, .int .i64 la, .int .i64 lb, .int .i64 ln] 24)).alloc (.cells #[.int .i64 1, .bool false, .int .i64 lk, .int .i64 la, .int .i64 lb, .int .i64 ln, .int .i64 rk, .int .i64 ra, .int .i64 rb, .int .i64 rn] 26)).alloc (.cells #[.int .i64 1, .bool false, .int .i64 rk, .int .i64 ra, .int .i64 rb, .int .i64 rn, .int .i64 lk, .int .i64 la, .int .i64 lb, .int .i64 ln] 26)) ⟨2, false, ⟨lk, la, lb, ln⟩, ⟨rk, ra, rb, rn⟩⟩ 26
      simp only [alloc_size] at YM YS
      go_wp2_with fail
      refine (implTestOf_any ⟨1, false, ⟨lk, la, lb, ln⟩, ⟨rk, ra, rb, rn⟩⟩ _ xs _ p (HP.out.below (bel_then B1.out BW.out)) (HX.out.below BW.out)).mono ?_
      rintro e w5 ⟨rfl, hb5⟩
      have B5 : Hid (Below w1.heap.size w1 w5) := bel_then BW.out hb5
      have YM5 := YM.out.below hb5
      have YS5 : Hid (Box10 w5 _ _) := YS.out.below hb5
      clear hb5 g2 g3 g4 g5 g6 g7 g8 g9 j2 j3 j4 j5 j6 j7 j8 j9 m2 m3 m4 m5 m6 m7 m8 m9
      obtain ⟨_, c0, c1, ⟨c2, c3, c4, c5⟩, c6, c7, c8, c9⟩ := YM5
      simp only at c0 c1 c2 c3 c4 c5 c6 c7 c8 c9
      rcases one_of ⟨lk, la, lb, ln⟩ ⟨rk, ra, rb, rn⟩ xs with ⟨_, o1, o2, o3, o4, o5, o6⟩ | ⟨⟨o1, o2, o3⟩, ⟨o4, o5, o6⟩ | ⟨o4, o5, o6⟩ | ⟨o4, o5, o6⟩⟩
      · rw [o1, o4]
        go_wp2_with fail
        refine (implTestOf_any ⟨1, false, ⟨rk, ra, rb, rn⟩, ⟨lk, la, lb, ln⟩⟩ _ xs _ p (HP.out.below (bel_then B1.out B5.out)) (HX.out.below B5.out)).mono ?_
        rintro e w6 ⟨rfl, hb6⟩
        rw [o2, o5]
        have B6 : Hid (Below w1.heap.size w1 w6) := bel_then B5.out hb6
        have YS6 := YS5.out.below hb6
        clear hb6 c0 c1 c2 c3 c4 c5 c6 c7 c8 c9
        obtain ⟨_, c0, c1, ⟨c2, c3, c4, c5⟩, c6, c7, c8, c9⟩ := YS6
        simp only at c0 c1 c2 c3 c4 c5 c6 c7 c8 c9
        go_wp2_with fail
        refine (implTestOf_any ⟨2, false, ⟨lk, la, lb, ln⟩, ⟨rk, ra, rb, rn⟩⟩ _ xs _ p (HP.out.below (bel_then B1.out B6.out)) (HX.out.below B6.out)).mono ?_
        rintro e w7 ⟨rfl, hb7⟩
        rw [o3, o6]
        have B7 : Hid (Below w1.heap.size w1 w7) := bel_then B6.out hb7
        clear hb7 c0 c1 c2 c3 c4 c5 c6 c7 c8 c9
        go_wp2
        go_ret
        exact ⟨rfl, bel_then B1.out B7.out⟩
      · rw [o1, o4]
        go_wp2_with fail
        refine (implTestOf_any ⟨1, false, ⟨rk, ra, rb, rn⟩, ⟨lk, la, lb, ln⟩⟩ _ xs _ p (HP.out.below (bel_then B1.out B5.out)) (HX.out.below B5.out)).mono ?_
        rintro e w6 ⟨rfl, hb6⟩
        rw [o2, o5]
        have B6 : Hid (Below w1.heap.size w1 w6) := bel_then B5.out hb6
        have YS6 := YS5.out.below hb6
        clear hb6 c0 c1 c2 c3 c4 c5 c6 c7 c8 c9
        obtain ⟨_, c0, c1, ⟨c2, c3, c4, c5⟩, c6, c7, c8, c9⟩ := YS6
        simp only at c0 c1 c2 c3 c4 c5 c6 c7 c8 c9
        go_wp2_with fail
        refine (implTestOf_any ⟨2, false, ⟨lk, la, lb, ln⟩, ⟨rk, ra, rb, rn⟩⟩ _ xs _ p (HP.out.below (bel_then B1.out B6.out)) (HX.out.below B6.out)).mono ?_
        rintro e w7 ⟨rfl, hb7⟩
        rw [o3, o6]
        have B7 : Hid (Below w1.heap.size w1 w7) := bel_then B6.out hb7
        clear hb7 c0 c1 c2 c3 c4 c5 c6 c7 c8 c9
        go_wp2
        go_ret
        exact ⟨rfl, bel_then B1.out B7.out⟩
      · rw [o1, o4]
        go_wp2_with fail
        refine (implTestOf_any ⟨1, false, ⟨rk, ra, rb, rn⟩, ⟨lk, la, lb, ln⟩⟩ _ xs _ p (HP.out.below (bel_then B1.out B5.out)) (HX.out.below B5.out)).mono ?_
        rintro e w6 ⟨rfl, hb6⟩
        rw [o2, o5]
        have B6 : Hid (Below w1.heap.size w1 w6) := bel_then B5.out hb6
        have YS6 := YS5.out.below hb6
        clear hb6 c0 c1 c2 c3 c4 c5 c6 c7 c8 c9
        obtain ⟨_, c0, c1, ⟨c2, c3, c4, c5⟩, c6, c7, c8, c9⟩ := YS6
        simp only at c0 c1 c2 c3 c4 c5 c6 c7 c8 c9
        go_wp2_with fail
        refine (implTestOf_any ⟨2, false, ⟨lk, la, lb, ln⟩, ⟨rk, ra, rb, rn⟩⟩ _ xs _ p (HP.out.below (bel_then B1.out B6.out)) (HX.out.below B6.out)).mono ?_
        rintro e w7 ⟨rfl, hb7⟩
        rw [o3, o6]
        have B7 : Hid (Below w1.heap.size w1 w7) := bel_then B6.out hb7
        clear hb7 c0 c1 c2 c3 c4 c5 c6 c7 c8 c9
        go_wp2
        go_ret
        exact ⟨rfl, bel_then B1.out B7.out⟩
      · rw [o1, o4]
        go_wp2_with fail
        refine (implTestOf_any ⟨1, false, ⟨rk, ra, rb, rn⟩, ⟨lk, la, lb, ln⟩⟩ _ xs _ p (HP.out.below (bel_then B1.out B5.out)) (HX.out.below B5.out)).mono ?_
        rintro e w6 ⟨rfl, hb6⟩
        rw [o2, o5]
        have B6 : Hid (Below w1.heap.size w1 w6) := bel_then B5.out hb6
        have YS6 := YS5.out.below hb6
        clear hb6 c0 c1 c2 c3 c4 c5 c6 c7 c8 c9
        obtain ⟨_, c0, c1, ⟨c2, c3, c4, c5⟩, c6, c7, c8, c9⟩ := YS6
        simp only at c0 c1 c2 c3 c4 c5 c6 c7 c8 c9
        go_wp2_with fail
        refine (implTestOf_any ⟨2, false, ⟨lk, la, lb, ln⟩, ⟨rk, ra, rb, rn⟩⟩ _ xs _ p (HP.out.below (bel_then B1.out B6.out)) (HX.out.below B6.out)).mono ?_
        rintro e w7 ⟨rfl, hb7⟩
        rw [o3, o6]
        have B7 : Hid (Below w1.heap.size w1 w7) := bel_then B6.out hb7
        clear hb7 c0 c1 c2 c3 c4 c5 c6 c7 c8 c9
        go_wp2
        go_ret
        exact ⟨rfl, bel_then B1.out B7.out⟩
  · have hbig : (1048576 : Int) < (len : Int) := by omega
    go_enter Tryd.func3, Tryd.ntmps3
    go_wp2
    go_ret
    exact ⟨rfl, Below.refl _ _⟩

end Go.Proofs.YtegnpbkgfhjdoaaDoor
