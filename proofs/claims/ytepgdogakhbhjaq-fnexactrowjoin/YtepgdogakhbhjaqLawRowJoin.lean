/-
  The walk of laws.FnExactRowJoin, out of the contracts: it answers true at all int slices, and nothing that was there is written.
-/
import Derived.Test.YtepgdogakhbhjaqJoin
namespace Go.Proofs.Ytepgdogakhbhjaq
open Go.RowKit

set_option maxHeartbeats 4000000 in
theorem lawRowJoin (a : Option Addr) (len cap : Nat) (zs0 : List Int) (a2 : Option Addr) (len2 cap2 : Nat) (zs2 : List Int) (w : World) (h : IsRow .i64 w a len cap zs0) (h2 : IsRow .i64 w a2 len2 cap2 zs2) :
    Calls Try.prog 3 #[.slice a len cap, .slice a2 len2 cap2] w fun e w' => e = .returned (.bool true) ∧ Below w.heap.size w w' := by
  by_cases hlim : len ≤ 1048576
  · by_cases hlim2 : len2 ≤ 1048576
    · obtain ⟨xs, HL, hx⟩ := h.ints (by omega)
      obtain ⟨ys, HL2, hy⟩ := h2.ints (by omega)
      subst HL HL2
      clear h h2
      obtain ⟨zs, HZ⟩ : ∃ zs, Hid (zs = xs ++ ys) := ⟨_, rfl⟩
      have hzl : zs.length ≤ 2097152 := by rw [HZ.out, List.length_append]; omega
      go_enter Try.func3, Try.ntmps3
      go_wp2_with fail
      refine (toIntS_any _ xs _ hx hlim).mono ?_
      rintro e w1 ⟨rfl, ho1, hb1⟩
      have O1 := own_new ho1 (by omega)
      clear ho1
      go_wp2_with fail
      refine (toIntS_any _ ys _ (hy.below hb1) hlim2).mono ?_
      rintro e w2 ⟨rfl, ho2, hb2⟩
      have O2 := own_new ho2 (by omega)
      have hk2 : Below w.heap.size w w2 := hb1.trans (hb2.mono hb1.size)
      clear ho2
      go_wp2_with fail
      refine (specRowJoin_any _ _ xs ys _ (O1.keep' hb2).ints O2.ints (by omega)).mono ?_
      rintro e w3 ⟨v0, rfl, P0, hb3⟩
      rw [← HZ.out] at P0
      have hk3 : Below w.heap.size w w3 := hk2.trans (hb3.mono hk2.size)
      clear O1 O2
      go_wp2_with fail
      refine (toIntS_any _ xs _ (hx.below hk3) hlim).mono ?_
      rintro e w4 ⟨rfl, ho4, hb4⟩
      have X4 := own_new ho4 (by omega)
      have hk4 : Below w.heap.size w w4 := hk3.trans (hb4.mono hk3.size)
      have P4 := P0.keep' hb4
      clear ho4 P0
      go_wp2_with fail
      refine (toIntS_any _ ys _ (hy.below hk4) hlim2).mono ?_
      rintro e w5 ⟨rfl, ho5, hb5⟩
      have Y5 := own_new ho5 (by omega)
      have hk5 : Below w.heap.size w w5 := hk4.trans (hb5.mono hk4.size)
      have P5 := P4.keep' hb5
      have X5 := X4.keep' hb5
      clear ho5 P4 X4
      go_wp2_with fail
      refine (implRowJoin_any _ _ xs ys _ X5.ints Y5.ints (by omega)).mono ?_
      rintro e w6 ⟨g0, rfl, G6, hb6⟩
      rw [← HZ.out] at G6
      have hk6 : Below w.heap.size w w6 := hk5.trans (hb6.mono hk5.size)
      have P6 := P5.keep' hb6
      have X6 := X5.keep' hb6
      have Y6 := Y5.keep' hb6
      clear P5 X5 Y5
      go_wp2_with fail
      refine (eqIntS_any _ _ zs zs _ G6.ints P6.ints).mono ?_
      rintro e w7 ⟨rfl, hb7⟩
      rw [sameB_refl]
      have hk7 : Below w.heap.size w w7 := hk6.trans (hb7.mono hk6.size)
      have P7 := P6.keep' hb7
      have X7 := X6.keep' hb7
      have Y7 := Y6.keep' hb7
      have G7 := G6.keep' hb7
      clear P6 X6 Y6 G6
      go_wp2_with fail
      refine (toIntS_any _ xs _ (hx.below hk7) hlim).mono ?_
      rintro e w8 ⟨rfl, ho8, hb8⟩
      have O8 := own_new ho8 (by omega)
      have hk8 : Below w.heap.size w w8 := hk7.trans (hb8.mono hk7.size)
      have P8 := P7.keep' hb8
      have X8 := X7.keep' hb8
      have Y8 := Y7.keep' hb8
      have G8 := G7.keep' hb8
      clear ho8 P7 X7 Y7 G7
      go_wp2_with fail
      refine (eqIntS_any _ _ xs xs _ X8.ints O8.ints).mono ?_
      rintro e w9 ⟨rfl, hb9⟩
      rw [sameB_refl]
      have hk9 : Below w.heap.size w w9 := hk8.trans (hb9.mono hk8.size)
      have P9 := P8.keep' hb9
      have X9 := X8.keep' hb9
      have Y9 := Y8.keep' hb9
      have G9 := G8.keep' hb9
      clear O8 P8 X8 Y8 G8
      go_wp2_with fail
      refine (toIntS_any _ ys _ (hy.below hk9) hlim2).mono ?_
      rintro e w10 ⟨rfl, ho10, hb10⟩
      have O10 := own_new ho10 (by omega)
      have hk10 : Below w.heap.size w w10 := hk9.trans (hb10.mono hk9.size)
      have P10 := P9.keep' hb10
      have X10 := X9.keep' hb10
      have Y10 := Y9.keep' hb10
      have G10 := G9.keep' hb10
      clear ho10 P9 X9 Y9 G9
      go_wp2_with fail
      refine (eqIntS_any _ _ ys ys _ Y10.ints O10.ints).mono ?_
      rintro e w11 ⟨rfl, hb11⟩
      rw [sameB_refl]
      have hk11 : Below w.heap.size w w11 := hk10.trans (hb11.mono hk10.size)
      have P11 := P10.keep' hb11
      have X11 := X10.keep' hb11
      have Y11 := Y10.keep' hb11
      have G11 := G10.keep' hb11
      clear O10 P10 X10 Y10 G10
      have s3 := hb3.size
      have s4 := hb4.size
      have s5 := hb5.size
      have s6 := hb6.size
      have t3 := hk3.size
      clear hb1 hb2 hb3 hb4 hb5 hb6 hb7 hb8 hb9 hb10 hb11 hk2 hk3 hk4 hk5 hk6 hk7 hk8 hk9 hk10
      go_wp2_with fail
      refine (markIntS_any _ _ _ xs 1 _ (by omega) (by omega) X11).mono ?_
      rintro e w12 ⟨rfl, X12, hg12⟩
      have hr12 := fun k hk => And.intro (X11.1.lt k hk).1 (X11.2.1 k hk)
      have hk12 : Below w.heap.size w w12 := hk11.grown hg12 hk11.size (fun k hk => by have := hr12 k hk; omega)
      have P12 := P11.kept hg12 (fun k hk => by have := hr12 k hk; omega)
      have Y12 := Y11.kept hg12 (fun k hk => by have := hr12 k hk; omega)
      have G12 := G11.kept hg12 (fun k hk => by have := hr12 k hk; omega)
      clear P11 X11 Y11 G11 X12 hk11 hg12 hr12
      go_wp2_with fail
      refine (markIntS_any _ _ _ ys _ _ (by omega) (by omega) Y12).mono ?_
      rintro e w13 ⟨rfl, Y13, hg13⟩
      have hr13 := fun k hk => And.intro (Y12.1.lt k hk).1 (Y12.2.1 k hk)
      have hk13 : Below w.heap.size w w13 := hk12.grown hg13 hk12.size (fun k hk => by have := hr13 k hk; omega)
      have P13 := P12.kept hg13 (fun k hk => by have := hr13 k hk; omega)
      have G13 := G12.kept hg13 (fun k hk => by have := hr13 k hk; omega)
      clear P12 Y12 G12 Y13 hk12 hg13 hr13
      go_wp2_with fail
      refine (eqIntS_any _ _ zs zs _ G13.ints P13.ints).mono ?_
      rintro e w14 ⟨rfl, hb14⟩
      rw [sameB_refl]
      have hk14 : Below w.heap.size w w14 := hk13.trans (hb14.mono hk13.size)
      have P14 := P13.keep' hb14
      have G14 := G13.keep' hb14
      clear P13 G13 hk13 hb14
      go_wp2_with fail
      refine (markIntS_any _ _ _ zs 1 _ (by omega) (by omega) G14).mono ?_
      rintro e w15 ⟨rfl, G15, hg15⟩
      have hr15 := fun k hk => And.intro (G14.1.lt k hk).1 (G14.2.1 k hk)
      have hk15 : Below w.heap.size w w15 := hk14.grown hg15 hk14.size (fun k hk => by have := hr15 k hk; omega)
      have P15 := P14.kept hg15 (fun k hk => by have := hr15 k hk; omega)
      clear P14 G14 hk14 hg15 hr15
      go_wp2_with fail
      refine (heldIntS_any _ zs.length 1 _ (by omega) (by omega) G15.ints).mono ?_
      rintro e w16 ⟨rfl, rfl⟩
      go_wp2_with fail
      refine (toIntS_any _ xs _ (hx.below hk15) hlim).mono ?_
      rintro e w17 ⟨rfl, ho17, hb17⟩
      have O17 := own_new ho17 (by omega)
      have hk17 : Below w.heap.size w w17 := hk15.trans (hb17.mono hk15.size)
      have P17 := P15.keep' hb17
      have G17 := G15.keep' hb17
      clear ho17 P15 G15 hk15 hb17
      go_wp2_with fail
      refine (toIntS_any _ ys _ (hy.below hk17) hlim2).mono ?_
      rintro e w18 ⟨rfl, ho18, hb18⟩
      have O18 := own_new ho18 (by omega)
      have hk18 : Below w.heap.size w w18 := hk17.trans (hb18.mono hk17.size)
      have P18 := P17.keep' hb18
      have G18 := G17.keep' hb18
      have Q18 := O17.keep' hb18
      clear ho18 P17 G17 O17 hk17 hb18
      go_wp2_with fail
      refine (implRowJoin_any _ _ xs ys _ Q18.ints O18.ints (by omega)).mono ?_
      rintro e w19 ⟨h0, rfl, H19, hb19⟩
      rw [← HZ.out] at H19
      have hk19 : Below w.heap.size w w19 := hk18.trans (hb19.mono hk18.size)
      have P19 := P18.keep' hb19
      have G19 := G18.keep' hb19
      clear P18 G18 O18 Q18 hk18 hb19
      go_wp2_with fail
      refine (eqIntS_any _ _ zs zs _ H19.ints P19.ints).mono ?_
      rintro e w20 ⟨rfl, hb20⟩
      rw [sameB_refl]
      have hk20 : Below w.heap.size w w20 := hk19.trans (hb20.mono hk19.size)
      have G20 := G19.keep' hb20
      clear P19 G19 H19 hk19 hb20
      go_wp2_with fail
      refine (heldIntS_any _ zs.length 1 _ (by omega) (by omega) G20.ints).mono ?_
      rintro e w21 ⟨rfl, rfl⟩
      clear G20 hx hy
      go_wp2
      go_ret
      exact ⟨rfl, hk20⟩
    · have hbig : (1048576 : Int) < (len2 : Int) := by omega
      go_enter Try.func3, Try.ntmps3
      go_wp2
      go_ret
      exact ⟨rfl, Below.refl _ _⟩
  · have hbig : (1048576 : Int) < (len : Int) := by omega
    go_enter Try.func3, Try.ntmps3
    go_wp2
    go_ret
    exact ⟨rfl, Below.refl _ _⟩

end Go.Proofs.Ytepgdogakhbhjaq
