/-
  The walk of laws.FnExactDeltaNear, out of the contracts: it answers true at all arguments, and nothing that was there is written.
-/
import Derived.Test.YtjbfgfgldchfnaaDoorNearSpec
import Derived.Test.YtjbfgfgldchfnaaDoorLawKit
import Derived.Test.YtjbfgfgldchfnaaDoorLaidTab
namespace Go.Proofs.YtjbfgfgldchfnaaDoor
open Go.RowKit

theorem nearOut_small (z d : List It) (ks : List Int) : (nearOut z d ks).length ≤ 100 ∧ tot (lens (nearOut z d ks)) ≤ 4194304 := by
  unfold nearOut
  cases hok : nearOk z d ks with
  | false => simp [tot, lens]
  | true =>
    have hz : zOkB z = true := by
      unfold nearOk at hok
      simp only [Bool.and_eq_true] at hok
      exact hok.1.1
    have h1 := (near_mild d ks hz).1
    have h3 : rowsLen (nearZ z d ks) ≤ (nearZ z d ks).length * 6 := rowsLen_le fun p hp => zOk_mem hz (nearZ_mem hp)
    simp only [if_true]
    rw [tot_lens]
    exact ⟨by omega, by omega⟩

set_option maxRecDepth 100000
set_option maxHeartbeats 16000000 in
theorem lawDeltaNear (v0 : Value) (z0 : List It) (v1 : Value) (z1 : List It) (a2 : Option Addr) (len2 cap2 : Nat) (r2 : List Int) (w : World) (h0 : RawItems w v0 z0) (_ : WfItems z0) (h1 : RawItems w v1 z1) (_ : WfItems z1) (h2 : IsRow .i64 w a2 len2 cap2 r2) (hcond : Tab w) :
    Calls Tryd.prog 3 #[v0, v1, .slice a2 len2 cap2] w fun e w' => e = .returned (.bool true) ∧ Below w.heap.size w w' := by
  by_cases hl2 : ¬ len2 ≤ 1048576
  · have hbig : (1048576 : Int) < (len2 : Int) := by omega
    clear h0 h1 h2
    go_enter Tryd.func3, Tryd.ntmps3
    go_wp2
    go_ret
    exact ⟨rfl, Below.refl _ _⟩
  replace hl2 : len2 ≤ 1048576 := by omega
  obtain ⟨ks2, HL2, hz2⟩ := h2.ints (by omega)
  subst HL2
  clear h2
  obtain ⟨os, HO⟩ : ∃ os, Hid (os = nearOut z0 z1 ks2) := ⟨_, rfl⟩
  have hos : os.length ≤ 100 ∧ tot (lens os) ≤ 4194304 := by rw [HO.out]; exact nearOut_small z0 z1 ks2
  obtain ⟨hos1, hos2⟩ := hos
  go_enter Tryd.func3, Tryd.ntmps3
  go_wp2_with fail
  refine (szItemS_any v0 z0 1048576 _ h0 (by omega) (by omega)).mono ?_
  rintro e y0 ⟨r0, rfl, hr0, hc0⟩
  have hq0 := hc0
  by_cases hneg0 : r0 < 0
  · clear hr0
    go_wp2
    go_ret
    exact ⟨rfl, hq0⟩
  have hlim0 : z0.length + rowsLen z0 ≤ 1048576 := by omega
  have hrl0 : r0 ≤ 1048576 := by omega
  have hz0 := h0.items hlim0
  have ht0 : tot (lens z0) ≤ 1048576 := by rw [tot_lens]; omega
  clear hr0 h0 hc0
  go_wp2_with fail
  refine (szItemS_any v1 z1 r0 _ (h1.below hq0) (by omega) (by omega)).mono ?_
  rintro e y1 ⟨r1, rfl, hr1, hc1⟩
  have hq1 := below_then hq0 hc1
  by_cases hneg1 : r1 < 0
  · clear hr1
    go_wp2
    go_ret
    exact ⟨rfl, hq1⟩
  have hlim1 : z1.length + rowsLen z1 ≤ 1048576 := by omega
  have hrl1 : r1 ≤ 1048576 := by omega
  have hz1 := h1.items hlim1
  have ht1 : tot (lens z1) ≤ 1048576 := by rw [tot_lens]; omega
  clear hr1 h1 hc1 hq0
  have hk0 : Below w.heap.size w y1 := hq1
  have t0 := hk0.size
  clear hq1
  go_wp2_with fail
  refine (toItemS_any v0 z0 _ (hz0.below hk0) hlim0).mono ?_
  rintro e w1 ⟨a0v, rfl, A0_1, hb1⟩
  have hk1 := below_then hk0 hb1
  have s1 := hb1.size
  have t1 := hk1.size
  clear hb1 hk0
  go_wp2_with fail
  refine (toItemS_any v1 z1 _ (hz1.below hk1) hlim1).mono ?_
  rintro e w2 ⟨a1v, rfl, A1_2, hb2⟩
  have hk2 := below_then hk1 hb2
  have s2 := hb2.size
  have t2 := hk2.size
  have A0_2 := A0_1.keep' hb2
  clear hb2 A0_1 hk1
  go_wp2_with fail
  refine (toIntS_any _ ks2 _ (hz2.below hk2) hl2).mono ?_
  rintro e w3 ⟨rfl, ho3, hb3⟩
  have hk3 := below_then hk2 hb3
  have s3 := hb3.size
  have t3 := hk3.size
  have A0_3 := A0_2.keep' hb3
  have A1_3 := A1_2.keep' hb3
  clear hb3 A0_2 A1_2 hk2
  have A2_3 := own_new ho3 (by omega)
  clear ho3
  go_wp2_with fail
  refine (specNear_any a0v a1v _ z0 z1 ks2 _ A0_3.items A1_3.items A2_3.ints).mono ?_
  rw [← HO.out]
  rintro e w4 ⟨vw, rfl, W_4, hb4⟩
  have hk4 := below_then hk3 hb4
  have s4 := hb4.size
  have t4 := hk4.size
  clear hb4 A0_3 A1_3 A2_3 hk3
  go_wp2_with fail
  refine (toItemS_any v0 z0 _ (hz0.below hk4) hlim0).mono ?_
  rintro e w5 ⟨x0v, rfl, X0_5, hb5⟩
  have hk5 := below_then hk4 hb5
  have s5 := hb5.size
  have t5 := hk5.size
  have W_5 := W_4.keep' hb5
  clear hb5 W_4 hk4
  go_wp2_with fail
  refine (toItemS_any v1 z1 _ (hz1.below hk5) hlim1).mono ?_
  rintro e w6 ⟨x1v, rfl, X1_6, hb6⟩
  have hk6 := below_then hk5 hb6
  have s6 := hb6.size
  have t6 := hk6.size
  have W_6 := W_5.keep' hb6
  have X0_6 := X0_5.keep' hb6
  clear hb6 W_5 X0_5 hk5
  go_wp2_with fail
  refine (toIntS_any _ ks2 _ (hz2.below hk6) hl2).mono ?_
  rintro e w7 ⟨rfl, ho7, hb7⟩
  have hk7 := below_then hk6 hb7
  have s7 := hb7.size
  have t7 := hk7.size
  have W_7 := W_6.keep' hb7
  have X0_7 := X0_6.keep' hb7
  have X1_7 := X1_6.keep' hb7
  clear hb7 W_6 X0_6 X1_6 hk6
  have X2_7 := own_new ho7 (by omega)
  clear ho7
  go_wp2_with fail
  refine (implNear_any x0v x1v _ z0 z1 ks2 _ (hcond.below hk7) X0_7.items X1_7.items X2_7.tailI).mono ?_
  rw [← HO.out]
  rintro e w8 ⟨vg, rfl, Gg_8, hb8⟩
  have hk8 := below_then hk7 hb8
  have s8 := hb8.size
  have t8 := hk8.size
  have W_8 := W_7.keep' hb8
  have X0_8 := X0_7.keep' hb8
  have X1_8 := X1_7.keep' hb8
  have X2_8 := X2_7.keep' hb8
  clear hb8 W_7 X0_7 X1_7 X2_7 hk7
  go_wp2_with fail
  refine (eqItemS_self vg vw os _ Gg_8.items W_8.items).mono ?_
  rintro e w9 ⟨rfl, hb9⟩
  have hk9 := below_then hk8 hb9
  have s9 := hb9.size
  have t9 := hk9.size
  have W_9 := W_8.keep' hb9
  have X0_9 := X0_8.keep' hb9
  have X1_9 := X1_8.keep' hb9
  have X2_9 := X2_8.keep' hb9
  have Gg_9 := Gg_8.keep' hb9
  clear hb9 W_8 X0_8 X1_8 X2_8 Gg_8 hk8
  go_wp2_with fail
  refine (toItemS_any v0 z0 _ (hz0.below hk9) hlim0).mono ?_
  rintro e w10 ⟨c0v, rfl, C0_10, hb10⟩
  have hk10 := below_then hk9 hb10
  have s10 := hb10.size
  have t10 := hk10.size
  have W_10 := W_9.keep' hb10
  have X0_10 := X0_9.keep' hb10
  have X1_10 := X1_9.keep' hb10
  have X2_10 := X2_9.keep' hb10
  have Gg_10 := Gg_9.keep' hb10
  clear hb10 W_9 X0_9 X1_9 X2_9 Gg_9 hk9
  go_wp2_with fail
  refine (eqItemS_self x0v c0v z0 _ X0_10.items C0_10.items).mono ?_
  rintro e w11 ⟨rfl, hb11⟩
  have hk11 := below_then hk10 hb11
  have s11 := hb11.size
  have t11 := hk11.size
  have W_11 := W_10.keep' hb11
  have X0_11 := X0_10.keep' hb11
  have X1_11 := X1_10.keep' hb11
  have X2_11 := X2_10.keep' hb11
  have Gg_11 := Gg_10.keep' hb11
  clear hb11 W_10 X0_10 X1_10 X2_10 Gg_10 C0_10 hk10
  go_wp2_with fail
  refine (toItemS_any v1 z1 _ (hz1.below hk11) hlim1).mono ?_
  rintro e w12 ⟨c1v, rfl, C1_12, hb12⟩
  have hk12 := below_then hk11 hb12
  have s12 := hb12.size
  have t12 := hk12.size
  have W_12 := W_11.keep' hb12
  have X0_12 := X0_11.keep' hb12
  have X1_12 := X1_11.keep' hb12
  have X2_12 := X2_11.keep' hb12
  have Gg_12 := Gg_11.keep' hb12
  clear hb12 W_11 X0_11 X1_11 X2_11 Gg_11 hk11
  go_wp2_with fail
  refine (eqItemS_self x1v c1v z1 _ X1_12.items C1_12.items).mono ?_
  rintro e w13 ⟨rfl, hb13⟩
  have hk13 := below_then hk12 hb13
  have s13 := hb13.size
  have t13 := hk13.size
  have W_13 := W_12.keep' hb13
  have X0_13 := X0_12.keep' hb13
  have X1_13 := X1_12.keep' hb13
  have X2_13 := X2_12.keep' hb13
  have Gg_13 := Gg_12.keep' hb13
  clear hb13 W_12 X0_12 X1_12 X2_12 Gg_12 C1_12 hk12
  go_wp2_with fail
  refine (toIntS_any _ ks2 _ (hz2.below hk13) hl2).mono ?_
  rintro e w14 ⟨rfl, ho14, hb14⟩
  have hk14 := below_then hk13 hb14
  have s14 := hb14.size
  have t14 := hk14.size
  have W_14 := W_13.keep' hb14
  have X0_14 := X0_13.keep' hb14
  have X1_14 := X1_13.keep' hb14
  have X2_14 := X2_13.keep' hb14
  have Gg_14 := Gg_13.keep' hb14
  clear hb14 W_13 X0_13 X1_13 X2_13 Gg_13 hk13
  have C2_14 := own_new ho14 (by omega)
  clear ho14
  go_wp2_with fail
  refine (eqIntS_any _ _ ks2 ks2 _ X2_14.ints C2_14.ints).mono ?_
  rintro e w15 ⟨rfl, hb15⟩
  have hk15 := below_then hk14 hb15
  have s15 := hb15.size
  have t15 := hk15.size
  have W_15 := W_14.keep' hb15
  have X0_15 := X0_14.keep' hb15
  have X1_15 := X1_14.keep' hb15
  have X2_15 := X2_14.keep' hb15
  have Gg_15 := Gg_14.keep' hb15
  clear hb15 W_14 X0_14 X1_14 X2_14 Gg_14 C2_14 hk14
  rw [sameB_refl]
  go_wp2_with fail
  refine (markItemS_any x0v _ _ z0 1 _ (by omega) (by omega) (by omega) X0_15).mono ?_
  rintro e w16 ⟨rfl, -, O16⟩
  have hk16 : Below w.heap.size w w16 := O16.below hk15 (by omega) hk15.size
  have s16 := O16.size
  have W_16 := W_15.only O16 (by omega)
  have X1_16 := X1_15.only O16 (by omega)
  have X2_16 := X2_15.only O16 (by omega)
  have Gg_16 := Gg_15.only O16 (by omega)
  clear O16 hk15 W_15 X0_15 X1_15 X2_15 Gg_15
  obtain ⟨k0, HK0⟩ : ∃ k : Int, Hid (k = 1 + tot (lens z0)) := ⟨_, rfl⟩
  have kb0 : 0 ≤ k0 ∧ k0 ≤ 1048577 := by rw [HK0.out]; omega
  rw [← HK0.out]
  go_wp2_with fail
  refine (markItemS_any x1v _ _ z1 k0 _ (by omega) (by omega) (by omega) X1_16).mono ?_
  rintro e w17 ⟨rfl, -, O17⟩
  have hk17 : Below w.heap.size w w17 := O17.below hk16 (by omega) hk16.size
  have s17 := O17.size
  have W_17 := W_16.only O17 (by omega)
  have X2_17 := X2_16.only O17 (by omega)
  have Gg_17 := Gg_16.only O17 (by omega)
  clear O17 hk16 W_16 X1_16 X2_16 Gg_16
  obtain ⟨k1, HK1⟩ : ∃ k : Int, Hid (k = k0 + tot (lens z1)) := ⟨_, rfl⟩
  have kb1 : 0 ≤ k1 ∧ k1 ≤ 2097153 := by rw [HK1.out]; omega
  rw [← HK1.out]
  go_wp2_with fail
  refine (markIntS_any _ _ _ ks2 k1 _ (by omega) (by omega) X2_17).mono ?_
  rintro e w18 ⟨rfl, -, G18⟩
  have O18 := Only.of_grown G18 (fun k e => ⟨(X2_17.1.lt k e).1, X2_17.2.1 k e⟩)
  clear G18
  have hk18 : Below w.heap.size w w18 := O18.below hk17 (by omega) hk17.size
  have s18 := O18.size
  have W_18 := W_17.only O18 (by omega)
  have Gg_18 := Gg_17.only O18 (by omega)
  clear O18 hk17 W_17 X2_17 Gg_17
  obtain ⟨k2, HK2⟩ : ∃ k : Int, Hid (k = k1 + (ks2.length : Int)) := ⟨_, rfl⟩
  have kb2 : 0 ≤ k2 ∧ k2 ≤ 3145729 := by rw [HK2.out]; omega
  rw [← HK2.out]
  have hkn : ¬ k2 < 0 := by omega
  go_wp2_with fail
  refine (eqItemS_self vg vw os _ Gg_18.items W_18.items).mono ?_
  rintro e w19 ⟨rfl, hb19⟩
  have hk19 := below_then hk18 hb19
  have s19 := hb19.size
  have t19 := hk19.size
  have W_19 := W_18.keep' hb19
  have Gg_19 := Gg_18.keep' hb19
  clear hb19 W_18 Gg_18 hk18
  go_wp2_with fail
  refine (markItemS_any vg _ _ os 1 _ (by omega) (by omega) hos2 Gg_19).mono ?_
  rintro e w20 ⟨rfl, Gg_20, O20⟩
  have hk20 : Below w.heap.size w w20 := O20.below hk19 (by omega) hk19.size
  have W_20 := W_19.only O20 (by omega)
  clear O20 hk19 W_19 Gg_19
  go_wp2_with fail
  refine (heldItemS_any vg (lens os) 1 _ (by omega) (by omega) hos2 Gg_20.items).mono ?_
  rintro e wh ⟨rfl, rfl⟩
  go_wp2_with fail
  refine (toItemS_any v0 z0 _ (hz0.below hk20) hlim0).mono ?_
  rintro e w21 ⟨y0v, rfl, Y0_21, hb21⟩
  have hk21 := below_then hk20 hb21
  have s21 := hb21.size
  have t21 := hk21.size
  have W_21 := W_20.keep' hb21
  have Gg_21 := Gg_20.keep' hb21
  clear hb21 W_20 Gg_20 hk20
  go_wp2_with fail
  refine (toItemS_any v1 z1 _ (hz1.below hk21) hlim1).mono ?_
  rintro e w22 ⟨y1v, rfl, Y1_22, hb22⟩
  have hk22 := below_then hk21 hb22
  have s22 := hb22.size
  have t22 := hk22.size
  have W_22 := W_21.keep' hb22
  have Gg_22 := Gg_21.keep' hb22
  have Y0_22 := Y0_21.keep' hb22
  clear hb22 W_21 Gg_21 Y0_21 hk21
  go_wp2_with fail
  refine (toIntS_any _ ks2 _ (hz2.below hk22) hl2).mono ?_
  rintro e w23 ⟨rfl, ho23, hb23⟩
  have hk23 := below_then hk22 hb23
  have s23 := hb23.size
  have t23 := hk23.size
  have W_23 := W_22.keep' hb23
  have Gg_23 := Gg_22.keep' hb23
  have Y0_23 := Y0_22.keep' hb23
  have Y1_23 := Y1_22.keep' hb23
  clear hb23 W_22 Gg_22 Y0_22 Y1_22 hk22
  have Y2_23 := own_new ho23 (by omega)
  clear ho23
  go_wp2_with fail
  refine (implNear_any y0v y1v _ z0 z1 ks2 _ (hcond.below hk23) Y0_23.items Y1_23.items Y2_23.tailI).mono ?_
  rw [← HO.out]
  rintro e w24 ⟨vh, rfl, H_24, hb24⟩
  have hk24 := below_then hk23 hb24
  have s24 := hb24.size
  have t24 := hk24.size
  have W_24 := W_23.keep' hb24
  have Gg_24 := Gg_23.keep' hb24
  clear hb24 W_23 Gg_23 Y0_23 Y1_23 Y2_23 hk23
  go_wp2_with fail
  refine (eqItemS_self vh vw os _ H_24.items W_24.items).mono ?_
  rintro e w25 ⟨rfl, hb25⟩
  have hk25 := below_then hk24 hb25
  have s25 := hb25.size
  have t25 := hk25.size
  have Gg_25 := Gg_24.keep' hb25
  clear hb25 W_24 Gg_24 H_24 hk24
  go_wp2_with fail
  refine (heldItemS_any vg (lens os) 1 _ (by omega) (by omega) hos2 Gg_25.items).mono ?_
  rintro e wz ⟨rfl, rfl⟩
  clear Gg_25 hz0 hz1 hz2
  go_wp2
  go_ret
  exact ⟨rfl, hk25⟩

end Go.Proofs.YtjbfgfgldchfnaaDoor
