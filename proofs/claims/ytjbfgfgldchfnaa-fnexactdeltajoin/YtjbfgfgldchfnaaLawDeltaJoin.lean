/-
  The walk of laws.FnExactDeltaJoin, out of the contracts: it answers true at all arguments, and nothing that was there is written.
-/
import Derived.Test.YtjbfgfgldchfnaaDeltaJoin
import Derived.Test.YtjbfgfgldchfnaaLawKit
namespace Go.Proofs.Ytjbfgfgldchfnaa
open Go.RowKit

theorem djOut_small (a da b db : List It) (x y : Int) : (djOut a da b db x y).length ≤ 100 ∧ tot (lens (djOut a da b db x y)) ≤ 4194304 := by
  have hz : djOut a da b db x y = [] ∨ zOkB (djOut a da b db x y) = true := by
    unfold djOut
    cases hok : djOk a da b db x y with
    | false => exact .inl rfl
    | true =>
      right
      unfold djOk at hok
      simp only [Bool.and_eq_true] at hok
      exact hok.2
  rcases hz with hz | hz
  · rw [hz]; simp [tot, lens]
  · generalize djOut a da b db x y = o at hz
    have h1 := zOk_le hz
    have h3 : rowsLen o ≤ o.length * 6 := rowsLen_le fun p hp => zOk_mem hz hp
    rw [tot_lens]
    exact ⟨by omega, by omega⟩

set_option maxRecDepth 100000
set_option maxHeartbeats 16000000 in
theorem lawDeltaJoin (v0 : Value) (z0 : List It) (v1 : Value) (z1 : List It) (v2 : Value) (z2 : List It) (v3 : Value) (z3 : List It) (x4 : Int) (x5 : Int) (w : World) (h0 : RawItems w v0 z0) (_ : WfItems z0) (h1 : RawItems w v1 z1) (_ : WfItems z1) (h2 : RawItems w v2 z2) (_ : WfItems z2) (h3 : RawItems w v3 z3) (_ : WfItems z3) :
    Calls Try.prog 3 #[v0, v1, v2, v3, .int .i64 x4, .int .i64 x5] w fun e w' => e = .returned (.bool true) ∧ Below w.heap.size w w' := by
  obtain ⟨os, HO⟩ : ∃ os, Hid (os = djOut z0 z1 z2 z3 x4 x5) := ⟨_, rfl⟩
  obtain ⟨c, HC⟩ : ∃ c, Hid (c = djOk z0 z1 z2 z3 x4 x5) := ⟨_, rfl⟩
  have hos : os.length ≤ 100 ∧ tot (lens os) ≤ 4194304 := by rw [HO.out]; exact djOut_small z0 z1 z2 z3 x4 x5
  obtain ⟨hos1, hos2⟩ := hos
  go_enter Try.func3, Try.ntmps3
  go_wp2_with fail
  refine (szItemS_any v0 z0 1048576 _ h0 (by omega) (by omega)).mono ?_
  rintro e y0 ⟨r0, rfl, hr0, hc0⟩
  have hq0 := hc0
  by_cases hneg0 : r0 < 0
  · clear hr0
    go_wp2
    go_ret
    exact ⟨rfl, hq0⟩
  · skip
    have hlim0 : z0.length + rowsLen z0 ≤ 1048576 := by omega
    have hrl0 : r0 ≤ 1048576 := by omega
    have hz0 := h0.items hlim0
    have ht0 : tot (lens z0) ≤ 1048576 := by rw [tot_lens]; omega
    clear hr0 h0 hc0
    go_wp2_with fail
    refine (szItemS_any v1 z1 r0 _ (h1.below hq0) (by omega) (by omega)).mono ?_
    rintro e y1 ⟨r1, rfl, hr1, hc1⟩
    have hq1 := below_then hq0 hc1
    by_cases hneg1 : r1 < 0
    · clear hr1
      go_wp2
      go_ret
      exact ⟨rfl, hq1⟩
    · skip
      have hlim1 : z1.length + rowsLen z1 ≤ 1048576 := by omega
      have hrl1 : r1 ≤ 1048576 := by omega
      have hz1 := h1.items hlim1
      have ht1 : tot (lens z1) ≤ 1048576 := by rw [tot_lens]; omega
      clear hr1 h1 hc1 hq0
      go_wp2_with fail
      refine (szItemS_any v2 z2 r1 _ (h2.below hq1) (by omega) (by omega)).mono ?_
      rintro e y2 ⟨r2, rfl, hr2, hc2⟩
      have hq2 := below_then hq1 hc2
      by_cases hneg2 : r2 < 0
      · clear hr2
        go_wp2
        go_ret
        exact ⟨rfl, hq2⟩
      · skip
        have hlim2 : z2.length + rowsLen z2 ≤ 1048576 := by omega
        have hrl2 : r2 ≤ 1048576 := by omega
        have hz2 := h2.items hlim2
        have ht2 : tot (lens z2) ≤ 1048576 := by rw [tot_lens]; omega
        clear hr2 h2 hc2 hq1
        go_wp2_with fail
        refine (szItemS_any v3 z3 r2 _ (h3.below hq2) (by omega) (by omega)).mono ?_
        rintro e y3 ⟨r3, rfl, hr3, hc3⟩
        have hq3 := below_then hq2 hc3
        by_cases hneg3 : r3 < 0
        · clear hr3
          go_wp2
          go_ret
          exact ⟨rfl, hq3⟩
        · skip
          have hlim3 : z3.length + rowsLen z3 ≤ 1048576 := by omega
          have hrl3 : r3 ≤ 1048576 := by omega
          have hz3 := h3.items hlim3
          have ht3 : tot (lens z3) ≤ 1048576 := by rw [tot_lens]; omega
          clear hr3 h3 hc3 hq2
          have hk0 : Below w.heap.size w y3 := hq3
          have t0 := hk0.size
          clear hq3
          go_wp2_with fail
          refine (toItemS_any v0 z0 _ (hz0.below hk0) hlim0).mono ?_
          rintro e w1 ⟨aa0, rfl, A0_1, hb1⟩
          have hk1 := below_then hk0 hb1
          have s1 := hb1.size
          have t1 := hk1.size
          clear hb1 hk0
          go_wp2_with fail
          refine (toItemS_any v1 z1 _ (hz1.below hk1) hlim1).mono ?_
          rintro e w2 ⟨aa1, rfl, A1_2, hb2⟩
          have hk2 := below_then hk1 hb2
          have s2 := hb2.size
          have t2 := hk2.size
          have A0_2 := A0_1.keep' hb2
          clear hb2 A0_1 hk1
          go_wp2_with fail
          refine (toItemS_any v2 z2 _ (hz2.below hk2) hlim2).mono ?_
          rintro e w3 ⟨aa2, rfl, A2_3, hb3⟩
          have hk3 := below_then hk2 hb3
          have s3 := hb3.size
          have t3 := hk3.size
          have A0_3 := A0_2.keep' hb3
          have A1_3 := A1_2.keep' hb3
          clear hb3 A0_2 A1_2 hk2
          go_wp2_with fail
          refine (toItemS_any v3 z3 _ (hz3.below hk3) hlim3).mono ?_
          rintro e w4 ⟨aa3, rfl, A3_4, hb4⟩
          have hk4 := below_then hk3 hb4
          have s4 := hb4.size
          have t4 := hk4.size
          have A0_4 := A0_3.keep' hb4
          have A1_4 := A1_3.keep' hb4
          have A2_4 := A2_3.keep' hb4
          clear hb4 A0_3 A1_3 A2_3 hk3
          go_wp2_with fail
          refine (specDeltaJoin_any aa0 aa1 aa2 aa3 z0 z1 z2 z3 x4 x5 _ A0_4.items A1_4.items A2_4.items A3_4.items).mono ?_
          rw [← HO.out, ← HC.out]
          rintro e w5 ⟨vw, rfl, W_5, hb5⟩
          have hk5 := below_then hk4 hb5
          have s5 := hb5.size
          have t5 := hk5.size
          clear hb5 A0_4 A1_4 A2_4 A3_4 hk4
          go_wp2_with fail
          refine (toItemS_any v0 z0 _ (hz0.below hk5) hlim0).mono ?_
          rintro e w6 ⟨xx0, rfl, X0_6, hb6⟩
          have hk6 := below_then hk5 hb6
          have s6 := hb6.size
          have t6 := hk6.size
          have W_6 := W_5.keep' hb6
          clear hb6 W_5 hk5
          go_wp2_with fail
          refine (toItemS_any v1 z1 _ (hz1.below hk6) hlim1).mono ?_
          rintro e w7 ⟨xx1, rfl, X1_7, hb7⟩
          have hk7 := below_then hk6 hb7
          have s7 := hb7.size
          have t7 := hk7.size
          have W_7 := W_6.keep' hb7
          have X0_7 := X0_6.keep' hb7
          clear hb7 W_6 X0_6 hk6
          go_wp2_with fail
          refine (toItemS_any v2 z2 _ (hz2.below hk7) hlim2).mono ?_
          rintro e w8 ⟨xx2, rfl, X2_8, hb8⟩
          have hk8 := below_then hk7 hb8
          have s8 := hb8.size
          have t8 := hk8.size
          have W_8 := W_7.keep' hb8
          have X0_8 := X0_7.keep' hb8
          have X1_8 := X1_7.keep' hb8
          clear hb8 W_7 X0_7 X1_7 hk7
          go_wp2_with fail
          refine (toItemS_any v3 z3 _ (hz3.below hk8) hlim3).mono ?_
          rintro e w9 ⟨xx3, rfl, X3_9, hb9⟩
          have hk9 := below_then hk8 hb9
          have s9 := hb9.size
          have t9 := hk9.size
          have W_9 := W_8.keep' hb9
          have X0_9 := X0_8.keep' hb9
          have X1_9 := X1_8.keep' hb9
          have X2_9 := X2_8.keep' hb9
          clear hb9 W_8 X0_8 X1_8 X2_8 hk8
          go_wp2_with fail
          refine (implDeltaJoin_any xx0 xx1 xx2 xx3 z0 z1 z2 z3 x4 x5 _ X0_9.items X1_9.items X2_9.items X3_9.items).mono ?_
          rw [← HO.out, ← HC.out]
          rintro e w10 ⟨vg, rfl, Gg_10, hb10⟩
          have hk10 := below_then hk9 hb10
          have s10 := hb10.size
          have t10 := hk10.size
          have W_10 := W_9.keep' hb10
          have X0_10 := X0_9.keep' hb10
          have X1_10 := X1_9.keep' hb10
          have X2_10 := X2_9.keep' hb10
          have X3_10 := X3_9.keep' hb10
          clear hb10 W_9 X0_9 X1_9 X2_9 X3_9 hk9
          go_wp2_with fail
          refine (eqItemS_self vg vw os _ Gg_10.items W_10.items).mono ?_
          rintro e w11 ⟨rfl, hb11⟩
          have hk11 := below_then hk10 hb11
          have s11 := hb11.size
          have t11 := hk11.size
          have W_11 := W_10.keep' hb11
          have X0_11 := X0_10.keep' hb11
          have X1_11 := X1_10.keep' hb11
          have X2_11 := X2_10.keep' hb11
          have X3_11 := X3_10.keep' hb11
          have Gg_11 := Gg_10.keep' hb11
          clear hb11 W_10 X0_10 X1_10 X2_10 X3_10 Gg_10 hk10
          go_wp2_with fail
          refine (toItemS_any v0 z0 _ (hz0.below hk11) hlim0).mono ?_
          rintro e w12 ⟨c0, rfl, C0_12, hb12⟩
          have hk12 := below_then hk11 hb12
          have s12 := hb12.size
          have t12 := hk12.size
          have W_12 := W_11.keep' hb12
          have X0_12 := X0_11.keep' hb12
          have X1_12 := X1_11.keep' hb12
          have X2_12 := X2_11.keep' hb12
          have X3_12 := X3_11.keep' hb12
          have Gg_12 := Gg_11.keep' hb12
          clear hb12 W_11 X0_11 X1_11 X2_11 X3_11 Gg_11 hk11
          go_wp2_with fail
          refine (eqItemS_self xx0 c0 z0 _ X0_12.items C0_12.items).mono ?_
          rintro e w13 ⟨rfl, hb13⟩
          have hk13 := below_then hk12 hb13
          have s13 := hb13.size
          have t13 := hk13.size
          have W_13 := W_12.keep' hb13
          have X0_13 := X0_12.keep' hb13
          have X1_13 := X1_12.keep' hb13
          have X2_13 := X2_12.keep' hb13
          have X3_13 := X3_12.keep' hb13
          have Gg_13 := Gg_12.keep' hb13
          clear hb13 W_12 X0_12 X1_12 X2_12 X3_12 Gg_12 C0_12 hk12
          go_wp2_with fail
          refine (toItemS_any v1 z1 _ (hz1.below hk13) hlim1).mono ?_
          rintro e w14 ⟨c1, rfl, C1_14, hb14⟩
          have hk14 := below_then hk13 hb14
          have s14 := hb14.size
          have t14 := hk14.size
          have W_14 := W_13.keep' hb14
          have X0_14 := X0_13.keep' hb14
          have X1_14 := X1_13.keep' hb14
          have X2_14 := X2_13.keep' hb14
          have X3_14 := X3_13.keep' hb14
          have Gg_14 := Gg_13.keep' hb14
          clear hb14 W_13 X0_13 X1_13 X2_13 X3_13 Gg_13 hk13
          go_wp2_with fail
          refine (eqItemS_self xx1 c1 z1 _ X1_14.items C1_14.items).mono ?_
          rintro e w15 ⟨rfl, hb15⟩
          have hk15 := below_then hk14 hb15
          have s15 := hb15.size
          have t15 := hk15.size
          have W_15 := W_14.keep' hb15
          have X0_15 := X0_14.keep' hb15
          have X1_15 := X1_14.keep' hb15
          have X2_15 := X2_14.keep' hb15
          have X3_15 := X3_14.keep' hb15
          have Gg_15 := Gg_14.keep' hb15
          clear hb15 W_14 X0_14 X1_14 X2_14 X3_14 Gg_14 C1_14 hk14
          go_wp2_with fail
          refine (toItemS_any v2 z2 _ (hz2.below hk15) hlim2).mono ?_
          rintro e w16 ⟨c2, rfl, C2_16, hb16⟩
          have hk16 := below_then hk15 hb16
          have s16 := hb16.size
          have t16 := hk16.size
          have W_16 := W_15.keep' hb16
          have X0_16 := X0_15.keep' hb16
          have X1_16 := X1_15.keep' hb16
          have X2_16 := X2_15.keep' hb16
          have X3_16 := X3_15.keep' hb16
          have Gg_16 := Gg_15.keep' hb16
          clear hb16 W_15 X0_15 X1_15 X2_15 X3_15 Gg_15 hk15
          go_wp2_with fail
          refine (eqItemS_self xx2 c2 z2 _ X2_16.items C2_16.items).mono ?_
          rintro e w17 ⟨rfl, hb17⟩
          have hk17 := below_then hk16 hb17
          have s17 := hb17.size
          have t17 := hk17.size
          have W_17 := W_16.keep' hb17
          have X0_17 := X0_16.keep' hb17
          have X1_17 := X1_16.keep' hb17
          have X2_17 := X2_16.keep' hb17
          have X3_17 := X3_16.keep' hb17
          have Gg_17 := Gg_16.keep' hb17
          clear hb17 W_16 X0_16 X1_16 X2_16 X3_16 Gg_16 C2_16 hk16
          go_wp2_with fail
          refine (toItemS_any v3 z3 _ (hz3.below hk17) hlim3).mono ?_
          rintro e w18 ⟨c3, rfl, C3_18, hb18⟩
          have hk18 := below_then hk17 hb18
          have s18 := hb18.size
          have t18 := hk18.size
          have W_18 := W_17.keep' hb18
          have X0_18 := X0_17.keep' hb18
          have X1_18 := X1_17.keep' hb18
          have X2_18 := X2_17.keep' hb18
          have X3_18 := X3_17.keep' hb18
          have Gg_18 := Gg_17.keep' hb18
          clear hb18 W_17 X0_17 X1_17 X2_17 X3_17 Gg_17 hk17
          go_wp2_with fail
          refine (eqItemS_self xx3 c3 z3 _ X3_18.items C3_18.items).mono ?_
          rintro e w19 ⟨rfl, hb19⟩
          have hk19 := below_then hk18 hb19
          have s19 := hb19.size
          have t19 := hk19.size
          have W_19 := W_18.keep' hb19
          have X0_19 := X0_18.keep' hb19
          have X1_19 := X1_18.keep' hb19
          have X2_19 := X2_18.keep' hb19
          have X3_19 := X3_18.keep' hb19
          have Gg_19 := Gg_18.keep' hb19
          clear hb19 W_18 X0_18 X1_18 X2_18 X3_18 Gg_18 C3_18 hk18
          go_wp2_with fail
          refine (markItemS_any xx0 _ _ z0 1 _ (by omega) (by omega) (by omega) X0_19).mono ?_
          rintro e w20 ⟨rfl, -, O20⟩
          have hk20 : Below w.heap.size w w20 := O20.below hk19 (by omega) hk19.size
          have s20 := O20.size
          have W_20 := W_19.only O20 (by omega)
          have X1_20 := X1_19.only O20 (by omega)
          have X2_20 := X2_19.only O20 (by omega)
          have X3_20 := X3_19.only O20 (by omega)
          have Gg_20 := Gg_19.only O20 (by omega)
          clear O20 hk19 W_19 X0_19 X1_19 X2_19 X3_19 Gg_19
          obtain ⟨k0, HK0⟩ : ∃ k : Int, Hid (k = 1 + tot (lens z0)) := ⟨_, rfl⟩
          have kb0 : 0 ≤ k0 ∧ k0 ≤ 1048577 := by rw [HK0.out]; omega
          rw [← HK0.out]
          go_wp2_with fail
          refine (markItemS_any xx1 _ _ z1 k0 _ (by omega) (by omega) (by omega) X1_20).mono ?_
          rintro e w21 ⟨rfl, -, O21⟩
          have hk21 : Below w.heap.size w w21 := O21.below hk20 (by omega) hk20.size
          have s21 := O21.size
          have W_21 := W_20.only O21 (by omega)
          have X2_21 := X2_20.only O21 (by omega)
          have X3_21 := X3_20.only O21 (by omega)
          have Gg_21 := Gg_20.only O21 (by omega)
          clear O21 hk20 W_20 X1_20 X2_20 X3_20 Gg_20
          obtain ⟨k1, HK1⟩ : ∃ k : Int, Hid (k = k0 + tot (lens z1)) := ⟨_, rfl⟩
          have kb1 : 0 ≤ k1 ∧ k1 ≤ 2097153 := by rw [HK1.out]; omega
          rw [← HK1.out]
          go_wp2_with fail
          refine (markItemS_any xx2 _ _ z2 k1 _ (by omega) (by omega) (by omega) X2_21).mono ?_
          rintro e w22 ⟨rfl, -, O22⟩
          have hk22 : Below w.heap.size w w22 := O22.below hk21 (by omega) hk21.size
          have s22 := O22.size
          have W_22 := W_21.only O22 (by omega)
          have X3_22 := X3_21.only O22 (by omega)
          have Gg_22 := Gg_21.only O22 (by omega)
          clear O22 hk21 W_21 X2_21 X3_21 Gg_21
          obtain ⟨k2, HK2⟩ : ∃ k : Int, Hid (k = k1 + tot (lens z2)) := ⟨_, rfl⟩
          have kb2 : 0 ≤ k2 ∧ k2 ≤ 3145729 := by rw [HK2.out]; omega
          rw [← HK2.out]
          go_wp2_with fail
          refine (markItemS_any xx3 _ _ z3 k2 _ (by omega) (by omega) (by omega) X3_22).mono ?_
          rintro e w23 ⟨rfl, -, O23⟩
          have hk23 : Below w.heap.size w w23 := O23.below hk22 (by omega) hk22.size
          have s23 := O23.size
          have W_23 := W_22.only O23 (by omega)
          have Gg_23 := Gg_22.only O23 (by omega)
          clear O23 hk22 W_22 X3_22 Gg_22
          obtain ⟨k3, HK3⟩ : ∃ k : Int, Hid (k = k2 + tot (lens z3)) := ⟨_, rfl⟩
          have kb3 : 0 ≤ k3 ∧ k3 ≤ 4194305 := by rw [HK3.out]; omega
          rw [← HK3.out]
          have hkn : ¬ k3 < 0 := by omega
          go_wp2_with fail
          refine (eqItemS_self vg vw os _ Gg_23.items W_23.items).mono ?_
          rintro e w24 ⟨rfl, hb24⟩
          have hk24 := below_then hk23 hb24
          have s24 := hb24.size
          have t24 := hk24.size
          have W_24 := W_23.keep' hb24
          have Gg_24 := Gg_23.keep' hb24
          clear hb24 W_23 Gg_23 hk23
          go_wp2_with fail
          refine (markItemS_any vg _ _ os 1 _ (by omega) (by omega) hos2 Gg_24).mono ?_
          rintro e w25 ⟨rfl, Gg_25, O25⟩
          have hk25 : Below w.heap.size w w25 := O25.below hk24 (by omega) hk24.size
          have W_25 := W_24.only O25 (by omega)
          clear O25 hk24 W_24 Gg_24
          go_wp2_with fail
          refine (heldItemS_any vg (lens os) 1 _ (by omega) (by omega) hos2 Gg_25.items).mono ?_
          rintro e wh ⟨rfl, rfl⟩
          go_wp2_with fail
          refine (toItemS_any v0 z0 _ (hz0.below hk25) hlim0).mono ?_
          rintro e w26 ⟨yy0, rfl, Y0_26, hb26⟩
          have hk26 := below_then hk25 hb26
          have s26 := hb26.size
          have t26 := hk26.size
          have W_26 := W_25.keep' hb26
          have Gg_26 := Gg_25.keep' hb26
          clear hb26 W_25 Gg_25 hk25
          go_wp2_with fail
          refine (toItemS_any v1 z1 _ (hz1.below hk26) hlim1).mono ?_
          rintro e w27 ⟨yy1, rfl, Y1_27, hb27⟩
          have hk27 := below_then hk26 hb27
          have s27 := hb27.size
          have t27 := hk27.size
          have W_27 := W_26.keep' hb27
          have Gg_27 := Gg_26.keep' hb27
          have Y0_27 := Y0_26.keep' hb27
          clear hb27 W_26 Gg_26 Y0_26 hk26
          go_wp2_with fail
          refine (toItemS_any v2 z2 _ (hz2.below hk27) hlim2).mono ?_
          rintro e w28 ⟨yy2, rfl, Y2_28, hb28⟩
          have hk28 := below_then hk27 hb28
          have s28 := hb28.size
          have t28 := hk28.size
          have W_28 := W_27.keep' hb28
          have Gg_28 := Gg_27.keep' hb28
          have Y0_28 := Y0_27.keep' hb28
          have Y1_28 := Y1_27.keep' hb28
          clear hb28 W_27 Gg_27 Y0_27 Y1_27 hk27
          go_wp2_with fail
          refine (toItemS_any v3 z3 _ (hz3.below hk28) hlim3).mono ?_
          rintro e w29 ⟨yy3, rfl, Y3_29, hb29⟩
          have hk29 := below_then hk28 hb29
          have s29 := hb29.size
          have t29 := hk29.size
          have W_29 := W_28.keep' hb29
          have Gg_29 := Gg_28.keep' hb29
          have Y0_29 := Y0_28.keep' hb29
          have Y1_29 := Y1_28.keep' hb29
          have Y2_29 := Y2_28.keep' hb29
          clear hb29 W_28 Gg_28 Y0_28 Y1_28 Y2_28 hk28
          go_wp2_with fail
          refine (implDeltaJoin_any yy0 yy1 yy2 yy3 z0 z1 z2 z3 x4 x5 _ Y0_29.items Y1_29.items Y2_29.items Y3_29.items).mono ?_
          rw [← HO.out, ← HC.out]
          rintro e w30 ⟨vh, rfl, H_30, hb30⟩
          have hk30 := below_then hk29 hb30
          have s30 := hb30.size
          have t30 := hk30.size
          have W_30 := W_29.keep' hb30
          have Gg_30 := Gg_29.keep' hb30
          clear hb30 W_29 Gg_29 Y0_29 Y1_29 Y2_29 Y3_29 hk29
          go_wp2_with fail
          refine (eqItemS_self vh vw os _ H_30.items W_30.items).mono ?_
          rintro e w31 ⟨rfl, hb31⟩
          have hk31 := below_then hk30 hb31
          have s31 := hb31.size
          have t31 := hk31.size
          have Gg_31 := Gg_30.keep' hb31
          clear hb31 W_30 Gg_30 H_30 hk30
          go_wp2_with fail
          refine (heldItemS_any vg (lens os) 1 _ (by omega) (by omega) hos2 Gg_31.items).mono ?_
          rintro e wz ⟨rfl, rfl⟩
          clear Gg_31 hz0 hz1 hz2 hz3
          go_wp2
          go_ret
          exact ⟨rfl, hk31⟩

end Go.Proofs.Ytjbfgfgldchfnaa
