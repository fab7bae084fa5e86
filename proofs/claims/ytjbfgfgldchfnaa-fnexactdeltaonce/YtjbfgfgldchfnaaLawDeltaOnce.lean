/-
  The walk of laws.FnExactDeltaOnce, out of the contracts: it answers true at all arguments, and nothing that was there is written.
-/
import Derived.Test.YtjbfgfgldchfnaaDeltaOnce
import Derived.Test.YtjbfgfgldchfnaaLawKit
namespace Go.Proofs.Ytjbfgfgldchfnaa
open Go.RowKit

theorem onceOut_small (a b : List It) : (onceOut a b).length ≤ 100 ∧ tot (lens (onceOut a b)) ≤ 4194304 := by
  have hz : onceOut a b = [] ∨ zOkB (onceOut a b) = true := by
    unfold onceOut
    cases hok : onceOk a b with
    | false => exact .inl rfl
    | true =>
      right
      unfold onceOk at hok
      simp only [Bool.and_eq_true] at hok
      exact hok.2
  rcases hz with hz | hz
  · rw [hz]; simp [tot, lens]
  · generalize onceOut a b = o at hz
    have h1 := zOk_le hz
    have h3 : rowsLen o ≤ o.length * 6 := rowsLen_le fun p hp => zOk_mem hz hp
    rw [tot_lens]
    exact ⟨by omega, by omega⟩

set_option maxRecDepth 100000
set_option maxHeartbeats 16000000 in
theorem lawDeltaOnce (v0 : Value) (z0 : List It) (v1 : Value) (z1 : List It) (w : World) (h0 : RawItems w v0 z0) (_ : WfItems z0) (h1 : RawItems w v1 z1) (_ : WfItems z1) :
    Calls Try.prog 4 #[v0, v1] w fun e w' => e = .returned (.bool true) ∧ Below w.heap.size w w' := by
  obtain ⟨os, HO⟩ : ∃ os, Hid (os = onceOut z0 z1) := ⟨_, rfl⟩
  obtain ⟨c, HC⟩ : ∃ c, Hid (c = onceOk z0 z1) := ⟨_, rfl⟩
  have hos : os.length ≤ 100 ∧ tot (lens os) ≤ 4194304 := by rw [HO.out]; exact onceOut_small z0 z1
  obtain ⟨hos1, hos2⟩ := hos
  go_enter Try.func4, Try.ntmps4
  go_wp2_with fail
  refine (szItemS_any v0 z0 1048576 _ h0 (by omega) (by omega)).mono ?_
  rintro e y0 ⟨r0, rfl, hr0, hc0⟩
  have hq0 := hc0
  by_cases hneg0 : r0 < 0
  · clear hr0
    go_wp2
    go_ret
    exact ⟨rfl, hq0⟩
  · skip
    have hlim0 : z0.length + rowsLen z0 ≤ 1048576 := by omega
    have hrl0 : r0 ≤ 1048576 := by omega
    have hz0 := h0.items hlim0
    have ht0 : tot (lens z0) ≤ 1048576 := by rw [tot_lens]; omega
    clear hr0 h0 hc0
    go_wp2_with fail
    refine (szItemS_any v1 z1 r0 _ (h1.below hq0) (by omega) (by omega)).mono ?_
    rintro e y1 ⟨r1, rfl, hr1, hc1⟩
    have hq1 := below_then hq0 hc1
    by_cases hneg1 : r1 < 0
    · clear hr1
      go_wp2
      go_ret
      exact ⟨rfl, hq1⟩
    · skip
      have hlim1 : z1.length + rowsLen z1 ≤ 1048576 := by omega
      have hrl1 : r1 ≤ 1048576 := by omega
      have hz1 := h1.items hlim1
      have ht1 : tot (lens z1) ≤ 1048576 := by rw [tot_lens]; omega
      clear hr1 h1 hc1 hq0
      have hk0 : Below w.heap.size w y1 := hq1
      have t0 := hk0.size
      clear hq1
      go_wp2_with fail
      refine (toItemS_any v0 z0 _ (hz0.below hk0) hlim0).mono ?_
      rintro e w1 ⟨aa0, rfl, A0_1, hb1⟩
      have hk1 := below_then hk0 hb1
      have s1 := hb1.size
      have t1 := hk1.size
      clear hb1 hk0
      go_wp2_with fail
      refine (toItemS_any v1 z1 _ (hz1.below hk1) hlim1).mono ?_
      rintro e w2 ⟨aa1, rfl, A1_2, hb2⟩
      have hk2 := below_then hk1 hb2
      have s2 := hb2.size
      have t2 := hk2.size
      have A0_2 := A0_1.keep' hb2
      clear hb2 A0_1 hk1
      go_wp2_with fail
      refine (specOnce_any aa0 aa1 z0 z1 _ A0_2.items A1_2.items).mono ?_
      rw [← HO.out, ← HC.out]
      rintro e w3 ⟨vw, rfl, W_3, hb3⟩
      have hk3 := below_then hk2 hb3
      have s3 := hb3.size
      have t3 := hk3.size
      clear hb3 A0_2 A1_2 hk2
      go_wp2_with fail
      refine (toItemS_any v0 z0 _ (hz0.below hk3) hlim0).mono ?_
      rintro e w4 ⟨xx0, rfl, X0_4, hb4⟩
      have hk4 := below_then hk3 hb4
      have s4 := hb4.size
      have t4 := hk4.size
      have W_4 := W_3.keep' hb4
      clear hb4 W_3 hk3
      go_wp2_with fail
      refine (toItemS_any v1 z1 _ (hz1.below hk4) hlim1).mono ?_
      rintro e w5 ⟨xx1, rfl, X1_5, hb5⟩
      have hk5 := below_then hk4 hb5
      have s5 := hb5.size
      have t5 := hk5.size
      have W_5 := W_4.keep' hb5
      have X0_5 := X0_4.keep' hb5
      clear hb5 W_4 X0_4 hk4
      go_wp2_with fail
      refine (implOnce_any xx0 xx1 z0 z1 _ X0_5.tail X1_5.tail).mono ?_
      rw [← HO.out, ← HC.out]
      rintro e w6 ⟨vg, rfl, Gg_6, hb6⟩
      have hk6 := below_then hk5 hb6
      have s6 := hb6.size
      have t6 := hk6.size
      have W_6 := W_5.keep' hb6
      have X0_6 := X0_5.keep' hb6
      have X1_6 := X1_5.keep' hb6
      clear hb6 W_5 X0_5 X1_5 hk5
      go_wp2_with fail
      refine (eqItemS_self vg vw os _ Gg_6.items W_6.items).mono ?_
      rintro e w7 ⟨rfl, hb7⟩
      have hk7 := below_then hk6 hb7
      have s7 := hb7.size
      have t7 := hk7.size
      have W_7 := W_6.keep' hb7
      have X0_7 := X0_6.keep' hb7
      have X1_7 := X1_6.keep' hb7
      have Gg_7 := Gg_6.keep' hb7
      clear hb7 W_6 X0_6 X1_6 Gg_6 hk6
      go_wp2_with fail
      refine (toItemS_any v0 z0 _ (hz0.below hk7) hlim0).mono ?_
      rintro e w8 ⟨c0, rfl, C0_8, hb8⟩
      have hk8 := below_then hk7 hb8
      have s8 := hb8.size
      have t8 := hk8.size
      have W_8 := W_7.keep' hb8
      have X0_8 := X0_7.keep' hb8
      have X1_8 := X1_7.keep' hb8
      have Gg_8 := Gg_7.keep' hb8
      clear hb8 W_7 X0_7 X1_7 Gg_7 hk7
      go_wp2_with fail
      refine (eqItemS_self xx0 c0 z0 _ X0_8.items C0_8.items).mono ?_
      rintro e w9 ⟨rfl, hb9⟩
      have hk9 := below_then hk8 hb9
      have s9 := hb9.size
      have t9 := hk9.size
      have W_9 := W_8.keep' hb9
      have X0_9 := X0_8.keep' hb9
      have X1_9 := X1_8.keep' hb9
      have Gg_9 := Gg_8.keep' hb9
      clear hb9 W_8 X0_8 X1_8 Gg_8 C0_8 hk8
      go_wp2_with fail
      refine (toItemS_any v1 z1 _ (hz1.below hk9) hlim1).mono ?_
      rintro e w10 ⟨c1, rfl, C1_10, hb10⟩
      have hk10 := below_then hk9 hb10
      have s10 := hb10.size
      have t10 := hk10.size
      have W_10 := W_9.keep' hb10
      have X0_10 := X0_9.keep' hb10
      have X1_10 := X1_9.keep' hb10
      have Gg_10 := Gg_9.keep' hb10
      clear hb10 W_9 X0_9 X1_9 Gg_9 hk9
      go_wp2_with fail
      refine (eqItemS_self xx1 c1 z1 _ X1_10.items C1_10.items).mono ?_
      rintro e w11 ⟨rfl, hb11⟩
      have hk11 := below_then hk10 hb11
      have s11 := hb11.size
      have t11 := hk11.size
      have W_11 := W_10.keep' hb11
      have X0_11 := X0_10.keep' hb11
      have X1_11 := X1_10.keep' hb11
      have Gg_11 := Gg_10.keep' hb11
      clear hb11 W_10 X0_10 X1_10 Gg_10 C1_10 hk10
      go_wp2_with fail
      refine (markItemS_any xx0 _ _ z0 1 _ (by omega) (by omega) (by omega) X0_11).mono ?_
      rintro e w12 ⟨rfl, -, O12⟩
      have hk12 : Below w.heap.size w w12 := O12.below hk11 (by omega) hk11.size
      have s12 := O12.size
      have W_12 := W_11.only O12 (by omega)
      have X1_12 := X1_11.only O12 (by omega)
      have Gg_12 := Gg_11.only O12 (by omega)
      clear O12 hk11 W_11 X0_11 X1_11 Gg_11
      obtain ⟨k0, HK0⟩ : ∃ k : Int, Hid (k = 1 + tot (lens z0)) := ⟨_, rfl⟩
      have kb0 : 0 ≤ k0 ∧ k0 ≤ 1048577 := by rw [HK0.out]; omega
      rw [← HK0.out]
      go_wp2_with fail
      refine (markItemS_any xx1 _ _ z1 k0 _ (by omega) (by omega) (by omega) X1_12).mono ?_
      rintro e w13 ⟨rfl, -, O13⟩
      have hk13 : Below w.heap.size w w13 := O13.below hk12 (by omega) hk12.size
      have s13 := O13.size
      have W_13 := W_12.only O13 (by omega)
      have Gg_13 := Gg_12.only O13 (by omega)
      clear O13 hk12 W_12 X1_12 Gg_12
      obtain ⟨k1, HK1⟩ : ∃ k : Int, Hid (k = k0 + tot (lens z1)) := ⟨_, rfl⟩
      have kb1 : 0 ≤ k1 ∧ k1 ≤ 2097153 := by rw [HK1.out]; omega
      rw [← HK1.out]
      have hkn : ¬ k1 < 0 := by omega
      go_wp2_with fail
      refine (eqItemS_self vg vw os _ Gg_13.items W_13.items).mono ?_
      rintro e w14 ⟨rfl, hb14⟩
      have hk14 := below_then hk13 hb14
      have s14 := hb14.size
      have t14 := hk14.size
      have W_14 := W_13.keep' hb14
      have Gg_14 := Gg_13.keep' hb14
      clear hb14 W_13 Gg_13 hk13
      go_wp2_with fail
      refine (markItemS_any vg _ _ os 1 _ (by omega) (by omega) hos2 Gg_14).mono ?_
      rintro e w15 ⟨rfl, Gg_15, O15⟩
      have hk15 : Below w.heap.size w w15 := O15.below hk14 (by omega) hk14.size
      have W_15 := W_14.only O15 (by omega)
      clear O15 hk14 W_14 Gg_14
      go_wp2_with fail
      refine (heldItemS_any vg (lens os) 1 _ (by omega) (by omega) hos2 Gg_15.items).mono ?_
      rintro e wh ⟨rfl, rfl⟩
      go_wp2_with fail
      refine (toItemS_any v0 z0 _ (hz0.below hk15) hlim0).mono ?_
      rintro e w16 ⟨yy0, rfl, Y0_16, hb16⟩
      have hk16 := below_then hk15 hb16
      have s16 := hb16.size
      have t16 := hk16.size
      have W_16 := W_15.keep' hb16
      have Gg_16 := Gg_15.keep' hb16
      clear hb16 W_15 Gg_15 hk15
      go_wp2_with fail
      refine (toItemS_any v1 z1 _ (hz1.below hk16) hlim1).mono ?_
      rintro e w17 ⟨yy1, rfl, Y1_17, hb17⟩
      have hk17 := below_then hk16 hb17
      have s17 := hb17.size
      have t17 := hk17.size
      have W_17 := W_16.keep' hb17
      have Gg_17 := Gg_16.keep' hb17
      have Y0_17 := Y0_16.keep' hb17
      clear hb17 W_16 Gg_16 Y0_16 hk16
      go_wp2_with fail
      refine (implOnce_any yy0 yy1 z0 z1 _ Y0_17.tail Y1_17.tail).mono ?_
      rw [← HO.out, ← HC.out]
      rintro e w18 ⟨vh, rfl, H_18, hb18⟩
      have hk18 := below_then hk17 hb18
      have s18 := hb18.size
      have t18 := hk18.size
      have W_18 := W_17.keep' hb18
      have Gg_18 := Gg_17.keep' hb18
      clear hb18 W_17 Gg_17 Y0_17 Y1_17 hk17
      go_wp2_with fail
      refine (eqItemS_self vh vw os _ H_18.items W_18.items).mono ?_
      rintro e w19 ⟨rfl, hb19⟩
      have hk19 := below_then hk18 hb19
      have s19 := hb19.size
      have t19 := hk19.size
      have Gg_19 := Gg_18.keep' hb19
      clear hb19 W_18 Gg_18 H_18 hk18
      go_wp2_with fail
      refine (heldItemS_any vg (lens os) 1 _ (by omega) (by omega) hos2 Gg_19.items).mono ?_
      rintro e wz ⟨rfl, rfl⟩
      clear Gg_19 hz0 hz1
      go_wp2
      go_ret
      exact ⟨rfl, hk19⟩

end Go.Proofs.Ytjbfgfgldchfnaa
