/-
  The walk of laws.FnExactRunAll, out of the contracts: it answers true at all arguments, and nothing that was there is written.
-/
import Derived.Test.YtjobidfkhaiiaaaRunOkSpec
import Derived.Test.YtjobidfkhaiiaaaRunsLaw
import Derived.Test.YtjobidfkhaiiaaaRunMarks
import Derived.Deep.DeepCutAuto
namespace Go.Proofs.Ytjobidfkhaiiaaa
set_option maxRecDepth 100000
set_option linter.unusedVariables false
open Go.RowKit

theorem togOut_small (z : Rn) : tot (lens (togOut z)) ≤ 2097152 := by
  unfold togOut
  cases hok : runOkB z with
  | false => simp [tot, lens]
  | true =>
    have hz := sum_ok hok
    have h1 := zOk_le hz
    have h3 : rowsLen (sumR z) ≤ (sumR z).length * 6 := rowsLen_le fun p hp => zOk_mem hz hp
    simp only [if_true]
    rw [tot_lens]
    omega

set_option maxHeartbeats 16000000 in
theorem lawRunAll (v0 : Value) (z0 : Rn) (w : World) (h0 : RawRuns w v0 z0) :
    Calls Try.prog 6 #[.agg #[v0]] w fun e w' => e = .returned (.bool true) ∧ Below w.heap.size w w' := by
  obtain ⟨pa0, pc0, hsh0⟩ := h0.shape
  obtain ⟨pn0, HPN0⟩ : ∃ n, Hid (n = z0.length) := ⟨_, rfl⟩
  rw [← HPN0.out] at hsh0
  subst hsh0
  obtain ⟨os, HO⟩ : ∃ os, Hid (os = togOut z0) := ⟨_, rfl⟩
  have hos2 : tot (lens os) ≤ 4194304 := by rw [HO.out]; have := togOut_small z0; omega
  go_enter Try.func6, Try.ntmps6
  have hb1 : Below w.heap.size w (w.alloc (.cells #[.slice pa0 pn0 pc0] 24)) := below_alloc _
  have s1 := hb1.size
  have hk1 := hb1
  have cP0_1 : (w.alloc (.cells #[.slice pa0 pn0 pc0] 24)).cell? ⟨w.heap.size, 0, none⟩ = some (.slice pa0 pn0 pc0) := by simp [go_sem]
  have lP0_1 : w.heap.size < (w.alloc (.cells #[.slice pa0 pn0 pc0] 24)).heap.size := by simp
  have al1 := lP0_1
  clear hb1
  go_wp2_with fail
  refine (szSpine_any _ z0 1048576 _ (h0.below hk1) (by omega) (by omega)).mono ?_
  rintro e w2 ⟨r0, rfl, hr0, hb2⟩
  have s2 := hb2.size
  have hk2 := below_then hk1 hb2
  have cP0_2 := cell_is hb2 lP0_1 cP0_1
  have lP0_2 := Nat.lt_of_lt_of_le lP0_1 hb2.size
  clear hk1 cP0_1 lP0_1
  clear hb2
  by_cases hneg0 : r0 < 0
  · clear hr0
    go_wp2
    go_ret
    exact ⟨rfl, hk2⟩
  have hlim0 : z0.length + runsLen z0 ≤ 1048576 := by omega
  have hrl0 : r0 ≤ 1048576 := by omega
  have ht0 : totR z0 ≤ 1048576 := by rw [totR_len]; omega
  clear hr0
  go_wp2_with fail
  refine (toSpine_any _ z0 _ (h0.below hk2) hlim0).mono ?_
  rintro e w3 ⟨a0v, rfl, A0_3, hb3⟩
  have s3 := hb3.size
  have hk3 := below_then hk2 hb3
  have cP0_3 := cell_is hb3 lP0_2 cP0_2
  have lP0_3 := Nat.lt_of_lt_of_le lP0_2 hb3.size
  clear hk2 cP0_2 lP0_2
  clear hb3
  obtain ⟨aa0, an0, ac0, rfl⟩ := A0_3.runs.shapeN
  go_wp2_with fail
  refine (specRunAll_any _ z0 _ A0_3.runs).mono ?_
  rw [← HO.out]
  rintro e w4 ⟨wwv, rfl, W_4, hb4⟩
  clear A0_3
  have s4 := hb4.size
  have hk4 := below_then hk3 hb4
  have cP0_4 := cell_is hb4 lP0_3 cP0_3
  have lP0_4 := Nat.lt_of_lt_of_le lP0_3 hb4.size
  clear hk3 cP0_3 lP0_3
  clear hb4
  go_wp2_with fail
  refine (toSpine_any _ z0 _ (h0.below hk4) hlim0).mono ?_
  rintro e w5 ⟨x0v, rfl, X0_5, hb5⟩
  have s5 := hb5.size
  have hk5 := below_then hk4 hb5
  have W_5 := W_4.keep' hb5
  have cP0_5 := cell_is hb5 lP0_4 cP0_4
  have lP0_5 := Nat.lt_of_lt_of_le lP0_4 hb5.size
  clear hk4 W_4 cP0_4 lP0_4
  clear hb5
  obtain ⟨xa0, xn0, xc0, rfl⟩ := X0_5.runs.shapeN
  have hb6 : Below w5.heap.size w5 (w5.alloc (.cells #[.slice xa0 xn0 xc0] 29)) := below_alloc _
  have s6 := hb6.size
  have hk6 := below_then hk5 hb6
  have W_6 := W_5.keep' hb6
  have X0_6 := X0_5.keep' hb6
  have cP0_6 := cell_is hb6 lP0_5 cP0_5
  have lP0_6 := Nat.lt_of_lt_of_le lP0_5 hb6.size
  clear hk5 W_5 X0_5 cP0_5 lP0_5
  have cX0_6 : (w5.alloc (.cells #[.slice xa0 xn0 xc0] 29)).cell? ⟨w5.heap.size, 0, none⟩ = some (.slice xa0 xn0 xc0) := by simp [go_sem]
  have lX0_6 : w5.heap.size < (w5.alloc (.cells #[.slice xa0 xn0 xc0] 29)).heap.size := by simp
  have al6 := lX0_6
  clear hb6
  go_wp2_with fail
  refine (implRunAll_any _ z0 _ X0_6.runs).mono ?_
  rw [← HO.out]
  rintro e w7 ⟨ggv, rfl, G_7, hb7⟩
  have s7 := hb7.size
  have hk7 := below_then hk6 hb7
  have W_7 := W_6.keep' hb7
  have X0_7 := X0_6.keep' hb7
  have cP0_7 := cell_is hb7 lP0_6 cP0_6
  have lP0_7 := Nat.lt_of_lt_of_le lP0_6 hb7.size
  have cX0_7 := cell_is hb7 lX0_6 cX0_6
  have lX0_7 := Nat.lt_of_lt_of_le lX0_6 hb7.size
  clear hk6 W_6 X0_6 cP0_6 lP0_6 cX0_6 lX0_6
  clear hb7
  go_wp2_with fail
  refine (eqItemS_self _ _ os _ G_7.items W_7.items).mono ?_
  rintro e w8 ⟨rfl, hb8⟩
  have s8 := hb8.size
  have hk8 := below_then hk7 hb8
  have W_8 := W_7.keep' hb8
  have X0_8 := X0_7.keep' hb8
  have G_8 := G_7.keep' hb8
  have cP0_8 := cell_is hb8 lP0_7 cP0_7
  have lP0_8 := Nat.lt_of_lt_of_le lP0_7 hb8.size
  have cX0_8 := cell_is hb8 lX0_7 cX0_7
  have lX0_8 := Nat.lt_of_lt_of_le lX0_7 hb8.size
  clear hk7 W_7 X0_7 G_7 cP0_7 lP0_7 cX0_7 lX0_7
  clear hb8
  go_upto_region 10 with fail
  go_cut [31] (fun c wx => c = .bool false ∧ Hid (Below w8.heap.size w8 wx))
  case first =>
    go_wp2_with fail
    go_region_with (first
      | (go_at_call 13; have hO := OQ; refine (eqSpine_self _ _ z0 _ (X0_8.runs.below hbp) OQ.runs).mono ?_; rintro e wq ⟨rfl, hbr⟩)
      | (go_at_call 11; refine (toSpine_any _ z0 _ (by first | exact h0.below hk8 | exact h0.below (below_drewN hk8 _) | exact h0.below (Below.drew hk8)) hlim0).mono ?_; rintro e wp ⟨qv, rfl, OQ, hbp'⟩; have hbp : Below w8.heap.size w8 wp := (by first | exact hbp' | exact below_then (below_drewN (Below.refl _ _) _) hbp' | exact below_then (Below.drew (Below.refl _ _)) hbp'); have cq : wp.cell? ⟨w5.heap.size, 0, none⟩ = some (.slice xa0 xn0 xc0) := (cell_is hbp lX0_8 cX0_8)))
    all_goals
      have hbq : Hid (Below w8.heap.size w8 wq) := below_then hbp hbr
      clear W_8 X0_8 G_8 cP0_8 cX0_8
      go_wp2_with fail
      go_meet
      case rel => exact ⟨rfl, hbq.out⟩
  case rest =>
    rename World => w9
    obtain ⟨rfl, hcb⟩ := hcut
    have hb9 := hcb.out
    have s9 := hb9.size
    have hk9 := below_then hk8 hb9
    have W_9 := W_8.keep' hb9
    have X0_9 := X0_8.keep' hb9
    have G_9 := G_8.keep' hb9
    have cP0_9 := cell_is hb9 lP0_8 cP0_8
    have lP0_9 := Nat.lt_of_lt_of_le lP0_8 hb9.size
    have cX0_9 := cell_is hb9 lX0_8 cX0_8
    have lX0_9 := Nat.lt_of_lt_of_le lX0_8 hb9.size
    clear hk8 W_8 X0_8 G_8 cP0_8 lP0_8 cX0_8 lX0_8
    clear hb9 hcb
    go_wp2_with fail
    refine (markSpine_any _ _ _ z0 1 _ (by omega) (by omega) (by omega) X0_9).mono ?_
    rintro e w10 ⟨rfl, -, O10⟩
    have s10 := O10.size
    have hk10 : Below w.heap.size w w10 := O10.below hk9 (by omega) hk9.size
    have W_10 := W_9.only O10 (by omega)
    have G_10 := G_9.only O10 (by omega)
    have cP0_10 := only_cell O10 lP0_9 (by simp only; omega) cP0_9
    have lP0_10 := Nat.lt_of_lt_of_le lP0_9 O10.size
    have cX0_10 := only_cell O10 lX0_9 (by simp only; omega) cX0_9
    have lX0_10 := Nat.lt_of_lt_of_le lX0_9 O10.size
    clear O10 hk9 W_9 X0_9 G_9 cP0_9 lP0_9 cX0_9 lX0_9
    obtain ⟨k0, HK0⟩ : ∃ k : Int, Hid (k = 1 + totR z0) := ⟨_, rfl⟩
    have kb0 : 0 ≤ k0 ∧ k0 ≤ 1048577 := by rw [HK0.out]; omega
    rw [← HK0.out]
    clear cX0_10 lX0_10
    have hkn : ¬ k0 < 0 := by omega
    go_wp2_with fail
    refine (eqItemS_self _ _ os _ G_10.items W_10.items).mono ?_
    rintro e w11 ⟨rfl, hb11⟩
    have s11 := hb11.size
    have hk11 := below_then hk10 hb11
    have W_11 := W_10.keep' hb11
    have G_11 := G_10.keep' hb11
    have cP0_11 := cell_is hb11 lP0_10 cP0_10
    have lP0_11 := Nat.lt_of_lt_of_le lP0_10 hb11.size
    clear hk10 W_10 G_10 cP0_10 lP0_10
    clear hb11
    go_wp2_with fail
    refine (markItemS_any _ _ _ os 1 _ (by omega) (by omega) hos2 G_11).mono ?_
    rintro e w12 ⟨rfl, G_12, O12⟩
    have s12 := O12.size
    have hk12 : Below w.heap.size w w12 := O12.below hk11 (by omega) hk11.size
    have W_12 := W_11.only O12 (by omega)
    have cP0_12 := only_cell O12 lP0_11 (by simp only; omega) cP0_11
    have lP0_12 := Nat.lt_of_lt_of_le lP0_11 O12.size
    clear O12 hk11 W_11 G_11 cP0_11 lP0_11
    obtain ⟨tm, HTM⟩ : ∃ t : Int, Hid (t = 1 + tot (lens os)) := ⟨_, rfl⟩
    have htm : ¬ tm < 0 := by rw [HTM.out]; omega
    have htt : (tm != tm) = false := by simp
    rw [← HTM.out]
    go_wp2_with fail
    refine (heldItemS_any _ (lens os) 1 _ (by omega) (by omega) hos2 G_12.items).mono ?_
    rw [← HTM.out]
    rintro e wh ⟨rfl, rfl⟩
    go_wp2_with fail
    refine (toSpine_any _ z0 _ (h0.below hk12) hlim0).mono ?_
    rintro e w13 ⟨y0v, rfl, Y0_13, hb13⟩
    have s13 := hb13.size
    have hk13 := below_then hk12 hb13
    have W_13 := W_12.keep' hb13
    have G_13 := G_12.keep' hb13
    have cP0_13 := cell_is hb13 lP0_12 cP0_12
    have lP0_13 := Nat.lt_of_lt_of_le lP0_12 hb13.size
    clear hk12 W_12 G_12 cP0_12 lP0_12
    clear hb13
    obtain ⟨ya0, yn0, yc0, rfl⟩ := Y0_13.runs.shapeN
    go_wp2_with fail
    refine (implRunAll_any _ z0 _ Y0_13.runs).mono ?_
    rw [← HO.out]
    rintro e w14 ⟨hhv, rfl, H_14, hb14⟩
    clear Y0_13
    have s14 := hb14.size
    have hk14 := below_then hk13 hb14
    have W_14 := W_13.keep' hb14
    have G_14 := G_13.keep' hb14
    have cP0_14 := cell_is hb14 lP0_13 cP0_13
    have lP0_14 := Nat.lt_of_lt_of_le lP0_13 hb14.size
    clear hk13 W_13 G_13 cP0_13 lP0_13
    clear hb14
    go_wp2_with fail
    refine (eqItemS_self _ _ os _ H_14.items W_14.items).mono ?_
    rintro e w15 ⟨rfl, hb15⟩
    clear H_14
    clear W_14
    have s15 := hb15.size
    have hk15 := below_then hk14 hb15
    have G_15 := G_14.keep' hb15
    have cP0_15 := cell_is hb15 lP0_14 cP0_14
    have lP0_15 := Nat.lt_of_lt_of_le lP0_14 hb15.size
    clear hk14 G_14 cP0_14 lP0_14
    clear hb15
    go_wp2_with fail
    refine (heldItemS_any _ (lens os) 1 _ (by omega) (by omega) hos2 G_15.items).mono ?_
    rw [← HTM.out]
    rintro e wz ⟨rfl, rfl⟩
    clear G_15 cP0_15 lP0_15
    go_wp2
    go_ret
    exact ⟨rfl, hk15⟩

end Go.Proofs.Ytjobidfkhaiiaaa
