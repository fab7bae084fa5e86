/-
  The walk of laws.FnExactRunMerge, out of the contracts: it answers true at all arguments, and nothing that was there is written.
-/
import Derived.Test.YtjobidfkhaiiaaaRunMergeI
import Derived.Test.YtjobidfkhaiiaaaRunMergeS
import Derived.Test.YtjobidfkhaiiaaaRunsLaw
import Derived.Test.YtjobidfkhaiiaaaRunMarks
import Derived.Deep.DeepCutAuto
namespace Go.Proofs.Ytjobidfkhaiiaaa
set_option maxRecDepth 100000
set_option linter.unusedVariables false
open Go.RowKit

theorem sum_le {α : Type} (g : α → Nat) (c : Nat) : ∀ l : List α, (∀ x ∈ l, g x ≤ c) → (l.map g).sum ≤ l.length * c
  | [], _ => by simp
  | x :: l, h => by
    have h1 := sum_le g c l (fun y hy => h y (by simp [hy]))
    have h2 := h x (by simp)
    rw [List.map_cons, List.sum_cons, List.length_cons, Nat.add_mul]
    omega
theorem totR_ok {x : Rn} (h : runOkB x = true) : totR x ≤ 3500 := by
  have h5 := runOk_le h
  have h1 : totR x ≤ x.length * 700 := sum_le _ 700 x fun z hz => by
    obtain ⟨j, hj, rfl⟩ := mem_getD (d := []) hz
    have ho := each_ok h hj
    have g1 := zOk_le ho
    have g3 : rowsLen (x.getD j []) ≤ (x.getD j []).length * 6 := rowsLen_le fun p hp => zOk_mem ho hp
    rw [tot_lens]
    omega
  omega
theorem mergeTo_ok : ∀ (t : Nat) (x : Rn) (f : Int), runOkB x = true → runOkB (mergeTo t x f).1 = true
  | 0, _, _, h => h
  | t + 1, x, f, h => by
    unfold mergeTo
    split
    · exact h
    · split
      · exact h
      · rename_i h2
        exact mergeTo_ok t _ _ (by
          cases e : runOkB (lastR x) with
          | false => exact absurd (Or.inr e) h2
          | true => rfl)
theorem mrgOut_small (z : Rn) (f : Int) : totR (mrgOut z f) ≤ 2097152 := by
  unfold mrgOut
  split
  · rename_i h
    have := totR_ok (mergeTo_ok z.length z f h.1)
    omega
  · simp [totR]

set_option maxHeartbeats 16000000 in
theorem lawRunMerge (v0 : Value) (z0 : Rn) (x1 : Int) (hx1 : -9223372036854775808 ≤ x1 ∧ x1 ≤ 9223372036854775807) (w : World) (h0 : RawRuns w v0 z0)  :
    Calls Try.prog 8 #[.agg #[v0], .int .i64 x1] w fun e w' => e = .returned (.bool true) ∧ Below w.heap.size w w' := by
  obtain ⟨pa0, pc0, hsh0⟩ := h0.shape
  obtain ⟨pn0, HPN0⟩ : ∃ n, Hid (n = z0.length) := ⟨_, rfl⟩
  rw [← HPN0.out] at hsh0
  subst hsh0
  obtain ⟨os, HO⟩ : ∃ os, Hid (os = mrgOut z0 x1) := ⟨_, rfl⟩
  obtain ⟨c, HC⟩ : ∃ c, Hid (c = mrgLeft z0 x1) := ⟨_, rfl⟩
  have hos2 : totR os ≤ 2097152 := by rw [HO.out]; exact mrgOut_small z0 x1
  go_enter Try.func8, Try.ntmps8
  have hb1 : Below w.heap.size w (w.alloc (.cells #[.slice pa0 pn0 pc0] 24)) := below_alloc _
  have s1 := hb1.size
  have hk1 := hb1
  have cP0_1 : (w.alloc (.cells #[.slice pa0 pn0 pc0] 24)).cell? ⟨w.heap.size, 0, none⟩ = some (.slice pa0 pn0 pc0) := by simp [go_sem]
  have lP0_1 : w.heap.size < (w.alloc (.cells #[.slice pa0 pn0 pc0] 24)).heap.size := by simp
  have al1 := lP0_1
  clear hb1
  go_wp2_with fail
  refine (szSpine_any _ z0 1048576 _ (h0.below hk1) (by omega) (by omega)).mono ?_
  rintro e w2 ⟨r0, rfl, hr0, hb2⟩
  have s2 := hb2.size
  have hk2 := below_then hk1 hb2
  have cP0_2 := cell_is hb2 lP0_1 cP0_1
  have lP0_2 := Nat.lt_of_lt_of_le lP0_1 hb2.size
  clear hk1 cP0_1 lP0_1
  clear hb2
  by_cases hneg0 : r0 < 0
  · clear hr0
    go_wp2
    go_ret
    exact ⟨rfl, hk2⟩
  have hlim0 : z0.length + runsLen z0 ≤ 1048576 := by omega
  have hrl0 : r0 ≤ 1048576 := by omega
  have ht0 : totR z0 ≤ 1048576 := by rw [totR_len]; omega
  clear hr0
  go_wp2_with fail
  refine (toSpine_any _ z0 _ (h0.below hk2) hlim0).mono ?_
  rintro e w3 ⟨a0v, rfl, A0_3, hb3⟩
  have s3 := hb3.size
  have hk3 := below_then hk2 hb3
  have cP0_3 := cell_is hb3 lP0_2 cP0_2
  have lP0_3 := Nat.lt_of_lt_of_le lP0_2 hb3.size
  clear hk2 cP0_2 lP0_2
  clear hb3
  obtain ⟨aa0, an0, ac0, rfl⟩ := A0_3.runs.shapeN
  go_wp2_with fail
  refine (specRunMerge_any _ z0 x1 _ A0_3.runs hx1.2).mono ?_
  rw [← HO.out, ← HC.out]
  rintro e w4 ⟨wwv, rfl, W_4, hb4⟩
  clear A0_3
  have s4 := hb4.size
  have hk4 := below_then hk3 hb4
  have cP0_4 := cell_is hb4 lP0_3 cP0_3
  have lP0_4 := Nat.lt_of_lt_of_le lP0_3 hb4.size
  clear hk3 cP0_3 lP0_3
  clear hb4
  obtain ⟨wwa, wwn, wwc, rfl⟩ := W_4.runs.shapeN
  have hb5 : Below w4.heap.size w4 (w4.alloc (.cells #[.slice wwa wwn wwc] 29)) := below_alloc _
  have s5 := hb5.size
  have hk5 := below_then hk4 hb5
  have W_5 := W_4.keep' hb5
  have cP0_5 := cell_is hb5 lP0_4 cP0_4
  have lP0_5 := Nat.lt_of_lt_of_le lP0_4 hb5.size
  clear hk4 W_4 cP0_4 lP0_4
  have cBW_5 : (w4.alloc (.cells #[.slice wwa wwn wwc] 29)).cell? ⟨w4.heap.size, 0, none⟩ = some (.slice wwa wwn wwc) := by simp [go_sem]
  have lBW_5 : w4.heap.size < (w4.alloc (.cells #[.slice wwa wwn wwc] 29)).heap.size := by simp
  have al5 := lBW_5
  clear hb5
  go_wp2_with fail
  refine (toSpine_any _ z0 _ (h0.below hk5) hlim0).mono ?_
  rintro e w6 ⟨x0v, rfl, X0_6, hb6⟩
  have s6 := hb6.size
  have hk6 := below_then hk5 hb6
  have W_6 := W_5.keep' hb6
  have cP0_6 := cell_is hb6 lP0_5 cP0_5
  have lP0_6 := Nat.lt_of_lt_of_le lP0_5 hb6.size
  have cBW_6 := cell_is hb6 lBW_5 cBW_5
  have lBW_6 := Nat.lt_of_lt_of_le lBW_5 hb6.size
  clear hk5 W_5 cP0_5 lP0_5 cBW_5 lBW_5
  clear hb6
  obtain ⟨xa0, xn0, xc0, rfl⟩ := X0_6.runs.shapeN
  have hb7 : Below w6.heap.size w6 (w6.alloc (.cells #[.slice xa0 xn0 xc0] 29)) := below_alloc _
  have s7 := hb7.size
  have hk7 := below_then hk6 hb7
  have W_7 := W_6.keep' hb7
  have X0_7 := X0_6.keep' hb7
  have cP0_7 := cell_is hb7 lP0_6 cP0_6
  have lP0_7 := Nat.lt_of_lt_of_le lP0_6 hb7.size
  have cBW_7 := cell_is hb7 lBW_6 cBW_6
  have lBW_7 := Nat.lt_of_lt_of_le lBW_6 hb7.size
  clear hk6 W_6 X0_6 cP0_6 lP0_6 cBW_6 lBW_6
  have cX0_7 : (w6.alloc (.cells #[.slice xa0 xn0 xc0] 29)).cell? ⟨w6.heap.size, 0, none⟩ = some (.slice xa0 xn0 xc0) := by simp [go_sem]
  have lX0_7 : w6.heap.size < (w6.alloc (.cells #[.slice xa0 xn0 xc0] 29)).heap.size := by simp
  have al7 := lX0_7
  clear hb7
  go_wp2_with fail
  refine (implRunMerge_any _ z0 x1 _ X0_7.runs hx1.2).mono ?_
  rw [← HO.out, ← HC.out]
  rintro e w8 ⟨ggv, rfl, G_8, hb8⟩
  have s8 := hb8.size
  have hk8 := below_then hk7 hb8
  have W_8 := W_7.keep' hb8
  have X0_8 := X0_7.keep' hb8
  have cP0_8 := cell_is hb8 lP0_7 cP0_7
  have lP0_8 := Nat.lt_of_lt_of_le lP0_7 hb8.size
  have cBW_8 := cell_is hb8 lBW_7 cBW_7
  have lBW_8 := Nat.lt_of_lt_of_le lBW_7 hb8.size
  have cX0_8 := cell_is hb8 lX0_7 cX0_7
  have lX0_8 := Nat.lt_of_lt_of_le lX0_7 hb8.size
  clear hk7 W_7 X0_7 cP0_7 lP0_7 cBW_7 lBW_7 cX0_7 lX0_7
  clear hb8
  obtain ⟨gga, ggn, ggc, rfl⟩ := G_8.runs.shapeN
  have hb9 : Below w8.heap.size w8 (w8.alloc (.cells #[.slice gga ggn ggc] 29)) := below_alloc _
  have s9 := hb9.size
  have hk9 := below_then hk8 hb9
  have W_9 := W_8.keep' hb9
  have X0_9 := X0_8.keep' hb9
  have G_9 := G_8.keep' hb9
  have cP0_9 := cell_is hb9 lP0_8 cP0_8
  have lP0_9 := Nat.lt_of_lt_of_le lP0_8 hb9.size
  have cBW_9 := cell_is hb9 lBW_8 cBW_8
  have lBW_9 := Nat.lt_of_lt_of_le lBW_8 hb9.size
  have cX0_9 := cell_is hb9 lX0_8 cX0_8
  have lX0_9 := Nat.lt_of_lt_of_le lX0_8 hb9.size
  clear hk8 W_8 X0_8 G_8 cP0_8 lP0_8 cBW_8 lBW_8 cX0_8 lX0_8
  have cBG_9 : (w8.alloc (.cells #[.slice gga ggn ggc] 29)).cell? ⟨w8.heap.size, 0, none⟩ = some (.slice gga ggn ggc) := by simp [go_sem]
  have lBG_9 : w8.heap.size < (w8.alloc (.cells #[.slice gga ggn ggc] 29)).heap.size := by simp
  have al9 := lBG_9
  clear hb9
  have hcc : (c != c) = false := by simp
  go_wp2_with fail
  refine (eqSpine_self _ _ os _ G_9.runs W_9.runs).mono ?_
  rintro e w10 ⟨rfl, hb10⟩
  have s10 := hb10.size
  have hk10 := below_then hk9 hb10
  have W_10 := W_9.keep' hb10
  have X0_10 := X0_9.keep' hb10
  have G_10 := G_9.keep' hb10
  have cP0_10 := cell_is hb10 lP0_9 cP0_9
  have lP0_10 := Nat.lt_of_lt_of_le lP0_9 hb10.size
  have cBW_10 := cell_is hb10 lBW_9 cBW_9
  have lBW_10 := Nat.lt_of_lt_of_le lBW_9 hb10.size
  have cX0_10 := cell_is hb10 lX0_9 cX0_9
  have lX0_10 := Nat.lt_of_lt_of_le lX0_9 hb10.size
  have cBG_10 := cell_is hb10 lBG_9 cBG_9
  have lBG_10 := Nat.lt_of_lt_of_le lBG_9 hb10.size
  clear hk9 W_9 X0_9 G_9 cP0_9 lP0_9 cBW_9 lBW_9 cX0_9 lX0_9 cBG_9 lBG_9
  clear hb10
  go_upto_region 10 with fail
  go_cut [49] (fun c wx => c = .bool false ∧ Hid (Below w10.heap.size w10 wx))
  case first =>
    go_wp2_with fail
    go_region_with (first
      | (go_at_call 13; have hO := OQ; refine (eqSpine_self _ _ z0 _ (X0_10.runs.below hbp) OQ.runs).mono ?_; rintro e wq ⟨rfl, hbr⟩)
      | (go_at_call 11; refine (toSpine_any _ z0 _ (by first | exact h0.below hk10 | exact h0.below (below_drewN hk10 _) | exact h0.below (Below.drew hk10)) hlim0).mono ?_; rintro e wp ⟨qv, rfl, OQ, hbp'⟩; have hbp : Below w10.heap.size w10 wp := (by first | exact hbp' | exact below_then (below_drewN (Below.refl _ _) _) hbp' | exact below_then (Below.drew (Below.refl _ _)) hbp'); have cq : wp.cell? ⟨w6.heap.size, 0, none⟩ = some (.slice xa0 xn0 xc0) := (cell_is hbp lX0_10 cX0_10)))
    all_goals
      have hbq : Hid (Below w10.heap.size w10 wq) := below_then hbp hbr
      clear W_10 X0_10 G_10 cP0_10 cBW_10 cX0_10 cBG_10
      go_wp2_with fail
      go_meet
      case rel => exact ⟨rfl, hbq.out⟩
  case rest =>
    rename World => w11
    obtain ⟨rfl, hcb⟩ := hcut
    have hb11 := hcb.out
    have s11 := hb11.size
    have hk11 := below_then hk10 hb11
    have W_11 := W_10.keep' hb11
    have X0_11 := X0_10.keep' hb11
    have G_11 := G_10.keep' hb11
    have cP0_11 := cell_is hb11 lP0_10 cP0_10
    have lP0_11 := Nat.lt_of_lt_of_le lP0_10 hb11.size
    have cBW_11 := cell_is hb11 lBW_10 cBW_10
    have lBW_11 := Nat.lt_of_lt_of_le lBW_10 hb11.size
    have cX0_11 := cell_is hb11 lX0_10 cX0_10
    have lX0_11 := Nat.lt_of_lt_of_le lX0_10 hb11.size
    have cBG_11 := cell_is hb11 lBG_10 cBG_10
    have lBG_11 := Nat.lt_of_lt_of_le lBG_10 hb11.size
    clear hk10 W_10 X0_10 G_10 cP0_10 lP0_10 cBW_10 lBW_10 cX0_10 lX0_10 cBG_10 lBG_10
    clear hb11 hcb
    go_wp2_with fail
    refine (markSpine_any _ _ _ z0 1 _ (by omega) (by omega) (by omega) X0_11).mono ?_
    rintro e w12 ⟨rfl, -, O12⟩
    have s12 := O12.size
    have hk12 : Below w.heap.size w w12 := O12.below hk11 (by omega) hk11.size
    have W_12 := W_11.only O12 (by omega)
    have G_12 := G_11.only O12 (by omega)
    have cP0_12 := only_cell O12 lP0_11 (by simp only; omega) cP0_11
    have lP0_12 := Nat.lt_of_lt_of_le lP0_11 O12.size
    have cBW_12 := only_cell O12 lBW_11 (by simp only; omega) cBW_11
    have lBW_12 := Nat.lt_of_lt_of_le lBW_11 O12.size
    have cX0_12 := only_cell O12 lX0_11 (by simp only; omega) cX0_11
    have lX0_12 := Nat.lt_of_lt_of_le lX0_11 O12.size
    have cBG_12 := only_cell O12 lBG_11 (by simp only; omega) cBG_11
    have lBG_12 := Nat.lt_of_lt_of_le lBG_11 O12.size
    clear O12 hk11 W_11 X0_11 G_11 cP0_11 lP0_11 cBW_11 lBW_11 cX0_11 lX0_11 cBG_11 lBG_11
    obtain ⟨k0, HK0⟩ : ∃ k : Int, Hid (k = 1 + totR z0) := ⟨_, rfl⟩
    have kb0 : 0 ≤ k0 ∧ k0 ≤ 1048577 := by rw [HK0.out]; omega
    rw [← HK0.out]
    clear cX0_12 lX0_12
    have hkn : ¬ k0 < 0 := by omega
    go_wp2_with fail
    refine (eqSpine_self _ _ os _ G_12.runs W_12.runs).mono ?_
    rintro e w13 ⟨rfl, hb13⟩
    have s13 := hb13.size
    have hk13 := below_then hk12 hb13
    have W_13 := W_12.keep' hb13
    have G_13 := G_12.keep' hb13
    have cP0_13 := cell_is hb13 lP0_12 cP0_12
    have lP0_13 := Nat.lt_of_lt_of_le lP0_12 hb13.size
    have cBW_13 := cell_is hb13 lBW_12 cBW_12
    have lBW_13 := Nat.lt_of_lt_of_le lBW_12 hb13.size
    have cBG_13 := cell_is hb13 lBG_12 cBG_12
    have lBG_13 := Nat.lt_of_lt_of_le lBG_12 hb13.size
    clear hk12 W_12 G_12 cP0_12 lP0_12 cBW_12 lBW_12 cBG_12 lBG_12
    clear hb13
    go_wp2_with fail
    refine (markSpine_any _ _ _ os 1 _ (by omega) (by omega) hos2 G_13).mono ?_
    rintro e w14 ⟨rfl, G_14, O14⟩
    have s14 := O14.size
    have hk14 : Below w.heap.size w w14 := O14.below hk13 (by omega) hk13.size
    have W_14 := W_13.only O14 (by omega)
    have cP0_14 := only_cell O14 lP0_13 (by simp only; omega) cP0_13
    have lP0_14 := Nat.lt_of_lt_of_le lP0_13 O14.size
    have cBW_14 := only_cell O14 lBW_13 (by simp only; omega) cBW_13
    have lBW_14 := Nat.lt_of_lt_of_le lBW_13 O14.size
    have cBG_14 := only_cell O14 lBG_13 (by simp only; omega) cBG_13
    have lBG_14 := Nat.lt_of_lt_of_le lBG_13 O14.size
    clear O14 hk13 W_13 G_13 cP0_13 lP0_13 cBW_13 lBW_13 cBG_13 lBG_13
    obtain ⟨tm, HTM⟩ : ∃ t : Int, Hid (t = 1 + totR os) := ⟨_, rfl⟩
    have htm : ¬ tm < 0 := by rw [HTM.out]; omega
    have htt : (tm != tm) = false := by simp
    rw [← HTM.out]
    go_wp2_with fail
    refine (heldSpine_any _ os 1 _ (by omega) (by omega) hos2 G_14.runs).mono ?_
    rw [← HTM.out]
    rintro e w15 ⟨rfl, hb15⟩
    have s15 := hb15.size
    have hk15 := below_then hk14 hb15
    have W_15 := W_14.keep' hb15
    have G_15 := G_14.keep' hb15
    have cP0_15 := cell_is hb15 lP0_14 cP0_14
    have lP0_15 := Nat.lt_of_lt_of_le lP0_14 hb15.size
    have cBW_15 := cell_is hb15 lBW_14 cBW_14
    have lBW_15 := Nat.lt_of_lt_of_le lBW_14 hb15.size
    have cBG_15 := cell_is hb15 lBG_14 cBG_14
    have lBG_15 := Nat.lt_of_lt_of_le lBG_14 hb15.size
    clear hk14 W_14 G_14 cP0_14 lP0_14 cBW_14 lBW_14 cBG_14 lBG_14
    clear hb15
    go_wp2_with fail
    refine (toSpine_any _ z0 _ (h0.below hk15) hlim0).mono ?_
    rintro e w16 ⟨y0v, rfl, Y0_16, hb16⟩
    have s16 := hb16.size
    have hk16 := below_then hk15 hb16
    have W_16 := W_15.keep' hb16
    have G_16 := G_15.keep' hb16
    have cP0_16 := cell_is hb16 lP0_15 cP0_15
    have lP0_16 := Nat.lt_of_lt_of_le lP0_15 hb16.size
    have cBW_16 := cell_is hb16 lBW_15 cBW_15
    have lBW_16 := Nat.lt_of_lt_of_le lBW_15 hb16.size
    have cBG_16 := cell_is hb16 lBG_15 cBG_15
    have lBG_16 := Nat.lt_of_lt_of_le lBG_15 hb16.size
    clear hk15 W_15 G_15 cP0_15 lP0_15 cBW_15 lBW_15 cBG_15 lBG_15
    clear hb16
    obtain ⟨ya0, yn0, yc0, rfl⟩ := Y0_16.runs.shapeN
    go_wp2_with fail
    refine (implRunMerge_any _ z0 x1 _ Y0_16.runs hx1.2).mono ?_
    rw [← HO.out, ← HC.out]
    rintro e w17 ⟨hhv, rfl, H_17, hb17⟩
    clear Y0_16
    have s17 := hb17.size
    have hk17 := below_then hk16 hb17
    have W_17 := W_16.keep' hb17
    have G_17 := G_16.keep' hb17
    have cP0_17 := cell_is hb17 lP0_16 cP0_16
    have lP0_17 := Nat.lt_of_lt_of_le lP0_16 hb17.size
    have cBW_17 := cell_is hb17 lBW_16 cBW_16
    have lBW_17 := Nat.lt_of_lt_of_le lBW_16 hb17.size
    have cBG_17 := cell_is hb17 lBG_16 cBG_16
    have lBG_17 := Nat.lt_of_lt_of_le lBG_16 hb17.size
    clear hk16 W_16 G_16 cP0_16 lP0_16 cBW_16 lBW_16 cBG_16 lBG_16
    clear hb17
    obtain ⟨hha, hhn, hhc, rfl⟩ := H_17.runs.shapeN
    have hb18 : Below w17.heap.size w17 (w17.alloc (.cells #[.slice hha hhn hhc] 29)) := below_alloc _
    have s18 := hb18.size
    have hk18 := below_then hk17 hb18
    have W_18 := W_17.keep' hb18
    have G_18 := G_17.keep' hb18
    have H_18 := H_17.keep' hb18
    have cP0_18 := cell_is hb18 lP0_17 cP0_17
    have lP0_18 := Nat.lt_of_lt_of_le lP0_17 hb18.size
    have cBW_18 := cell_is hb18 lBW_17 cBW_17
    have lBW_18 := Nat.lt_of_lt_of_le lBW_17 hb18.size
    have cBG_18 := cell_is hb18 lBG_17 cBG_17
    have lBG_18 := Nat.lt_of_lt_of_le lBG_17 hb18.size
    clear hk17 W_17 G_17 H_17 cP0_17 lP0_17 cBW_17 lBW_17 cBG_17 lBG_17
    have cBH_18 : (w17.alloc (.cells #[.slice hha hhn hhc] 29)).cell? ⟨w17.heap.size, 0, none⟩ = some (.slice hha hhn hhc) := by simp [go_sem]
    have lBH_18 : w17.heap.size < (w17.alloc (.cells #[.slice hha hhn hhc] 29)).heap.size := by simp
    have al18 := lBH_18
    clear hb18
    go_wp2_with fail
    refine (eqSpine_self _ _ os _ H_18.runs W_18.runs).mono ?_
    rintro e w19 ⟨rfl, hb19⟩
    clear H_18
    clear W_18
    have s19 := hb19.size
    have hk19 := below_then hk18 hb19
    have G_19 := G_18.keep' hb19
    have cP0_19 := cell_is hb19 lP0_18 cP0_18
    have lP0_19 := Nat.lt_of_lt_of_le lP0_18 hb19.size
    have cBW_19 := cell_is hb19 lBW_18 cBW_18
    have lBW_19 := Nat.lt_of_lt_of_le lBW_18 hb19.size
    have cBG_19 := cell_is hb19 lBG_18 cBG_18
    have lBG_19 := Nat.lt_of_lt_of_le lBG_18 hb19.size
    have cBH_19 := cell_is hb19 lBH_18 cBH_18
    have lBH_19 := Nat.lt_of_lt_of_le lBH_18 hb19.size
    clear hk18 G_18 cP0_18 lP0_18 cBW_18 lBW_18 cBG_18 lBG_18 cBH_18 lBH_18
    clear hb19
    go_wp2_with fail
    refine (heldSpine_any _ os 1 _ (by omega) (by omega) hos2 G_19.runs).mono ?_
    rw [← HTM.out]
    rintro e w20 ⟨rfl, hb20⟩
    have s20 := hb20.size
    have hk20 := below_then hk19 hb20
    have G_20 := G_19.keep' hb20
    have cP0_20 := cell_is hb20 lP0_19 cP0_19
    have lP0_20 := Nat.lt_of_lt_of_le lP0_19 hb20.size
    have cBW_20 := cell_is hb20 lBW_19 cBW_19
    have lBW_20 := Nat.lt_of_lt_of_le lBW_19 hb20.size
    have cBG_20 := cell_is hb20 lBG_19 cBG_19
    have lBG_20 := Nat.lt_of_lt_of_le lBG_19 hb20.size
    have cBH_20 := cell_is hb20 lBH_19 cBH_19
    have lBH_20 := Nat.lt_of_lt_of_le lBH_19 hb20.size
    clear hk19 G_19 cP0_19 lP0_19 cBW_19 lBW_19 cBG_19 lBG_19 cBH_19 lBH_19
    clear hb20
    clear G_20 cP0_20 lP0_20 cBW_20 lBW_20 cBG_20 lBG_20 cBH_20 lBH_20
    go_wp2
    go_ret
    exact ⟨rfl, hk20⟩

end Go.Proofs.Ytjobidfkhaiiaaa
