/-
  The walk of laws.FnExactRunPut, out of the contracts: it answers true at all arguments, and nothing that was there is written.
-/
import Derived.Test.YtjobidfkhaiiaaaRunPutI
import Derived.Test.YtjobidfkhaiiaaaRunPutS
import Derived.Test.YtjobidfkhaiiaaaRunsLaw
import Derived.Test.YtjobidfkhaiiaaaRunMarks
import Derived.Deep.DeepCutAuto
namespace Go.Proofs.Ytjobidfkhaiiaaa
set_option maxRecDepth 100000
set_option linter.unusedVariables false
open Go.RowKit

theorem sum_leP {α : Type} (g : α → Nat) (c : Nat) : ∀ l : List α, (∀ x ∈ l, g x ≤ c) → (l.map g).sum ≤ l.length * c
  | [], _ => by simp
  | x :: l, h => by
    have h1 := sum_leP g c l (fun y hy => h y (by simp [hy]))
    have h2 := h x (by simp)
    rw [List.map_cons, List.sum_cons, List.length_cons, Nat.add_mul]
    omega
theorem totR_tidy {x : Rn} (h : tidyB x = true) (h5 : x.length ≤ 5) : totR x ≤ 3500 := by
  have h1 : totR x ≤ x.length * 700 := sum_leP _ 700 x fun z hz => by
    obtain ⟨j, hj, rfl⟩ := mem_getD (d := []) hz
    have ho := tidy_at h hj
    have g1 := zOk_le ho
    have g3 : rowsLen (x.getD j []) ≤ (x.getD j []).length * 6 := rowsLen_le fun p hp => zOk_mem ho hp
    rw [tot_lens]
    omega
  omega
theorem putOut_small (s : Rn) (z : List It) : totR (putOut s z) ≤ 2097152 := by
  unfold putOut
  split
  · rename_i h
    obtain ⟨h1, h2⟩ := putRuns_tidy h.1 h.2
    have := totR_tidy h1 h2
    omega
  · simp [totR]

set_option maxHeartbeats 16000000 in
theorem lawRunPut (v0 : Value) (z0 : Rn) (v1 : Value) (z1 : List It) (w : World) (h0 : RawRuns w v0 z0) (h1 : RawItems w v1 z1) (_ : WfItems z1) :
    Calls Try.prog 5 #[.agg #[v0], v1] w fun e w' => e = .returned (.bool true) ∧ Below w.heap.size w w' := by
  obtain ⟨pa0, pc0, hsh0⟩ := h0.shape
  obtain ⟨pn0, HPN0⟩ : ∃ n, Hid (n = z0.length) := ⟨_, rfl⟩
  rw [← HPN0.out] at hsh0
  subst hsh0
  obtain ⟨os, HO⟩ : ∃ os, Hid (os = putOut z0 z1) := ⟨_, rfl⟩
  obtain ⟨c, HC⟩ : ∃ c, Hid (c = putOk z0 z1) := ⟨_, rfl⟩
  have hos2 : totR os ≤ 2097152 := by rw [HO.out]; exact putOut_small z0 z1
  go_enter Try.func5, Try.ntmps5
  have hb1 : Below w.heap.size w (w.alloc (.cells #[.slice pa0 pn0 pc0] 24)) := below_alloc _
  have s1 := hb1.size
  have hk1 := hb1
  have cP0_1 : (w.alloc (.cells #[.slice pa0 pn0 pc0] 24)).cell? ⟨w.heap.size, 0, none⟩ = some (.slice pa0 pn0 pc0) := by simp [go_sem]
  have lP0_1 : w.heap.size < (w.alloc (.cells #[.slice pa0 pn0 pc0] 24)).heap.size := by simp
  have al1 := lP0_1
  clear hb1
  go_wp2_with fail
  refine (szSpine_any _ z0 1048576 _ (h0.below hk1) (by omega) (by omega)).mono ?_
  rintro e w2 ⟨r0, rfl, hr0, hb2⟩
  have s2 := hb2.size
  have hk2 := below_then hk1 hb2
  have cP0_2 := cell_is hb2 lP0_1 cP0_1
  have lP0_2 := Nat.lt_of_lt_of_le lP0_1 hb2.size
  clear hk1 cP0_1 lP0_1
  clear hb2
  by_cases hneg0 : r0 < 0
  · clear hr0
    go_wp2
    go_ret
    exact ⟨rfl, hk2⟩
  have hlim0 : z0.length + runsLen z0 ≤ 1048576 := by omega
  have hrl0 : r0 ≤ 1048576 := by omega
  have ht0 : totR z0 ≤ 1048576 := by rw [totR_len]; omega
  clear hr0
  go_wp2_with fail
  refine (szItemS_any v1 z1 r0 _ (h1.below hk2) (by omega) (by omega)).mono ?_
  rintro e w3 ⟨r1, rfl, hr1, hb3⟩
  have s3 := hb3.size
  have hk3 := below_then hk2 hb3
  have cP0_3 := cell_is hb3 lP0_2 cP0_2
  have lP0_3 := Nat.lt_of_lt_of_le lP0_2 hb3.size
  clear hk2 cP0_2 lP0_2
  clear hb3
  by_cases hneg1 : r1 < 0
  · clear hr1
    go_wp2
    go_ret
    exact ⟨rfl, hk3⟩
  have hlim1 : z1.length + rowsLen z1 ≤ 1048576 := by omega
  have hrl1 : r1 ≤ 1048576 := by omega
  have hz1 := h1.items hlim1
  have ht1 : tot (lens z1) ≤ 1048576 := by rw [tot_lens]; omega
  clear hr1 h1
  go_wp2_with fail
  refine (toSpine_any _ z0 _ (h0.below hk3) hlim0).mono ?_
  rintro e w4 ⟨a0v, rfl, A0_4, hb4⟩
  have s4 := hb4.size
  have hk4 := below_then hk3 hb4
  have cP0_4 := cell_is hb4 lP0_3 cP0_3
  have lP0_4 := Nat.lt_of_lt_of_le lP0_3 hb4.size
  clear hk3 cP0_3 lP0_3
  clear hb4
  obtain ⟨aa0, an0, ac0, rfl⟩ := A0_4.runs.shapeN
  go_wp2_with fail
  refine (toItemS_any v1 z1 _ (hz1.below hk4) hlim1).mono ?_
  rintro e w5 ⟨a1v, rfl, A1_5, hb5⟩
  have s5 := hb5.size
  have hk5 := below_then hk4 hb5
  have A0_5 := A0_4.keep' hb5
  have cP0_5 := cell_is hb5 lP0_4 cP0_4
  have lP0_5 := Nat.lt_of_lt_of_le lP0_4 hb5.size
  clear hk4 A0_4 cP0_4 lP0_4
  clear hb5
  go_wp2_with fail
  refine (specRunPut_any _ z0 _ z1 _ A0_5.runs A1_5.tail).mono ?_
  rw [← HO.out, ← HC.out]
  rintro e w6 ⟨wwv, rfl, W_6, hb6⟩
  clear A0_5
  clear A1_5
  have s6 := hb6.size
  have hk6 := below_then hk5 hb6
  have cP0_6 := cell_is hb6 lP0_5 cP0_5
  have lP0_6 := Nat.lt_of_lt_of_le lP0_5 hb6.size
  clear hk5 cP0_5 lP0_5
  clear hb6
  obtain ⟨wwa, wwn, wwc, rfl⟩ := W_6.runs.shapeN
  have hb7 : Below w6.heap.size w6 (w6.alloc (.cells #[.slice wwa wwn wwc] 29)) := below_alloc _
  have s7 := hb7.size
  have hk7 := below_then hk6 hb7
  have W_7 := W_6.keep' hb7
  have cP0_7 := cell_is hb7 lP0_6 cP0_6
  have lP0_7 := Nat.lt_of_lt_of_le lP0_6 hb7.size
  clear hk6 W_6 cP0_6 lP0_6
  have cBW_7 : (w6.alloc (.cells #[.slice wwa wwn wwc] 29)).cell? ⟨w6.heap.size, 0, none⟩ = some (.slice wwa wwn wwc) := by simp [go_sem]
  have lBW_7 : w6.heap.size < (w6.alloc (.cells #[.slice wwa wwn wwc] 29)).heap.size := by simp
  have al7 := lBW_7
  clear hb7
  go_wp2_with fail
  refine (toSpine_any _ z0 _ (h0.below hk7) hlim0).mono ?_
  rintro e w8 ⟨x0v, rfl, X0_8, hb8⟩
  have s8 := hb8.size
  have hk8 := below_then hk7 hb8
  have W_8 := W_7.keep' hb8
  have cP0_8 := cell_is hb8 lP0_7 cP0_7
  have lP0_8 := Nat.lt_of_lt_of_le lP0_7 hb8.size
  have cBW_8 := cell_is hb8 lBW_7 cBW_7
  have lBW_8 := Nat.lt_of_lt_of_le lBW_7 hb8.size
  clear hk7 W_7 cP0_7 lP0_7 cBW_7 lBW_7
  clear hb8
  obtain ⟨xa0, xn0, xc0, rfl⟩ := X0_8.runs.shapeN
  have hb9 : Below w8.heap.size w8 (w8.alloc (.cells #[.slice xa0 xn0 xc0] 29)) := below_alloc _
  have s9 := hb9.size
  have hk9 := below_then hk8 hb9
  have W_9 := W_8.keep' hb9
  have X0_9 := X0_8.keep' hb9
  have cP0_9 := cell_is hb9 lP0_8 cP0_8
  have lP0_9 := Nat.lt_of_lt_of_le lP0_8 hb9.size
  have cBW_9 := cell_is hb9 lBW_8 cBW_8
  have lBW_9 := Nat.lt_of_lt_of_le lBW_8 hb9.size
  clear hk8 W_8 X0_8 cP0_8 lP0_8 cBW_8 lBW_8
  have cX0_9 : (w8.alloc (.cells #[.slice xa0 xn0 xc0] 29)).cell? ⟨w8.heap.size, 0, none⟩ = some (.slice xa0 xn0 xc0) := by simp [go_sem]
  have lX0_9 : w8.heap.size < (w8.alloc (.cells #[.slice xa0 xn0 xc0] 29)).heap.size := by simp
  have al9 := lX0_9
  clear hb9
  go_wp2_with fail
  refine (toItemS_any v1 z1 _ (hz1.below hk9) hlim1).mono ?_
  rintro e w10 ⟨x1v, rfl, X1_10, hb10⟩
  have s10 := hb10.size
  have hk10 := below_then hk9 hb10
  have W_10 := W_9.keep' hb10
  have X0_10 := X0_9.keep' hb10
  have cP0_10 := cell_is hb10 lP0_9 cP0_9
  have lP0_10 := Nat.lt_of_lt_of_le lP0_9 hb10.size
  have cBW_10 := cell_is hb10 lBW_9 cBW_9
  have lBW_10 := Nat.lt_of_lt_of_le lBW_9 hb10.size
  have cX0_10 := cell_is hb10 lX0_9 cX0_9
  have lX0_10 := Nat.lt_of_lt_of_le lX0_9 hb10.size
  clear hk9 W_9 X0_9 cP0_9 lP0_9 cBW_9 lBW_9 cX0_9 lX0_9
  clear hb10
  go_wp2_with fail
  refine (implRunPut_any _ z0 _ z1 _ X0_10.runs X1_10.tail).mono ?_
  rw [← HO.out, ← HC.out]
  rintro e w11 ⟨ggv, rfl, G_11, hb11⟩
  have s11 := hb11.size
  have hk11 := below_then hk10 hb11
  have W_11 := W_10.keep' hb11
  have X0_11 := X0_10.keep' hb11
  have X1_11 := X1_10.keep' hb11
  have cP0_11 := cell_is hb11 lP0_10 cP0_10
  have lP0_11 := Nat.lt_of_lt_of_le lP0_10 hb11.size
  have cBW_11 := cell_is hb11 lBW_10 cBW_10
  have lBW_11 := Nat.lt_of_lt_of_le lBW_10 hb11.size
  have cX0_11 := cell_is hb11 lX0_10 cX0_10
  have lX0_11 := Nat.lt_of_lt_of_le lX0_10 hb11.size
  clear hk10 W_10 X0_10 X1_10 cP0_10 lP0_10 cBW_10 lBW_10 cX0_10 lX0_10
  clear hb11
  obtain ⟨gga, ggn, ggc, rfl⟩ := G_11.runs.shapeN
  have hb12 : Below w11.heap.size w11 (w11.alloc (.cells #[.slice gga ggn ggc] 29)) := below_alloc _
  have s12 := hb12.size
  have hk12 := below_then hk11 hb12
  have W_12 := W_11.keep' hb12
  have X0_12 := X0_11.keep' hb12
  have X1_12 := X1_11.keep' hb12
  have G_12 := G_11.keep' hb12
  have cP0_12 := cell_is hb12 lP0_11 cP0_11
  have lP0_12 := Nat.lt_of_lt_of_le lP0_11 hb12.size
  have cBW_12 := cell_is hb12 lBW_11 cBW_11
  have lBW_12 := Nat.lt_of_lt_of_le lBW_11 hb12.size
  have cX0_12 := cell_is hb12 lX0_11 cX0_11
  have lX0_12 := Nat.lt_of_lt_of_le lX0_11 hb12.size
  clear hk11 W_11 X0_11 X1_11 G_11 cP0_11 lP0_11 cBW_11 lBW_11 cX0_11 lX0_11
  have cBG_12 : (w11.alloc (.cells #[.slice gga ggn ggc] 29)).cell? ⟨w11.heap.size, 0, none⟩ = some (.slice gga ggn ggc) := by simp [go_sem]
  have lBG_12 : w11.heap.size < (w11.alloc (.cells #[.slice gga ggn ggc] 29)).heap.size := by simp
  have al12 := lBG_12
  clear hb12
  have hcc : (c != c) = false := by simp
  go_wp2_with fail
  refine (eqSpine_self _ _ os _ G_12.runs W_12.runs).mono ?_
  rintro e w13 ⟨rfl, hb13⟩
  have s13 := hb13.size
  have hk13 := below_then hk12 hb13
  have W_13 := W_12.keep' hb13
  have X0_13 := X0_12.keep' hb13
  have X1_13 := X1_12.keep' hb13
  have G_13 := G_12.keep' hb13
  have cP0_13 := cell_is hb13 lP0_12 cP0_12
  have lP0_13 := Nat.lt_of_lt_of_le lP0_12 hb13.size
  have cBW_13 := cell_is hb13 lBW_12 cBW_12
  have lBW_13 := Nat.lt_of_lt_of_le lBW_12 hb13.size
  have cX0_13 := cell_is hb13 lX0_12 cX0_12
  have lX0_13 := Nat.lt_of_lt_of_le lX0_12 hb13.size
  have cBG_13 := cell_is hb13 lBG_12 cBG_12
  have lBG_13 := Nat.lt_of_lt_of_le lBG_12 hb13.size
  clear hk12 W_12 X0_12 X1_12 G_12 cP0_12 lP0_12 cBW_12 lBW_12 cX0_12 lX0_12 cBG_12 lBG_12
  clear hb13
  go_upto_region 14 with fail
  go_cut [58] (fun c wx => c = .bool false ∧ Hid (Below w13.heap.size w13 wx))
  case first =>
    go_wp2_with fail
    go_region_with (first
      | (go_at_call 13; have hO := OQ; refine (eqSpine_self _ _ z0 _ (X0_13.runs.below hbp) OQ.runs).mono ?_; rintro e wq ⟨rfl, hbr⟩)
      | (go_at_call 11; refine (toSpine_any _ z0 _ (by first | exact h0.below hk13 | exact h0.below (below_drewN hk13 _) | exact h0.below (Below.drew hk13)) hlim0).mono ?_; rintro e wp ⟨qv, rfl, OQ, hbp'⟩; have hbp : Below w13.heap.size w13 wp := (by first | exact hbp' | exact below_then (below_drewN (Below.refl _ _) _) hbp' | exact below_then (Below.drew (Below.refl _ _)) hbp'); have cq : wp.cell? ⟨w8.heap.size, 0, none⟩ = some (.slice xa0 xn0 xc0) := (cell_is hbp lX0_13 cX0_13)))
    all_goals
      have hbq : Hid (Below w13.heap.size w13 wq) := below_then hbp hbr
      clear W_13 X0_13 X1_13 G_13 cP0_13 cBW_13 cX0_13 cBG_13
      go_wp2_with fail
      go_meet
      case rel => exact ⟨rfl, hbq.out⟩
  case rest =>
    rename World => w14
    obtain ⟨rfl, hcb⟩ := hcut
    have hb14 := hcb.out
    have s14 := hb14.size
    have hk14 := below_then hk13 hb14
    have W_14 := W_13.keep' hb14
    have X0_14 := X0_13.keep' hb14
    have X1_14 := X1_13.keep' hb14
    have G_14 := G_13.keep' hb14
    have cP0_14 := cell_is hb14 lP0_13 cP0_13
    have lP0_14 := Nat.lt_of_lt_of_le lP0_13 hb14.size
    have cBW_14 := cell_is hb14 lBW_13 cBW_13
    have lBW_14 := Nat.lt_of_lt_of_le lBW_13 hb14.size
    have cX0_14 := cell_is hb14 lX0_13 cX0_13
    have lX0_14 := Nat.lt_of_lt_of_le lX0_13 hb14.size
    have cBG_14 := cell_is hb14 lBG_13 cBG_13
    have lBG_14 := Nat.lt_of_lt_of_le lBG_13 hb14.size
    clear hk13 W_13 X0_13 X1_13 G_13 cP0_13 lP0_13 cBW_13 lBW_13 cX0_13 lX0_13 cBG_13 lBG_13
    clear hb14 hcb
    go_wp2_with fail
    refine (toItemS_any v1 z1 _ (hz1.below hk14) hlim1).mono ?_
    rintro e w15 ⟨c1v, rfl, C1_15, hb15⟩
    have s15 := hb15.size
    have hk15 := below_then hk14 hb15
    have W_15 := W_14.keep' hb15
    have X0_15 := X0_14.keep' hb15
    have X1_15 := X1_14.keep' hb15
    have G_15 := G_14.keep' hb15
    have cP0_15 := cell_is hb15 lP0_14 cP0_14
    have lP0_15 := Nat.lt_of_lt_of_le lP0_14 hb15.size
    have cBW_15 := cell_is hb15 lBW_14 cBW_14
    have lBW_15 := Nat.lt_of_lt_of_le lBW_14 hb15.size
    have cX0_15 := cell_is hb15 lX0_14 cX0_14
    have lX0_15 := Nat.lt_of_lt_of_le lX0_14 hb15.size
    have cBG_15 := cell_is hb15 lBG_14 cBG_14
    have lBG_15 := Nat.lt_of_lt_of_le lBG_14 hb15.size
    clear hk14 W_14 X0_14 X1_14 G_14 cP0_14 lP0_14 cBW_14 lBW_14 cX0_14 lX0_14 cBG_14 lBG_14
    clear hb15
    go_wp2_with fail
    refine (eqItemS_self _ _ z1 _ X1_15.items C1_15.items).mono ?_
    rintro e w16 ⟨rfl, hb16⟩
    clear C1_15
    have s16 := hb16.size
    have hk16 := below_then hk15 hb16
    have W_16 := W_15.keep' hb16
    have X0_16 := X0_15.keep' hb16
    have X1_16 := X1_15.keep' hb16
    have G_16 := G_15.keep' hb16
    have cP0_16 := cell_is hb16 lP0_15 cP0_15
    have lP0_16 := Nat.lt_of_lt_of_le lP0_15 hb16.size
    have cBW_16 := cell_is hb16 lBW_15 cBW_15
    have lBW_16 := Nat.lt_of_lt_of_le lBW_15 hb16.size
    have cX0_16 := cell_is hb16 lX0_15 cX0_15
    have lX0_16 := Nat.lt_of_lt_of_le lX0_15 hb16.size
    have cBG_16 := cell_is hb16 lBG_15 cBG_15
    have lBG_16 := Nat.lt_of_lt_of_le lBG_15 hb16.size
    clear hk15 W_15 X0_15 X1_15 G_15 cP0_15 lP0_15 cBW_15 lBW_15 cX0_15 lX0_15 cBG_15 lBG_15
    clear hb16
    go_wp2_with fail
    refine (markSpine_any _ _ _ z0 1 _ (by omega) (by omega) (by omega) X0_16).mono ?_
    rintro e w17 ⟨rfl, -, O17⟩
    have s17 := O17.size
    have hk17 : Below w.heap.size w w17 := O17.below hk16 (by omega) hk16.size
    have W_17 := W_16.only O17 (by omega)
    have X1_17 := X1_16.only O17 (by omega)
    have G_17 := G_16.only O17 (by omega)
    have cP0_17 := only_cell O17 lP0_16 (by simp only; omega) cP0_16
    have lP0_17 := Nat.lt_of_lt_of_le lP0_16 O17.size
    have cBW_17 := only_cell O17 lBW_16 (by simp only; omega) cBW_16
    have lBW_17 := Nat.lt_of_lt_of_le lBW_16 O17.size
    have cX0_17 := only_cell O17 lX0_16 (by simp only; omega) cX0_16
    have lX0_17 := Nat.lt_of_lt_of_le lX0_16 O17.size
    have cBG_17 := only_cell O17 lBG_16 (by simp only; omega) cBG_16
    have lBG_17 := Nat.lt_of_lt_of_le lBG_16 O17.size
    clear O17 hk16 W_16 X0_16 X1_16 G_16 cP0_16 lP0_16 cBW_16 lBW_16 cX0_16 lX0_16 cBG_16 lBG_16
    obtain ⟨k0, HK0⟩ : ∃ k : Int, Hid (k = 1 + totR z0) := ⟨_, rfl⟩
    have kb0 : 0 ≤ k0 ∧ k0 ≤ 1048577 := by rw [HK0.out]; omega
    rw [← HK0.out]
    go_wp2_with fail
    refine (markItemS_any _ _ _ z1 k0 _ (by omega) (by omega) (by omega) X1_17).mono ?_
    rintro e w18 ⟨rfl, -, O18⟩
    have s18 := O18.size
    have hk18 : Below w.heap.size w w18 := O18.below hk17 (by omega) hk17.size
    have W_18 := W_17.only O18 (by omega)
    have G_18 := G_17.only O18 (by omega)
    have cP0_18 := only_cell O18 lP0_17 (by simp only; omega) cP0_17
    have lP0_18 := Nat.lt_of_lt_of_le lP0_17 O18.size
    have cBW_18 := only_cell O18 lBW_17 (by simp only; omega) cBW_17
    have lBW_18 := Nat.lt_of_lt_of_le lBW_17 O18.size
    have cX0_18 := only_cell O18 lX0_17 (by simp only; omega) cX0_17
    have lX0_18 := Nat.lt_of_lt_of_le lX0_17 O18.size
    have cBG_18 := only_cell O18 lBG_17 (by simp only; omega) cBG_17
    have lBG_18 := Nat.lt_of_lt_of_le lBG_17 O18.size
    clear O18 hk17 W_17 X1_17 G_17 cP0_17 lP0_17 cBW_17 lBW_17 cX0_17 lX0_17 cBG_17 lBG_17
    obtain ⟨k1, HK1⟩ : ∃ k : Int, Hid (k = k0 + tot (lens z1)) := ⟨_, rfl⟩
    have kb1 : 0 ≤ k1 ∧ k1 ≤ 2097153 := by rw [HK1.out]; omega
    rw [← HK1.out]
    clear cX0_18 lX0_18
    have hkn : ¬ k1 < 0 := by omega
    go_wp2_with fail
    refine (eqSpine_self _ _ os _ G_18.runs W_18.runs).mono ?_
    rintro e w19 ⟨rfl, hb19⟩
    have s19 := hb19.size
    have hk19 := below_then hk18 hb19
    have W_19 := W_18.keep' hb19
    have G_19 := G_18.keep' hb19
    have cP0_19 := cell_is hb19 lP0_18 cP0_18
    have lP0_19 := Nat.lt_of_lt_of_le lP0_18 hb19.size
    have cBW_19 := cell_is hb19 lBW_18 cBW_18
    have lBW_19 := Nat.lt_of_lt_of_le lBW_18 hb19.size
    have cBG_19 := cell_is hb19 lBG_18 cBG_18
    have lBG_19 := Nat.lt_of_lt_of_le lBG_18 hb19.size
    clear hk18 W_18 G_18 cP0_18 lP0_18 cBW_18 lBW_18 cBG_18 lBG_18
    clear hb19
    go_wp2_with fail
    refine (markSpine_any _ _ _ os 1 _ (by omega) (by omega) hos2 G_19).mono ?_
    rintro e w20 ⟨rfl, G_20, O20⟩
    have s20 := O20.size
    have hk20 : Below w.heap.size w w20 := O20.below hk19 (by omega) hk19.size
    have W_20 := W_19.only O20 (by omega)
    have cP0_20 := only_cell O20 lP0_19 (by simp only; omega) cP0_19
    have lP0_20 := Nat.lt_of_lt_of_le lP0_19 O20.size
    have cBW_20 := only_cell O20 lBW_19 (by simp only; omega) cBW_19
    have lBW_20 := Nat.lt_of_lt_of_le lBW_19 O20.size
    have cBG_20 := only_cell O20 lBG_19 (by simp only; omega) cBG_19
    have lBG_20 := Nat.lt_of_lt_of_le lBG_19 O20.size
    clear O20 hk19 W_19 G_19 cP0_19 lP0_19 cBW_19 lBW_19 cBG_19 lBG_19
    obtain ⟨tm, HTM⟩ : ∃ t : Int, Hid (t = 1 + totR os) := ⟨_, rfl⟩
    have htm : ¬ tm < 0 := by rw [HTM.out]; omega
    have htt : (tm != tm) = false := by simp
    rw [← HTM.out]
    go_wp2_with fail
    refine (heldSpine_any _ os 1 _ (by omega) (by omega) hos2 G_20.runs).mono ?_
    rw [← HTM.out]
    rintro e w21 ⟨rfl, hb21⟩
    have s21 := hb21.size
    have hk21 := below_then hk20 hb21
    have W_21 := W_20.keep' hb21
    have G_21 := G_20.keep' hb21
    have cP0_21 := cell_is hb21 lP0_20 cP0_20
    have lP0_21 := Nat.lt_of_lt_of_le lP0_20 hb21.size
    have cBW_21 := cell_is hb21 lBW_20 cBW_20
    have lBW_21 := Nat.lt_of_lt_of_le lBW_20 hb21.size
    have cBG_21 := cell_is hb21 lBG_20 cBG_20
    have lBG_21 := Nat.lt_of_lt_of_le lBG_20 hb21.size
    clear hk20 W_20 G_20 cP0_20 lP0_20 cBW_20 lBW_20 cBG_20 lBG_20
    clear hb21
    go_wp2_with fail
    refine (toSpine_any _ z0 _ (h0.below hk21) hlim0).mono ?_
    rintro e w22 ⟨y0v, rfl, Y0_22, hb22⟩
    have s22 := hb22.size
    have hk22 := below_then hk21 hb22
    have W_22 := W_21.keep' hb22
    have G_22 := G_21.keep' hb22
    have cP0_22 := cell_is hb22 lP0_21 cP0_21
    have lP0_22 := Nat.lt_of_lt_of_le lP0_21 hb22.size
    have cBW_22 := cell_is hb22 lBW_21 cBW_21
    have lBW_22 := Nat.lt_of_lt_of_le lBW_21 hb22.size
    have cBG_22 := cell_is hb22 lBG_21 cBG_21
    have lBG_22 := Nat.lt_of_lt_of_le lBG_21 hb22.size
    clear hk21 W_21 G_21 cP0_21 lP0_21 cBW_21 lBW_21 cBG_21 lBG_21
    clear hb22
    obtain ⟨ya0, yn0, yc0, rfl⟩ := Y0_22.runs.shapeN
    go_wp2_with fail
    refine (toItemS_any v1 z1 _ (hz1.below hk22) hlim1).mono ?_
    rintro e w23 ⟨y1v, rfl, Y1_23, hb23⟩
    have s23 := hb23.size
    have hk23 := below_then hk22 hb23
    have W_23 := W_22.keep' hb23
    have G_23 := G_22.keep' hb23
    have Y0_23 := Y0_22.keep' hb23
    have cP0_23 := cell_is hb23 lP0_22 cP0_22
    have lP0_23 := Nat.lt_of_lt_of_le lP0_22 hb23.size
    have cBW_23 := cell_is hb23 lBW_22 cBW_22
    have lBW_23 := Nat.lt_of_lt_of_le lBW_22 hb23.size
    have cBG_23 := cell_is hb23 lBG_22 cBG_22
    have lBG_23 := Nat.lt_of_lt_of_le lBG_22 hb23.size
    clear hk22 W_22 G_22 Y0_22 cP0_22 lP0_22 cBW_22 lBW_22 cBG_22 lBG_22
    clear hb23
    go_wp2_with fail
    refine (implRunPut_any _ z0 _ z1 _ Y0_23.runs Y1_23.tail).mono ?_
    rw [← HO.out, ← HC.out]
    rintro e w24 ⟨hhv, rfl, H_24, hb24⟩
    clear Y0_23
    clear Y1_23
    have s24 := hb24.size
    have hk24 := below_then hk23 hb24
    have W_24 := W_23.keep' hb24
    have G_24 := G_23.keep' hb24
    have cP0_24 := cell_is hb24 lP0_23 cP0_23
    have lP0_24 := Nat.lt_of_lt_of_le lP0_23 hb24.size
    have cBW_24 := cell_is hb24 lBW_23 cBW_23
    have lBW_24 := Nat.lt_of_lt_of_le lBW_23 hb24.size
    have cBG_24 := cell_is hb24 lBG_23 cBG_23
    have lBG_24 := Nat.lt_of_lt_of_le lBG_23 hb24.size
    clear hk23 W_23 G_23 cP0_23 lP0_23 cBW_23 lBW_23 cBG_23 lBG_23
    clear hb24
    obtain ⟨hha, hhn, hhc, rfl⟩ := H_24.runs.shapeN
    have hb25 : Below w24.heap.size w24 (w24.alloc (.cells #[.slice hha hhn hhc] 29)) := below_alloc _
    have s25 := hb25.size
    have hk25 := below_then hk24 hb25
    have W_25 := W_24.keep' hb25
    have G_25 := G_24.keep' hb25
    have H_25 := H_24.keep' hb25
    have cP0_25 := cell_is hb25 lP0_24 cP0_24
    have lP0_25 := Nat.lt_of_lt_of_le lP0_24 hb25.size
    have cBW_25 := cell_is hb25 lBW_24 cBW_24
    have lBW_25 := Nat.lt_of_lt_of_le lBW_24 hb25.size
    have cBG_25 := cell_is hb25 lBG_24 cBG_24
    have lBG_25 := Nat.lt_of_lt_of_le lBG_24 hb25.size
    clear hk24 W_24 G_24 H_24 cP0_24 lP0_24 cBW_24 lBW_24 cBG_24 lBG_24
    have cBH_25 : (w24.alloc (.cells #[.slice hha hhn hhc] 29)).cell? ⟨w24.heap.size, 0, none⟩ = some (.slice hha hhn hhc) := by simp [go_sem]
    have lBH_25 : w24.heap.size < (w24.alloc (.cells #[.slice hha hhn hhc] 29)).heap.size := by simp
    have al25 := lBH_25
    clear hb25
    go_wp2_with fail
    refine (eqSpine_self _ _ os _ H_25.runs W_25.runs).mono ?_
    rintro e w26 ⟨rfl, hb26⟩
    clear H_25
    clear W_25
    have s26 := hb26.size
    have hk26 := below_then hk25 hb26
    have G_26 := G_25.keep' hb26
    have cP0_26 := cell_is hb26 lP0_25 cP0_25
    have lP0_26 := Nat.lt_of_lt_of_le lP0_25 hb26.size
    have cBW_26 := cell_is hb26 lBW_25 cBW_25
    have lBW_26 := Nat.lt_of_lt_of_le lBW_25 hb26.size
    have cBG_26 := cell_is hb26 lBG_25 cBG_25
    have lBG_26 := Nat.lt_of_lt_of_le lBG_25 hb26.size
    have cBH_26 := cell_is hb26 lBH_25 cBH_25
    have lBH_26 := Nat.lt_of_lt_of_le lBH_25 hb26.size
    clear hk25 G_25 cP0_25 lP0_25 cBW_25 lBW_25 cBG_25 lBG_25 cBH_25 lBH_25
    clear hb26
    go_wp2_with fail
    refine (heldSpine_any _ os 1 _ (by omega) (by omega) hos2 G_26.runs).mono ?_
    rw [← HTM.out]
    rintro e w27 ⟨rfl, hb27⟩
    have s27 := hb27.size
    have hk27 := below_then hk26 hb27
    have G_27 := G_26.keep' hb27
    have cP0_27 := cell_is hb27 lP0_26 cP0_26
    have lP0_27 := Nat.lt_of_lt_of_le lP0_26 hb27.size
    have cBW_27 := cell_is hb27 lBW_26 cBW_26
    have lBW_27 := Nat.lt_of_lt_of_le lBW_26 hb27.size
    have cBG_27 := cell_is hb27 lBG_26 cBG_26
    have lBG_27 := Nat.lt_of_lt_of_le lBG_26 hb27.size
    have cBH_27 := cell_is hb27 lBH_26 cBH_26
    have lBH_27 := Nat.lt_of_lt_of_le lBH_26 hb27.size
    clear hk26 G_26 cP0_26 lP0_26 cBW_26 lBW_26 cBG_26 lBG_26 cBH_26 lBH_26
    clear hb27
    clear G_27 cP0_27 lP0_27 cBW_27 lBW_27 cBG_27 lBG_27 cBH_27 lBH_27
    go_wp2
    go_ret
    exact ⟨rfl, hk27⟩

end Go.Proofs.Ytjobidfkhaiiaaa
