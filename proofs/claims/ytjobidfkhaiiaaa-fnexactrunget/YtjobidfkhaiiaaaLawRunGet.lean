/-
  The walk of laws.FnExactRunGet, out of the contracts: it answers true at all arguments, and nothing that was there is written.
-/
import Derived.Test.YtjobidfkhaiiaaaRunGet
import Derived.Test.YtjobidfkhaiiaaaRunsLaw
import Derived.Deep.DeepCutAuto
namespace Go.Proofs.Ytjobidfkhaiiaaa
set_option maxRecDepth 100000
set_option linter.unusedVariables false
open Go.RowKit

theorem toIntS_ex (v : Value) (xs : List Int) (w : World) (h : IntsAt w v xs) (hlim : xs.length ≤ 1048576) :
    Calls Try.prog 28 #[v] w fun e w' => ∃ u, e = .returned u ∧ Own w' w.heap.size w'.heap.size u xs ∧ Below w.heap.size w w' := by
  refine (toIntS_any v xs w h hlim).mono ?_
  rintro e w1 ⟨rfl, ho, hb⟩
  exact ⟨_, rfl, own_new ho (by omega), hb⟩

set_option maxHeartbeats 16000000 in
theorem lawRunGet (v0 : Value) (z0 : Rn) (a1 : Option Addr) (len1 cap1 : Nat) (r1 : List Int) (w : World) (h0 : RawRuns w v0 z0) (h1 : IsRow .i64 w a1 len1 cap1 r1) :
    Calls Try.prog 7 #[.agg #[v0], .slice a1 len1 cap1] w fun e w' => e = .returned (.bool true) ∧ Below w.heap.size w w' := by
  obtain ⟨pa0, pc0, hsh0⟩ := h0.shape
  obtain ⟨pn0, HPN0⟩ : ∃ n, Hid (n = z0.length) := ⟨_, rfl⟩
  rw [← HPN0.out] at hsh0
  subst hsh0
  by_cases hl1 : ¬ len1 ≤ 1048576
  · have hbig : (1048576 : Int) < (len1 : Int) := by omega
    clear h0 h1
    go_enter Try.func7, Try.ntmps7
    go_wp2
    go_ret
    exact ⟨rfl, below_alloc _⟩
  replace hl1 : len1 ≤ 1048576 := by omega
  obtain ⟨ks1, HL1, hz1⟩ := h1.ints (by omega)
  subst HL1
  clear h1
  obtain ⟨gv, HG⟩ : ∃ gv : Int, Hid (gv = getR z0 ks1) := ⟨_, rfl⟩
  go_enter Try.func7, Try.ntmps7
  have hb1 : Below w.heap.size w (w.alloc (.cells #[.slice pa0 pn0 pc0] 24)) := below_alloc _
  have s1 := hb1.size
  have hk1 := hb1
  have cP0_1 : (w.alloc (.cells #[.slice pa0 pn0 pc0] 24)).cell? ⟨w.heap.size, 0, none⟩ = some (.slice pa0 pn0 pc0) := by simp [go_sem]
  have lP0_1 : w.heap.size < (w.alloc (.cells #[.slice pa0 pn0 pc0] 24)).heap.size := by simp
  have al1 := lP0_1
  clear hb1
  go_wp2_with fail
  refine (szSpine_any _ z0 1048576 _ (h0.below hk1) (by omega) (by omega)).mono ?_
  rintro e w2 ⟨r0, rfl, hr0, hb2⟩
  have s2 := hb2.size
  have hk2 := below_then hk1 hb2
  have cP0_2 := cell_is hb2 lP0_1 cP0_1
  have lP0_2 := Nat.lt_of_lt_of_le lP0_1 hb2.size
  clear hk1 cP0_1 lP0_1
  clear hb2
  by_cases hneg0 : r0 < 0
  · clear hr0
    go_wp2
    go_ret
    exact ⟨rfl, hk2⟩
  have hlim0 : z0.length + runsLen z0 ≤ 1048576 := by omega
  have hrl0 : r0 ≤ 1048576 := by omega
  clear hr0
  go_wp2_with fail
  refine (toSpine_any _ z0 _ (h0.below hk2) hlim0).mono ?_
  rintro e w3 ⟨a0v, rfl, A0_3, hb3⟩
  have s3 := hb3.size
  have hk3 := below_then hk2 hb3
  have cP0_3 := cell_is hb3 lP0_2 cP0_2
  have lP0_3 := Nat.lt_of_lt_of_le lP0_2 hb3.size
  clear hk2 cP0_2 lP0_2
  clear hb3
  obtain ⟨aa0, an0, ac0, rfl⟩ := A0_3.runs.shapeN
  go_wp2_with fail
  refine (toIntS_ex _ ks1 _ (hz1.below hk3) hl1).mono ?_
  rintro e w4 ⟨a1v, rfl, A1_4, hb4⟩
  have s4 := hb4.size
  have hk4 := below_then hk3 hb4
  have A0_4 := A0_3.keep' hb4
  have cP0_4 := cell_is hb4 lP0_3 cP0_3
  have lP0_4 := Nat.lt_of_lt_of_le lP0_3 hb4.size
  clear hk3 A0_3 cP0_3 lP0_3
  clear hb4
  obtain ⟨aa1, an1, ac1, rfl⟩ := A1_4.ints.shape
  go_wp2_with fail
  refine (specRunGet_any _ z0 _ ks1 _ A0_4.runs A1_4.ints).mono ?_
  rw [← HG.out]
  rintro e w5 ⟨rfl, hb5⟩
  clear A0_4
  clear A1_4
  have s5 := hb5.size
  have hk5 := below_then hk4 hb5
  have cP0_5 := cell_is hb5 lP0_4 cP0_4
  have lP0_5 := Nat.lt_of_lt_of_le lP0_4 hb5.size
  clear hk4 cP0_4 lP0_4
  clear hb5
  go_wp2_with fail
  refine (toSpine_any _ z0 _ (h0.below hk5) hlim0).mono ?_
  rintro e w6 ⟨x0v, rfl, X0_6, hb6⟩
  have s6 := hb6.size
  have hk6 := below_then hk5 hb6
  have cP0_6 := cell_is hb6 lP0_5 cP0_5
  have lP0_6 := Nat.lt_of_lt_of_le lP0_5 hb6.size
  clear hk5 cP0_5 lP0_5
  clear hb6
  obtain ⟨xa0, xn0, xc0, rfl⟩ := X0_6.runs.shapeN
  have hb7 : Below w6.heap.size w6 (w6.alloc (.cells #[.slice xa0 xn0 xc0] 29)) := below_alloc _
  have s7 := hb7.size
  have hk7 := below_then hk6 hb7
  have X0_7 := X0_6.keep' hb7
  have cP0_7 := cell_is hb7 lP0_6 cP0_6
  have lP0_7 := Nat.lt_of_lt_of_le lP0_6 hb7.size
  clear hk6 X0_6 cP0_6 lP0_6
  have cX0_7 : (w6.alloc (.cells #[.slice xa0 xn0 xc0] 29)).cell? ⟨w6.heap.size, 0, none⟩ = some (.slice xa0 xn0 xc0) := by simp [go_sem]
  have lX0_7 : w6.heap.size < (w6.alloc (.cells #[.slice xa0 xn0 xc0] 29)).heap.size := by simp
  have al7 := lX0_7
  clear hb7
  go_wp2_with fail
  refine (toIntS_ex _ ks1 _ (hz1.below hk7) hl1).mono ?_
  rintro e w8 ⟨x1v, rfl, X1_8, hb8⟩
  have s8 := hb8.size
  have hk8 := below_then hk7 hb8
  have X0_8 := X0_7.keep' hb8
  have cP0_8 := cell_is hb8 lP0_7 cP0_7
  have lP0_8 := Nat.lt_of_lt_of_le lP0_7 hb8.size
  have cX0_8 := cell_is hb8 lX0_7 cX0_7
  have lX0_8 := Nat.lt_of_lt_of_le lX0_7 hb8.size
  clear hk7 X0_7 cP0_7 lP0_7 cX0_7 lX0_7
  clear hb8
  obtain ⟨xa1, xn1, xc1, rfl⟩ := X1_8.ints.shape
  go_wp2_with fail
  refine (implRunGet_any _ z0 _ ks1 _ X0_8.runs X1_8.ints).mono ?_
  rw [← HG.out]
  rintro e w9 ⟨rfl, hb9⟩
  have s9 := hb9.size
  have hk9 := below_then hk8 hb9
  have X0_9 := X0_8.keep' hb9
  have X1_9 := X1_8.keep' hb9
  have cP0_9 := cell_is hb9 lP0_8 cP0_8
  have lP0_9 := Nat.lt_of_lt_of_le lP0_8 hb9.size
  have cX0_9 := cell_is hb9 lX0_8 cX0_8
  have lX0_9 := Nat.lt_of_lt_of_le lX0_8 hb9.size
  clear hk8 X0_8 X1_8 cP0_8 lP0_8 cX0_8 lX0_8
  clear hb9
  have hcc : (gv != gv) = false := by simp
  go_upto_region 13 with fail
  go_cut [37] (fun c wx => c = .bool false ∧ Hid (Below w9.heap.size w9 wx))
  case first =>
    go_wp2_with fail
    go_region_with (first
      | (go_at_call 13; have hO := OQ; refine (eqSpine_self _ _ z0 _ (X0_9.runs.below hbp) OQ.runs).mono ?_; rintro e wq ⟨rfl, hbr⟩)
      | (go_at_call 11; refine (toSpine_any _ z0 _ (by first | exact h0.below hk9 | exact h0.below (below_drewN hk9 _) | exact h0.below (Below.drew hk9)) hlim0).mono ?_; rintro e wp ⟨qv, rfl, OQ, hbp'⟩; have hbp : Below w9.heap.size w9 wp := (by first | exact hbp' | exact below_then (below_drewN (Below.refl _ _) _) hbp' | exact below_then (Below.drew (Below.refl _ _)) hbp'); have cq : wp.cell? ⟨w6.heap.size, 0, none⟩ = some (.slice xa0 xn0 xc0) := (cell_is hbp lX0_9 cX0_9)))
    all_goals
      have hbq : Hid (Below w9.heap.size w9 wq) := below_then hbp hbr
      clear X0_9 X1_9 cP0_9 cX0_9
      go_wp2_with fail
      go_meet
      case rel => exact ⟨rfl, hbq.out⟩
  case rest =>
    rename World => w10
    obtain ⟨rfl, hcb⟩ := hcut
    have hb10 := hcb.out
    have s10 := hb10.size
    have hk10 := below_then hk9 hb10
    have X0_10 := X0_9.keep' hb10
    have X1_10 := X1_9.keep' hb10
    have cP0_10 := cell_is hb10 lP0_9 cP0_9
    have lP0_10 := Nat.lt_of_lt_of_le lP0_9 hb10.size
    have cX0_10 := cell_is hb10 lX0_9 cX0_9
    have lX0_10 := Nat.lt_of_lt_of_le lX0_9 hb10.size
    clear hk9 X0_9 X1_9 cP0_9 lP0_9 cX0_9 lX0_9
    clear hb10 hcb
    go_wp2_with fail
    refine (toIntS_ex _ ks1 _ (hz1.below hk10) hl1).mono ?_
    rintro e w11 ⟨c1v, rfl, C1_11, hb11⟩
    have s11 := hb11.size
    have hk11 := below_then hk10 hb11
    have X0_11 := X0_10.keep' hb11
    have X1_11 := X1_10.keep' hb11
    have cP0_11 := cell_is hb11 lP0_10 cP0_10
    have lP0_11 := Nat.lt_of_lt_of_le lP0_10 hb11.size
    have cX0_11 := cell_is hb11 lX0_10 cX0_10
    have lX0_11 := Nat.lt_of_lt_of_le lX0_10 hb11.size
    clear hk10 X0_10 X1_10 cP0_10 lP0_10 cX0_10 lX0_10
    clear hb11
    obtain ⟨ca1, cn1, cc1, rfl⟩ := C1_11.ints.shape
    go_wp2_with fail
    refine (eqIntS_any _ _ ks1 ks1 _ X1_11.ints C1_11.ints).mono ?_
    rintro e w12 ⟨rfl, hb12⟩
    clear C1_11
    have s12 := hb12.size
    have hk12 := below_then hk11 hb12
    have X0_12 := X0_11.keep' hb12
    have X1_12 := X1_11.keep' hb12
    have cP0_12 := cell_is hb12 lP0_11 cP0_11
    have lP0_12 := Nat.lt_of_lt_of_le lP0_11 hb12.size
    have cX0_12 := cell_is hb12 lX0_11 cX0_11
    have lX0_12 := Nat.lt_of_lt_of_le lX0_11 hb12.size
    clear hk11 X0_11 X1_11 cP0_11 lP0_11 cX0_11 lX0_11
    clear hb12
    rw [sameB_refl]
    clear X0_12 X1_12 cP0_12 lP0_12 cX0_12 lX0_12
    go_wp2
    go_ret
    exact ⟨rfl, hk12⟩

end Go.Proofs.Ytjobidfkhaiiaaa
