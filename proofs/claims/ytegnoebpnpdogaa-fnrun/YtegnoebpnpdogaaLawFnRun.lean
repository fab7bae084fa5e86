/-
  The walk of laws.FnRun, out of the contracts: it answers true whatever the bytes are, and nothing that was there is written.
-/
import Derived.Test.YtegnoebpnpdogaaDrawRunPut
import Derived.Test.YtegnoebpnpdogaaRunSame
import Derived.Test.YtegnoebpnpdogaaRunOkSpec
import Derived.Test.YtegnoebpnpdogaaZFacts
import Derived.Test.YtegnoebpnpdogaaSearch
namespace Go.Proofs.Ytegnoebpnpdogaa
set_option maxRecDepth 100000
set_option linter.unusedVariables false
open Go.RowKit

theorem put_sum {s : Rn} {z : List It} (h : putOk s z = true) : runOkB (putOut s z) = true ∧ sumR (putOut s z) = addZ (sumR s) z ∧ runOkB s = true ∧ zOkB z = true := by
  rw [putOut_ok h]
  exact putRuns_ok h
theorem put_add2 {s : Rn} {z : List It} (hs : runOkB s = true) (hz : zOkB z = true) : addOk (sumR s) z = putOk s z := by
  by_cases h0 : z = []
  · subst h0
    simp [addOk, putOk, hs, addZ_nil, sum_ok hs, zOk_nil]
  · simp [addOk, putOk, hs, hz, h0, sum_ok hs]
theorem put_too {s : Rn} {z : List It} (hs : runOkB s = true) (hz : zOkB z = true) (h : putOk s z = false) : putOut s z = s := by
  by_cases h0 : z = []
  · simp [putOut, putRuns, hs, h0, zOk_nil]
  · have h1 : zOkB (addZ (sumR s) z) = false := by simpa [putOk, hs, hz, h0] using h
    simp [putOut, putRuns, hs, hz, h0, h1]
theorem wrap_mid {z : Int} (h1 : -100000 ≤ z) (h2 : z ≤ 100000) : IntKind.i64.wrap z = z := by
  rw [IntKind.wrap_i64]
  omega
theorem specZOk_b2 {v : Value} {zs : List It} {w : World} (h : TailZ w v zs) :
    Calls Try.prog 15 #[v] w fun e w' => e = .returned (.bool (zOkB zs)) ∧ Below w.heap.size w w' := by
  refine (specZOk_any v zs w h.items).mono ?_
  rintro e w1 ⟨rfl, hd⟩
  exact ⟨rfl, hd.below⟩
theorem zget_ok2 {v rv : Value} {zs : List It} {r : List Int} {n : Int} {w : World} (hz : zOkB zs = true) (hn : getZ zs r = n) (h : ItemsAt w v zs) (hr : IntsAt w rv r) :
    Calls Try.prog 21 #[v, rv] w fun e w' => e = .returned (.int .i64 n) ∧ Below w.heap.size w w' := by
  have := implZGet_any v zs rv r w h hr
  rwa [if_pos hz, hn] at this

set_option maxHeartbeats 4000000 in
theorem lawFnRun (a : Option Addr) (len cap : Nat) (bs : List Int) (a2 : Option Addr) (len2 cap2 : Nat) (bs2 : List Int) (w : World) (h : IsRow .u8 w a len cap bs) (h2 : IsRow .u8 w a2 len2 cap2 bs2) :
    Calls Try.prog 3 #[.slice a len cap, .slice a2 len2 cap2] w fun e w' => e = .returned (.bool true) ∧ Below w.heap.size w w' := by
  by_cases hl : ¬ len ≤ 1048576
  · have hbig : (1048576 : Int) < (len : Int) := by omega
    clear h h2
    go_enter Try.func3, Try.ntmps3
    go_wp2
    go_ret
    exact ⟨rfl, Below.refl _ _⟩
  replace hl : len ≤ 1048576 := by omega
  have hlI : ¬ (1048576 : Int) < (len : Int) := by omega
  by_cases hl2 : ¬ len2 ≤ 1048576
  · have hbig : (1048576 : Int) < (len2 : Int) := by omega
    clear h h2
    go_enter Try.func3, Try.ntmps3
    go_wp2
    go_ret
    exact ⟨rfl, Below.refl _ _⟩
  replace hl2 : len2 ≤ 1048576 := by omega
  have hlI2 : ¬ (1048576 : Int) < (len2 : Int) := by omega
  go_enter Try.func3, Try.ntmps3
  go_wp2_with fail
  refine (drawRunPut_any a len cap bs _ h).mono ?_
  rintro e w1 ⟨v1, u1, rfl, s, z, R5, hz', hk⟩
  have hz := hz'.now
  have h2' := h2.below hk
  clear h h2 hz'
  obtain ⟨sa, sn, sc, rfl⟩ := R5.shapeN
  obtain ⟨za, zn, zc, rfl⟩ : ∃ a n c, u1 = Value.slice a n c := by obtain ⟨a, c, e⟩ := hz.shape1; exact ⟨a, _, c, e⟩
  have hbx5 : Below w1.heap.size w1 (w1.alloc (.cells #[.slice sa sn sc] 25)) := below_alloc _
  have B5 : BoxAt (w1.alloc (.cells #[.slice sa sn sc] 25)) w1.heap.size (.slice sa sn sc) := boxAt_new _ _
  have hk_1 := below_then hk hbx5
  have R5_1 := R5.below hbx5
  have hz_1 := hz.below hbx5
  have h2_1 := h2'.below hbx5
  clear hk R5 hz h2'
  clear hbx5
  obtain ⟨c, HC⟩ : ∃ c, Hid (c = putOk s z) := ⟨_, rfl⟩
  obtain ⟨x, HX⟩ : ∃ x, Hid (x = putOut s z) := ⟨_, rfl⟩
  have c5_1 := B5.cell
  go_wp2_with fail
  refine (implRunPut_any _ s _ z _ R5_1 hz_1).mono ?_
  rw [← HC.out, ← HX.out]
  rintro e w3 ⟨v3, rfl, O7, hb3⟩
  have hk_2 := below_then hk_1 hb3
  have R5_2 := R5_1.below hb3
  have hz_2 := hz_1.below hb3
  have h2_2 := h2_1.below hb3
  have B5_2 := B5.below hb3
  clear hk_1 R5_1 hz_1 h2_1 B5
  clear hb3
  obtain ⟨xa, xc, hshx⟩ := O7.shape
  obtain ⟨xn, HXN⟩ : ∃ n, Hid (n = x.length) := ⟨_, rfl⟩
  rw [← HXN.out] at hshx
  subst hshx
  have R7 := O7.runs
  clear O7
  have hbx7 : Below w3.heap.size w3 (w3.alloc (.cells #[.slice xa xn xc] 25)) := below_alloc _
  have B7 : BoxAt (w3.alloc (.cells #[.slice xa xn xc] 25)) w3.heap.size (.slice xa xn xc) := boxAt_new _ _
  have hk_3 := below_then hk_2 hbx7
  have R5_3 := R5_2.below hbx7
  have hz_3 := hz_2.below hbx7
  have h2_3 := h2_2.below hbx7
  have B5_3 := B5_2.below hbx7
  have R7_3 := R7.below hbx7
  clear hk_2 R5_2 hz_2 h2_2 B5_2 R7
  clear hbx7
  have c5_3 := B5_3.cell
  go_wp2_with fail
  refine (specRunPut_any _ s _ z _ R5_3 hz_3).mono ?_
  rw [← HC.out, ← HX.out]
  rintro e w4 ⟨v4, rfl, O9, hb4⟩
  have hk_4 := below_then hk_3 hb4
  have R5_4 := R5_3.below hb4
  have hz_4 := hz_3.below hb4
  have h2_4 := h2_3.below hb4
  have B5_4 := B5_3.below hb4
  have R7_4 := R7_3.below hb4
  have B7_4 := B7.below hb4
  clear hk_3 R5_3 hz_3 h2_3 B5_3 R7_3 B7
  clear hb4
  obtain ⟨qa, qn, qc, rfl⟩ := O9.runs.shapeN
  have R9 := O9.runs
  clear O9
  have hbx9 : Below w4.heap.size w4 (w4.alloc (.cells #[.slice qa qn qc] 25)) := below_alloc _
  have B9 : BoxAt (w4.alloc (.cells #[.slice qa qn qc] 25)) w4.heap.size (.slice qa qn qc) := boxAt_new _ _
  have hk_5 := below_then hk_4 hbx9
  have R5_5 := R5_4.below hbx9
  have hz_5 := hz_4.below hbx9
  have h2_5 := h2_4.below hbx9
  have B5_5 := B5_4.below hbx9
  have R7_5 := R7_4.below hbx9
  have B7_5 := B7_4.below hbx9
  have R9_5 := R9.below hbx9
  clear hk_4 R5_4 hz_4 h2_4 B5_4 R7_4 B7_4 R9
  clear hbx9
  have g5 := B5_5.cell
  have g7 := B7_5.cell
  have g9 := B9.cell
  obtain ⟨ko, HKO⟩ : ∃ ko, Hid (ko = runOkB s) := ⟨_, rfl⟩
  go_upto_region 6 with fail
  go_cut [56] (fun p wx => p = .bool false ∧ Hid (Below (w4.alloc (.cells #[.slice qa qn qc] 25)).heap.size (w4.alloc (.cells #[.slice qa qn qc] 25)) wx))
  case first =>
    go_wp2_with fail
    go_region_held3 (fun w' => w'.cell? ⟨w1.heap.size, 0, none⟩ = some (.slice sa sn sc) ∧ w'.cell? ⟨w3.heap.size, 0, none⟩ = some (.slice xa xn xc) ∧ w'.cell? ⟨w4.heap.size, 0, none⟩ = some (.slice qa qn qc)) (first | go_keep | (exact ⟨i1, i2, i3⟩) | (exact ⟨i4, i5, i6⟩) | (exact ⟨i7, i8, i9⟩)) ((first
      | (go_at_call 14; refine (specRunOk_any _ s _ (R5_5.below kb)).mono ?_; rw [← HKO.out]; rintro e wq ⟨rfl, hbq⟩; have kq := below_then kb hbq; have i7 := (B5_5.below kq).cell; have i8 := (B7_5.below kq).cell; have i9 := (B9.below kq).cell)
      | (go_at_call 13; refine (implRunOk_any _ s _ (R5_5.below ka)).mono ?_; rw [← HKO.out]; rintro e wb ⟨rfl, hbb⟩; have kb := below_then ka hbb; have i4 := (B5_5.below kb).cell; have i5 := (B7_5.below kb).cell; have i6 := (B9.below kb).cell)
      | (go_at_call 12; refine (implRunSame_any _ _ x x _ (R7_5.below (Below.drew (Below.refl _ _))) (R9_5.below (Below.drew (Below.refl _ _)))).mono ?_; rw [show rsB x x = true by simp [rsB]]; rintro e wa ⟨rfl, hba⟩; have ka := below_then (Below.drew (Below.refl _ _)) hba; have i1 := (B5_5.below ka).cell; have i2 := (B7_5.below ka).cell; have i3 := (B9.below ka).cell)))
    all_goals
      go_wp2_with fail
      go_meet
      case rel => exact ⟨rfl, kq⟩
  case rest =>
    obtain ⟨rfl, HC6⟩ := hcut
    have hb6 := HC6.out
    clear HC6 g5 g7 g9
    clear B9 R9_5
    have hk_6 := below_then hk_5 hb6
    have R5_6 := R5_5.below hb6
    have hz_6 := hz_5.below hb6
    have h2_6 := h2_5.below hb6
    have B5_6 := B5_5.below hb6
    have R7_6 := R7_5.below hb6
    have B7_6 := B7_5.below hb6
    clear hk_5 R5_5 hz_5 h2_5 B5_5 R7_5 B7_5
    clear hb6
    have HSO : Hid (runOkB s = ko) := HKO.out.symm
    clear HKO
    have c5_6 := B5_6.cell
    have c7_6 := B7_6.cell
    cases ko with
    | false =>
      have hc0 : c = false := by rw [HC.out]; simp [putOk, HSO.out]
      have hx0 : xn = 0 := by rw [HXN.out, HX.out]; simp [putOut, HSO.out]
      subst hc0 hx0
      go_wp2_with fail
      refine (specRunOk_any _ s _ R5_6).mono ?_
      rw [HSO.out]
      rintro e w8 ⟨rfl, hb8⟩
      have hk_7 := below_then hk_6 hb8
      have R5_7 := R5_6.below hb8
      have hz_7 := hz_6.below hb8
      have h2_7 := h2_6.below hb8
      have B5_7 := B5_6.below hb8
      have R7_7 := R7_6.below hb8
      have B7_7 := B7_6.below hb8
      clear hk_6 R5_6 hz_6 h2_6 B5_6 R7_6 B7_6
      clear hb8
      have c7_7 := B7_7.cell
      have HK := hidK hk_7
      clear hk_7 R5_7 hz_7 h2_7 B5_7 R7_7 B7_7
      go_wp2
      go_ret
      exact ⟨rfl, HK.out⟩
    | true =>
      go_wp2_with fail
      refine (specRunOk_any _ s _ R5_6).mono ?_
      rw [HSO.out]
      rintro e w8 ⟨rfl, hb8⟩
      have hk_8 := below_then hk_6 hb8
      have R5_8 := R5_6.below hb8
      have hz_8 := hz_6.below hb8
      have h2_8 := h2_6.below hb8
      have B5_8 := B5_6.below hb8
      have R7_8 := R7_6.below hb8
      have B7_8 := B7_6.below hb8
      clear hk_6 R5_6 hz_6 h2_6 B5_6 R7_6 B7_6
      clear hb8
      cases hzo : zOkB z with
      | false =>
        have hc0 : c = false := by rw [HC.out]; simp [putOk, hzo]
        have hx0 : xn = 0 := by rw [HXN.out, HX.out]; simp [putOut, hzo]
        subst hc0 hx0
        go_wp2_with fail
        refine (specZOk_b2 hz_8).mono ?_
        rw [hzo]
        rintro e w9 ⟨rfl, hb9⟩
        have hk_9 := below_then hk_8 hb9
        have R5_9 := R5_8.below hb9
        have hz_9 := hz_8.below hb9
        have h2_9 := h2_8.below hb9
        have B5_9 := B5_8.below hb9
        have R7_9 := R7_8.below hb9
        have B7_9 := B7_8.below hb9
        clear hk_8 R5_8 hz_8 h2_8 B5_8 R7_8 B7_8
        clear hb9
        have c7_9 := B7_9.cell
        have HK := hidK hk_9
        clear hk_9 R5_9 hz_9 h2_9 B5_9 R7_9 B7_9
        go_wp2
        go_ret
        exact ⟨rfl, HK.out⟩
      | true =>
        go_wp2_with fail
        refine (specZOk_b2 hz_8).mono ?_
        rw [hzo]
        rintro e w9 ⟨rfl, hb9⟩
        have hk_10 := below_then hk_8 hb9
        have R5_10 := R5_8.below hb9
        have hz_10 := hz_8.below hb9
        have h2_10 := h2_8.below hb9
        have B5_10 := B5_8.below hb9
        have R7_10 := R7_8.below hb9
        have B7_10 := B7_8.below hb9
        clear hk_8 R5_8 hz_8 h2_8 B5_8 R7_8 B7_8
        clear hb9
        have c5_10 := B5_10.cell
        have c7_10 := B7_10.cell
        cases c with
        | false =>
          have hxs : x = s := by rw [HX.out]; exact put_too HSO.out hzo HC.out.symm
          go_wp2_with fail
          refine (implRunSame_any _ _ x s _ R7_10 R5_10).mono ?_
          rw [show rsB x s = true by simp [rsB, hxs]]
          rintro e w10 ⟨rfl, hb10⟩
          have hk_11 := below_then hk_10 hb10
          have R5_11 := R5_10.below hb10
          have hz_11 := hz_10.below hb10
          have h2_11 := h2_10.below hb10
          have B5_11 := B5_10.below hb10
          have R7_11 := R7_10.below hb10
          have B7_11 := B7_10.below hb10
          clear hk_10 R5_10 hz_10 h2_10 B5_10 R7_10 B7_10
          clear hb10
          have HK := hidK hk_11
          clear hk_11 R5_11 hz_11 h2_11 B5_11 R7_11 B7_11
          go_wp2
          go_ret
          exact ⟨rfl, HK.out⟩
        | true =>
          have hpo : putOk s z = true := HC.out.symm
          obtain ⟨p1, p2, p3, p4⟩ := put_sum hpo
          rw [← HX.out] at p1 p2
          have hao : addOk (sumR s) z = true := by rw [put_add2 p3 p4]; exact hpo
          have hau : addOut (sumR s) z = sumR x := by rw [p2]; simp [addOut, hao]
          have t2 : togOut s = sumR s := by simp [togOut, p3]
          have t7 : togOut x = sumR x := by simp [togOut, p1]
          go_wp2_with fail
          refine (implRunAll_any _ s _ R5_10).mono ?_
          rw [t2]
          rintro e w11 ⟨v11, rfl, A', hb11⟩
          have hk_12 := below_then hk_10 hb11
          have R5_12 := R5_10.below hb11
          have hz_12 := hz_10.below hb11
          have h2_12 := h2_10.below hb11
          have B5_12 := B5_10.below hb11
          have R7_12 := R7_10.below hb11
          have B7_12 := B7_10.below hb11
          clear hk_10 R5_10 hz_10 h2_10 B5_10 R7_10 B7_10
          clear hb11
          obtain ⟨la, ln, lc, rfl⟩ := A'.shapeN
          have A := A'.tail
          clear A'
          go_wp2_with fail
          refine (implZAdd_any _ _ (sumR s) z _ A hz_12).mono ?_
          rw [hao, hau]
          rintro e w12 ⟨v12, rfl, U', hb12⟩
          have hk_13 := below_then hk_12 hb12
          have R5_13 := R5_12.below hb12
          have hz_13 := hz_12.below hb12
          have h2_13 := h2_12.below hb12
          have B5_13 := B5_12.below hb12
          have R7_13 := R7_12.below hb12
          have B7_13 := B7_12.below hb12
          have A_13 := A.below hb12
          clear hk_12 R5_12 hz_12 h2_12 B5_12 R7_12 B7_12 A
          clear hb12
          obtain ⟨ma, mn, mc, rfl⟩ := U'.shapeN
          have U := U'.tail
          clear U'
          go_wp2_with fail
          refine (drawRunGet_any a2 len2 cap2 bs2 _ h2_13).mono ?_
          rintro e w13 ⟨v13, u13, rfl, s13, r, R14, hr, hb13⟩
          clear h2_13
          have hk_14 := below_then hk_13 hb13
          have R5_14 := R5_13.below hb13
          have hz_14 := hz_13.below hb13
          have B5_14 := B5_13.below hb13
          have R7_14 := R7_13.below hb13
          have B7_14 := B7_13.below hb13
          have A_14 := A_13.below hb13
          have U_14 := U.below hb13
          clear hk_13 R5_13 hz_13 B5_13 R7_13 B7_13 A_13 U
          clear hb13
          obtain ⟨na, nn, nc, rfl⟩ := R14.shapeN
          obtain ⟨ra, rn, rc, rfl⟩ := hr.shape
          clear R14
          have hbx14 : Below w13.heap.size w13 (w13.alloc (.cells #[.slice na nn nc] 25)) := below_alloc _
          have B14 : BoxAt (w13.alloc (.cells #[.slice na nn nc] 25)) w13.heap.size (.slice na nn nc) := boxAt_new _ _
          have hk_15 := below_then hk_14 hbx14
          have R5_15 := R5_14.below hbx14
          have hz_15 := hz_14.below hbx14
          have B5_15 := B5_14.below hbx14
          have R7_15 := R7_14.below hbx14
          have B7_15 := B7_14.below hbx14
          have A_15 := A_14.below hbx14
          have U_15 := U_14.below hbx14
          have hr_15 := hr.below hbx14
          clear hk_14 R5_14 hz_14 B5_14 R7_14 B7_14 A_14 U_14 hr
          clear hbx14
          clear B14
          obtain ⟨gs, HGS⟩ : ∃ g, Hid (g = getZ (sumR s) r) := ⟨_, rfl⟩
          obtain ⟨gz, HGZ⟩ : ∃ g, Hid (g = getZ z r) := ⟨_, rfl⟩
          have e1 : getR s r = gs := by rw [HGS.out]; simp [getR, p3]
          have e2 : getR x r = gs + gz := by rw [HGS.out, HGZ.out]; simp [getR, p1, p2, getZ_add (zOk_srt (sum_ok p3)) (zOk_srt p4)]
          have hbs := getZ_bound (B := 10000) (by omega) r (zOk_w (sum_ok p3))
          have hbz := getZ_bound (B := 10000) (by omega) r (zOk_w p4)
          rw [← HGS.out] at hbs
          rw [← HGZ.out] at hbz
          have hwr : IntKind.i64.wrap (gs + gz) = gs + gz := wrap_mid (by omega) (by omega)
          have g5 := B5_15.cell
          have g7 := B7_15.cell
          go_upto_region 15 with fail
          go_region_held3 (fun w' => w'.cell? ⟨w1.heap.size, 0, none⟩ = some (.slice sa sn sc) ∧ w'.cell? ⟨w3.heap.size, 0, none⟩ = some (.slice xa xn xc)) (first | go_keep | (exact ⟨i1, j1⟩) | (exact ⟨i2, j2⟩) | (exact ⟨i3, j3⟩) | (exact ⟨i4, j4⟩) | (exact ⟨i5, j5⟩) | (exact ⟨i6, j6⟩) | (exact ⟨i7, j7⟩) | (exact ⟨i8, j8⟩)) ((first
            | (go_at_call 21; refine (zget_ok2 (sum_ok p3) HGS.out.symm (A_15.below k7).items (hr_15.below k7)).mono ?_; rintro e y8 ⟨rfl, h8⟩; have k8 := below_then k7 h8; have i8 := (B5_15.below k8).cell; have j8 := (B7_15.below k8).cell)
            | (go_at_call 20; refine (implRunGet_any _ s _ r _ (R5_15.below k6) (hr_15.below k6)).mono ?_; rw [e1]; rintro e y7 ⟨rfl, h7⟩; have k7 := below_then k6 h7; have i7 := (B5_15.below k7).cell; have j7 := (B7_15.below k7).cell)
            | (go_at_call 21; refine (zget_ok2 p4 HGZ.out.symm (hz_15.below k5).items (hr_15.below k5)).mono ?_; rintro e y6 ⟨rfl, h6⟩; have k6 := below_then k5 h6; have i6 := (B5_15.below k6).cell; have j6 := (B7_15.below k6).cell)
            | (go_at_call 20; refine (implRunGet_any _ s _ r _ (R5_15.below k4) (hr_15.below k4)).mono ?_; rw [e1]; rintro e y5 ⟨rfl, h5⟩; have k5 := below_then k4 h5; have i5 := (B5_15.below k5).cell; have j5 := (B7_15.below k5).cell)
            | (go_at_call 20; refine (implRunGet_any _ x _ r _ (R7_15.below k3) (hr_15.below k3)).mono ?_; rw [e2]; rintro e y4 ⟨rfl, h4⟩; have k4 := below_then k3 h4; have i4 := (B5_15.below k4).cell; have j4 := (B7_15.below k4).cell)
            | (go_at_call 19; refine (implZSame_any _ _ (sumR x) (sumR x) _ Z2.items (U_15.below k2).items).mono ?_; rw [show zsB (sumR x) (sumR x) = true by simp [zsB]]; rintro e y3 ⟨rfl, h3⟩; have k3 := below_then k2 h3; have i3 := (B5_15.below k3).cell; have j3 := (B7_15.below k3).cell)
            | (go_at_call 16; refine (implRunAll_any _ x _ (R7_15.below k1)).mono ?_; rw [t7]; rintro e y2 ⟨v2, rfl, Z2, hb2⟩; have k2 := below_then k1 hb2; have i2 := (B5_15.below k2).cell; have j2 := (B7_15.below k2).cell)
            | (go_at_call 13; refine (implRunOk_any _ x _ (R7_15.below (Below.drew (Below.refl _ _)))).mono ?_; rw [p1]; rintro e y1 ⟨rfl, hb1⟩; have k1 := below_then (Below.drew (Below.refl _ _)) hb1; have i1 := (B5_15.below k1).cell; have j1 := (B7_15.below k1).cell)))
          all_goals
            have HK := hidK (below_then hk_15 k8)
            clear hk_15 R5_15 hz_15 B5_15 R7_15 B7_15 A_15 U_15 hr_15
            go_wp2
            go_ret
            exact ⟨rfl, HK.out⟩

end Go.Proofs.Ytegnoebpnpdogaa
