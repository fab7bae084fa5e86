/-
  The walk of laws.FnRunBack, out of the contracts: it answers true whatever the bytes are, and nothing that was there is written.
-/
import Derived.Test.YtegnoebpnpdogaaDrawRunPut
import Derived.Test.YtegnoebpnpdogaaRunSame
import Derived.Test.YtegnoebpnpdogaaRunOkSpec
import Derived.Test.YtegnoebpnpdogaaZFacts
namespace Go.Proofs.Ytegnoebpnpdogaa
set_option maxRecDepth 100000
set_option linter.unusedVariables false
open Go.RowKit

theorem neg_ok {z : List It} (h : zOkB z = true) : zOkB (negZ z) = true := by rw [zOk_neg]; exact h
theorem back_sum {a z : List It} (ha : Srt a) (hn : Nz a) (hz : Srt z) : addZ (addZ a z) (negZ z) = a :=
  canon (srt_add (srt_add ha)) (nz_add (nz_add hn)) ha hn fun q => by rw [getZ_add (srt_add ha) (srt_neg hz), getZ_add ha hz, getZ_neg]; omega
theorem any_order {a y z : List It} (ha : Srt a) (hn : Nz a) (hz : Srt z) (hy : Srt y) : addZ (addZ a z) y = addZ (addZ a y) z :=
  canon (srt_add (srt_add ha)) (nz_add (nz_add hn)) (srt_add (srt_add ha)) (nz_add (nz_add hn)) fun q => by rw [getZ_add (srt_add ha) hy, getZ_add ha hz, getZ_add (srt_add ha) hz, getZ_add ha hy]; omega
theorem put_sum {s : Rn} {z : List It} (h : putOk s z = true) : runOkB (putOut s z) = true ∧ sumR (putOut s z) = addZ (sumR s) z ∧ runOkB s = true ∧ zOkB z = true := by
  rw [putOut_ok h]
  exact putRuns_ok h
theorem put_back {s : Rn} {z : List It} (h : putOk s z = true) : putOk (putOut s z) (negZ z) = true ∧ sumR (putOut (putOut s z) (negZ z)) = sumR s := by
  obtain ⟨h1, h2, h3, h4⟩ := put_sum h
  have hb : addZ (sumR (putOut s z)) (negZ z) = sumR s := by
    rw [h2]
    exact back_sum (zOk_srt (sum_ok h3)) (zOk_nz (sum_ok h3)) (zOk_srt h4)
  have hp : putOk (putOut s z) (negZ z) = true := by simp [putOk, h1, neg_ok h4, hb, sum_ok h3]
  exact ⟨hp, by rw [(put_sum hp).2.1, hb]⟩
theorem put_order {s : Rn} {z y : List It} (h : putOk s z = true) (h1 : putOk (putOut s z) y = true) (h2 : putOk s y = true) (h3 : putOk (putOut s y) z = true) : sumR (putOut (putOut s z) y) = sumR (putOut (putOut s y) z) := by
  rw [(put_sum h1).2.1, (put_sum h).2.1, (put_sum h3).2.1, (put_sum h2).2.1]
  have hs := (put_sum h).2.2.1
  exact any_order (zOk_srt (sum_ok hs)) (zOk_nz (sum_ok hs)) (zOk_srt (put_sum h).2.2.2) (zOk_srt (put_sum h2).2.2.2)
theorem implZNeg_ok {v : Value} {z : List It} {w : World} (hz : zOkB z = true) (h : ItemsAt w v z) :
    Calls Try.prog 29 #[v] w fun e w' => ∃ v', e = .returned v' ∧ OwnZ w' w.heap.size w'.heap.size v' (negZ z) ∧ Below w.heap.size w w' := by
  have := implZNeg_any v z w h
  rwa [if_pos hz] at this

set_option maxHeartbeats 4000000 in
theorem lawFnRunBack (a : Option Addr) (len cap : Nat) (bs : List Int) (a2 : Option Addr) (len2 cap2 : Nat) (bs2 : List Int) (w : World) (h : IsRow .u8 w a len cap bs) (h2 : IsRow .u8 w a2 len2 cap2 bs2) :
    Calls Try.prog 6 #[.slice a len cap, .slice a2 len2 cap2] w fun e w' => e = .returned (.bool true) ∧ Below w.heap.size w w' := by
  by_cases hl : ¬ len ≤ 1048576
  · have hbig : (1048576 : Int) < (len : Int) := by omega
    clear h h2
    go_enter Try.func6, Try.ntmps6
    go_wp2
    go_ret
    exact ⟨rfl, Below.refl _ _⟩
  replace hl : len ≤ 1048576 := by omega
  have hlI : ¬ (1048576 : Int) < (len : Int) := by omega
  by_cases hl2 : ¬ len2 ≤ 1048576
  · have hbig : (1048576 : Int) < (len2 : Int) := by omega
    clear h h2
    go_enter Try.func6, Try.ntmps6
    go_wp2
    go_ret
    exact ⟨rfl, Below.refl _ _⟩
  replace hl2 : len2 ≤ 1048576 := by omega
  have hlI2 : ¬ (1048576 : Int) < (len2 : Int) := by omega
  go_enter Try.func6, Try.ntmps6
  go_wp2_with fail
  refine (drawRunPut_any a len cap bs _ h).mono ?_
  rintro e w1 ⟨v1, u1, rfl, s, z, R5, hz', hk⟩
  have hz := hz'.now
  have h2' := h2.below hk
  clear h h2 hz'
  obtain ⟨sa, sn, sc, rfl⟩ := R5.shapeN
  obtain ⟨za, zn, zc, rfl⟩ : ∃ a n c, u1 = Value.slice a n c := by obtain ⟨a, c, e⟩ := hz.shape1; exact ⟨a, _, c, e⟩
  have hbx5 : Below w1.heap.size w1 (w1.alloc (.cells #[.slice sa sn sc] 25)) := below_alloc _
  have B5 : BoxAt (w1.alloc (.cells #[.slice sa sn sc] 25)) w1.heap.size (.slice sa sn sc) := boxAt_new _ _
  have hk_1 := below_then hk hbx5
  have R5_1 := R5.below hbx5
  have hz_1 := hz.below hbx5
  have h2_1 := h2'.below hbx5
  clear hk R5 hz h2'
  clear hbx5
  go_wp2_with fail
  refine (drawRunPut_any a2 len2 cap2 bs2 _ h2_1).mono ?_
  rintro e w2 ⟨v2, u2, rfl, s2, y, R7, hy', hb2⟩
  clear h2_1
  have hk_2 := below_then hk_1 hb2
  have R5_2 := R5_1.below hb2
  have hz_2 := hz_1.below hb2
  have B5_2 := B5.below hb2
  clear hk_1 R5_1 hz_1 B5
  have hy := hy'.now
  clear hb2 hy'
  obtain ⟨ta, tn, tc, rfl⟩ := R7.shapeN
  obtain ⟨ya, yn, yc, rfl⟩ : ∃ a n c, u2 = Value.slice a n c := by obtain ⟨a, c, e⟩ := hy.shape1; exact ⟨a, _, c, e⟩
  clear R7
  have hbx7 : Below w2.heap.size w2 (w2.alloc (.cells #[.slice ta tn tc] 25)) := below_alloc _
  have B7 : BoxAt (w2.alloc (.cells #[.slice ta tn tc] 25)) w2.heap.size (.slice ta tn tc) := boxAt_new _ _
  have hk_3 := below_then hk_2 hbx7
  have R5_3 := R5_2.below hbx7
  have hz_3 := hz_2.below hbx7
  have B5_3 := B5_2.below hbx7
  have hy_3 := hy.below hbx7
  clear hk_2 R5_2 hz_2 B5_2 hy
  clear hbx7
  clear B7
  obtain ⟨c, HC⟩ : ∃ c, Hid (c = putOk s z) := ⟨_, rfl⟩
  obtain ⟨x, HX⟩ : ∃ x, Hid (x = putOut s z) := ⟨_, rfl⟩
  have c5_3 := B5_3.cell
  go_wp2_with fail
  refine (implRunPut_any _ s _ z _ R5_3 hz_3).mono ?_
  rw [← HC.out, ← HX.out]
  rintro e w3 ⟨v3, rfl, O9, hb3⟩
  have hk_4 := below_then hk_3 hb3
  have R5_4 := R5_3.below hb3
  have hz_4 := hz_3.below hb3
  have B5_4 := B5_3.below hb3
  have hy_4 := hy_3.below hb3
  clear hk_3 R5_3 hz_3 B5_3 hy_3
  clear hb3
  obtain ⟨xa, xn, xc, rfl⟩ := O9.runs.shapeN
  have R9 := O9.runs
  clear O9
  have hbx9 : Below w3.heap.size w3 (w3.alloc (.cells #[.slice xa xn xc] 25)) := below_alloc _
  have B9 : BoxAt (w3.alloc (.cells #[.slice xa xn xc] 25)) w3.heap.size (.slice xa xn xc) := boxAt_new _ _
  have hk_5 := below_then hk_4 hbx9
  have R5_5 := R5_4.below hbx9
  have hz_5 := hz_4.below hbx9
  have B5_5 := B5_4.below hbx9
  have hy_5 := hy_4.below hbx9
  have R9_5 := R9.below hbx9
  clear hk_4 R5_4 hz_4 B5_4 hy_4 R9
  clear hbx9
  have c5_5 := B5_5.cell
  go_wp2_with fail
  refine (specRunPut_any _ s _ z _ R5_5 hz_5).mono ?_
  rw [← HC.out, ← HX.out]
  rintro e w4 ⟨v4, rfl, O11, hb4⟩
  have hk_6 := below_then hk_5 hb4
  have R5_6 := R5_5.below hb4
  have hz_6 := hz_5.below hb4
  have B5_6 := B5_5.below hb4
  have hy_6 := hy_5.below hb4
  have R9_6 := R9_5.below hb4
  have B9_6 := B9.below hb4
  clear hk_5 R5_5 hz_5 B5_5 hy_5 R9_5 B9
  clear hb4
  obtain ⟨qa, qn, qc, rfl⟩ := O11.runs.shapeN
  have R11 := O11.runs
  clear O11
  have hbx11 : Below w4.heap.size w4 (w4.alloc (.cells #[.slice qa qn qc] 25)) := below_alloc _
  have B11 : BoxAt (w4.alloc (.cells #[.slice qa qn qc] 25)) w4.heap.size (.slice qa qn qc) := boxAt_new _ _
  have hk_7 := below_then hk_6 hbx11
  have R5_7 := R5_6.below hbx11
  have hz_7 := hz_6.below hbx11
  have B5_7 := B5_6.below hbx11
  have hy_7 := hy_6.below hbx11
  have R9_7 := R9_6.below hbx11
  have B9_7 := B9_6.below hbx11
  have R11_7 := R11.below hbx11
  clear hk_6 R5_6 hz_6 B5_6 hy_6 R9_6 B9_6 R11
  clear hbx11
  have c9_7 := B9_7.cell
  have c11_7 := B11.cell
  go_wp2_with fail
  refine (implRunSame_any _ _ x x _ R9_7 R11_7).mono ?_
  rw [show rsB x x = true by simp [rsB]]
  rintro e w5 ⟨rfl, hb5⟩
  have hk_8 := below_then hk_7 hb5
  have R5_8 := R5_7.below hb5
  have hz_8 := hz_7.below hb5
  have B5_8 := B5_7.below hb5
  have hy_8 := hy_7.below hb5
  have R9_8 := R9_7.below hb5
  have B9_8 := B9_7.below hb5
  have R11_8 := R11_7.below hb5
  have B11_8 := B11.below hb5
  clear hk_7 R5_7 hz_7 B5_7 hy_7 R9_7 B9_7 R11_7 B11
  clear hb5
  have c9_8 := B9_8.cell
  have c11_8 := B11_8.cell
  cases c with
  | false =>
    go_wp2_with fail
    refine (implRunSame_any _ _ x x _ R9_8 R11_8).mono ?_
    rw [show rsB x x = true by simp [rsB]]
    rintro e w6 ⟨rfl, hb6⟩
    have hk_9 := below_then hk_8 hb6
    have R5_9 := R5_8.below hb6
    have hz_9 := hz_8.below hb6
    have B5_9 := B5_8.below hb6
    have hy_9 := hy_8.below hb6
    have R9_9 := R9_8.below hb6
    have B9_9 := B9_8.below hb6
    have R11_9 := R11_8.below hb6
    have B11_9 := B11_8.below hb6
    clear hk_8 R5_8 hz_8 B5_8 hy_8 R9_8 B9_8 R11_8 B11_8
    clear hb6
    have HK := hidK hk_9
    clear hk_9 R5_9 hz_9 B5_9 hy_9 R9_9 B9_9 R11_9 B11_9
    go_wp2
    go_ret
    exact ⟨rfl, HK.out⟩
  | true =>
    clear R11_8 B11_8
    have hpo : putOk s z = true := HC.out.symm
    obtain ⟨p1, p2, p3, p4⟩ := put_sum hpo
    obtain ⟨p5, p6⟩ := put_back hpo
    rw [← HX.out] at p1 p2 p5 p6
    obtain ⟨b9, hb9e⟩ : ∃ b9, b9 = w3.heap.size := ⟨_, rfl⟩
    obtain ⟨b5, hb5e⟩ : ∃ b5, b5 = w1.heap.size := ⟨_, rfl⟩
    have bz9 := B9_8.lt
    have cB := B9_8.cell
    have cBa := ((B9_8.below (Below.drew (Below.refl _ _))).below (below_alloc (.cells #[.slice none 0 0] 25))).cell
    clear hb9e hb5e b9 b5
    go_upto_region 9 with fail
    go_cut [13, 14] (fun p q wx => ∃ (b : Nat) (va : Option Addr) (vn vc : Nat), p = .pointer (some ⟨b, 0, none⟩) ∧ q = .bool true ∧ Hid (BoxAt wx b (.slice va vn vc) ∧ RunsAt wx (.slice va vn vc) (putOut x (negZ z)) ∧ Below w5.heap.size w5 wx))
    case first =>
      go_wp2_with fail
      go_region_with (first
        | (go_at_call 10; have hO := Z6; refine (implRunPut_any _ x _ (negZ z) _ (by first | exact R9_8.below hb6' | exact (R9_8.below hb6').below (below_alloc _)) (by first | exact Z6.tail | exact Z6.tail.below (below_alloc _))).mono ?_; rw [p5]; rintro e w7 ⟨v7, rfl, O7, hb7⟩; obtain ⟨a7, n7, c7, rfl⟩ := O7.runs.shapeN; have hb7' : Below w6.heap.size w6 w7 := (by first | exact hb7 | exact below_then (below_alloc _) hb7); first | (have k8 : BoxAt w7 w5.heap.size (.slice none 0 0) := (k7.below hb7'); have k8c := k8.cell; have k8f := k8.frozen) | (have k9 : BoxAt w7 w6.heap.size (.slice none 0 0) := (BoxAt.below (boxAt_new w6 (.slice none 0 0)) hb7); have k9c := k9.cell; have k9f := k9.frozen) | skip)
        | (go_at_call 29; refine (implZNeg_ok p4 (by first | exact (hz_8.below (Below.drew (Below.refl _ _))).items | exact (hz_8.below (below_then (Below.drew (Below.refl _ _)) (below_alloc _))).items)).mono ?_; rintro e w6 ⟨v6, rfl, Z6, hb6⟩; obtain ⟨a6, n6, c6, rfl⟩ := Z6.shapeN; have hb6' : Below w5.heap.size w5 w6 := (by first | exact below_then (Below.drew (Below.refl _ _)) hb6 | exact below_then (below_then (Below.drew (Below.refl _ _)) (below_alloc _)) hb6); have bB6 := B9_8.below hb6'; have zb6 := bB6.lt; have cB6 := bB6.cell; have cB6a := (bB6.below (below_alloc (.cells #[.slice none 0 0] 25))).cell; first | (have k7 : BoxAt w6 w5.heap.size (.slice none 0 0) := (BoxAt.below (boxAt_new w5.drew (.slice none 0 0)) hb6); have k7c := k7.cell; have k7f := k7.frozen) | skip))
      all_goals
        clear cB cBa cB6 cB6a bB6
        go_wp2_with fail
        go_meet
        case rel =>
          have z6 := hb6'.size
          first
            | exact ⟨w7.heap.size, a7, n7, c7, rfl, rfl, boxAt_new _ _, O7.runs.below (below_alloc _), below_then (below_then hb6' hb7') (below_alloc _)⟩
            | exact ⟨w6.heap.size, a7, n7, c7, rfl, rfl, k9.put _, (O7.put k9).runs, (below_then hb6' hb7').setCell z6 _⟩
            | exact ⟨w5.heap.size, a7, n7, c7, rfl, rfl, k8.put _, (O7.put k8).runs, (below_then hb6' hb7').setCell (Nat.le_refl _) _⟩
    case rest =>
      obtain ⟨b13, da, dn, dc, rfl, rfl, HC13⟩ := hcut
      obtain ⟨B13, R13, hb13⟩ := HC13.out
      clear cB cBa HC13
      have hk_10 := below_then hk_8 hb13
      have R5_10 := R5_8.below hb13
      have hz_10 := hz_8.below hb13
      have B5_10 := B5_8.below hb13
      have hy_10 := hy_8.below hb13
      have R9_10 := R9_8.below hb13
      have B9_10 := B9_8.below hb13
      clear hk_8 R5_8 hz_8 B5_8 hy_8 R9_8 B9_8
      clear hb13
      have g13 := B13.cell
      have g5 := B5_10.cell
      have t1 : togOut (putOut x (negZ z)) = sumR s := by simp [togOut, (put_sum p5).1, p6]
      have t2 : togOut s = sumR s := by simp [togOut, p3]
      go_upto_region 10 with fail
      go_cut [88] (fun p wx => p = .bool false ∧ Hid (Below wc.heap.size wc wx))
      case first =>
        go_wp2_with fail
        go_region_held3 (fun w' => w'.cell? ⟨b13, 0, none⟩ = some (.slice da dn dc) ∧ w'.cell? ⟨w1.heap.size, 0, none⟩ = some (.slice sa sn sc)) (first | go_keep | (exact ⟨i1, i2⟩) | (exact ⟨i3, i4⟩) | (exact ⟨i5, i6⟩)) ((first
          | (go_at_call 19; refine (implZSame_any _ _ (sumR s) (sumR s) _ (Za.keep' hbb).items Zb.items).mono ?_; rw [show zsB (sumR s) (sumR s) = true by simp [zsB]]; rintro e wq ⟨rfl, hbq⟩; have kq := below_then kb hbq; have i5 := (B13.below kq).cell; have i6 := (B5_10.below kq).cell)
          | (go_at_call 16; refine (implRunAll_any _ s _ (R5_10.below ka)).mono ?_; rw [t2]; rintro e wb ⟨vb, rfl, Zb, hbb⟩; have kb := below_then ka hbb; have i3 := (B13.below kb).cell; have i4 := (B5_10.below kb).cell)
          | (go_at_call 16; refine (implRunAll_any _ (putOut x (negZ z)) _ (R13.below (Below.drew (Below.refl _ _)))).mono ?_; rw [t1]; rintro e wa ⟨va, rfl, Za, hba⟩; have ka : Below wc.heap.size wc wa := below_then (Below.drew (Below.refl _ _)) hba; have i1 := (B13.below ka).cell; have i2 := (B5_10.below ka).cell)))
        all_goals
          go_wp2_with fail
          go_meet
          case rel => exact ⟨rfl, kq⟩
      case rest =>
        obtain ⟨rfl, HC10⟩ := hcut
        have hb10 := HC10.out
        clear HC10 g13 g5
        clear B13 R13
        have hk_11 := below_then hk_10 hb10
        have R5_11 := R5_10.below hb10
        have hz_11 := hz_10.below hb10
        have B5_11 := B5_10.below hb10
        have hy_11 := hy_10.below hb10
        have R9_11 := R9_10.below hb10
        have B9_11 := B9_10.below hb10
        clear hk_10 R5_10 hz_10 B5_10 hy_10 R9_10 B9_10
        clear hb10
        obtain ⟨c1, HC1⟩ : ∃ c, Hid (c = putOk x y) := ⟨_, rfl⟩
        obtain ⟨c2, HC2⟩ : ∃ c, Hid (c = putOk s y) := ⟨_, rfl⟩
        obtain ⟨c3, HC3⟩ : ∃ c, Hid (c = putOk (putOut s y) z) := ⟨_, rfl⟩
        have c9_11 := B9_11.cell
        go_wp2_with fail
        refine (implRunPut_any _ x _ y _ R9_11 hy_11).mono ?_
        rw [← HC1.out]
        rintro e w20 ⟨v20, rfl, O15, hb20⟩
        have hk_12 := below_then hk_11 hb20
        have R5_12 := R5_11.below hb20
        have hz_12 := hz_11.below hb20
        have B5_12 := B5_11.below hb20
        have hy_12 := hy_11.below hb20
        have R9_12 := R9_11.below hb20
        have B9_12 := B9_11.below hb20
        clear hk_11 R5_11 hz_11 B5_11 hy_11 R9_11 B9_11
        clear hb20
        obtain ⟨pa, pn, pc, rfl⟩ := O15.runs.shapeN
        have R15 := O15.runs
        clear O15
        have hbx15 : Below w20.heap.size w20 (w20.alloc (.cells #[.slice pa pn pc] 25)) := below_alloc _
        have B15 : BoxAt (w20.alloc (.cells #[.slice pa pn pc] 25)) w20.heap.size (.slice pa pn pc) := boxAt_new _ _
        have hk_13 := below_then hk_12 hbx15
        have R5_13 := R5_12.below hbx15
        have hz_13 := hz_12.below hbx15
        have B5_13 := B5_12.below hbx15
        have hy_13 := hy_12.below hbx15
        have R9_13 := R9_12.below hbx15
        have B9_13 := B9_12.below hbx15
        have R15_13 := R15.below hbx15
        clear hk_12 R5_12 hz_12 B5_12 hy_12 R9_12 B9_12 R15
        clear hbx15
        clear B9_13 R9_13
        have c5_13 := B5_13.cell
        go_wp2_with fail
        refine (implRunPut_any _ s _ y _ R5_13 hy_13).mono ?_
        rw [← HC2.out]
        rintro e w21 ⟨v21, rfl, O17, hb21⟩
        have hk_14 := below_then hk_13 hb21
        have R5_14 := R5_13.below hb21
        have hz_14 := hz_13.below hb21
        have B5_14 := B5_13.below hb21
        have hy_14 := hy_13.below hb21
        have R15_14 := R15_13.below hb21
        have B15_14 := B15.below hb21
        clear hk_13 R5_13 hz_13 B5_13 hy_13 R15_13 B15
        clear hb21
        obtain ⟨ja, jn, jc, rfl⟩ := O17.runs.shapeN
        have R17 := O17.runs
        clear O17
        have hbx17 : Below w21.heap.size w21 (w21.alloc (.cells #[.slice ja jn jc] 25)) := below_alloc _
        have B17 : BoxAt (w21.alloc (.cells #[.slice ja jn jc] 25)) w21.heap.size (.slice ja jn jc) := boxAt_new _ _
        have hk_15 := below_then hk_14 hbx17
        have R5_15 := R5_14.below hbx17
        have hz_15 := hz_14.below hbx17
        have B5_15 := B5_14.below hbx17
        have hy_15 := hy_14.below hbx17
        have R15_15 := R15_14.below hbx17
        have B15_15 := B15_14.below hbx17
        have R17_15 := R17.below hbx17
        clear hk_14 R5_14 hz_14 B5_14 hy_14 R15_14 B15_14 R17
        clear hbx17
        clear B5_15 R5_15 hy_15
        have c17_15 := B17.cell
        go_wp2_with fail
        refine (implRunPut_any _ (putOut s y) _ z _ R17_15 hz_15).mono ?_
        rw [← HC3.out]
        rintro e w22 ⟨v22, rfl, O19, hb22⟩
        have hk_16 := below_then hk_15 hb22
        have hz_16 := hz_15.below hb22
        have R15_16 := R15_15.below hb22
        have B15_16 := B15_15.below hb22
        have R17_16 := R17_15.below hb22
        have B17_16 := B17.below hb22
        clear hk_15 hz_15 R15_15 B15_15 R17_15 B17
        clear hb22
        obtain ⟨ka, kn, kc, rfl⟩ := O19.runs.shapeN
        have R19 := O19.runs
        clear O19
        have hbx19 : Below w22.heap.size w22 (w22.alloc (.cells #[.slice ka kn kc] 25)) := below_alloc _
        have B19 : BoxAt (w22.alloc (.cells #[.slice ka kn kc] 25)) w22.heap.size (.slice ka kn kc) := boxAt_new _ _
        have hk_17 := below_then hk_16 hbx19
        have hz_17 := hz_16.below hbx19
        have R15_17 := R15_16.below hbx19
        have B15_17 := B15_16.below hbx19
        have R17_17 := R17_16.below hbx19
        have B17_17 := B17_16.below hbx19
        have R19_17 := R19.below hbx19
        clear hk_16 hz_16 R15_16 B15_16 R17_16 B17_16 R19
        clear hbx19
        clear B17_17 R17_17 hz_17
        have g15 := B15_17.cell
        have g19 := B19.cell
        have zz15 := B15_17.lt
        cases c1 with
        | false =>
          go_upto_region 15 with fail
          clear g15 g19
          first
            | go_quiet (fail)
            | go_region
            | go_region_with (fail)
          all_goals
            have HK := hidK hk_17
            clear hk_17 R15_17 B15_17 R19_17 B19
            go_wp2
            go_ret
            exact ⟨rfl, below_drewN HK.out _⟩
        | true =>
          cases c2 with
          | false =>
            go_upto_region 15 with fail
            clear g15 g19
            first
              | go_quiet (fail)
              | go_region
              | go_region_with (fail)
            all_goals
              have HK := hidK hk_17
              clear hk_17 R15_17 B15_17 R19_17 B19
              go_wp2
              go_ret
              exact ⟨rfl, below_drewN HK.out _⟩
          | true =>
            cases c3 with
            | false =>
              go_upto_region 15 with fail
              clear g15 g19
              first
                | go_quiet (fail)
                | go_region
                | go_region_with (fail)
              all_goals
                have HK := hidK hk_17
                clear hk_17 R15_17 B15_17 R19_17 B19
                go_wp2
                go_ret
                exact ⟨rfl, below_drewN HK.out _⟩
            | true =>
              have q1 : putOk x y = true := HC1.out.symm
              have q2 : putOk s y = true := HC2.out.symm
              have q3 : putOk (putOut s y) z = true := HC3.out.symm
              have qe : sumR (putOut x y) = sumR (putOut (putOut s y) z) := by
                rw [HX.out] at q1 ⊢
                exact put_order hpo q1 q2 q3
              have t3 : togOut (putOut x y) = sumR (putOut x y) := by simp [togOut, (put_sum q1).1]
              have t4 : togOut (putOut (putOut s y) z) = sumR (putOut x y) := by simp [togOut, (put_sum q3).1, qe]
              go_upto_region 15 with fail
              go_region_held3 (fun w' => w'.cell? ⟨w20.heap.size, 0, none⟩ = some (.slice pa pn pc) ∧ w'.cell? ⟨w22.heap.size, 0, none⟩ = some (.slice ka kn kc)) (first | go_keep | (exact ⟨i1, i2⟩) | (exact ⟨i3, i4⟩) | (exact ⟨i5, i6⟩)) ((first
                | (go_at_call 19; refine (implZSame_any _ _ (sumR (putOut x y)) (sumR (putOut x y)) _ (Za.keep' hbb).items Zb.items).mono ?_; rw [show zsB (sumR (putOut x y)) (sumR (putOut x y)) = true by simp [zsB]]; rintro e wq ⟨rfl, hbq⟩; have kq := below_then kb hbq; have i5 := (B15_17.below kq).cell; have i6 := (B19.below kq).cell)
                | (go_at_call 16; refine (implRunAll_any _ (putOut (putOut s y) z) _ (R19_17.below kaa)).mono ?_; rw [t4]; rintro e wb ⟨vb, rfl, Zb, hbb⟩; have kb := below_then kaa hbb; have i3 := (B15_17.below kb).cell; have i4 := (B19.below kb).cell)
                | (go_at_call 16; refine (implRunAll_any _ (putOut x y) _ (R15_17.below (Below.drew (Below.refl _ _)))).mono ?_; rw [t3]; rintro e wa ⟨va, rfl, Za, hba⟩; have kaa := below_then (Below.drew (Below.refl _ _)) hba; have i1 := (B15_17.below kaa).cell; have i2 := (B19.below kaa).cell)))
              all_goals
                have HK := hidK (below_then hk_17 kq)
                clear hk_17 R15_17 B15_17 R19_17 B19
                go_wp2
                go_ret
                exact ⟨rfl, HK.out⟩

end Go.Proofs.Ytegnoebpnpdogaa
