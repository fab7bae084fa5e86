/-
  The walk of laws.FnRunOne, out of the contracts: it answers true whatever the bytes are, and nothing that was there is written.
-/
import Derived.Test.YtegnoebpnpdogabDrawRunM
import Derived.Test.YtegnoebpnpdogabRunOkSpec
import Derived.Test.YtegnoebpnpdogabZFacts
namespace Go.Proofs.Ytegnoebpnpdogab
set_option maxRecDepth 100000
set_option linter.unusedVariables false
open Go.RowKit

theorem put_sum1 {s : Rn} {z : List It} (h : putOk s z = true) : runOkB (putOut s z) = true ∧ sumR (putOut s z) = addZ (sumR s) z ∧ runOkB s = true ∧ zOkB z = true := by
  rw [putOut_ok h]
  exact putRuns_ok h
theorem put_too1 {s : Rn} {z : List It} (hs : runOkB s = true) (hz : zOkB z = true) (h : putOk s z = false) : putOut s z = s := by
  by_cases h0 : z = []
  · simp [putOut, putRuns, hs, h0, zOk_nil]
  · have h1 : zOkB (addZ (sumR s) z) = false := by simpa [putOk, hs, hz, h0] using h
    simp [putOut, putRuns, hs, hz, h0, h1]
theorem put_alike {s t : Rn} (hs : runOkB s = true) (ht : runOkB t = true) (h : sumR t = sumR s) (z : List It) : putOk t z = putOk s z ∧ togOut (putOut t z) = togOut (putOut s z) := by
  have h1 : putOk t z = putOk s z := by simp [putOk, hs, ht, h]
  refine ⟨h1, ?_⟩
  cases hz : zOkB z with
  | false => simp [putOut, hz]
  | true =>
    cases hp : putOk s z with
    | false =>
      rw [put_too1 hs hz hp, put_too1 ht hz (h1.trans hp)]
      simp [togOut, hs, ht, h]
    | true =>
      have a := put_sum1 hp
      have b := put_sum1 (h1.trans hp)
      simp [togOut, a.1, b.1, a.2.1, b.2.1, h]
theorem runs_one {w : World} {b : Nat} {u : Value} {z : List It} (hc : w.cell? ⟨b, 0, none⟩ = some u) (hb : b < w.heap.size) (hT : TailZ w u z) : RunsAt w (.slice (some ⟨b, 0, none⟩) 1 1) [z] :=
  ⟨by simp, some ⟨b, 0, none⟩, 1, rfl, fun h => by simp at h, by simp, by omega, fun _ => ⟨b, 0, rfl, hb, fun j hj => by
    obtain rfl : j = 0 := by simp at hj; omega
    exact ⟨u, by simpa using hc, by simpa using hT⟩⟩⟩
theorem sum_one {z : List It} (h : zOkB z = true) : sumR [z] = z := by
  show addZ [] z = z
  exact addZ_nil_l (zOk_srt h) (zOk_nz h)

set_option maxHeartbeats 4000000 in
theorem lawFnRunOne (a : Option Addr) (len cap : Nat) (bs : List Int) (w : World) (h : IsRow .u8 w a len cap bs) :
    Calls Try.prog 3 #[.slice a len cap] w fun e w' => e = .returned (.bool true) ∧ Below w.heap.size w w' := by
  by_cases hl : ¬ len ≤ 1048576
  · have hbig : (1048576 : Int) < (len : Int) := by omega
    clear h
    go_enter Try.func3, Try.ntmps3
    go_wp2
    go_ret
    exact ⟨rfl, Below.refl _ _⟩
  replace hl : len ≤ 1048576 := by omega
  have hlI : ¬ (1048576 : Int) < (len : Int) := by omega
  go_enter Try.func3, Try.ntmps3
  go_wp2_with fail
  refine (drawRunAll_any a len cap bs _ h).mono ?_
  rintro e w1 ⟨v1, rfl, s, R3, hk⟩
  have hc := h.below hk
  clear h
  obtain ⟨sa, sn, sc, rfl⟩ := R3.shapeN
  have hbx3 : Below w1.heap.size w1 (w1.alloc (.cells #[.slice sa sn sc] 25)) := below_alloc _
  have B3 : BoxAt (w1.alloc (.cells #[.slice sa sn sc] 25)) w1.heap.size (.slice sa sn sc) := boxAt_new _ _
  have hk_1 := below_then hk hbx3
  have R3_1 := R3.below hbx3
  have hc_1 := hc.below hbx3
  clear hk R3 hc
  clear hbx3
  go_wp2_with fail
  refine (drawRunPut_any a len cap bs _ hc_1).mono ?_
  rintro e w2 ⟨v2, u2, rfl, s2, z, R4, hz', hb2⟩
  clear hc_1
  have hk_2 := below_then hk_1 hb2
  have R3_2 := R3_1.below hb2
  have B3_2 := B3.below hb2
  clear hk_1 R3_1 B3
  have hz := hz'.now
  clear hb2 hz'
  obtain ⟨ta, tn, tc, rfl⟩ := R4.shapeN
  obtain ⟨za, zn, zc, rfl⟩ : ∃ a n c, u2 = Value.slice a n c := by obtain ⟨a, c, e⟩ := hz.shape1; exact ⟨a, _, c, e⟩
  clear R4
  have hbx4 : Below w2.heap.size w2 (w2.alloc (.cells #[.slice ta tn tc] 25)) := below_alloc _
  have B4 : BoxAt (w2.alloc (.cells #[.slice ta tn tc] 25)) w2.heap.size (.slice ta tn tc) := boxAt_new _ _
  have hk_3 := below_then hk_2 hbx4
  have R3_3 := R3_2.below hbx4
  have B3_3 := B3_2.below hbx4
  have hz_3 := hz.below hbx4
  clear hk_2 R3_2 B3_2 hz
  clear hbx4
  clear B4
  have c3_3 := B3_3.cell
  go_wp2_with fail
  refine (implRunAll_any _ s _ R3_3).mono ?_
  rintro e w3 ⟨v3, rfl, A', hb3⟩
  have hk_4 := below_then hk_3 hb3
  have R3_4 := R3_3.below hb3
  have B3_4 := B3_3.below hb3
  have hz_4 := hz_3.below hb3
  clear hk_3 R3_3 B3_3 hz_3
  clear hb3
  have A := A'.tail
  clear A'
  obtain ⟨la, lc, hshl⟩ := A.shape1
  obtain ⟨ln, HLN⟩ : ∃ n, Hid (n = (togOut s).length) := ⟨_, rfl⟩
  rw [← HLN.out] at hshl
  subst hshl
  have c3_4 := B3_4.cell
  go_wp2_with fail
  refine (specRunAll_any _ s _ R3_4).mono ?_
  rintro e w4 ⟨v4, rfl, G', hb4⟩
  have hk_5 := below_then hk_4 hb4
  have R3_5 := R3_4.below hb4
  have B3_5 := B3_4.below hb4
  have hz_5 := hz_4.below hb4
  have A_5 := A.below hb4
  clear hk_4 R3_4 B3_4 hz_4 A
  clear hb4
  have G := G'.tail
  obtain ⟨ga, gn, gc, rfl⟩ := G'.shapeN
  clear G'
  go_wp2_with fail
  refine (implZSame_any _ _ (togOut s) (togOut s) _ A_5.items G.items).mono ?_
  rw [show zsB (togOut s) (togOut s) = true by simp [zsB]]
  rintro e w5 ⟨rfl, hb5⟩
  have hk_6 := below_then hk_5 hb5
  have R3_6 := R3_5.below hb5
  have B3_6 := B3_5.below hb5
  have hz_6 := hz_5.below hb5
  have A_6 := A_5.below hb5
  have G_6 := G.below hb5
  clear hk_5 R3_5 B3_5 hz_5 A_5 G
  clear hb5
  clear G_6
  have c3_6 := B3_6.cell
  cases hso : runOkB s with
  | false =>
    go_wp2_with fail
    refine (specRunOk_any _ s _ R3_6).mono ?_
    rw [hso]
    rintro e w6 ⟨rfl, hb6⟩
    have hk_7 := below_then hk_6 hb6
    have R3_7 := R3_6.below hb6
    have B3_7 := B3_6.below hb6
    have hz_7 := hz_6.below hb6
    have A_7 := A_6.below hb6
    clear hk_6 R3_6 B3_6 hz_6 A_6
    clear hb6
    have c3_7 := B3_7.cell
    go_wp2_with fail
    refine (specRunAll_any _ s _ R3_7).mono ?_
    rintro e w7 ⟨v7, rfl, G', hb7⟩
    have hk_8 := below_then hk_7 hb7
    have R3_8 := R3_7.below hb7
    have B3_8 := B3_7.below hb7
    have hz_8 := hz_7.below hb7
    have A_8 := A_7.below hb7
    clear hk_7 R3_7 B3_7 hz_7 A_7
    clear hb7
    have G := G'.tail
    obtain ⟨ga, gn, gc, rfl⟩ := G'.shapeN
    clear G'
    go_wp2_with fail
    refine (implZSame_any _ _ (togOut s) (togOut s) _ A_8.items G.items).mono ?_
    rw [show zsB (togOut s) (togOut s) = true by simp [zsB]]
    rintro e w8 ⟨rfl, hb8⟩
    have hk_9 := below_then hk_8 hb8
    have R3_9 := R3_8.below hb8
    have B3_9 := B3_8.below hb8
    have hz_9 := hz_8.below hb8
    have A_9 := A_8.below hb8
    have G_9 := G.below hb8
    clear hk_8 R3_8 B3_8 hz_8 A_8 G
    clear hb8
    have HK := hidK hk_9
    clear hk_9 R3_9 B3_9 hz_9 A_9 G_9
    go_wp2
    go_ret
    exact ⟨rfl, HK.out⟩
  | true =>
    go_wp2_with fail
    refine (specRunOk_any _ s _ R3_6).mono ?_
    rw [hso]
    rintro e w6 ⟨rfl, hb6⟩
    have hk_10 := below_then hk_6 hb6
    have R3_10 := R3_6.below hb6
    have B3_10 := B3_6.below hb6
    have hz_10 := hz_6.below hb6
    have A_10 := A_6.below hb6
    clear hk_6 R3_6 B3_6 hz_6 A_6
    clear hb6
    have hts : togOut s = sumR s := by simp [togOut, hso]
    have hsu := sum_ok hso
    have HSO := hidK hso
    by_cases hln : 0 < ln
    · have hlnI : (0 : Int) < (ln : Int) := by omega
      have hne : sumR s ≠ [] := fun e => by have := HLN.out; rw [hts, e] at this; simp at this; omega
      have hon1 : runOkB [sumR s] = true := one_ok hsu hne
      have hon2 : sumR [sumR s] = sumR s := sum_one hsu
      have hbL : Below w6.heap.size w6 ((w6.alloc (.cells #[.slice none 0 0] 25)).alloc (.cells #[.slice la ln lc] 27)) := below_then (below_alloc _) (below_alloc _)
      have hbF : Below w6.heap.size w6 ((w6.alloc (.cells #[.slice (some ⟨w6.heap.size + 1, 0, none⟩) 1 1] 25)).alloc (.cells #[.slice la ln lc] 27)) := below_then (below_alloc _) (below_alloc _)
      have bL : BoxAt ((w6.alloc (.cells #[.slice none 0 0] 25)).alloc (.cells #[.slice la ln lc] 27)) w6.heap.size (.slice none 0 0) := (boxAt_new _ _).below (below_alloc _)
      have cL := bL.cell
      have fL := bL.frozen
      have B7 : BoxAt ((w6.alloc (.cells #[.slice (some ⟨w6.heap.size + 1, 0, none⟩) 1 1] 25)).alloc (.cells #[.slice la ln lc] 27)) w6.heap.size (.slice (some ⟨w6.heap.size + 1, 0, none⟩) 1 1) := (boxAt_new _ _).below (below_alloc _)
      have cF : ((w6.alloc (.cells #[.slice (some ⟨w6.heap.size + 1, 0, none⟩) 1 1] 25)).alloc (.cells #[.slice la ln lc] 27)).cell? ⟨w6.heap.size + 1, 0, none⟩ = some (.slice la ln lc) := by simp
      have c36 := B3_10.cell
      have z36 := B3_10.lt
      have cL3 := (B3_10.below hbL).cell
      have hk_11 := below_then hk_10 hbF
      have R3_11 := R3_10.below hbF
      have B3_11 := B3_10.below hbF
      have hz_11 := hz_10.below hbF
      have A_11 := A_10.below hbF
      clear hk_10 R3_10 B3_10 hz_10 A_10
      have R7 : RunsAt ((w6.alloc (.cells #[.slice (some ⟨w6.heap.size + 1, 0, none⟩) 1 1] 25)).alloc (.cells #[.slice la ln lc] 27)) (.slice (some ⟨w6.heap.size + 1, 0, none⟩) 1 1) [sumR s] := runs_one cF (by simp) (by rw [← hts]; exact A_11)
      clear hbL hbF bL cF
      clear A_11
      obtain ⟨q1, q2⟩ := put_alike hso hon1 hon2 z
      obtain ⟨c, HC⟩ : ∃ c, Hid (c = putOk s z) := ⟨_, rfl⟩
      have c7 := B7.cell
      have c3_11 := B3_11.cell
      go_wp2_with fail
      refine (implRunPut_any _ s _ z _ R3_11 hz_11).mono ?_
      rw [← HC.out]
      rintro e w11 ⟨v11, rfl, O8, hb11⟩
      have hk_12 := below_then hk_11 hb11
      have R3_12 := R3_11.below hb11
      have B3_12 := B3_11.below hb11
      have hz_12 := hz_11.below hb11
      have B7_12 := B7.below hb11
      have R7_12 := R7.below hb11
      clear hk_11 R3_11 B3_11 hz_11 B7 R7
      clear hb11
      obtain ⟨xa, xn, xc, rfl⟩ := O8.runs.shapeN
      have R8 := O8.runs
      clear O8
      have hbx8 : Below w11.heap.size w11 (w11.alloc (.cells #[.slice xa xn xc] 25)) := below_alloc _
      have B8 : BoxAt (w11.alloc (.cells #[.slice xa xn xc] 25)) w11.heap.size (.slice xa xn xc) := boxAt_new _ _
      have hk_13 := below_then hk_12 hbx8
      have R3_13 := R3_12.below hbx8
      have B3_13 := B3_12.below hbx8
      have hz_13 := hz_12.below hbx8
      have B7_13 := B7_12.below hbx8
      have R7_13 := R7_12.below hbx8
      have R8_13 := R8.below hbx8
      clear hk_12 R3_12 B3_12 hz_12 B7_12 R7_12 R8
      clear hbx8
      clear R3_13 B3_13
      have c7_13 := B7_13.cell
      go_wp2_with fail
      refine (implRunPut_any _ [sumR s] _ z _ R7_13 hz_13).mono ?_
      rw [q1, ← HC.out]
      rintro e w12 ⟨v12, rfl, O10, hb12⟩
      have hk_14 := below_then hk_13 hb12
      have hz_14 := hz_13.below hb12
      have B7_14 := B7_13.below hb12
      have R7_14 := R7_13.below hb12
      have R8_14 := R8_13.below hb12
      have B8_14 := B8.below hb12
      clear hk_13 hz_13 B7_13 R7_13 R8_13 B8
      clear hb12
      obtain ⟨ya, yn, yc, rfl⟩ := O10.runs.shapeN
      have R10 := O10.runs
      clear O10
      have hbx10 : Below w12.heap.size w12 (w12.alloc (.cells #[.slice ya yn yc] 25)) := below_alloc _
      have B10 : BoxAt (w12.alloc (.cells #[.slice ya yn yc] 25)) w12.heap.size (.slice ya yn yc) := boxAt_new _ _
      have hk_15 := below_then hk_14 hbx10
      have hz_15 := hz_14.below hbx10
      have B7_15 := B7_14.below hbx10
      have R7_15 := R7_14.below hbx10
      have R8_15 := R8_14.below hbx10
      have B8_15 := B8_14.below hbx10
      have R10_15 := R10.below hbx10
      clear hk_14 hz_14 B7_14 R7_14 R8_14 B8_14 R10
      clear hbx10
      clear hz_15
      have c7_15 := B7_15.cell
      have c8_15 := B8_15.cell
      have c10_15 := B10.cell
      go_upto_region 13 with fail
      go_region_held3 (fun w' => w'.cell? ⟨w6.heap.size, 0, none⟩ = some (.slice (some ⟨w6.heap.size + 1, 0, none⟩) 1 1) ∧ w'.cell? ⟨w11.heap.size, 0, none⟩ = some (.slice xa xn xc) ∧ w'.cell? ⟨w12.heap.size, 0, none⟩ = some (.slice ya yn yc)) (first | go_keep | (exact ⟨i1, j1, l1⟩) | (exact ⟨i2, j2, l2⟩) | (exact ⟨i3, j3, l3⟩) | (exact ⟨i4, j4, l4⟩)) ((first
        | (go_at_call 7; refine (implZSame_any _ _ (togOut (putOut s z)) (togOut (putOut s z)) _ (Z2.keep' h3).items Z3.items).mono ?_; rw [show zsB (togOut (putOut s z)) (togOut (putOut s z)) = true by simp [zsB]]; rintro e y4 ⟨rfl, h4⟩; have k4 := below_then k3 h4; have i4 := (B7_15.below k4).cell; have j4 := (B8_15.below k4).cell; have l4 := (B10.below k4).cell)
        | (go_at_call 6; refine (implRunAll_any _ (putOut [sumR s] z) _ (R10_15.below k2)).mono ?_; rw [q2]; rintro e y3 ⟨v3, rfl, Z3, h3⟩; have k3 := below_then k2 h3; have i3 := (B7_15.below k3).cell; have j3 := (B8_15.below k3).cell; have l3 := (B10.below k3).cell)
        | (go_at_call 6; refine (implRunAll_any _ (putOut s z) _ (R8_15.below k1)).mono ?_; rintro e y2 ⟨v2, rfl, Z2, h2⟩; have k2 := below_then k1 h2; have i2 := (B7_15.below k2).cell; have j2 := (B8_15.below k2).cell; have l2 := (B10.below k2).cell)
        | (go_at_call 11; refine (implRunOk_any _ [sumR s] _ (R7_15.below (Below.drew (Below.refl _ _)))).mono ?_; rw [hon1]; rintro e y1 ⟨rfl, h1⟩; have k1 := below_then (Below.drew (Below.refl _ _)) h1; have i1 := (B7_15.below k1).cell; have j1 := (B8_15.below k1).cell; have l1 := (B10.below k1).cell)))
      all_goals
        have HK := hidK (below_then hk_15 k4)
        clear hk_15 B7_15 R7_15 R8_15 B8_15 R10_15 B10
        go_wp2
        go_ret
        exact ⟨rfl, HK.out⟩
    · have hlnI : ¬ (0 : Int) < (ln : Int) := by omega
      have hne : sumR s = [] := List.length_eq_zero_iff.1 (by have := HLN.out; rw [hts] at this; omega)
      have hon1 : runOkB [] = true := none_ok
      have hon2 : sumR [] = sumR s := by rw [hne]; rfl
      have R7 : RunsAt w6 (.slice none 0 0) [] := (OwnR.nil w6 0 (Nat.zero_le _)).runs
      clear A_10
      have hbx7 : Below w6.heap.size w6 (w6.alloc (.cells #[.slice none 0 0] 25)) := below_alloc _
      have B7 : BoxAt (w6.alloc (.cells #[.slice none 0 0] 25)) w6.heap.size (.slice none 0 0) := boxAt_new _ _
      have hk_16 := below_then hk_10 hbx7
      have R3_16 := R3_10.below hbx7
      have B3_16 := B3_10.below hbx7
      have hz_16 := hz_10.below hbx7
      have R7_16 := R7.below hbx7
      clear hk_10 R3_10 B3_10 hz_10 R7
      clear hbx7
      obtain ⟨q1, q2⟩ := put_alike hso hon1 hon2 z
      obtain ⟨c, HC⟩ : ∃ c, Hid (c = putOk s z) := ⟨_, rfl⟩
      have c7 := B7.cell
      have c3_16 := B3_16.cell
      go_wp2_with fail
      refine (implRunPut_any _ s _ z _ R3_16 hz_16).mono ?_
      rw [← HC.out]
      rintro e w11 ⟨v11, rfl, O8, hb11⟩
      have hk_17 := below_then hk_16 hb11
      have R3_17 := R3_16.below hb11
      have B3_17 := B3_16.below hb11
      have hz_17 := hz_16.below hb11
      have R7_17 := R7_16.below hb11
      have B7_17 := B7.below hb11
      clear hk_16 R3_16 B3_16 hz_16 R7_16 B7
      clear hb11
      obtain ⟨xa, xn, xc, rfl⟩ := O8.runs.shapeN
      have R8 := O8.runs
      clear O8
      have hbx8 : Below w11.heap.size w11 (w11.alloc (.cells #[.slice xa xn xc] 25)) := below_alloc _
      have B8 : BoxAt (w11.alloc (.cells #[.slice xa xn xc] 25)) w11.heap.size (.slice xa xn xc) := boxAt_new _ _
      have hk_18 := below_then hk_17 hbx8
      have R3_18 := R3_17.below hbx8
      have B3_18 := B3_17.below hbx8
      have hz_18 := hz_17.below hbx8
      have R7_18 := R7_17.below hbx8
      have B7_18 := B7_17.below hbx8
      have R8_18 := R8.below hbx8
      clear hk_17 R3_17 B3_17 hz_17 R7_17 B7_17 R8
      clear hbx8
      clear R3_18 B3_18
      have c7_18 := B7_18.cell
      go_wp2_with fail
      refine (implRunPut_any _ [] _ z _ R7_18 hz_18).mono ?_
      rw [q1, ← HC.out]
      rintro e w12 ⟨v12, rfl, O10, hb12⟩
      have hk_19 := below_then hk_18 hb12
      have hz_19 := hz_18.below hb12
      have R7_19 := R7_18.below hb12
      have B7_19 := B7_18.below hb12
      have R8_19 := R8_18.below hb12
      have B8_19 := B8.below hb12
      clear hk_18 hz_18 R7_18 B7_18 R8_18 B8
      clear hb12
      obtain ⟨ya, yn, yc, rfl⟩ := O10.runs.shapeN
      have R10 := O10.runs
      clear O10
      have hbx10 : Below w12.heap.size w12 (w12.alloc (.cells #[.slice ya yn yc] 25)) := below_alloc _
      have B10 : BoxAt (w12.alloc (.cells #[.slice ya yn yc] 25)) w12.heap.size (.slice ya yn yc) := boxAt_new _ _
      have hk_20 := below_then hk_19 hbx10
      have hz_20 := hz_19.below hbx10
      have R7_20 := R7_19.below hbx10
      have B7_20 := B7_19.below hbx10
      have R8_20 := R8_19.below hbx10
      have B8_20 := B8_19.below hbx10
      have R10_20 := R10.below hbx10
      clear hk_19 hz_19 R7_19 B7_19 R8_19 B8_19 R10
      clear hbx10
      clear hz_20
      have c7_20 := B7_20.cell
      have c8_20 := B8_20.cell
      have c10_20 := B10.cell
      go_upto_region 13 with fail
      go_region_held3 (fun w' => w'.cell? ⟨w6.heap.size, 0, none⟩ = some (.slice none 0 0) ∧ w'.cell? ⟨w11.heap.size, 0, none⟩ = some (.slice xa xn xc) ∧ w'.cell? ⟨w12.heap.size, 0, none⟩ = some (.slice ya yn yc)) (first | go_keep | (exact ⟨i1, j1, l1⟩) | (exact ⟨i2, j2, l2⟩) | (exact ⟨i3, j3, l3⟩) | (exact ⟨i4, j4, l4⟩)) ((first
        | (go_at_call 7; refine (implZSame_any _ _ (togOut (putOut s z)) (togOut (putOut s z)) _ (Z2.keep' h3).items Z3.items).mono ?_; rw [show zsB (togOut (putOut s z)) (togOut (putOut s z)) = true by simp [zsB]]; rintro e y4 ⟨rfl, h4⟩; have k4 := below_then k3 h4; have i4 := (B7_20.below k4).cell; have j4 := (B8_20.below k4).cell; have l4 := (B10.below k4).cell)
        | (go_at_call 6; refine (implRunAll_any _ (putOut [] z) _ (R10_20.below k2)).mono ?_; rw [q2]; rintro e y3 ⟨v3, rfl, Z3, h3⟩; have k3 := below_then k2 h3; have i3 := (B7_20.below k3).cell; have j3 := (B8_20.below k3).cell; have l3 := (B10.below k3).cell)
        | (go_at_call 6; refine (implRunAll_any _ (putOut s z) _ (R8_20.below k1)).mono ?_; rintro e y2 ⟨v2, rfl, Z2, h2⟩; have k2 := below_then k1 h2; have i2 := (B7_20.below k2).cell; have j2 := (B8_20.below k2).cell; have l2 := (B10.below k2).cell)
        | (go_at_call 11; refine (implRunOk_any _ [] _ (R7_20.below (Below.drew (Below.refl _ _)))).mono ?_; rw [hon1]; rintro e y1 ⟨rfl, h1⟩; have k1 := below_then (Below.drew (Below.refl _ _)) h1; have i1 := (B7_20.below k1).cell; have j1 := (B8_20.below k1).cell; have l1 := (B10.below k1).cell)))
      all_goals
        have HK := hidK (below_then hk_20 k4)
        clear hk_20 R7_20 B7_20 R8_20 B8_20 R10_20 B10
        go_wp2
        go_ret
        exact ⟨rfl, HK.out⟩

end Go.Proofs.Ytegnoebpnpdogab
