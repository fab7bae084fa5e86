/-
  The walk of laws.FnExactMapOf, out of the contracts: it answers true at all items and cells, and nothing that was there is written. Condition: the error of chapter 3 reads as it was laid.
-/
import Derived.Test.YthogbofgelbppaaDoorMapOf
import Derived.Test.YthogbofgelbppaaDoorCelsLaw
import Derived.Test.YthogbofgelbppaaDoorLaidSent
import Derived.Test.YthogbofgelbppaaDoorLawKit
namespace Go.Proofs.YthogbofgelbppaaDoor
open Go.RowKit

theorem mapOut_small (cs : List Cel) (zs : List It) : (mapOut cs zs).length ≤ 100 ∧ tot (lens (mapOut cs zs)) ≤ 4194304 := by
  unfold mapOut
  cases hok : mapOk cs zs with
  | false => simp [tot, lens]
  | true =>
    have hz : zOkB (addZ [] (mapZ cs zs)) = true := by
      unfold mapOk at hok
      rw [Bool.and_eq_true] at hok
      exact hok.2
    have h1 := zOk_le hz
    have h3 : rowsLen (addZ [] (mapZ cs zs)) ≤ (addZ [] (mapZ cs zs)).length * 6 := rowsLen_le fun p hp => zOk_mem hz hp
    simp only [if_true]
    rw [tot_lens]
    exact ⟨by omega, by omega⟩

set_option maxRecDepth 100000 in
set_option maxHeartbeats 16000000 in
theorem lawMapOf (v : Value) (zs : List It) (u : Value) (cs : List Cel) (w : World) (h : RawItems w v zs) (_ : WfItems zs) (h2 : RawCels w u cs) (hs : HasSent w) :
    Calls Tryd.prog 4 #[v, u] w fun e w' => e = .returned (.bool true) ∧ Below w.heap.size w w' := by
  obtain ⟨os, HO⟩ : ∃ os, Hid (os = mapOut cs zs) := ⟨_, rfl⟩
  obtain ⟨c, HC⟩ : ∃ c, Hid (c = mapOk cs zs) := ⟨_, rfl⟩
  have hcc : (c != c) = false := by simp
  have hos : os.length ≤ 100 ∧ tot (lens os) ≤ 4194304 := by rw [HO.out]; exact mapOut_small cs zs
  obtain ⟨hos1, hos2⟩ := hos
  obtain ⟨p, hp⟩ := hs
  have HP : Hid (Sent w p) := hp
  have HU0 : Hid (RawCels w u cs) := h2
  obtain ⟨hl63, ua, uc, hu, _⟩ := h2
  clear hp
  go_enter Tryd.func4, Tryd.ntmps4
  go_wp2_with fail
  refine (szItemS_any v zs 1048576 _ h (by omega) (by omega)).mono ?_
  rintro e w1 ⟨r, rfl, hr, hb1⟩
  by_cases hneg : r < 0
  · clear hr hu
    go_wp2
    go_ret
    exact ⟨rfl, hb1⟩
  · have hlim : zs.length + rowsLen zs ≤ 1048576 := by omega
    have hrl : r ≤ 1048576 := by omega
    have hz0 := (h.items hlim)
    have htz : tot (lens zs) ≤ 1048576 := by rw [tot_lens]; omega
    have hr0 : 0 ≤ r := by omega
    clear hr h
    have HUU : Hid (u = .slice ua cs.length uc) := hu
    clear hu
    go_wp2_with fail
    rw [HUU.out]
    refine (szCellS_any ua cs.length uc r _ hr0 hrl hl63).mono ?_
    rw [← HUU.out]
    rintro e w1' ⟨rfl, rfl⟩
    have hk1 := hb1
    by_cases hle : (cs.length : Int) ≤ r
    case neg =>
      rw [left_no hle]
      clear hle
      go_wp2
      go_ret
      exact ⟨rfl, hk1⟩
    case pos =>
      have hlim2 : cs.length ≤ 1048576 := by omega
      rw [left_yes hle]
      have hnn : ¬ r - (cs.length : Int) < 0 := by omega
      have s1 := hk1.size
      clear hb1 hl63
      go_wp2_with fail
      refine (toItemS_any v zs _ (hz0.below hk1) hlim).mono ?_
      rintro e w2 ⟨v2, rfl, Z2, hb2⟩
      have hk2 := below_then hk1 hb2
      go_wp2_with fail
      refine (toCellS_any u cs _ (HU0.out.below hk2) hlim2).mono ?_
      rintro e w3 ⟨v3, rfl, Z3, hb3⟩
      have hk3 := below_then hk2 hb3
      have Y2 := Z2.keep' hb3
      go_wp2_with fail
      refine (specMap_any v2 v3 zs cs _ Y2.items Z3.cels).mono ?_
      rw [← HO.out, ← HC.out]
      rintro e w4 ⟨vw, rfl, W4, hb4⟩
      have hk4 := below_then hk3 hb4
      have s3 := hk3.size
      have s4 := hb4.size
      clear Z2 Z3 Y2 hb2 hb3 hb4 hk2 hk3
      go_wp2_with fail
      refine (toItemS_any v zs _ (hz0.below hk4) hlim).mono ?_
      rintro e w5 ⟨vx, rfl, X5, hb5⟩
      have hk5 := below_then hk4 hb5
      have W5 := W4.keep' hb5
      have s5 := hb5.size
      clear W4 hb5 hk4
      go_wp2_with fail
      refine (toCellS_any u cs _ (HU0.out.below hk5) hlim2).mono ?_
      rintro e w6 ⟨vy, rfl, Y6, hb6⟩
      have hk6 := below_then hk5 hb6
      have W6 := W5.keep' hb6
      have X6 := X5.keep' hb6
      have s6 := hb6.size
      clear W5 X5 hb6 hk5
      go_wp2_with fail
      refine (implMap_any vx vy zs cs _ p (HP.out.below hk6) X6.items Y6.cels).mono ?_
      rw [← HO.out, ← HC.out]
      rintro e w7 ⟨vg, rfl, G7, hb7⟩
      have hk7 := below_then hk6 hb7
      have W7 := W6.keep' hb7
      have X7 := X6.keep' hb7
      have Y7 := Y6.keep' hb7
      have s7 := hb7.size
      clear W6 X6 Y6 hb7 hk6
      go_wp2_with fail
      refine (eqItemS_self vg vw os _ G7.items W7.items).mono ?_
      rintro e w8 ⟨rfl, hb8⟩
      have hk8 := below_then hk7 hb8
      have W8 := W7.keep' hb8
      have X8 := X7.keep' hb8
      have Y8 := Y7.keep' hb8
      have G8 := G7.keep' hb8
      clear W7 X7 Y7 G7 hb8 hk7
      go_wp2_with fail
      refine (toItemS_any v zs _ (hz0.below hk8) hlim).mono ?_
      rintro e w9 ⟨v9, rfl, Z9, hb9⟩
      have hk9 := below_then hk8 hb9
      have W9 := W8.keep' hb9
      have X9 := X8.keep' hb9
      have Y9 := Y8.keep' hb9
      have G9 := G8.keep' hb9
      clear W8 X8 Y8 G8 hb9 hk8
      go_wp2_with fail
      refine (eqItemS_self vx v9 zs _ X9.items Z9.items).mono ?_
      rintro e w10 ⟨rfl, hb10⟩
      have hk10 := below_then hk9 hb10
      have W10 := W9.keep' hb10
      have X10 := X9.keep' hb10
      have Y10 := Y9.keep' hb10
      have G10 := G9.keep' hb10
      clear W9 X9 Y9 G9 Z9 hb10 hk9
      go_wp2_with fail
      refine (toCellS_any u cs _ (HU0.out.below hk10) hlim2).mono ?_
      rintro e w11 ⟨v11, rfl, Z11, hb11⟩
      have hk11 := below_then hk10 hb11
      have W11 := W10.keep' hb11
      have X11 := X10.keep' hb11
      have Y11 := Y10.keep' hb11
      have G11 := G10.keep' hb11
      clear W10 X10 Y10 G10 hb11 hk10
      go_wp2_with fail
      refine (eqCellS_same vy v11 cs _ Y11.raw Z11.raw hlim2).mono ?_
      rintro e w12 ⟨rfl, hb12⟩
      have hk12 := below_then hk11 hb12
      have W12 := W11.keep' hb12
      have X12 := X11.keep' hb12
      have Y12 := Y11.keep' hb12
      have G12 := G11.keep' hb12
      clear W11 X11 Y11 G11 Z11 hb12 hk11
      go_wp2_with fail
      refine (markItemS_any vx _ _ zs 1 _ (by omega) (by omega) (by omega) X12).mono ?_
      rintro e w13 ⟨rfl, -, O13⟩
      have hk13 : Below w.heap.size w w13 := O13.below hk12 (by omega) hk12.size
      have W13 := W12.only O13 (.inl (by omega))
      have Y13 := Y12.only O13 (.inr (by omega))
      have G13 := G12.only O13 (.inr (by omega))
      clear W12 X12 Y12 G12 O13 hk12
      obtain ⟨k1, HK1⟩ : ∃ k : Int, Hid (k = 1 + tot (lens zs)) := ⟨_, rfl⟩
      have hk1b : 0 ≤ k1 ∧ k1 ≤ 1048577 := by rw [HK1.out]; omega
      rw [← HK1.out]
      go_wp2_with fail
      refine (markCellS_any vy _ _ cs k1 _ (by omega) (by omega) Y13).mono ?_
      rintro e w14 ⟨rfl, O14⟩
      have hk14 : Below w.heap.size w w14 := O14.below hk13 (by omega) hk13.size
      have W14 := W13.only O14 (.inl (by omega))
      have G14 := G13.only O14 (.inr (by omega))
      clear W13 Y13 G13 O14 hk13
      obtain ⟨k2, HK2⟩ : ∃ k : Int, Hid (k = k1 + 4 * cs.length) := ⟨_, rfl⟩
      have hk2b : 0 ≤ k2 ∧ k2 ≤ 8388608 := by rw [HK2.out]; omega
      have hk2n : ¬ k2 < 0 := by omega
      rw [← HK2.out]
      go_wp2_with fail
      refine (eqItemS_self vg vw os _ G14.items W14.items).mono ?_
      rintro e w15 ⟨rfl, hb15⟩
      have hk15 := below_then hk14 hb15
      have W15 := W14.keep' hb15
      have G15 := G14.keep' hb15
      clear W14 G14 hb15 hk14
      go_wp2_with fail
      refine (markItemS_any vg _ _ os 1 _ (by omega) (by omega) hos2 G15).mono ?_
      rintro e w16 ⟨rfl, G16, O16⟩
      have hk16 : Below w.heap.size w w16 := O16.below hk15 (by omega) hk15.size
      have W16 := W15.only O16 (.inl (by omega))
      clear W15 G15 O16 hk15
      go_wp2_with fail
      refine (heldItemS_any vg (lens os) 1 _ (by omega) (by omega) hos2 G16.items).mono ?_
      rintro e w17 ⟨rfl, rfl⟩
      go_wp2_with fail
      refine (toItemS_any v zs _ (hz0.below hk16) hlim).mono ?_
      rintro e w18 ⟨v18, rfl, Z18, hb18⟩
      have hk18 := below_then hk16 hb18
      have W18 := W16.keep' hb18
      have G18 := G16.keep' hb18
      clear W16 G16 hb18 hk16
      go_wp2_with fail
      refine (toCellS_any u cs _ (HU0.out.below hk18) hlim2).mono ?_
      rintro e w19 ⟨v19, rfl, Z19, hb19⟩
      have hk19 := below_then hk18 hb19
      have W19 := W18.keep' hb19
      have G19 := G18.keep' hb19
      have X19 := Z18.keep' hb19
      clear W18 G18 Z18 hb19 hk18
      go_wp2_with fail
      refine (implMap_any v18 v19 zs cs _ p (HP.out.below hk19) X19.items Z19.cels).mono ?_
      rw [← HO.out, ← HC.out]
      rintro e w20 ⟨vh, rfl, H20, hb20⟩
      have hk20 := below_then hk19 hb20
      have W20 := W19.keep' hb20
      have G20 := G19.keep' hb20
      clear W19 G19 X19 Z19 hb20 hk19
      go_wp2_with fail
      refine (eqItemS_self vh vw os _ H20.items W20.items).mono ?_
      rintro e w21 ⟨rfl, hb21⟩
      have hk21 := below_then hk20 hb21
      have G21 := G20.keep' hb21
      clear W20 G20 H20 hb21 hk20
      go_wp2_with fail
      refine (heldItemS_any vg (lens os) 1 _ (by omega) (by omega) hos2 G21.items).mono ?_
      rintro e w22 ⟨rfl, rfl⟩
      clear G21 hz0
      go_wp2
      go_ret
      exact ⟨rfl, hk21⟩

end Go.Proofs.YthogbofgelbppaaDoor
