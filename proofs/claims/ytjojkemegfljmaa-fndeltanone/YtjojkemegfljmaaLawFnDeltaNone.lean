/-
  The walk of laws.FnDeltaNone, out of the contracts: whatever the bytes are, it answers true, and nothing that was there is written.
-/
import Derived.Test.YtjojkemegfljmaaDJFacts
import Derived.Test.YtjojkemegfljmaaOnceFacts
import Derived.Test.YtjojkemegfljmaaDrawTurn
namespace Go.Proofs.Ytjojkemegfljmaa
open Go.RowKit
set_option linter.unusedVariables false
attribute [local go_sem ↓] Go.wp_at_zero Go.wp_at_succ

theorem once_fromNil (z : List It) : onceOk [] z = zOkB z ∧ onceOut [] z = if zOkB z then posZ z else [] := by
  cases hz : zOkB z with
  | false =>
    have : addOk [] z = false := by unfold addOk; rw [hz]; simp
    obtain ⟨e0, e1⟩ := once_not this
    exact ⟨e0, e1⟩
  | true =>
    have ha : addOk [] z = true := (add_yes zOk_nil hz (add_none (zOk_srt hz) (zOk_nz hz)) hz).1
    have ho : onceOk [] z = true := by unfold onceOk; rw [ha, once_none (zOk_srt hz) (zOk_nz hz), zOk_posD hz]; rfl
    exact ⟨ho, by unfold onceOut; rw [ho, once_none (zOk_srt hz) (zOk_nz hz)]⟩

set_option maxRecDepth 100000 in
set_option maxHeartbeats 16000000 in
theorem lawFnDeltaNone (a : Option Addr) (len cap : Nat) (bs : List Int) (w : World) (h : IsRow .u8 w a len cap bs) :
    Calls Try.prog 7 #[.slice a len cap] w fun e w' => e = .returned (.bool true) ∧ Below w.heap.size w w' := by
  by_cases hbig : (1048576 : Int) < (len : Int)
  · go_enter Try.func7, Try.ntmps7
    go_wp2
    go_ret
    exact ⟨rfl, Below.refl _ _⟩
  go_enter Try.func7, Try.ntmps7
  go_wp2_with fail
  refine (drawDeltaJoin_any a len cap bs _ h).mono ?_
  rintro e w1 ⟨v0, v1, v2, v3, x, y, za, zda, zb, zdb, rfl, hx, hy, hga, hgb, hl1, hl2, TA, TDA, TB, TDB, hk1⟩
  clear h hga hgb
  have hx0 : 0 ≤ x := hx.1
  have hx6 : x < 6 := by omega
  have hy0 : 0 ≤ y := hy.1
  have hy6 : y < 6 := by omega
  have px : placeB x = true := by unfold placeB; exact decide_eq_true ⟨hx0, hx6⟩
  have py : placeB y = true := by unfold placeB; exact decide_eq_true ⟨hy0, hy6⟩
  have PX : Hid (placeB x = true ∧ placeB y = true) := ⟨px, py⟩
  have hdb : ¬ (100 : Int) < (zdb.length : Int) := by omega
  clear hx hy hl1 hl2 px py
  obtain ⟨c0, Hc0⟩ : ∃ c : Bool, Hid (c = joinOk za zb x y) := ⟨_, rfl⟩
  obtain ⟨c1, Hc1⟩ : ∃ c : Bool, Hid (c = djOk za [] zb [] x y) := ⟨_, rfl⟩
  obtain ⟨c2, Hc2⟩ : ∃ c : Bool, Hid (c = djOk za zda zb [] x y) := ⟨_, rfl⟩
  obtain ⟨c3, Hc3⟩ : ∃ c : Bool, Hid (c = joinOk zda zb x y) := ⟨_, rfl⟩
  obtain ⟨c4, Hc4⟩ : ∃ c : Bool, Hid (c = zOkB za) := ⟨_, rfl⟩
  obtain ⟨c5, Hc5⟩ : ∃ c : Bool, Hid (c = zOkB zb) := ⟨_, rfl⟩
  obtain ⟨e0, e1⟩ := dj_all za zb x y
  rw [← Hc0.out] at e0
  go_wp2_with fail
  refine (dj_val e0 e1 (tailZ_nil _) TA (tailZ_nil _) TB).mono ?_
  rintro e w2 ⟨vj, rfl, TJ, hb2⟩
  have hk2 := below_then hk1 hb2
  have A_2 := TA.below hb2
  have DA_2 := TDA.below hb2
  have B_2 := TB.below hb2
  have DB_2 := TDB.below hb2
  clear hb2 hk1 TA TDA TB TDB
  go_wp2_with fail
  refine (specDj_val e0 e1 (tailZ_nil _) A_2 (tailZ_nil _) B_2).mono ?_
  rintro e w3 ⟨vw, rfl, TW, hb3⟩
  have hk3 := below_then hk2 hb3
  have A_3 := A_2.below hb3
  have DA_3 := DA_2.below hb3
  have B_3 := B_2.below hb3
  have DB_3 := DB_2.below hb3
  have J_3 := TJ.below hb3
  clear hb3 hk2 A_2 DA_2 B_2 DB_2 TJ
  go_wp2_with fail
  refine (zsame_val (zsB_refl _) J_3 TW).mono ?_
  rintro e w4 ⟨rfl, hb4⟩
  have hk4 := below_then hk3 hb4
  have A_4 := A_3.below hb4
  have DA_4 := DA_3.below hb4
  have B_4 := B_3.below hb4
  have DB_4 := DB_3.below hb4
  have J_4 := J_3.below hb4
  have W_4 := TW.below hb4
  clear hb4 hk3 A_3 DA_3 B_3 DB_3 J_3 TW
  clear W_4
  go_wp2_with fail
  refine (join_val Hc0.out.symm rfl A_4 B_4).mono ?_
  rintro e w5 ⟨vk, rfl, TK, hb5⟩
  have hk5 := below_then hk4 hb5
  have A_5 := A_4.below hb5
  have DA_5 := DA_4.below hb5
  have B_5 := B_4.below hb5
  have DB_5 := DB_4.below hb5
  have J_5 := J_4.below hb5
  clear hb5 hk4 A_4 DA_4 B_4 DB_4 J_4
  go_wp2_with fail
  refine (zsame_val (zsB_refl _) J_5 TK).mono ?_
  rintro e w6 ⟨rfl, hb6⟩
  have hk6 := below_then hk5 hb6
  have A_6 := A_5.below hb6
  have DA_6 := DA_5.below hb6
  have B_6 := B_5.below hb6
  have DB_6 := DB_5.below hb6
  have J_6 := J_5.below hb6
  have K_6 := TK.below hb6
  clear hb6 hk5 A_5 DA_5 B_5 DB_5 J_5 TK
  clear J_6
  clear K_6
  clear e0 e1
  go_wp2_with fail
  refine (dj_val Hc1.out.symm rfl A_6 (tailZ_nil _) B_6 (tailZ_nil _)).mono ?_
  rintro e w7 ⟨vn, rfl, TN, hb7⟩
  have hk7 := below_then hk6 hb7
  have A_7 := A_6.below hb7
  have DA_7 := DA_6.below hb7
  have B_7 := B_6.below hb7
  have DB_7 := DB_6.below hb7
  clear hb7 hk6 A_6 DA_6 B_6 DB_6
  go_wp2_with fail
  refine (dj_val Hc2.out.symm rfl A_7 DA_7 B_7 (tailZ_nil _)).mono ?_
  rintro e w8 ⟨vl, rfl, TL, hb8⟩
  have hk8 := below_then hk7 hb8
  have A_8 := A_7.below hb8
  have DA_8 := DA_7.below hb8
  have B_8 := B_7.below hb8
  have DB_8 := DB_7.below hb8
  have N_8 := TN.below hb8
  clear hb8 hk7 A_7 DA_7 B_7 DB_7 TN
  go_wp2_with fail
  refine (join_val Hc3.out.symm rfl DA_8 B_8).mono ?_
  rintro e w9 ⟨vm, rfl, TM, hb9⟩
  have hk9 := below_then hk8 hb9
  have A_9 := A_8.below hb9
  have DA_9 := DA_8.below hb9
  have B_9 := B_8.below hb9
  have DB_9 := DB_8.below hb9
  have N_9 := N_8.below hb9
  have L_9 := TL.below hb9
  clear hb9 hk8 A_8 DA_8 B_8 DB_8 N_8 TL
  clear DA_9
  go_wp2_with fail
  refine (okS_val Hc4.out.symm A_9).mono ?_
  rintro e w10 ⟨rfl, hb10⟩
  have hk10 := below_then hk9 hb10
  have A_10 := A_9.below hb10
  have B_10 := B_9.below hb10
  have DB_10 := DB_9.below hb10
  have N_10 := N_9.below hb10
  have L_10 := L_9.below hb10
  have M_10 := TM.below hb10
  clear hb10 hk9 A_9 B_9 DB_9 N_9 L_9 TM
  cases c4 with
  | false =>
    clear N_10
    obtain ⟨da, dc, rfl⟩ := DB_10.shape
    cases c2 with
    | false =>
      clear L_10
      clear M_10
      clear B_10
      clear DB_10
      obtain ⟨e0, e1⟩ := once_fromNil za
      rw [← Hc4.out] at e0 e1
      simp only [Bool.false_eq_true, if_false] at e1
      go_wp2_with fail
      refine (once_val e0 e1 (tailZ_nil _) A_10).mono ?_
      rintro e w11 ⟨vo, rfl, TO, hb11⟩
      have hk11 := below_then hk10 hb11
      have A_11 := A_10.below hb11
      clear hb11 hk10 A_10
      go_wp2_with fail
      refine (okS_val Hc4.out.symm A_11).mono ?_
      rintro e w12 ⟨rfl, hb12⟩
      have hk12 := below_then hk11 hb12
      have A_12 := A_11.below hb12
      have O_12 := TO.below hb12
      clear hb12 hk11 A_11 TO
      clear A_12 O_12
      clear e0 e1
      go_wp2
      go_ret
      exact ⟨rfl, hk12⟩
    | true =>
      cases c3 with
      | false =>
        clear L_10
        clear M_10
        clear B_10
        clear DB_10
        obtain ⟨e0, e1⟩ := once_fromNil za
        rw [← Hc4.out] at e0 e1
        simp only [Bool.false_eq_true, if_false] at e1
        go_wp2_with fail
        refine (once_val e0 e1 (tailZ_nil _) A_10).mono ?_
        rintro e w11 ⟨vo, rfl, TO, hb11⟩
        have hk11 := below_then hk10 hb11
        have A_11 := A_10.below hb11
        clear hb11 hk10 A_10
        go_wp2_with fail
        refine (okS_val Hc4.out.symm A_11).mono ?_
        rintro e w12 ⟨rfl, hb12⟩
        have hk12 := below_then hk11 hb12
        have A_12 := A_11.below hb12
        have O_12 := TO.below hb12
        clear hb12 hk11 A_11 TO
        clear A_12 O_12
        clear e0 e1
        go_wp2
        go_ret
        exact ⟨rfl, hk12⟩
      | true =>
        have hs : zsB (djOut za zda zb [] x y) (joinOut zda zb x y) = true := by rw [dj_left Hc2.out.symm Hc3.out.symm]; exact zsB_refl _
        go_wp2_with fail
        refine (zsame_val hs L_10 M_10).mono ?_
        rintro e w11 ⟨rfl, hb11⟩
        have hk11 := below_then hk10 hb11
        have A_11 := A_10.below hb11
        have B_11 := B_10.below hb11
        have DB_11 := DB_10.below hb11
        have L_11 := L_10.below hb11
        have M_11 := M_10.below hb11
        clear hb11 hk10 A_10 B_10 DB_10 L_10 M_10
        clear hs
        clear L_11
        clear M_11
        clear B_11
        clear DB_11
        obtain ⟨e0, e1⟩ := once_fromNil za
        rw [← Hc4.out] at e0 e1
        simp only [Bool.false_eq_true, if_false] at e1
        go_wp2_with fail
        refine (once_val e0 e1 (tailZ_nil _) A_11).mono ?_
        rintro e w12 ⟨vo, rfl, TO, hb12⟩
        have hk12 := below_then hk11 hb12
        have A_12 := A_11.below hb12
        clear hb12 hk11 A_11
        go_wp2_with fail
        refine (okS_val Hc4.out.symm A_12).mono ?_
        rintro e w13 ⟨rfl, hb13⟩
        have hk13 := below_then hk12 hb13
        have A_13 := A_12.below hb13
        have O_13 := TO.below hb13
        clear hb13 hk12 A_12 TO
        clear A_13 O_13
        clear e0 e1
        go_wp2
        go_ret
        exact ⟨rfl, hk13⟩
  | true =>
    go_wp2_with fail
    refine (okS_val Hc5.out.symm B_10).mono ?_
    rintro e w11 ⟨rfl, hb11⟩
    have hk11 := below_then hk10 hb11
    have A_11 := A_10.below hb11
    have B_11 := B_10.below hb11
    have DB_11 := DB_10.below hb11
    have N_11 := N_10.below hb11
    have L_11 := L_10.below hb11
    have M_11 := M_10.below hb11
    clear hb11 hk10 A_10 B_10 DB_10 N_10 L_10 M_10
    cases c5 with
    | false =>
      clear N_11
      obtain ⟨da, dc, rfl⟩ := DB_11.shape
      cases c2 with
      | false =>
        clear L_11
        clear M_11
        clear B_11
        clear DB_11
        obtain ⟨e0, e1⟩ := once_fromNil za
        rw [← Hc4.out] at e0 e1
        simp only [if_true] at e1
        have e2 : (if zOkB za then posZ za else []) = posZ za := by rw [← Hc4.out]; rfl
        go_wp2_with fail
        refine (once_val e0 e1 (tailZ_nil _) A_11).mono ?_
        rintro e w12 ⟨vo, rfl, TO, hb12⟩
        have hk12 := below_then hk11 hb12
        have A_12 := A_11.below hb12
        clear hb12 hk11 A_11
        go_wp2_with fail
        refine (okS_val Hc4.out.symm A_12).mono ?_
        rintro e w13 ⟨rfl, hb13⟩
        have hk13 := below_then hk12 hb13
        have A_13 := A_12.below hb13
        have O_13 := TO.below hb13
        clear hb13 hk12 A_12 TO
        go_wp2_with fail
        refine (pos_val e2 A_13).mono ?_
        rintro e w14 ⟨vr, rfl, TR, hb14⟩
        have hk14 := below_then hk13 hb14
        have A_14 := A_13.below hb14
        have O_14 := O_13.below hb14
        clear hb14 hk13 A_13 O_13
        go_wp2_with fail
        refine (zsame_val (zsB_refl _) O_14 TR).mono ?_
        rintro e w15 ⟨rfl, hb15⟩
        have hk15 := below_then hk14 hb15
        have A_15 := A_14.below hb15
        have O_15 := O_14.below hb15
        have R_15 := TR.below hb15
        clear hb15 hk14 A_14 O_14 TR
        clear A_15 O_15 R_15
        clear e0 e1 e2
        go_wp2
        go_ret
        exact ⟨rfl, hk15⟩
      | true =>
        cases c3 with
        | false =>
          clear L_11
          clear M_11
          clear B_11
          clear DB_11
          obtain ⟨e0, e1⟩ := once_fromNil za
          rw [← Hc4.out] at e0 e1
          simp only [if_true] at e1
          have e2 : (if zOkB za then posZ za else []) = posZ za := by rw [← Hc4.out]; rfl
          go_wp2_with fail
          refine (once_val e0 e1 (tailZ_nil _) A_11).mono ?_
          rintro e w12 ⟨vo, rfl, TO, hb12⟩
          have hk12 := below_then hk11 hb12
          have A_12 := A_11.below hb12
          clear hb12 hk11 A_11
          go_wp2_with fail
          refine (okS_val Hc4.out.symm A_12).mono ?_
          rintro e w13 ⟨rfl, hb13⟩
          have hk13 := below_then hk12 hb13
          have A_13 := A_12.below hb13
          have O_13 := TO.below hb13
          clear hb13 hk12 A_12 TO
          go_wp2_with fail
          refine (pos_val e2 A_13).mono ?_
          rintro e w14 ⟨vr, rfl, TR, hb14⟩
          have hk14 := below_then hk13 hb14
          have A_14 := A_13.below hb14
          have O_14 := O_13.below hb14
          clear hb14 hk13 A_13 O_13
          go_wp2_with fail
          refine (zsame_val (zsB_refl _) O_14 TR).mono ?_
          rintro e w15 ⟨rfl, hb15⟩
          have hk15 := below_then hk14 hb15
          have A_15 := A_14.below hb15
          have O_15 := O_14.below hb15
          have R_15 := TR.below hb15
          clear hb15 hk14 A_14 O_14 TR
          clear A_15 O_15 R_15
          clear e0 e1 e2
          go_wp2
          go_ret
          exact ⟨rfl, hk15⟩
        | true =>
          have hs : zsB (djOut za zda zb [] x y) (joinOut zda zb x y) = true := by rw [dj_left Hc2.out.symm Hc3.out.symm]; exact zsB_refl _
          go_wp2_with fail
          refine (zsame_val hs L_11 M_11).mono ?_
          rintro e w12 ⟨rfl, hb12⟩
          have hk12 := below_then hk11 hb12
          have A_12 := A_11.below hb12
          have B_12 := B_11.below hb12
          have DB_12 := DB_11.below hb12
          have L_12 := L_11.below hb12
          have M_12 := M_11.below hb12
          clear hb12 hk11 A_11 B_11 DB_11 L_11 M_11
          clear hs
          clear L_12
          clear M_12
          clear B_12
          clear DB_12
          obtain ⟨e0, e1⟩ := once_fromNil za
          rw [← Hc4.out] at e0 e1
          simp only [if_true] at e1
          have e2 : (if zOkB za then posZ za else []) = posZ za := by rw [← Hc4.out]; rfl
          go_wp2_with fail
          refine (once_val e0 e1 (tailZ_nil _) A_12).mono ?_
          rintro e w13 ⟨vo, rfl, TO, hb13⟩
          have hk13 := below_then hk12 hb13
          have A_13 := A_12.below hb13
          clear hb13 hk12 A_12
          go_wp2_with fail
          refine (okS_val Hc4.out.symm A_13).mono ?_
          rintro e w14 ⟨rfl, hb14⟩
          have hk14 := below_then hk13 hb14
          have A_14 := A_13.below hb14
          have O_14 := TO.below hb14
          clear hb14 hk13 A_13 TO
          go_wp2_with fail
          refine (pos_val e2 A_14).mono ?_
          rintro e w15 ⟨vr, rfl, TR, hb15⟩
          have hk15 := below_then hk14 hb15
          have A_15 := A_14.below hb15
          have O_15 := O_14.below hb15
          clear hb15 hk14 A_14 O_14
          go_wp2_with fail
          refine (zsame_val (zsB_refl _) O_15 TR).mono ?_
          rintro e w16 ⟨rfl, hb16⟩
          have hk16 := below_then hk15 hb16
          have A_16 := A_15.below hb16
          have O_16 := O_15.below hb16
          have R_16 := TR.below hb16
          clear hb16 hk15 A_15 O_15 TR
          clear A_16 O_16 R_16
          clear e0 e1 e2
          go_wp2
          go_ret
          exact ⟨rfl, hk16⟩
    | true =>
      obtain ⟨f1, fs⟩ := dj_same Hc4.out.symm Hc5.out.symm PX.out.1 PX.out.2
      obtain rfl : c1 = true := Hc1.out.trans f1
      have TN0 := N_11
      rw [fs] at TN0
      obtain ⟨na, nc, rfl⟩ := TN0.empty
      clear TN0 f1 fs
      clear N_11
      obtain ⟨da, dc, rfl⟩ := DB_11.shape
      cases c2 with
      | false =>
        clear L_11
        clear M_11
        clear B_11
        clear DB_11
        obtain ⟨e0, e1⟩ := once_fromNil za
        rw [← Hc4.out] at e0 e1
        simp only [if_true] at e1
        have e2 : (if zOkB za then posZ za else []) = posZ za := by rw [← Hc4.out]; rfl
        go_wp2_with fail
        refine (once_val e0 e1 (tailZ_nil _) A_11).mono ?_
        rintro e w12 ⟨vo, rfl, TO, hb12⟩
        have hk12 := below_then hk11 hb12
        have A_12 := A_11.below hb12
        clear hb12 hk11 A_11
        go_wp2_with fail
        refine (okS_val Hc4.out.symm A_12).mono ?_
        rintro e w13 ⟨rfl, hb13⟩
        have hk13 := below_then hk12 hb13
        have A_13 := A_12.below hb13
        have O_13 := TO.below hb13
        clear hb13 hk12 A_12 TO
        go_wp2_with fail
        refine (pos_val e2 A_13).mono ?_
        rintro e w14 ⟨vr, rfl, TR, hb14⟩
        have hk14 := below_then hk13 hb14
        have A_14 := A_13.below hb14
        have O_14 := O_13.below hb14
        clear hb14 hk13 A_13 O_13
        go_wp2_with fail
        refine (zsame_val (zsB_refl _) O_14 TR).mono ?_
        rintro e w15 ⟨rfl, hb15⟩
        have hk15 := below_then hk14 hb15
        have A_15 := A_14.below hb15
        have O_15 := O_14.below hb15
        have R_15 := TR.below hb15
        clear hb15 hk14 A_14 O_14 TR
        clear A_15 O_15 R_15
        clear e0 e1 e2
        go_wp2
        go_ret
        exact ⟨rfl, hk15⟩
      | true =>
        cases c3 with
        | false =>
          clear L_11
          clear M_11
          clear B_11
          clear DB_11
          obtain ⟨e0, e1⟩ := once_fromNil za
          rw [← Hc4.out] at e0 e1
          simp only [if_true] at e1
          have e2 : (if zOkB za then posZ za else []) = posZ za := by rw [← Hc4.out]; rfl
          go_wp2_with fail
          refine (once_val e0 e1 (tailZ_nil _) A_11).mono ?_
          rintro e w12 ⟨vo, rfl, TO, hb12⟩
          have hk12 := below_then hk11 hb12
          have A_12 := A_11.below hb12
          clear hb12 hk11 A_11
          go_wp2_with fail
          refine (okS_val Hc4.out.symm A_12).mono ?_
          rintro e w13 ⟨rfl, hb13⟩
          have hk13 := below_then hk12 hb13
          have A_13 := A_12.below hb13
          have O_13 := TO.below hb13
          clear hb13 hk12 A_12 TO
          go_wp2_with fail
          refine (pos_val e2 A_13).mono ?_
          rintro e w14 ⟨vr, rfl, TR, hb14⟩
          have hk14 := below_then hk13 hb14
          have A_14 := A_13.below hb14
          have O_14 := O_13.below hb14
          clear hb14 hk13 A_13 O_13
          go_wp2_with fail
          refine (zsame_val (zsB_refl _) O_14 TR).mono ?_
          rintro e w15 ⟨rfl, hb15⟩
          have hk15 := below_then hk14 hb15
          have A_15 := A_14.below hb15
          have O_15 := O_14.below hb15
          have R_15 := TR.below hb15
          clear hb15 hk14 A_14 O_14 TR
          clear A_15 O_15 R_15
          clear e0 e1 e2
          go_wp2
          go_ret
          exact ⟨rfl, hk15⟩
        | true =>
          have hs : zsB (djOut za zda zb [] x y) (joinOut zda zb x y) = true := by rw [dj_left Hc2.out.symm Hc3.out.symm]; exact zsB_refl _
          go_wp2_with fail
          refine (zsame_val hs L_11 M_11).mono ?_
          rintro e w12 ⟨rfl, hb12⟩
          have hk12 := below_then hk11 hb12
          have A_12 := A_11.below hb12
          have B_12 := B_11.below hb12
          have DB_12 := DB_11.below hb12
          have L_12 := L_11.below hb12
          have M_12 := M_11.below hb12
          clear hb12 hk11 A_11 B_11 DB_11 L_11 M_11
          clear hs
          clear L_12
          clear M_12
          clear B_12
          clear DB_12
          obtain ⟨e0, e1⟩ := once_fromNil za
          rw [← Hc4.out] at e0 e1
          simp only [if_true] at e1
          have e2 : (if zOkB za then posZ za else []) = posZ za := by rw [← Hc4.out]; rfl
          go_wp2_with fail
          refine (once_val e0 e1 (tailZ_nil _) A_12).mono ?_
          rintro e w13 ⟨vo, rfl, TO, hb13⟩
          have hk13 := below_then hk12 hb13
          have A_13 := A_12.below hb13
          clear hb13 hk12 A_12
          go_wp2_with fail
          refine (okS_val Hc4.out.symm A_13).mono ?_
          rintro e w14 ⟨rfl, hb14⟩
          have hk14 := below_then hk13 hb14
          have A_14 := A_13.below hb14
          have O_14 := TO.below hb14
          clear hb14 hk13 A_13 TO
          go_wp2_with fail
          refine (pos_val e2 A_14).mono ?_
          rintro e w15 ⟨vr, rfl, TR, hb15⟩
          have hk15 := below_then hk14 hb15
          have A_15 := A_14.below hb15
          have O_15 := O_14.below hb15
          clear hb15 hk14 A_14 O_14
          go_wp2_with fail
          refine (zsame_val (zsB_refl _) O_15 TR).mono ?_
          rintro e w16 ⟨rfl, hb16⟩
          have hk16 := below_then hk15 hb16
          have A_16 := A_15.below hb16
          have O_16 := O_15.below hb16
          have R_16 := TR.below hb16
          clear hb16 hk15 A_15 O_15 TR
          clear A_16 O_16 R_16
          clear e0 e1 e2
          go_wp2
          go_ret
          exact ⟨rfl, hk16⟩

end Go.Proofs.Ytjojkemegfljmaa
