/-
  The walk of laws.FnZ, out of the contracts: it answers true whatever the bytes are, and nothing that was there is written.
-/
import Derived.Test.YtdleikloneaodaaZVals
namespace Go.Proofs.Ytdleikloneaodaa
open Go.RowKit

set_option maxRecDepth 100000 in
set_option maxHeartbeats 16000000 in
theorem lawFnZ (a : Option Addr) (len cap : Nat) (bs : List Int) (a2 : Option Addr) (len2 cap2 : Nat) (bs2 : List Int) (w : World) (h : IsRow .u8 w a len cap bs) (h2 : IsRow .u8 w a2 len2 cap2 bs2) :
    Calls Try.prog 3 #[.slice a len cap, .slice a2 len2 cap2] w fun e w' => e = .returned (.bool true) ∧ Below w.heap.size w w' := by
  by_cases hbig : (1048576 : Int) < (len : Int)
  · go_enter Try.func3, Try.ntmps3
    go_wp2
    go_ret
    exact ⟨rfl, Below.refl _ _⟩
  by_cases hbig2 : (1048576 : Int) < (len2 : Int)
  · go_enter Try.func3, Try.ntmps3
    go_wp2
    go_ret
    exact ⟨rfl, Below.refl _ _⟩
  go_enter Try.func3, Try.ntmps3
  go_wp2_with fail
  refine (drawZAdd_any a len cap bs _ h).mono ?_
  rintro e w1 ⟨va, vb, rfl, zs, ys, hgz, hgy, TA, TB, hk1⟩
  have HM := h2.below hk1
  clear h h2 hgz hgy
  cases ha : zOkB zs with
  | false =>
    obtain ⟨e1, e2⟩ := add_no_l ys ha
    go_wp2_with fail
    refine (add_val e1 e2 TA TB).mono ?_
    rintro e w2 ⟨vx, rfl, TX, hb2⟩
    have hk2 := below_then hk1 hb2
    have A_2 := TA.below hb2
    have B_2 := TB.below hb2
    have M_2 := HM.below hb2
    clear hb2 hk1 TA TB HM
    obtain ⟨xa, xc, rfl⟩ := TX.empty
    go_wp2_with fail
    refine (specAdd_val e1 e2 A_2 B_2).mono ?_
    rintro e w3 ⟨vy, rfl, TY, hb3⟩
    have hk3 := below_then hk2 hb3
    have A_3 := A_2.below hb3
    have B_3 := B_2.below hb3
    have M_3 := M_2.below hb3
    have X_3 := TX.below hb3
    clear hb3 hk2 A_2 B_2 M_2 TX
    go_wp2_with fail
    refine (zsame_val (zsB_refl _) X_3 TY).mono ?_
    rintro e w4 ⟨rfl, hb4⟩
    have hk4 := below_then hk3 hb4
    have A_4 := A_3.below hb4
    have B_4 := B_3.below hb4
    have M_4 := M_3.below hb4
    have X_4 := X_3.below hb4
    have Y_4 := TY.below hb4
    clear hb4 hk3 A_3 B_3 M_3 X_3 TY
    clear Y_4
    go_wp2_with fail
    refine (okI_val ha A_4).mono ?_
    rintro e w5 ⟨rfl, hb5⟩
    have hk5 := below_then hk4 hb5
    have A_5 := A_4.below hb5
    have B_5 := B_4.below hb5
    have M_5 := M_4.below hb5
    have X_5 := X_4.below hb5
    clear hb5 hk4 A_4 B_4 M_4 X_4
    go_wp2_with fail
    refine (okS_val ha A_5).mono ?_
    rintro e w6 ⟨rfl, hb6⟩
    have hk6 := below_then hk5 hb6
    have A_6 := A_5.below hb6
    have B_6 := B_5.below hb6
    have M_6 := M_5.below hb6
    have X_6 := X_5.below hb6
    clear hb6 hk5 A_5 B_5 M_5 X_5
    go_wp2_with fail
    refine (okS_val ha A_6).mono ?_
    rintro e w7 ⟨rfl, hb7⟩
    have hk7 := below_then hk6 hb7
    have A_7 := A_6.below hb7
    have B_7 := B_6.below hb7
    have M_7 := M_6.below hb7
    have X_7 := X_6.below hb7
    clear hb7 hk6 A_6 B_6 M_6 X_6
    clear A_7 B_7 M_7 X_7
    go_wp2
    go_ret
    exact ⟨rfl, hk7⟩
  | true =>
    cases hb : zOkB ys with
    | false =>
      obtain ⟨e1, e2⟩ := add_no_r zs hb
      go_wp2_with fail
      refine (add_val e1 e2 TA TB).mono ?_
      rintro e w2 ⟨vx, rfl, TX, hb2⟩
      have hk2 := below_then hk1 hb2
      have A_2 := TA.below hb2
      have B_2 := TB.below hb2
      have M_2 := HM.below hb2
      clear hb2 hk1 TA TB HM
      obtain ⟨xa, xc, rfl⟩ := TX.empty
      go_wp2_with fail
      refine (specAdd_val e1 e2 A_2 B_2).mono ?_
      rintro e w3 ⟨vy, rfl, TY, hb3⟩
      have hk3 := below_then hk2 hb3
      have A_3 := A_2.below hb3
      have B_3 := B_2.below hb3
      have M_3 := M_2.below hb3
      have X_3 := TX.below hb3
      clear hb3 hk2 A_2 B_2 M_2 TX
      go_wp2_with fail
      refine (zsame_val (zsB_refl _) X_3 TY).mono ?_
      rintro e w4 ⟨rfl, hb4⟩
      have hk4 := below_then hk3 hb4
      have A_4 := A_3.below hb4
      have B_4 := B_3.below hb4
      have M_4 := M_3.below hb4
      have X_4 := X_3.below hb4
      have Y_4 := TY.below hb4
      clear hb4 hk3 A_3 B_3 M_3 X_3 TY
      clear Y_4
      go_wp2_with fail
      refine (okI_val ha A_4).mono ?_
      rintro e w5 ⟨rfl, hb5⟩
      have hk5 := below_then hk4 hb5
      have A_5 := A_4.below hb5
      have B_5 := B_4.below hb5
      have M_5 := M_4.below hb5
      have X_5 := X_4.below hb5
      clear hb5 hk4 A_4 B_4 M_4 X_4
      go_wp2_with fail
      refine (okS_val ha A_5).mono ?_
      rintro e w6 ⟨rfl, hb6⟩
      have hk6 := below_then hk5 hb6
      have A_6 := A_5.below hb6
      have B_6 := B_5.below hb6
      have M_6 := M_5.below hb6
      have X_6 := X_5.below hb6
      clear hb6 hk5 A_5 B_5 M_5 X_5
      go_wp2_with fail
      refine (okS_val ha A_6).mono ?_
      rintro e w7 ⟨rfl, hb7⟩
      have hk7 := below_then hk6 hb7
      have A_7 := A_6.below hb7
      have B_7 := B_6.below hb7
      have M_7 := M_6.below hb7
      have X_7 := X_6.below hb7
      clear hb7 hk6 A_6 B_6 M_6 X_6
      go_wp2_with fail
      refine (okS_val hb B_7).mono ?_
      rintro e w8 ⟨rfl, hb8⟩
      have hk8 := below_then hk7 hb8
      have A_8 := A_7.below hb8
      have B_8 := B_7.below hb8
      have M_8 := M_7.below hb8
      have X_8 := X_7.below hb8
      clear hb8 hk7 A_7 B_7 M_7 X_7
      clear A_8 B_8 M_8 X_8
      go_wp2
      go_ret
      exact ⟨rfl, hk8⟩
    | true =>
      have hcm := addOk_comm zs ys ha hb
      obtain ⟨e5, e6⟩ := add_yes ha ((zOk_neg zs).trans ha) (add_neg (zOk_srt ha) (zOk_nz ha)) zOk_nil
      obtain ⟨e7, e8⟩ := add_yes ha zOk_nil (addZ_nil zs) ha
      have e9 : (if zOkB zs then negZ zs else []) = negZ zs := by rw [ha]; rfl
      cases hs : zOkB (addZ zs ys) with
      | false =>
        obtain ⟨e1, e2⟩ := add_not ha hb rfl hs
        obtain ⟨e3, e4⟩ := add_not hb ha hcm hs
        clear hcm
        go_wp2_with fail
        refine (add_val e1 e2 TA TB).mono ?_
        rintro e w2 ⟨vx, rfl, TX, hb2⟩
        have hk2 := below_then hk1 hb2
        have A_2 := TA.below hb2
        have B_2 := TB.below hb2
        have M_2 := HM.below hb2
        clear hb2 hk1 TA TB HM
        go_wp2_with fail
        refine (specAdd_val e1 e2 A_2 B_2).mono ?_
        rintro e w3 ⟨vy, rfl, TY, hb3⟩
        have hk3 := below_then hk2 hb3
        have A_3 := A_2.below hb3
        have B_3 := B_2.below hb3
        have M_3 := M_2.below hb3
        have X_3 := TX.below hb3
        clear hb3 hk2 A_2 B_2 M_2 TX
        go_wp2_with fail
        refine (zsame_val (zsB_refl _) X_3 TY).mono ?_
        rintro e w4 ⟨rfl, hb4⟩
        have hk4 := below_then hk3 hb4
        have A_4 := A_3.below hb4
        have B_4 := B_3.below hb4
        have M_4 := M_3.below hb4
        have X_4 := X_3.below hb4
        have Y_4 := TY.below hb4
        clear hb4 hk3 A_3 B_3 M_3 X_3 TY
        clear Y_4
        go_wp2_with fail
        refine (okI_val ha A_4).mono ?_
        rintro e w5 ⟨rfl, hb5⟩
        have hk5 := below_then hk4 hb5
        have A_5 := A_4.below hb5
        have B_5 := B_4.below hb5
        have M_5 := M_4.below hb5
        have X_5 := X_4.below hb5
        clear hb5 hk4 A_4 B_4 M_4 X_4
        go_wp2_with fail
        refine (okS_val ha A_5).mono ?_
        rintro e w6 ⟨rfl, hb6⟩
        have hk6 := below_then hk5 hb6
        have A_6 := A_5.below hb6
        have B_6 := B_5.below hb6
        have M_6 := M_5.below hb6
        have X_6 := X_5.below hb6
        clear hb6 hk5 A_5 B_5 M_5 X_5
        go_wp2_with fail
        refine (okS_val ha A_6).mono ?_
        rintro e w7 ⟨rfl, hb7⟩
        have hk7 := below_then hk6 hb7
        have A_7 := A_6.below hb7
        have B_7 := B_6.below hb7
        have M_7 := M_6.below hb7
        have X_7 := X_6.below hb7
        clear hb7 hk6 A_6 B_6 M_6 X_6
        go_wp2_with fail
        refine (okS_val hb B_7).mono ?_
        rintro e w8 ⟨rfl, hb8⟩
        have hk8 := below_then hk7 hb8
        have A_8 := A_7.below hb8
        have B_8 := B_7.below hb8
        have M_8 := M_7.below hb8
        have X_8 := X_7.below hb8
        clear hb8 hk7 A_7 B_7 M_7 X_7
        go_wp2_with fail
        refine (add_val e3 e4 B_8 A_8).mono ?_
        rintro e w9 ⟨vk, rfl, TK, hb9⟩
        have hk9 := below_then hk8 hb9
        have A_9 := A_8.below hb9
        have B_9 := B_8.below hb9
        have M_9 := M_8.below hb9
        have X_9 := X_8.below hb9
        clear hb9 hk8 A_8 B_8 M_8 X_8
        go_wp2_with fail
        refine (neg_val e9 A_9).mono ?_
        rintro e w10 ⟨vn, rfl, TN, hb10⟩
        have hk10 := below_then hk9 hb10
        have A_10 := A_9.below hb10
        have B_10 := B_9.below hb10
        have M_10 := M_9.below hb10
        have X_10 := X_9.below hb10
        have K_10 := TK.below hb10
        clear hb10 hk9 A_9 B_9 M_9 X_9 TK
        go_wp2_with fail
        refine (add_val e5 e6 A_10 TN).mono ?_
        rintro e w11 ⟨vo, rfl, TO, hb11⟩
        have hk11 := below_then hk10 hb11
        have A_11 := A_10.below hb11
        have B_11 := B_10.below hb11
        have M_11 := M_10.below hb11
        have X_11 := X_10.below hb11
        have K_11 := K_10.below hb11
        have N_11 := TN.below hb11
        clear hb11 hk10 A_10 B_10 M_10 X_10 K_10 TN
        obtain ⟨oa, oc, rfl⟩ := TO.empty
        clear N_11
        clear TO
        go_wp2_with fail
        refine (add_val e7 e8 A_11 (tailZ_nil _)).mono ?_
        rintro e w12 ⟨vs, rfl, TS, hb12⟩
        have hk12 := below_then hk11 hb12
        have A_12 := A_11.below hb12
        have B_12 := B_11.below hb12
        have M_12 := M_11.below hb12
        have X_12 := X_11.below hb12
        have K_12 := K_11.below hb12
        clear hb12 hk11 A_11 B_11 M_11 X_11 K_11
        go_wp2_with fail
        refine (zsame_val (zsB_refl _) K_12 X_12).mono ?_
        rintro e w13 ⟨rfl, hb13⟩
        have hk13 := below_then hk12 hb13
        have A_13 := A_12.below hb13
        have B_13 := B_12.below hb13
        have M_13 := M_12.below hb13
        have X_13 := X_12.below hb13
        have K_13 := K_12.below hb13
        have S_13 := TS.below hb13
        clear hb13 hk12 A_12 B_12 M_12 X_12 K_12 TS
        clear K_13
        go_wp2_with fail
        refine (zsame_val (zsB_refl _) S_13 A_13).mono ?_
        rintro e w14 ⟨rfl, hb14⟩
        have hk14 := below_then hk13 hb14
        have A_14 := A_13.below hb14
        have B_14 := B_13.below hb14
        have M_14 := M_13.below hb14
        have X_14 := X_13.below hb14
        have S_14 := S_13.below hb14
        clear hb14 hk13 A_13 B_13 M_13 X_13 S_13
        clear S_14
        go_wp2_with fail
        refine (drawZGet_any a2 len2 cap2 bs2 _ M_14).mono ?_
        rintro e w15 ⟨vg, rvg, rfl, zg, rg, hgg, hr7, hrs, TG, IR, hb15⟩
        have hk15 := below_then hk14 hb15
        have A_15 := A_14.below hb15
        have B_15 := B_14.below hb15
        have M_15 := M_14.below hb15
        have X_15 := X_14.below hb15
        clear hb15 hk14 A_14 B_14 M_14 X_14
        clear hgg hr7 hrs TG
        clear e1 e2 e3 e4 e5 e6 e7 e8 e9
        clear IR
        go_wp2_with fail
        refine (drawZOk_any a2 len2 cap2 bs2 _ M_15).mono ?_
        rintro e w16 ⟨vc, rfl, cs, hgc, TC, hb16⟩
        have hk16 := below_then hk15 hb16
        have A_16 := A_15.below hb16
        have B_16 := B_15.below hb16
        have M_16 := M_15.below hb16
        have X_16 := X_15.below hb16
        clear hb16 hk15 A_15 B_15 M_15 X_15
        clear hgc
        obtain ⟨c1, H1⟩ : ∃ c, addOk ([] : List It) cs = c := ⟨_, rfl⟩
        obtain ⟨o1, G1⟩ : ∃ o, addOut ([] : List It) cs = o := ⟨_, rfl⟩
        obtain ⟨c2, H2⟩ : ∃ c, addOk ys cs = c := ⟨_, rfl⟩
        obtain ⟨o2, G2⟩ : ∃ o, addOut ys cs = o := ⟨_, rfl⟩
        obtain ⟨c3, H3⟩ : ∃ c, addOk zs o2 = c := ⟨_, rfl⟩
        obtain ⟨o3, G3⟩ : ∃ o, addOut zs o2 = o := ⟨_, rfl⟩
        go_wp2_with fail
        refine (add_val H1 G1 X_16 TC).mono ?_
        rintro e w17 ⟨vp, rfl, TP, hb17⟩
        have hk17 := below_then hk16 hb17
        have A_17 := A_16.below hb17
        have B_17 := B_16.below hb17
        have M_17 := M_16.below hb17
        have X_17 := X_16.below hb17
        have C_17 := TC.below hb17
        clear hb17 hk16 A_16 B_16 M_16 X_16 TC
        go_wp2_with fail
        refine (add_val H2 G2 B_17 C_17).mono ?_
        rintro e w18 ⟨vq, rfl, TQ, hb18⟩
        have hk18 := below_then hk17 hb18
        have A_18 := A_17.below hb18
        have B_18 := B_17.below hb18
        have M_18 := M_17.below hb18
        have X_18 := X_17.below hb18
        have C_18 := C_17.below hb18
        have P_18 := TP.below hb18
        clear hb18 hk17 A_17 B_17 M_17 X_17 C_17 TP
        go_wp2_with fail
        refine (add_val H3 G3 A_18 TQ).mono ?_
        rintro e w19 ⟨vs2, rfl, TS2, hb19⟩
        have hk19 := below_then hk18 hb19
        have A_19 := A_18.below hb19
        have B_19 := B_18.below hb19
        have M_19 := M_18.below hb19
        have X_19 := X_18.below hb19
        have C_19 := C_18.below hb19
        have P_19 := P_18.below hb19
        have Q_19 := TQ.below hb19
        clear hb19 hk18 A_18 B_18 M_18 X_18 C_18 P_18 TQ
        clear A_19 B_19 M_19 X_19 C_19 P_19 Q_19 TS2
        clear H1 H2 H3 G1 G2 G3
        go_wp2
        go_ret
        exact ⟨rfl, hk19⟩
      | true =>
        obtain ⟨e1, e2⟩ := add_yes ha hb rfl hs
        obtain ⟨e3, e4⟩ := add_yes hb ha hcm hs
        clear hcm
        go_wp2_with fail
        refine (add_val e1 e2 TA TB).mono ?_
        rintro e w2 ⟨vx, rfl, TX, hb2⟩
        have hk2 := below_then hk1 hb2
        have A_2 := TA.below hb2
        have B_2 := TB.below hb2
        have M_2 := HM.below hb2
        clear hb2 hk1 TA TB HM
        go_wp2_with fail
        refine (specAdd_val e1 e2 A_2 B_2).mono ?_
        rintro e w3 ⟨vy, rfl, TY, hb3⟩
        have hk3 := below_then hk2 hb3
        have A_3 := A_2.below hb3
        have B_3 := B_2.below hb3
        have M_3 := M_2.below hb3
        have X_3 := TX.below hb3
        clear hb3 hk2 A_2 B_2 M_2 TX
        go_wp2_with fail
        refine (zsame_val (zsB_refl _) X_3 TY).mono ?_
        rintro e w4 ⟨rfl, hb4⟩
        have hk4 := below_then hk3 hb4
        have A_4 := A_3.below hb4
        have B_4 := B_3.below hb4
        have M_4 := M_3.below hb4
        have X_4 := X_3.below hb4
        have Y_4 := TY.below hb4
        clear hb4 hk3 A_3 B_3 M_3 X_3 TY
        clear Y_4
        go_wp2_with fail
        refine (okI_val ha A_4).mono ?_
        rintro e w5 ⟨rfl, hb5⟩
        have hk5 := below_then hk4 hb5
        have A_5 := A_4.below hb5
        have B_5 := B_4.below hb5
        have M_5 := M_4.below hb5
        have X_5 := X_4.below hb5
        clear hb5 hk4 A_4 B_4 M_4 X_4
        go_wp2_with fail
        refine (okS_val ha A_5).mono ?_
        rintro e w6 ⟨rfl, hb6⟩
        have hk6 := below_then hk5 hb6
        have A_6 := A_5.below hb6
        have B_6 := B_5.below hb6
        have M_6 := M_5.below hb6
        have X_6 := X_5.below hb6
        clear hb6 hk5 A_5 B_5 M_5 X_5
        go_wp2_with fail
        refine (okS_val ha A_6).mono ?_
        rintro e w7 ⟨rfl, hb7⟩
        have hk7 := below_then hk6 hb7
        have A_7 := A_6.below hb7
        have B_7 := B_6.below hb7
        have M_7 := M_6.below hb7
        have X_7 := X_6.below hb7
        clear hb7 hk6 A_6 B_6 M_6 X_6
        go_wp2_with fail
        refine (okS_val hb B_7).mono ?_
        rintro e w8 ⟨rfl, hb8⟩
        have hk8 := below_then hk7 hb8
        have A_8 := A_7.below hb8
        have B_8 := B_7.below hb8
        have M_8 := M_7.below hb8
        have X_8 := X_7.below hb8
        clear hb8 hk7 A_7 B_7 M_7 X_7
        go_wp2_with fail
        refine (add_val e3 e4 B_8 A_8).mono ?_
        rintro e w9 ⟨vk, rfl, TK, hb9⟩
        have hk9 := below_then hk8 hb9
        have A_9 := A_8.below hb9
        have B_9 := B_8.below hb9
        have M_9 := M_8.below hb9
        have X_9 := X_8.below hb9
        clear hb9 hk8 A_8 B_8 M_8 X_8
        go_wp2_with fail
        refine (neg_val e9 A_9).mono ?_
        rintro e w10 ⟨vn, rfl, TN, hb10⟩
        have hk10 := below_then hk9 hb10
        have A_10 := A_9.below hb10
        have B_10 := B_9.below hb10
        have M_10 := M_9.below hb10
        have X_10 := X_9.below hb10
        have K_10 := TK.below hb10
        clear hb10 hk9 A_9 B_9 M_9 X_9 TK
        go_wp2_with fail
        refine (add_val e5 e6 A_10 TN).mono ?_
        rintro e w11 ⟨vo, rfl, TO, hb11⟩
        have hk11 := below_then hk10 hb11
        have A_11 := A_10.below hb11
        have B_11 := B_10.below hb11
        have M_11 := M_10.below hb11
        have X_11 := X_10.below hb11
        have K_11 := K_10.below hb11
        have N_11 := TN.below hb11
        clear hb11 hk10 A_10 B_10 M_10 X_10 K_10 TN
        obtain ⟨oa, oc, rfl⟩ := TO.empty
        clear N_11
        clear TO
        go_wp2_with fail
        refine (add_val e7 e8 A_11 (tailZ_nil _)).mono ?_
        rintro e w12 ⟨vs, rfl, TS, hb12⟩
        have hk12 := below_then hk11 hb12
        have A_12 := A_11.below hb12
        have B_12 := B_11.below hb12
        have M_12 := M_11.below hb12
        have X_12 := X_11.below hb12
        have K_12 := K_11.below hb12
        clear hb12 hk11 A_11 B_11 M_11 X_11 K_11
        go_wp2_with fail
        refine (zsame_val (zsB_refl _) K_12 X_12).mono ?_
        rintro e w13 ⟨rfl, hb13⟩
        have hk13 := below_then hk12 hb13
        have A_13 := A_12.below hb13
        have B_13 := B_12.below hb13
        have M_13 := M_12.below hb13
        have X_13 := X_12.below hb13
        have K_13 := K_12.below hb13
        have S_13 := TS.below hb13
        clear hb13 hk12 A_12 B_12 M_12 X_12 K_12 TS
        clear K_13
        go_wp2_with fail
        refine (zsame_val (zsB_refl _) S_13 A_13).mono ?_
        rintro e w14 ⟨rfl, hb14⟩
        have hk14 := below_then hk13 hb14
        have A_14 := A_13.below hb14
        have B_14 := B_13.below hb14
        have M_14 := M_13.below hb14
        have X_14 := X_13.below hb14
        have S_14 := S_13.below hb14
        clear hb14 hk13 A_13 B_13 M_13 X_13 S_13
        clear S_14
        go_wp2_with fail
        refine (drawZGet_any a2 len2 cap2 bs2 _ M_14).mono ?_
        rintro e w15 ⟨vg, rvg, rfl, zg, rg, hgg, hr7, hrs, TG, IR, hb15⟩
        have hk15 := below_then hk14 hb15
        have A_15 := A_14.below hb15
        have B_15 := B_14.below hb15
        have M_15 := M_14.below hb15
        have X_15 := X_14.below hb15
        clear hb15 hk14 A_14 B_14 M_14 X_14
        clear hgg hr7 hrs TG
        obtain ⟨na, HNA⟩ : ∃ n, Hid (n = getZ zs rg) := ⟨_, rfl⟩
        obtain ⟨nb, HNB⟩ : ∃ n, Hid (n = getZ ys rg) := ⟨_, rfl⟩
        have hna : -10000 ≤ na ∧ na ≤ 10000 := by rw [HNA.out]; exact getZ_in ha rg
        have hnb : -10000 ≤ nb ∧ nb ≤ 10000 := by rw [HNB.out]; exact getZ_in hb rg
        have g1 : (if zOkB (addZ zs ys) then getZ (addZ zs ys) rg else 0) = na + nb := by rw [get_ok hs, getZ_add (zOk_srt ha) (zOk_srt hb), HNA.out, HNB.out]
        have g2 : (if zOkB zs then getZ zs rg else 0) = na := by rw [get_ok ha, HNA.out]
        have g3 : (if zOkB ys then getZ ys rg else 0) = nb := by rw [get_ok hb, HNB.out]
        go_wp2_with fail
        refine (get_val g1 X_15 IR).mono ?_
        rintro e w16 ⟨rfl, hb16⟩
        have hk16 := below_then hk15 hb16
        have A_16 := A_15.below hb16
        have B_16 := B_15.below hb16
        have M_16 := M_15.below hb16
        have X_16 := X_15.below hb16
        have R_16 := IR.below hb16
        clear hb16 hk15 A_15 B_15 M_15 X_15 IR
        go_wp2_with fail
        refine (get_val g2 A_16 R_16).mono ?_
        rintro e w17 ⟨rfl, hb17⟩
        have hk17 := below_then hk16 hb17
        have A_17 := A_16.below hb17
        have B_17 := B_16.below hb17
        have M_17 := M_16.below hb17
        have X_17 := X_16.below hb17
        have R_17 := R_16.below hb17
        clear hb17 hk16 A_16 B_16 M_16 X_16 R_16
        go_wp2_with fail
        refine (get_val g3 B_17 R_17).mono ?_
        rintro e w18 ⟨rfl, hb18⟩
        have hk18 := below_then hk17 hb18
        have A_18 := A_17.below hb18
        have B_18 := B_17.below hb18
        have M_18 := M_17.below hb18
        have X_18 := X_17.below hb18
        have R_18 := R_17.below hb18
        clear hb18 hk17 A_17 B_17 M_17 X_17 R_17
        clear g1 g2 g3
        clear e1 e2 e3 e4 e5 e6 e7 e8 e9
        clear R_18
        go_wp2_with fail
        refine (drawZOk_any a2 len2 cap2 bs2 _ M_18).mono ?_
        rintro e w19 ⟨vc, rfl, cs, hgc, TC, hb19⟩
        have hk19 := below_then hk18 hb19
        have A_19 := A_18.below hb19
        have B_19 := B_18.below hb19
        have M_19 := M_18.below hb19
        have X_19 := X_18.below hb19
        clear hb19 hk18 A_18 B_18 M_18 X_18
        clear hgc
        obtain ⟨c1, H1⟩ : ∃ c, addOk (addZ zs ys) cs = c := ⟨_, rfl⟩
        obtain ⟨o1, G1⟩ : ∃ o, addOut (addZ zs ys) cs = o := ⟨_, rfl⟩
        obtain ⟨c2, H2⟩ : ∃ c, addOk ys cs = c := ⟨_, rfl⟩
        obtain ⟨o2, G2⟩ : ∃ o, addOut ys cs = o := ⟨_, rfl⟩
        obtain ⟨c3, H3⟩ : ∃ c, addOk zs o2 = c := ⟨_, rfl⟩
        obtain ⟨o3, G3⟩ : ∃ o, addOut zs o2 = o := ⟨_, rfl⟩
        go_wp2_with fail
        refine (add_val H1 G1 X_19 TC).mono ?_
        rintro e w20 ⟨vp, rfl, TP, hb20⟩
        have hk20 := below_then hk19 hb20
        have A_20 := A_19.below hb20
        have B_20 := B_19.below hb20
        have M_20 := M_19.below hb20
        have X_20 := X_19.below hb20
        have C_20 := TC.below hb20
        clear hb20 hk19 A_19 B_19 M_19 X_19 TC
        go_wp2_with fail
        refine (add_val H2 G2 B_20 C_20).mono ?_
        rintro e w21 ⟨vq, rfl, TQ, hb21⟩
        have hk21 := below_then hk20 hb21
        have A_21 := A_20.below hb21
        have B_21 := B_20.below hb21
        have M_21 := M_20.below hb21
        have X_21 := X_20.below hb21
        have C_21 := C_20.below hb21
        have P_21 := TP.below hb21
        clear hb21 hk20 A_20 B_20 M_20 X_20 C_20 TP
        go_wp2_with fail
        refine (add_val H3 G3 A_21 TQ).mono ?_
        rintro e w22 ⟨vs2, rfl, TS2, hb22⟩
        have hk22 := below_then hk21 hb22
        have A_22 := A_21.below hb22
        have B_22 := B_21.below hb22
        have M_22 := M_21.below hb22
        have X_22 := X_21.below hb22
        have C_22 := C_21.below hb22
        have P_22 := P_21.below hb22
        have Q_22 := TQ.below hb22
        clear hb22 hk21 A_21 B_21 M_21 X_21 C_21 P_21 TQ
        cases hcs : zOkB cs with
        | false =>
          go_wp2_with fail
          refine (okS_val hcs C_22).mono ?_
          rintro e w23 ⟨rfl, hb23⟩
          have hk23 := below_then hk22 hb23
          have A_23 := A_22.below hb23
          have B_23 := B_22.below hb23
          have M_23 := M_22.below hb23
          have X_23 := X_22.below hb23
          have C_23 := C_22.below hb23
          have P_23 := P_22.below hb23
          have Q_23 := Q_22.below hb23
          have S2_23 := TS2.below hb23
          clear hb23 hk22 A_22 B_22 M_22 X_22 C_22 P_22 Q_22 TS2
          clear A_23 B_23 M_23 X_23 C_23 P_23 Q_23 S2_23
          clear H1 H2 H3 G1 G2 G3
          go_wp2
          go_ret
          exact ⟨rfl, hk23⟩
        | true =>
          go_wp2_with fail
          refine (okS_val hcs C_22).mono ?_
          rintro e w23 ⟨rfl, hb23⟩
          have hk23 := below_then hk22 hb23
          have A_23 := A_22.below hb23
          have B_23 := B_22.below hb23
          have M_23 := M_22.below hb23
          have X_23 := X_22.below hb23
          have C_23 := C_22.below hb23
          have P_23 := P_22.below hb23
          have Q_23 := Q_22.below hb23
          have S2_23 := TS2.below hb23
          clear hb23 hk22 A_22 B_22 M_22 X_22 C_22 P_22 Q_22 TS2
          have HH1 : Hid (addOk (addZ zs ys) cs = c1 ∧ addOut (addZ zs ys) cs = o1) := ⟨H1, G1⟩
          have HH2 : Hid (addOk ys cs = c2 ∧ addOut ys cs = o2) := ⟨H2, G2⟩
          have HH3 : Hid (addOk zs o2 = c3 ∧ addOut zs o2 = o3) := ⟨H3, G3⟩
          clear H1 H2 H3 G1 G2 G3
          cases c1 with
          | false =>
            clear A_23 B_23 M_23 X_23 C_23 P_23 Q_23 S2_23
            go_wp2
            go_ret
            exact ⟨rfl, hk23⟩
          | true =>
            cases c2 with
            | false =>
              clear A_23 B_23 M_23 X_23 C_23 P_23 Q_23 S2_23
              go_wp2
              go_ret
              exact ⟨rfl, hk23⟩
            | true =>
              cases c3 with
              | false =>
                clear A_23 B_23 M_23 X_23 C_23 P_23 Q_23 S2_23
                go_wp2
                go_ret
                exact ⟨rfl, hk23⟩
              | true =>
                have hz : zsB o1 o3 = true := by
                  rw [← HH1.out.2, (addOk_true HH1.out.1).2.2.2, ← HH3.out.2, (addOk_true HH3.out.1).2.2.2, ← HH2.out.2, (addOk_true HH2.out.1).2.2.2, add_assoc (zOk_srt ha) (zOk_nz ha) (zOk_srt hb) (zOk_srt hcs)]
                  exact zsB_refl _
                go_wp2_with fail
                refine (zsame_val hz P_23 S2_23).mono ?_
                rintro e w24 ⟨rfl, hb24⟩
                have hk24 := below_then hk23 hb24
                have A_24 := A_23.below hb24
                have B_24 := B_23.below hb24
                have M_24 := M_23.below hb24
                have X_24 := X_23.below hb24
                have C_24 := C_23.below hb24
                have P_24 := P_23.below hb24
                have Q_24 := Q_23.below hb24
                have S2_24 := S2_23.below hb24
                clear hb24 hk23 A_23 B_23 M_23 X_23 C_23 P_23 Q_23 S2_23
                clear A_24 B_24 M_24 X_24 C_24 P_24 Q_24 S2_24
                go_wp2
                go_ret
                exact ⟨rfl, hk24⟩

end Go.Proofs.Ytdleikloneaodaa
