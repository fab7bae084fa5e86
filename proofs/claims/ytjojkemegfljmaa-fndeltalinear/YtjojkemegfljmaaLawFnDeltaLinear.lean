/-
  The walk of laws.FnDeltaLinear, out of the contracts: whatever the bytes are, it answers true, and nothing that was there is written.
-/
import Derived.Test.YtjojkemegfljmaaDJFacts
import Derived.Test.YtjojkemegfljmaaDrawTurn
namespace Go.Proofs.Ytjojkemegfljmaa
open Go.RowKit
set_option linter.unusedVariables false
attribute [local go_sem ↓] Go.wp_at_zero Go.wp_at_succ

set_option maxRecDepth 100000 in
set_option maxHeartbeats 16000000 in
theorem lawFnDeltaLinear (a : Option Addr) (len cap : Nat) (bs : List Int) (w : World) (h : IsRow .u8 w a len cap bs) :
    Calls Try.prog 8 #[.slice a len cap] w fun e w' => e = .returned (.bool true) ∧ Below w.heap.size w w' := by
  by_cases hbig : (1048576 : Int) < (len : Int)
  · go_enter Try.func8, Try.ntmps8
    go_wp2
    go_ret
    exact ⟨rfl, Below.refl _ _⟩
  go_enter Try.func8, Try.ntmps8
  go_wp2_with fail
  refine (drawDeltaJoin_any a len cap bs _ h).mono ?_
  rintro e w1 ⟨v0, v1, v2, v3, x, y, za, zda, zb, zdb, rfl, hx, hy, hga, hgb, hl1, hl2, TA, TDA, TB, TDB, hk1⟩
  clear h hga hgb
  clear hx hy hl1 hl2
  obtain ⟨c0, Hc0⟩ : ∃ c : Bool, Hid (c = djOk za [] zb zdb x y) := ⟨_, rfl⟩
  obtain ⟨c1, Hc1⟩ : ∃ c : Bool, Hid (c = joinOk za zdb x y) := ⟨_, rfl⟩
  obtain ⟨c2, Hc2⟩ : ∃ c : Bool, Hid (c = zOkB zb) := ⟨_, rfl⟩
  obtain ⟨c3, Hc3⟩ : ∃ c : Bool, Hid (c = djOk za zda zb zdb x y) := ⟨_, rfl⟩
  obtain ⟨c4, Hc4⟩ : ∃ c : Bool, Hid (c = addOk za zda) := ⟨_, rfl⟩
  obtain ⟨c5, Hc5⟩ : ∃ c : Bool, Hid (c = addOk zb zdb) := ⟨_, rfl⟩
  obtain ⟨c6, Hc6⟩ : ∃ c : Bool, Hid (c = djOk (addOut za zda) (if zOkB zda then negZ zda else []) (addOut zb zdb) (if zOkB zdb then negZ zdb else []) x y) := ⟨_, rfl⟩
  go_wp2_with fail
  refine (dj_val Hc0.out.symm rfl TA (tailZ_nil _) TB TDB).mono ?_
  rintro e w2 ⟨vl, rfl, TL, hb2⟩
  have hk2 := below_then hk1 hb2
  have A_2 := TA.below hb2
  have DA_2 := TDA.below hb2
  have B_2 := TB.below hb2
  have DB_2 := TDB.below hb2
  clear hb2 hk1 TA TDA TB TDB
  go_wp2_with fail
  refine (specDj_val Hc0.out.symm rfl A_2 (tailZ_nil _) B_2 DB_2).mono ?_
  rintro e w3 ⟨vw, rfl, TW, hb3⟩
  have hk3 := below_then hk2 hb3
  have A_3 := A_2.below hb3
  have DA_3 := DA_2.below hb3
  have B_3 := B_2.below hb3
  have DB_3 := DB_2.below hb3
  have L_3 := TL.below hb3
  clear hb3 hk2 A_2 DA_2 B_2 DB_2 TL
  go_wp2_with fail
  refine (zsame_val (zsB_refl _) L_3 TW).mono ?_
  rintro e w4 ⟨rfl, hb4⟩
  have hk4 := below_then hk3 hb4
  have A_4 := A_3.below hb4
  have DA_4 := DA_3.below hb4
  have B_4 := B_3.below hb4
  have DB_4 := DB_3.below hb4
  have L_4 := L_3.below hb4
  have W_4 := TW.below hb4
  clear hb4 hk3 A_3 DA_3 B_3 DB_3 L_3 TW
  clear W_4
  go_wp2_with fail
  refine (join_val Hc1.out.symm rfl A_4 DB_4).mono ?_
  rintro e w5 ⟨vm, rfl, TM, hb5⟩
  have hk5 := below_then hk4 hb5
  have A_5 := A_4.below hb5
  have DA_5 := DA_4.below hb5
  have B_5 := B_4.below hb5
  have DB_5 := DB_4.below hb5
  have L_5 := L_4.below hb5
  clear hb5 hk4 A_4 DA_4 B_4 DB_4 L_4
  cases c1 with
  | false =>
    clear L_5
    clear TM
    go_wp2_with fail
    refine (dj_val Hc3.out.symm rfl A_5 DA_5 B_5 DB_5).mono ?_
    rintro e w6 ⟨vn, rfl, TN, hb6⟩
    have hk6 := below_then hk5 hb6
    have A_6 := A_5.below hb6
    have DA_6 := DA_5.below hb6
    have B_6 := B_5.below hb6
    have DB_6 := DB_5.below hb6
    clear hb6 hk5 A_5 DA_5 B_5 DB_5
    go_wp2_with fail
    refine (add_val Hc4.out.symm rfl A_6 DA_6).mono ?_
    rintro e w7 ⟨ve, rfl, TE, hb7⟩
    have hk7 := below_then hk6 hb7
    have A_7 := A_6.below hb7
    have DA_7 := DA_6.below hb7
    have B_7 := B_6.below hb7
    have DB_7 := DB_6.below hb7
    have N_7 := TN.below hb7
    clear hb7 hk6 A_6 DA_6 B_6 DB_6 TN
    go_wp2_with fail
    refine (add_val Hc5.out.symm rfl B_7 DB_7).mono ?_
    rintro e w8 ⟨vf, rfl, TF, hb8⟩
    have hk8 := below_then hk7 hb8
    have A_8 := A_7.below hb8
    have DA_8 := DA_7.below hb8
    have B_8 := B_7.below hb8
    have DB_8 := DB_7.below hb8
    have N_8 := N_7.below hb8
    have E_8 := TE.below hb8
    clear hb8 hk7 A_7 DA_7 B_7 DB_7 N_7 TE
    go_wp2_with fail
    refine (neg_val rfl DA_8).mono ?_
    rintro e w9 ⟨vg, rfl, TG, hb9⟩
    have hk9 := below_then hk8 hb9
    have A_9 := A_8.below hb9
    have DA_9 := DA_8.below hb9
    have B_9 := B_8.below hb9
    have DB_9 := DB_8.below hb9
    have N_9 := N_8.below hb9
    have E_9 := E_8.below hb9
    have F_9 := TF.below hb9
    clear hb9 hk8 A_8 DA_8 B_8 DB_8 N_8 E_8 TF
    go_wp2_with fail
    refine (neg_val rfl DB_9).mono ?_
    rintro e w10 ⟨vh, rfl, TH, hb10⟩
    have hk10 := below_then hk9 hb10
    have A_10 := A_9.below hb10
    have DA_10 := DA_9.below hb10
    have B_10 := B_9.below hb10
    have DB_10 := DB_9.below hb10
    have N_10 := N_9.below hb10
    have E_10 := E_9.below hb10
    have F_10 := F_9.below hb10
    have G_10 := TG.below hb10
    clear hb10 hk9 A_9 DA_9 B_9 DB_9 N_9 E_9 F_9 TG
    clear A_10
    clear DA_10
    clear B_10
    clear DB_10
    go_wp2_with fail
    refine (dj_val Hc6.out.symm rfl E_10 G_10 F_10 TH).mono ?_
    rintro e w11 ⟨vo, rfl, TO, hb11⟩
    have hk11 := below_then hk10 hb11
    have N_11 := N_10.below hb11
    have E_11 := E_10.below hb11
    have F_11 := F_10.below hb11
    have G_11 := G_10.below hb11
    have H_11 := TH.below hb11
    clear hb11 hk10 N_10 E_10 F_10 G_10 TH
    clear E_11
    clear F_11
    clear G_11
    clear H_11
    cases c3 with
    | false =>
      clear N_11 TO
      go_wp2
      go_ret
      exact ⟨rfl, hk11⟩
    | true =>
      cases c4 with
      | false =>
        clear N_11 TO
        go_wp2
        go_ret
        exact ⟨rfl, hk11⟩
      | true =>
        cases c5 with
        | false =>
          clear N_11 TO
          go_wp2
          go_ret
          exact ⟨rfl, hk11⟩
        | true =>
          cases c6 with
          | false =>
            clear N_11 TO
            go_wp2
            go_ret
            exact ⟨rfl, hk11⟩
          | true =>
            have hs : zsB (djOut (addOut za zda) (if zOkB zda then negZ zda else []) (addOut zb zdb) (if zOkB zdb then negZ zdb else []) x y) (if zOkB (djOut za zda zb zdb x y) then negZ (djOut za zda zb zdb x y) else []) = true := by
              rw [dj_back Hc3.out.symm Hc4.out.symm Hc5.out.symm Hc6.out.symm]; exact zsB_refl _
            go_wp2_with fail
            refine (neg_val rfl N_11).mono ?_
            rintro e w12 ⟨vr, rfl, TR, hb12⟩
            have hk12 := below_then hk11 hb12
            have N_12 := N_11.below hb12
            have O_12 := TO.below hb12
            clear hb12 hk11 N_11 TO
            go_wp2_with fail
            refine (zsame_val hs O_12 TR).mono ?_
            rintro e w13 ⟨rfl, hb13⟩
            have hk13 := below_then hk12 hb13
            have N_13 := N_12.below hb13
            have O_13 := O_12.below hb13
            have R_13 := TR.below hb13
            clear hb13 hk12 N_12 O_12 TR
            clear N_13 O_13 R_13
            clear hs
            go_wp2
            go_ret
            exact ⟨rfl, hk13⟩
  | true =>
    go_wp2_with fail
    refine (okS_val Hc2.out.symm B_5).mono ?_
    rintro e w6 ⟨rfl, hb6⟩
    have hk6 := below_then hk5 hb6
    have A_6 := A_5.below hb6
    have DA_6 := DA_5.below hb6
    have B_6 := B_5.below hb6
    have DB_6 := DB_5.below hb6
    have L_6 := L_5.below hb6
    have M_6 := TM.below hb6
    clear hb6 hk5 A_5 DA_5 B_5 DB_5 L_5 TM
    cases c2 with
    | false =>
      clear L_6
      clear M_6
      go_wp2_with fail
      refine (dj_val Hc3.out.symm rfl A_6 DA_6 B_6 DB_6).mono ?_
      rintro e w7 ⟨vn, rfl, TN, hb7⟩
      have hk7 := below_then hk6 hb7
      have A_7 := A_6.below hb7
      have DA_7 := DA_6.below hb7
      have B_7 := B_6.below hb7
      have DB_7 := DB_6.below hb7
      clear hb7 hk6 A_6 DA_6 B_6 DB_6
      go_wp2_with fail
      refine (add_val Hc4.out.symm rfl A_7 DA_7).mono ?_
      rintro e w8 ⟨ve, rfl, TE, hb8⟩
      have hk8 := below_then hk7 hb8
      have A_8 := A_7.below hb8
      have DA_8 := DA_7.below hb8
      have B_8 := B_7.below hb8
      have DB_8 := DB_7.below hb8
      have N_8 := TN.below hb8
      clear hb8 hk7 A_7 DA_7 B_7 DB_7 TN
      go_wp2_with fail
      refine (add_val Hc5.out.symm rfl B_8 DB_8).mono ?_
      rintro e w9 ⟨vf, rfl, TF, hb9⟩
      have hk9 := below_then hk8 hb9
      have A_9 := A_8.below hb9
      have DA_9 := DA_8.below hb9
      have B_9 := B_8.below hb9
      have DB_9 := DB_8.below hb9
      have N_9 := N_8.below hb9
      have E_9 := TE.below hb9
      clear hb9 hk8 A_8 DA_8 B_8 DB_8 N_8 TE
      go_wp2_with fail
      refine (neg_val rfl DA_9).mono ?_
      rintro e w10 ⟨vg, rfl, TG, hb10⟩
      have hk10 := below_then hk9 hb10
      have A_10 := A_9.below hb10
      have DA_10 := DA_9.below hb10
      have B_10 := B_9.below hb10
      have DB_10 := DB_9.below hb10
      have N_10 := N_9.below hb10
      have E_10 := E_9.below hb10
      have F_10 := TF.below hb10
      clear hb10 hk9 A_9 DA_9 B_9 DB_9 N_9 E_9 TF
      go_wp2_with fail
      refine (neg_val rfl DB_10).mono ?_
      rintro e w11 ⟨vh, rfl, TH, hb11⟩
      have hk11 := below_then hk10 hb11
      have A_11 := A_10.below hb11
      have DA_11 := DA_10.below hb11
      have B_11 := B_10.below hb11
      have DB_11 := DB_10.below hb11
      have N_11 := N_10.below hb11
      have E_11 := E_10.below hb11
      have F_11 := F_10.below hb11
      have G_11 := TG.below hb11
      clear hb11 hk10 A_10 DA_10 B_10 DB_10 N_10 E_10 F_10 TG
      clear A_11
      clear DA_11
      clear B_11
      clear DB_11
      go_wp2_with fail
      refine (dj_val Hc6.out.symm rfl E_11 G_11 F_11 TH).mono ?_
      rintro e w12 ⟨vo, rfl, TO, hb12⟩
      have hk12 := below_then hk11 hb12
      have N_12 := N_11.below hb12
      have E_12 := E_11.below hb12
      have F_12 := F_11.below hb12
      have G_12 := G_11.below hb12
      have H_12 := TH.below hb12
      clear hb12 hk11 N_11 E_11 F_11 G_11 TH
      clear E_12
      clear F_12
      clear G_12
      clear H_12
      cases c3 with
      | false =>
        clear N_12 TO
        go_wp2
        go_ret
        exact ⟨rfl, hk12⟩
      | true =>
        cases c4 with
        | false =>
          clear N_12 TO
          go_wp2
          go_ret
          exact ⟨rfl, hk12⟩
        | true =>
          cases c5 with
          | false =>
            clear N_12 TO
            go_wp2
            go_ret
            exact ⟨rfl, hk12⟩
          | true =>
            cases c6 with
            | false =>
              clear N_12 TO
              go_wp2
              go_ret
              exact ⟨rfl, hk12⟩
            | true =>
              have hs : zsB (djOut (addOut za zda) (if zOkB zda then negZ zda else []) (addOut zb zdb) (if zOkB zdb then negZ zdb else []) x y) (if zOkB (djOut za zda zb zdb x y) then negZ (djOut za zda zb zdb x y) else []) = true := by
                rw [dj_back Hc3.out.symm Hc4.out.symm Hc5.out.symm Hc6.out.symm]; exact zsB_refl _
              go_wp2_with fail
              refine (neg_val rfl N_12).mono ?_
              rintro e w13 ⟨vr, rfl, TR, hb13⟩
              have hk13 := below_then hk12 hb13
              have N_13 := N_12.below hb13
              have O_13 := TO.below hb13
              clear hb13 hk12 N_12 TO
              go_wp2_with fail
              refine (zsame_val hs O_13 TR).mono ?_
              rintro e w14 ⟨rfl, hb14⟩
              have hk14 := below_then hk13 hb14
              have N_14 := N_13.below hb14
              have O_14 := O_13.below hb14
              have R_14 := TR.below hb14
              clear hb14 hk13 N_13 O_13 TR
              clear N_14 O_14 R_14
              clear hs
              go_wp2
              go_ret
              exact ⟨rfl, hk14⟩
    | true =>
      obtain ⟨f0, fs⟩ := dj_right Hc1.out.symm Hc2.out.symm
      obtain rfl : c0 = true := Hc0.out.trans f0
      have hs : zsB (djOut za [] zb zdb x y) (joinOut za zdb x y) = true := by rw [fs]; exact zsB_refl _
      clear f0 fs
      go_wp2_with fail
      refine (zsame_val hs L_6 M_6).mono ?_
      rintro e w7 ⟨rfl, hb7⟩
      have hk7 := below_then hk6 hb7
      have A_7 := A_6.below hb7
      have DA_7 := DA_6.below hb7
      have B_7 := B_6.below hb7
      have DB_7 := DB_6.below hb7
      have L_7 := L_6.below hb7
      have M_7 := M_6.below hb7
      clear hb7 hk6 A_6 DA_6 B_6 DB_6 L_6 M_6
      clear hs
      clear L_7
      clear M_7
      go_wp2_with fail
      refine (dj_val Hc3.out.symm rfl A_7 DA_7 B_7 DB_7).mono ?_
      rintro e w8 ⟨vn, rfl, TN, hb8⟩
      have hk8 := below_then hk7 hb8
      have A_8 := A_7.below hb8
      have DA_8 := DA_7.below hb8
      have B_8 := B_7.below hb8
      have DB_8 := DB_7.below hb8
      clear hb8 hk7 A_7 DA_7 B_7 DB_7
      go_wp2_with fail
      refine (add_val Hc4.out.symm rfl A_8 DA_8).mono ?_
      rintro e w9 ⟨ve, rfl, TE, hb9⟩
      have hk9 := below_then hk8 hb9
      have A_9 := A_8.below hb9
      have DA_9 := DA_8.below hb9
      have B_9 := B_8.below hb9
      have DB_9 := DB_8.below hb9
      have N_9 := TN.below hb9
      clear hb9 hk8 A_8 DA_8 B_8 DB_8 TN
      go_wp2_with fail
      refine (add_val Hc5.out.symm rfl B_9 DB_9).mono ?_
      rintro e w10 ⟨vf, rfl, TF, hb10⟩
      have hk10 := below_then hk9 hb10
      have A_10 := A_9.below hb10
      have DA_10 := DA_9.below hb10
      have B_10 := B_9.below hb10
      have DB_10 := DB_9.below hb10
      have N_10 := N_9.below hb10
      have E_10 := TE.below hb10
      clear hb10 hk9 A_9 DA_9 B_9 DB_9 N_9 TE
      go_wp2_with fail
      refine (neg_val rfl DA_10).mono ?_
      rintro e w11 ⟨vg, rfl, TG, hb11⟩
      have hk11 := below_then hk10 hb11
      have A_11 := A_10.below hb11
      have DA_11 := DA_10.below hb11
      have B_11 := B_10.below hb11
      have DB_11 := DB_10.below hb11
      have N_11 := N_10.below hb11
      have E_11 := E_10.below hb11
      have F_11 := TF.below hb11
      clear hb11 hk10 A_10 DA_10 B_10 DB_10 N_10 E_10 TF
      go_wp2_with fail
      refine (neg_val rfl DB_11).mono ?_
      rintro e w12 ⟨vh, rfl, TH, hb12⟩
      have hk12 := below_then hk11 hb12
      have A_12 := A_11.below hb12
      have DA_12 := DA_11.below hb12
      have B_12 := B_11.below hb12
      have DB_12 := DB_11.below hb12
      have N_12 := N_11.below hb12
      have E_12 := E_11.below hb12
      have F_12 := F_11.below hb12
      have G_12 := TG.below hb12
      clear hb12 hk11 A_11 DA_11 B_11 DB_11 N_11 E_11 F_11 TG
      clear A_12
      clear DA_12
      clear B_12
      clear DB_12
      go_wp2_with fail
      refine (dj_val Hc6.out.symm rfl E_12 G_12 F_12 TH).mono ?_
      rintro e w13 ⟨vo, rfl, TO, hb13⟩
      have hk13 := below_then hk12 hb13
      have N_13 := N_12.below hb13
      have E_13 := E_12.below hb13
      have F_13 := F_12.below hb13
      have G_13 := G_12.below hb13
      have H_13 := TH.below hb13
      clear hb13 hk12 N_12 E_12 F_12 G_12 TH
      clear E_13
      clear F_13
      clear G_13
      clear H_13
      cases c3 with
      | false =>
        clear N_13 TO
        go_wp2
        go_ret
        exact ⟨rfl, hk13⟩
      | true =>
        cases c4 with
        | false =>
          clear N_13 TO
          go_wp2
          go_ret
          exact ⟨rfl, hk13⟩
        | true =>
          cases c5 with
          | false =>
            clear N_13 TO
            go_wp2
            go_ret
            exact ⟨rfl, hk13⟩
          | true =>
            cases c6 with
            | false =>
              clear N_13 TO
              go_wp2
              go_ret
              exact ⟨rfl, hk13⟩
            | true =>
              have hs : zsB (djOut (addOut za zda) (if zOkB zda then negZ zda else []) (addOut zb zdb) (if zOkB zdb then negZ zdb else []) x y) (if zOkB (djOut za zda zb zdb x y) then negZ (djOut za zda zb zdb x y) else []) = true := by
                rw [dj_back Hc3.out.symm Hc4.out.symm Hc5.out.symm Hc6.out.symm]; exact zsB_refl _
              go_wp2_with fail
              refine (neg_val rfl N_13).mono ?_
              rintro e w14 ⟨vr, rfl, TR, hb14⟩
              have hk14 := below_then hk13 hb14
              have N_14 := N_13.below hb14
              have O_14 := TO.below hb14
              clear hb14 hk13 N_13 TO
              go_wp2_with fail
              refine (zsame_val hs O_14 TR).mono ?_
              rintro e w15 ⟨rfl, hb15⟩
              have hk15 := below_then hk14 hb15
              have N_15 := N_14.below hb15
              have O_15 := O_14.below hb15
              have R_15 := TR.below hb15
              clear hb15 hk14 N_14 O_14 TR
              clear N_15 O_15 R_15
              clear hs
              go_wp2
              go_ret
              exact ⟨rfl, hk15⟩

end Go.Proofs.Ytjojkemegfljmaa
