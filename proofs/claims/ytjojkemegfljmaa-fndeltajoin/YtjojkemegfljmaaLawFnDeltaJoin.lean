/-
  The walk of laws.FnDeltaJoin, out of the contracts: whatever the bytes are, it answers true, and nothing that was there is written.
-/
import Derived.Test.YtjojkemegfljmaaDJFacts
import Derived.Test.YtjojkemegfljmaaDrawTurn
namespace Go.Proofs.Ytjojkemegfljmaa
open Go.RowKit
set_option linter.unusedVariables false
attribute [local go_sem ↓] Go.wp_at_zero Go.wp_at_succ

set_option maxRecDepth 100000 in
set_option maxHeartbeats 16000000 in
theorem lawFnDeltaJoin (a : Option Addr) (len cap : Nat) (bs : List Int) (w : World) (h : IsRow .u8 w a len cap bs) :
    Calls Try.prog 5 #[.slice a len cap] w fun e w' => e = .returned (.bool true) ∧ Below w.heap.size w w' := by
  by_cases hbig : (1048576 : Int) < (len : Int)
  · go_enter Try.func5, Try.ntmps5
    go_wp2
    go_ret
    exact ⟨rfl, Below.refl _ _⟩
  go_enter Try.func5, Try.ntmps5
  go_wp2_with fail
  refine (drawDeltaJoin_any a len cap bs _ h).mono ?_
  rintro e w1 ⟨v0, v1, v2, v3, x, y, za, zda, zb, zdb, rfl, hx, hy, hga, hgb, hl1, hl2, TA, TDA, TB, TDB, hk1⟩
  clear h hga hgb
  clear hx hy hl1 hl2
  obtain ⟨c0, Hc0⟩ : ∃ c : Bool, Hid (c = djOk za zda zb zdb x y) := ⟨_, rfl⟩
  obtain ⟨c1, Hc1⟩ : ∃ c : Bool, Hid (c = addOk za zda) := ⟨_, rfl⟩
  obtain ⟨c2, Hc2⟩ : ∃ c : Bool, Hid (c = addOk zb zdb) := ⟨_, rfl⟩
  obtain ⟨c3, Hc3⟩ : ∃ c : Bool, Hid (c = joinOk za zb x y) := ⟨_, rfl⟩
  obtain ⟨c4, Hc4⟩ : ∃ c : Bool, Hid (c = joinOk (addOut za zda) (addOut zb zdb) x y) := ⟨_, rfl⟩
  obtain ⟨c5, Hc5⟩ : ∃ c : Bool, Hid (c = addOk (joinOut za zb x y) (djOut za zda zb zdb x y)) := ⟨_, rfl⟩
  go_wp2_with fail
  refine (dj_val Hc0.out.symm rfl TA TDA TB TDB).mono ?_
  rintro e w2 ⟨vd, rfl, TD, hb2⟩
  have hk2 := below_then hk1 hb2
  have A_2 := TA.below hb2
  have DA_2 := TDA.below hb2
  have B_2 := TB.below hb2
  have DB_2 := TDB.below hb2
  clear hb2 hk1 TA TDA TB TDB
  go_wp2_with fail
  refine (specDj_val Hc0.out.symm rfl A_2 DA_2 B_2 DB_2).mono ?_
  rintro e w3 ⟨vw, rfl, TW, hb3⟩
  have hk3 := below_then hk2 hb3
  have A_3 := A_2.below hb3
  have DA_3 := DA_2.below hb3
  have B_3 := B_2.below hb3
  have DB_3 := DB_2.below hb3
  have D_3 := TD.below hb3
  clear hb3 hk2 A_2 DA_2 B_2 DB_2 TD
  go_wp2_with fail
  refine (zsame_val (zsB_refl _) D_3 TW).mono ?_
  rintro e w4 ⟨rfl, hb4⟩
  have hk4 := below_then hk3 hb4
  have A_4 := A_3.below hb4
  have DA_4 := DA_3.below hb4
  have B_4 := B_3.below hb4
  have DB_4 := DB_3.below hb4
  have D_4 := D_3.below hb4
  have W_4 := TW.below hb4
  clear hb4 hk3 A_3 DA_3 B_3 DB_3 D_3 TW
  clear W_4
  go_wp2_with fail
  refine (add_val Hc1.out.symm rfl A_4 DA_4).mono ?_
  rintro e w5 ⟨vp, rfl, TP, hb5⟩
  have hk5 := below_then hk4 hb5
  have A_5 := A_4.below hb5
  have DA_5 := DA_4.below hb5
  have B_5 := B_4.below hb5
  have DB_5 := DB_4.below hb5
  have D_5 := D_4.below hb5
  clear hb5 hk4 A_4 DA_4 B_4 DB_4 D_4
  clear DA_5
  go_wp2_with fail
  refine (add_val Hc2.out.symm rfl B_5 DB_5).mono ?_
  rintro e w6 ⟨vq, rfl, TQ, hb6⟩
  have hk6 := below_then hk5 hb6
  have A_6 := A_5.below hb6
  have B_6 := B_5.below hb6
  have DB_6 := DB_5.below hb6
  have D_6 := D_5.below hb6
  have P_6 := TP.below hb6
  clear hb6 hk5 A_5 B_5 DB_5 D_5 TP
  clear DB_6
  go_wp2_with fail
  refine (join_val Hc3.out.symm rfl A_6 B_6).mono ?_
  rintro e w7 ⟨vwas, rfl, TWAS, hb7⟩
  have hk7 := below_then hk6 hb7
  have A_7 := A_6.below hb7
  have B_7 := B_6.below hb7
  have D_7 := D_6.below hb7
  have P_7 := P_6.below hb7
  have Q_7 := TQ.below hb7
  clear hb7 hk6 A_6 B_6 D_6 P_6 TQ
  clear A_7
  clear B_7
  go_wp2_with fail
  refine (join_val Hc4.out.symm rfl P_7 Q_7).mono ?_
  rintro e w8 ⟨vnow, rfl, TNOW, hb8⟩
  have hk8 := below_then hk7 hb8
  have D_8 := D_7.below hb8
  have P_8 := P_7.below hb8
  have Q_8 := Q_7.below hb8
  have WAS_8 := TWAS.below hb8
  clear hb8 hk7 D_7 P_7 Q_7 TWAS
  clear P_8
  clear Q_8
  go_wp2_with fail
  refine (add_val Hc5.out.symm rfl WAS_8 D_8).mono ?_
  rintro e w9 ⟨vs, rfl, TS, hb9⟩
  have hk9 := below_then hk8 hb9
  have D_9 := D_8.below hb9
  have WAS_9 := WAS_8.below hb9
  have NOW_9 := TNOW.below hb9
  clear hb9 hk8 D_8 WAS_8 TNOW
  clear WAS_9
  clear D_9
  cases c0 with
  | false =>
    clear NOW_9 TS
    go_wp2
    go_ret
    exact ⟨rfl, hk9⟩
  | true =>
    cases c1 with
    | false =>
      clear NOW_9 TS
      go_wp2
      go_ret
      exact ⟨rfl, hk9⟩
    | true =>
      cases c2 with
      | false =>
        clear NOW_9 TS
        go_wp2
        go_ret
        exact ⟨rfl, hk9⟩
      | true =>
        cases c3 with
        | false =>
          clear NOW_9 TS
          go_wp2
          go_ret
          exact ⟨rfl, hk9⟩
        | true =>
          cases c4 with
          | false =>
            clear NOW_9 TS
            go_wp2
            go_ret
            exact ⟨rfl, hk9⟩
          | true =>
            obtain ⟨f5, fs⟩ := dj_sum Hc0.out.symm Hc1.out.symm Hc2.out.symm Hc3.out.symm Hc4.out.symm
            obtain rfl : c5 = true := Hc5.out.trans f5
            have hs : zsB (addOut (joinOut za zb x y) (djOut za zda zb zdb x y)) (joinOut (addOut za zda) (addOut zb zdb) x y) = true := by rw [fs]; exact zsB_refl _
            clear f5 fs
            go_wp2_with fail
            refine (zsame_val hs TS NOW_9).mono ?_
            rintro e w10 ⟨rfl, hb10⟩
            have hk10 := below_then hk9 hb10
            have NOW_10 := NOW_9.below hb10
            have S_10 := TS.below hb10
            clear hb10 hk9 NOW_9 TS
            clear NOW_10 S_10
            clear hs
            go_wp2
            go_ret
            exact ⟨rfl, hk10⟩

end Go.Proofs.Ytjojkemegfljmaa
