/-
  The walk of laws.FnDeltaOnce, out of the contracts: whatever the bytes are, it answers true, and nothing that was there is written.
-/
import Derived.Test.YtjojkemegfljmaaOnceFacts
import Derived.Test.YtjojkemegfljmaaDrawTurn
namespace Go.Proofs.Ytjojkemegfljmaa
open Go.RowKit
set_option linter.unusedVariables false
attribute [local go_sem ↓] Go.wp_at_zero Go.wp_at_succ

set_option maxRecDepth 100000 in
set_option maxHeartbeats 16000000 in
theorem lawFnDeltaOnce (a : Option Addr) (len cap : Nat) (bs : List Int) (w : World) (h : IsRow .u8 w a len cap bs) :
    Calls Try.prog 6 #[.slice a len cap] w fun e w' => e = .returned (.bool true) ∧ Below w.heap.size w w' := by
  by_cases hbig : (1048576 : Int) < (len : Int)
  · go_enter Try.func6, Try.ntmps6
    go_wp2
    go_ret
    exact ⟨rfl, Below.refl _ _⟩
  go_enter Try.func6, Try.ntmps6
  go_wp2_with fail
  refine (drawDeltaOnce_any a len cap bs _ h).mono ?_
  rintro e w1 ⟨va, vd, zs, ds, rfl, hgz, hdl, TA, TD, hk1⟩
  clear h hgz
  cases hok : onceOk zs ds with
  | false =>
    have e2 := once_false hok
    go_wp2_with fail
    refine (once_val hok e2 TA TD).mono ?_
    rintro e w2 ⟨vx, rfl, TX, hb2⟩
    have hk2 := below_then hk1 hb2
    have A_2 := TA.below hb2
    have D_2 := TD.below hb2
    clear hb2 hk1 TA TD
    go_wp2_with fail
    refine (specOnce_val hok e2 A_2 D_2).mono ?_
    rintro e w3 ⟨vy, rfl, TY, hb3⟩
    have hk3 := below_then hk2 hb3
    have A_3 := A_2.below hb3
    have D_3 := D_2.below hb3
    have X_3 := TX.below hb3
    clear hb3 hk2 A_2 D_2 TX
    go_wp2_with fail
    refine (zsame_val (zsB_refl _) X_3 TY).mono ?_
    rintro e w4 ⟨rfl, hb4⟩
    have hk4 := below_then hk3 hb4
    have A_4 := A_3.below hb4
    have D_4 := D_3.below hb4
    have X_4 := X_3.below hb4
    have Y_4 := TY.below hb4
    clear hb4 hk3 A_3 D_3 X_3 TY
    obtain ⟨xa, xc, rfl⟩ := X_4.empty
    clear A_4 D_4 X_4 Y_4
    clear e2
    go_wp2
    go_ret
    exact ⟨rfl, hk4⟩
  | true =>
    obtain ⟨hadd, hzo, e2⟩ := once_true hok
    obtain ⟨hz, hd, hs, e3⟩ := addOk_true hadd
    have e4 : (if zOkB zs then posZ zs else []) = posZ zs := by rw [hz]; rfl
    have e5 : (if zOkB (addZ zs ds) then posZ (addZ zs ds) else []) = posZ (addZ zs ds) := by rw [hs]; rfl
    obtain ⟨e6, e7⟩ := add_yes (zOk_posD hz) hzo (once_sum (zOk_srt hz) (zOk_srt hd)) (zOk_posD hs)
    go_wp2_with fail
    refine (once_val hok e2 TA TD).mono ?_
    rintro e w2 ⟨vx, rfl, TX, hb2⟩
    have hk2 := below_then hk1 hb2
    have A_2 := TA.below hb2
    have D_2 := TD.below hb2
    clear hb2 hk1 TA TD
    go_wp2_with fail
    refine (specOnce_val hok e2 A_2 D_2).mono ?_
    rintro e w3 ⟨vy, rfl, TY, hb3⟩
    have hk3 := below_then hk2 hb3
    have A_3 := A_2.below hb3
    have D_3 := D_2.below hb3
    have X_3 := TX.below hb3
    clear hb3 hk2 A_2 D_2 TX
    go_wp2_with fail
    refine (zsame_val (zsB_refl _) X_3 TY).mono ?_
    rintro e w4 ⟨rfl, hb4⟩
    have hk4 := below_then hk3 hb4
    have A_4 := A_3.below hb4
    have D_4 := D_3.below hb4
    have X_4 := X_3.below hb4
    have Y_4 := TY.below hb4
    clear hb4 hk3 A_3 D_3 X_3 TY
    clear Y_4
    go_wp2_with fail
    refine (add_val hadd e3 A_4 D_4).mono ?_
    rintro e w5 ⟨vs, rfl, TS, hb5⟩
    have hk5 := below_then hk4 hb5
    have A_5 := A_4.below hb5
    have D_5 := D_4.below hb5
    have X_5 := X_4.below hb5
    clear hb5 hk4 A_4 D_4 X_4
    go_wp2_with fail
    refine (pos_val e4 A_5).mono ?_
    rintro e w6 ⟨vp, rfl, TP, hb6⟩
    have hk6 := below_then hk5 hb6
    have A_6 := A_5.below hb6
    have D_6 := D_5.below hb6
    have X_6 := X_5.below hb6
    have S_6 := TS.below hb6
    clear hb6 hk5 A_5 D_5 X_5 TS
    clear A_6
    go_wp2_with fail
    refine (add_val e6 e7 TP X_6).mono ?_
    rintro e w7 ⟨vq, rfl, TQ, hb7⟩
    have hk7 := below_then hk6 hb7
    have D_7 := D_6.below hb7
    have X_7 := X_6.below hb7
    have S_7 := S_6.below hb7
    have P_7 := TP.below hb7
    clear hb7 hk6 D_6 X_6 S_6 TP
    clear P_7
    obtain ⟨xa, xc, rfl⟩ := X_7.shape
    obtain ⟨da, dc, rfl⟩ := D_7.shape
    have hrow : ∀ k, k < (onceZ zs ds).length → (((onceZ zs ds).getD k ([], 0)).2 = 1 ∨ ((onceZ zs ds).getD k ([], 0)).2 = -1) ∧ getZ ds ((onceZ zs ds).getD k ([], 0)).1 ≠ 0 := fun k hk => once_row (zOk_srt hz) (zOk_srt hd) (getZ_mem hk)
    have HROW : Hid (∀ k, k < (onceZ zs ds).length → (((onceZ zs ds).getD k ([], 0)).2 = 1 ∨ ((onceZ zs ds).getD k ([], 0)).2 = -1) ∧ getZ ds ((onceZ zs ds).getD k ([], 0)).1 ≠ 0) := hrow
    have hle : ((onceZ zs ds).length : Int) ≤ (ds.length : Int) := by have := once_len (zOk_srt hz) (zOk_srt hd); omega
    have HZO : Hid (zOkB (onceZ zs ds) = true) := hzo
    have HD : Hid (zOkB ds = true) := hd
    obtain ⟨os, HOS⟩ : ∃ os, Hid (os = onceZ zs ds) := ⟨_, rfl⟩
    obtain ⟨n, hn⟩ : ∃ n, n = (onceZ zs ds).length := ⟨_, rfl⟩
    have HN : Hid (n = os.length) := by rw [HOS.out]; exact hn
    have HTX : Hid (TailZ w7 (.slice xa n xc) os) := by rw [HOS.out, hn]; exact X_7
    have HTD : Hid (TailZ w7 (.slice da ds.length dc) ds) := D_7
    have HTS : Hid (TailZ w7 vs (addZ zs ds)) := S_7
    have HTQ : Hid (TailZ w7 vq (posZ (addZ zs ds))) := TQ
    have HK0 : Hid (Below w.heap.size w w7) := hk7
    have HE5 : Hid ((if zOkB (addZ zs ds) then posZ (addZ zs ds) else []) = posZ (addZ zs ds)) := e5
    rw [← hn] at hle ⊢
    clear hrow hzo hd hz hs hok hadd e2 e3 e4 e5 e6 e7 hn X_7 D_7 S_7 TQ hk7
    go_wp2
    go_loopw [13] (fun i wr => ∃ k : Nat, k ≤ n ∧ i = .int .i64 k ∧ Hid (Below w7.heap.size w7 wr)) (fun i _ => n - (intOf i).toNat)
    case atStart => exact ⟨0, Nat.zero_le _, rfl, Below.refl _ _⟩
    case round =>
      obtain ⟨k, hk, rfl, HW⟩ := hrel
      by_cases hlt : k < n
      · have hkz : k < os.length := by rw [← HN.out]; exact hlt
        have hkz' : k < (onceZ zs ds).length := by rw [← HOS.out]; exact hkz
        obtain ⟨b, off, ya, yn, yc, rfl, hb, c0, c1, hix⟩ := (HTX.out.below HW.out).atT hkz
        have TD := (HTD.out.below HW.out)
        obtain ⟨hw1, hg1⟩ := HROW.out k hkz'
        rw [← HOS.out] at hw1 hg1
        obtain ⟨x, HX⟩ : ∃ x, Hid (x = (os.getD k ([], 0)).1) := ⟨_, rfl⟩
        obtain ⟨y, HY⟩ : ∃ y, Hid (y = (os.getD k ([], 0)).2) := ⟨_, rfl⟩
        rw [← HX.out] at hix hg1
        rw [← HY.out] at c1 hw1
        obtain ⟨m, HM⟩ : ∃ m, Hid (m = getZ ds x) := ⟨_, rfl⟩
        have g1 : (if zOkB ds then getZ ds x else 0) = m := by rw [HD.out, HM.out]; rfl
        have hmf : (m == 0) = false := by rw [HM.out]; simpa using hg1
        rcases hw1 with rfl | rfl
        all_goals
          go_wp2_with fail
          refine (get_val g1 TD hix).mono ?_
          rintro e x2 ⟨rfl, hb2⟩
          have HK : Hid (Below w7.heap.size w7 x2) := below_then HW.out hb2
          clear hb2 c0 c1 TD hix g1 hg1
          go_wp2
          go_roundw
          case rel => exact ⟨k + 1, by omega, by go_num, HK.out⟩
          case measure => simp [intOf]; omega
      · obtain rfl : k = n := by omega
        have hk9 := below_then HK0.out HW.out
        have e5 := HE5.out
        have TS9 := HTS.out.below HW.out
        have TQ9 := HTQ.out.below HW.out
        go_wp2_with fail
        refine (pos_val e5 TS9).mono ?_
        rintro e w31 ⟨vr, rfl, TR, hb31⟩
        have hk31 := below_then hk9 hb31
        have S_31 := TS9.below hb31
        have Q_31 := TQ9.below hb31
        clear hb31 hk9 TS9 TQ9
        go_wp2_with fail
        refine (zsame_val (zsB_refl _) Q_31 TR).mono ?_
        rintro e w32 ⟨rfl, hb32⟩
        have hk32 := below_then hk31 hb32
        have S_32 := S_31.below hb32
        have Q_32 := Q_31.below hb32
        have R_32 := TR.below hb32
        clear hb32 hk31 S_31 Q_31 TR
        clear S_32 Q_32 R_32
        clear e5
        go_wp2
        go_ret
        exact ⟨rfl, hk32⟩

end Go.Proofs.Ytjojkemegfljmaa
