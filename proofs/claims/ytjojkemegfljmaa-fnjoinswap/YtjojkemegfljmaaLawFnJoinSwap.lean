/-
  The walk of laws.FnJoinSwap, out of the contracts: whatever the bytes are, it answers true, and nothing that was there is written.
-/
import Derived.Test.YtjojkemegfljmaaSwapFacts
import Derived.Test.YtjojkemegfljmaaDrawWide
import Derived.Test.YtjojkemegfljmaaZVals
namespace Go.Proofs.Ytjojkemegfljmaa
open Go.RowKit
set_option linter.unusedVariables false
attribute [local go_sem ↓] Go.wp_at_zero Go.wp_at_succ

theorem can_negL (a b : List It) (x y : Int) : canB (negZ a) b x y = canB a b x y := by
  have e1 : (negZ a).length = a.length := negZ_length a
  have e2 : hasAt x (negZ a) = hasAt x a := by unfold hasAt negZ; rw [List.all_map]; rfl
  unfold canB
  rw [e1, e2]
theorem join_negOk {a b : List It} {x y : Int} (h : joinOk a b x y = true) : joinOk (negZ a) b x y = true ∧ joinOut (negZ a) b x y = negZ (joinOut a b x y) := by
  obtain ⟨h1, h2, h3, h4, h5⟩ := join_true h
  have e : joinOk (negZ a) b x y = true := by
    unfold joinOk
    rw [zOk_neg, h1, h2, can_negL, h3, join_neg, zOk_neg, h4]; rfl
  refine ⟨e, ?_⟩
  rw [(join_true e).2.2.2.2, h5, join_neg]
theorem join_noneOk {a b : List It} {x y : Int} (h : joinOk a b x y = true) : joinOk a [] x y = true ∧ joinOut a [] x y = [] := by
  obtain ⟨h1, h2, h3, h4, h5⟩ := join_true h
  have hc : canB a [] x y = true := by
    unfold canB at h3 ⊢
    simp only [Bool.and_eq_true] at h3
    rw [h3.1.1, h3.1.2]; simp
  have hn : joinZ a [] x.toNat y.toNat = [] := joinZ_none _ _ (.inr rfl)
  have e : joinOk a [] x y = true := by
    unfold joinOk
    rw [h1, zOk_nil, hc, hn]; rfl
  refine ⟨e, ?_⟩
  rw [(join_true e).2.2.2.2, hn]; rfl
theorem sumG1_take {zs : List It} {k : Nat} (hk : k < zs.length) : sumG (fun _ => 1) (zs.take (k + 1)) = sumG (fun _ => 1) (zs.take k) + (zs.getD k ([], 0)).2 := by
  rw [List.take_succ_eq_append_getElem hk, sumG_append]
  simp [sumG, List.getD, hk]
theorem sumG1_in {zs : List It} (h : zOkB zs = true) : ∀ k, k ≤ zs.length → -(10000 * (k : Int)) ≤ sumG (fun _ => 1) (zs.take k) ∧ sumG (fun _ => 1) (zs.take k) ≤ 10000 * (k : Int)
  | 0, _ => by simp [sumG]
  | k + 1, hk => by
    have ih := sumG1_in h k (by omega)
    have h1 := (wB_in (zOk_row h (show k < zs.length by omega)).2).2
    rw [sumG1_take (show k < zs.length by omega)]
    omega
theorem TailZ.atS {w : World} {a : Option Addr} {n cap : Nat} {zs : List It} (h : TailZ w (.slice a n cap) zs) {k : Nat} (hk : k < zs.length) :
    ∃ b off, a = some ⟨b, off, none⟩ ∧ b < w.heap.size ∧ w.cell? ⟨b, off + k * 2 + 1, none⟩ = some (.int .i64 (zs.getD k ([], 0)).2) := by
  obtain ⟨_, a', c', e, _, hc⟩ := h.items
  obtain ⟨b, off, rfl, hb, hcell⟩ := hc (fun e => by rw [e] at hk; simp at hk)
  obtain ⟨rv, c0, c1, c2⟩ := hcell k hk
  simp at e
  exact ⟨b, off, e.1, hb, c1⟩

set_option maxRecDepth 100000 in
set_option maxHeartbeats 16000000 in
theorem lawFnJoinSwap (a : Option Addr) (len cap : Nat) (bs : List Int) (w : World) (h : IsRow .u8 w a len cap bs) :
    Calls Try.prog 4 #[.slice a len cap] w fun e w' => e = .returned (.bool true) ∧ Below w.heap.size w w' := by
  by_cases hbig : (1048576 : Int) < (len : Int)
  · go_enter Try.func4, Try.ntmps4
    go_wp2
    go_ret
    exact ⟨rfl, Below.refl _ _⟩
  go_enter Try.func4, Try.ntmps4
  go_wp2_with fail
  refine (drawJoinOf_wide a len cap bs _ h).mono ?_
  rintro e w1 ⟨va, vb, x, y, zs, ys, rfl, hx, hy, hgz, hgy, hone1, hone2, TA, TB, hk1⟩
  clear h hgz hgy hx hy
  cases hok : joinOk zs ys x y with
  | false =>
    have e2 := join_false hok
    go_wp2_with fail
    refine (join_val hok e2 TA TB).mono ?_
    rintro e w2 ⟨vx, rfl, TX, hb2⟩
    have hk2 := below_then hk1 hb2
    have A_2 := TA.below hb2
    have B_2 := TB.below hb2
    clear hb2 hk1 TA TB
    go_wp2_with fail
    refine (specJoin_val hok e2 A_2 B_2).mono ?_
    rintro e w3 ⟨vy, rfl, TY, hb3⟩
    have hk3 := below_then hk2 hb3
    have A_3 := A_2.below hb3
    have B_3 := B_2.below hb3
    have X_3 := TX.below hb3
    clear hb3 hk2 A_2 B_2 TX
    go_wp2_with fail
    refine (zsame_val (zsB_refl _) X_3 TY).mono ?_
    rintro e w4 ⟨rfl, hb4⟩
    have hk4 := below_then hk3 hb4
    have A_4 := A_3.below hb4
    have B_4 := B_3.below hb4
    have X_4 := X_3.below hb4
    have Y_4 := TY.below hb4
    clear hb4 hk3 A_3 B_3 X_3 TY
    go_wp2_with fail
    refine (zsame_val (zsB_refl _) X_4 Y_4).mono ?_
    rintro e w5 ⟨rfl, hb5⟩
    have hk5 := below_then hk4 hb5
    have A_5 := A_4.below hb5
    have B_5 := B_4.below hb5
    have X_5 := X_4.below hb5
    have Y_5 := Y_4.below hb5
    clear hb5 hk4 A_4 B_4 X_4 Y_4
    clear A_5 B_5 X_5 Y_5
    clear e2
    go_wp2
    go_ret
    exact ⟨rfl, hk5⟩
  | true =>
    obtain ⟨hz, hy, hcan, hj, e2⟩ := join_true hok
    obtain ⟨m, hm⟩ := hone1 hz
    obtain ⟨m2, hm2⟩ := hone2 hy
    obtain ⟨f1, f2, f3⟩ := join_swap hok hm hm2
    obtain ⟨n1, n2⟩ := join_noneOk hok
    obtain ⟨b1, b2⟩ := join_negOk hok
    have e4 : (if zOkB zs then negZ zs else []) = negZ zs := by rw [hz]; rfl
    have hjo : zOkB (joinOut zs ys x y) = true := by rw [e2]; exact hj
    have hko : zOkB (joinOut ys zs y x) = true := by rw [(join_true f1).2.2.2.2]; exact (join_true f1).2.2.2.1
    have e5 : (if zOkB (joinOut zs ys x y) then negZ (joinOut zs ys x y) else []) = negZ (joinOut zs ys x y) := by rw [hjo]; rfl
    clear hone1 hone2 hm hm2 e2 hj hcan
    go_wp2_with fail
    refine (join_val hok rfl TA TB).mono ?_
    rintro e w2 ⟨vx, rfl, TX, hb2⟩
    have hk2 := below_then hk1 hb2
    have A_2 := TA.below hb2
    have B_2 := TB.below hb2
    clear hb2 hk1 TA TB
    go_wp2_with fail
    refine (specJoin_val hok rfl A_2 B_2).mono ?_
    rintro e w3 ⟨vy, rfl, TY, hb3⟩
    have hk3 := below_then hk2 hb3
    have A_3 := A_2.below hb3
    have B_3 := B_2.below hb3
    have X_3 := TX.below hb3
    clear hb3 hk2 A_2 B_2 TX
    go_wp2_with fail
    refine (zsame_val (zsB_refl _) X_3 TY).mono ?_
    rintro e w4 ⟨rfl, hb4⟩
    have hk4 := below_then hk3 hb4
    have A_4 := A_3.below hb4
    have B_4 := B_3.below hb4
    have X_4 := X_3.below hb4
    have Y_4 := TY.below hb4
    clear hb4 hk3 A_3 B_3 X_3 TY
    clear Y_4
    go_wp2_with fail
    refine (join_val f1 rfl B_4 A_4).mono ?_
    rintro e w5 ⟨vk, rfl, TK, hb5⟩
    have hk5 := below_then hk4 hb5
    have A_5 := A_4.below hb5
    have B_5 := B_4.below hb5
    have X_5 := X_4.below hb5
    clear hb5 hk4 A_4 B_4 X_4
    go_wp2_with fail
    refine (join_val n1 n2 A_5 (tailZ_nil _)).mono ?_
    rintro e w6 ⟨vn, rfl, TN, hb6⟩
    have hk6 := below_then hk5 hb6
    have A_6 := A_5.below hb6
    have B_6 := B_5.below hb6
    have X_6 := X_5.below hb6
    have K_6 := TK.below hb6
    clear hb6 hk5 A_5 B_5 X_5 TK
    obtain ⟨na, nc, rfl⟩ := TN.empty
    obtain ⟨xa, xc, rfl⟩ := X_6.shape
    obtain ⟨ka, kc, rfl⟩ := K_6.shape
    rw [f2]
    obtain ⟨js, HJS⟩ : ∃ js, Hid (js = joinOut zs ys x y) := ⟨_, rfl⟩
    obtain ⟨ks, HKS⟩ : ∃ ks, Hid (ks = joinOut ys zs y x) := ⟨_, rfl⟩
    obtain ⟨n, hn⟩ : ∃ n, n = (joinOut zs ys x y).length := ⟨_, rfl⟩
    have HN : Hid (n = js.length) := by rw [HJS.out]; exact hn
    have HN2 : Hid (n = ks.length) := by rw [HKS.out]; exact hn.trans f2.symm
    have hn100 : n ≤ 100 := by rw [hn]; exact zOk_le hjo
    have HJ : Hid (zOkB js = true) := by rw [HJS.out]; exact hjo
    have HK : Hid (zOkB ks = true) := by rw [HKS.out]; exact hko
    have HSUM : Hid (sumG (fun _ => 1) js = sumG (fun _ => 1) ks) := by rw [HJS.out, HKS.out]; exact f3
    have HTX : Hid (TailZ w6 (.slice xa n xc) js) := by rw [HJS.out, hn]; exact X_6
    have HTK : Hid (TailZ w6 (.slice ka n kc) ks) := by have := K_6; rw [f2, ← hn] at this; rw [HKS.out]; exact this
    have HTA : Hid (TailZ w6 va zs) := A_6
    have HTB : Hid (TailZ w6 vb ys) := B_6
    have HK0 : Hid (Below w.heap.size w w6) := hk6
    have HE4 : Hid ((if zOkB zs then negZ zs else []) = negZ zs) := e4
    have HE5 : Hid ((if zOkB js then negZ js else []) = negZ js) := by rw [HJS.out]; exact e5
    have HB1 : Hid (joinOk (negZ zs) ys x y = true ∧ joinOut (negZ zs) ys x y = negZ js) := by rw [HJS.out]; exact ⟨b1, b2⟩
    rw [← hn]
    clear hz hy hok f1 f2 f3 n1 n2 b1 b2 e4 e5 hjo hko hn X_6 K_6 A_6 B_6 TN hk6
    go_wp2
    go_loopw [15, 16, 17] (fun p q i wr => ∃ k : Nat, k ≤ n ∧ i = .int .i64 k ∧ p = .int .i64 (sumG (fun _ => 1) (js.take k)) ∧ q = .int .i64 (sumG (fun _ => 1) (ks.take k)) ∧ wr = w6) (fun _ _ i _ => n - (intOf i).toNat)
    case atStart => exact ⟨0, Nat.zero_le _, rfl, by simp [sumG], by simp [sumG], rfl⟩
    case round =>
      obtain ⟨k, hk, rfl, rfl, rfl, rfl⟩ := hrel
      by_cases hlt : k < n
      · have hkj : k < js.length := by rw [← HN.out]; exact hlt
        have hkk : k < ks.length := by rw [← HN2.out]; exact hlt
        obtain ⟨b, off, rfl, hb, c1⟩ := HTX.out.atS hkj
        obtain ⟨b2, off2, rfl, hb2, d1⟩ := HTK.out.atS hkk
        have i1 := sumG1_in HJ.out k (by omega)
        have i2 := sumG1_in HK.out k (by omega)
        have y1 := (wB_in (zOk_row HJ.out hkj).2).2
        have y2 := (wB_in (zOk_row HK.out hkk).2).2
        have HT1 : Hid (sumG (fun _ => 1) (js.take (k + 1)) = sumG (fun _ => 1) (js.take k) + (js.getD k ([], 0)).2) := sumG1_take hkj
        have HT2 : Hid (sumG (fun _ => 1) (ks.take (k + 1)) = sumG (fun _ => 1) (ks.take k) + (ks.getD k ([], 0)).2) := sumG1_take hkk
        obtain ⟨p, HP⟩ : ∃ p, Hid (p = sumG (fun _ => 1) (js.take k)) := ⟨_, rfl⟩
        obtain ⟨q, HQ⟩ : ∃ q, Hid (q = sumG (fun _ => 1) (ks.take k)) := ⟨_, rfl⟩
        obtain ⟨u, HU⟩ : ∃ u, Hid (u = (js.getD k ([], 0)).2) := ⟨_, rfl⟩
        obtain ⟨v, HV⟩ : ∃ v, Hid (v = (ks.getD k ([], 0)).2) := ⟨_, rfl⟩
        rw [← HU.out] at c1 y1 HT1
        rw [← HV.out] at d1 y2 HT2
        rw [← HP.out] at i1 HT1 ⊢
        rw [← HQ.out] at i2 HT2 ⊢
        have m1 : IntKind.i64.wrap (p + u) = p + u := by rw [IntKind.wrap_i64]; omega
        have m2 : IntKind.i64.wrap (q + v) = q + v := by rw [IntKind.wrap_i64]; omega
        go_wp2
        go_roundw
        case rel => exact ⟨k + 1, by omega, by go_num, by rw [HT1.out], by rw [HT2.out], by first | rfl | trivial⟩
        case measure => simp [intOf]; omega
      · obtain rfl : k = n := by omega
        have hpq : sumG (fun _ => 1) (js.take k) = sumG (fun _ => 1) (ks.take k) := by
          rw [List.take_of_length_le (Nat.le_of_eq HN.out.symm), List.take_of_length_le (Nat.le_of_eq HN2.out.symm)]; exact HSUM.out
        obtain ⟨p, HP⟩ : ∃ p, Hid (p = sumG (fun _ => 1) (js.take k)) := ⟨_, rfl⟩
        rw [← hpq, ← HP.out]
        have hk9 := HK0.out
        have e4 := HE4.out
        have e5 := HE5.out
        obtain ⟨b1, b2⟩ := HB1.out
        have TX9 := HTX.out
        have TA9 := HTA.out
        have TB9 := HTB.out
        clear hpq
        go_wp2_with fail
        refine (neg_val e4 TA9).mono ?_
        rintro e w31 ⟨vr, rfl, TR, hb31⟩
        have hk31 := below_then hk9 hb31
        have X_31 := TX9.below hb31
        have A_31 := TA9.below hb31
        have B_31 := TB9.below hb31
        clear hb31 hk9 TX9 TA9 TB9
        go_wp2_with fail
        refine (join_val b1 b2 TR B_31).mono ?_
        rintro e w32 ⟨vs, rfl, TS, hb32⟩
        have hk32 := below_then hk31 hb32
        have X_32 := X_31.below hb32
        have A_32 := A_31.below hb32
        have B_32 := B_31.below hb32
        have R_32 := TR.below hb32
        clear hb32 hk31 X_31 A_31 B_31 TR
        go_wp2_with fail
        refine (neg_val e5 X_32).mono ?_
        rintro e w33 ⟨vt, rfl, TT, hb33⟩
        have hk33 := below_then hk32 hb33
        have X_33 := X_32.below hb33
        have A_33 := A_32.below hb33
        have B_33 := B_32.below hb33
        have R_33 := R_32.below hb33
        have S_33 := TS.below hb33
        clear hb33 hk32 X_32 A_32 B_32 R_32 TS
        go_wp2_with fail
        refine (zsame_val (zsB_refl _) S_33 TT).mono ?_
        rintro e w34 ⟨rfl, hb34⟩
        have hk34 := below_then hk33 hb34
        have X_34 := X_33.below hb34
        have A_34 := A_33.below hb34
        have B_34 := B_33.below hb34
        have R_34 := R_33.below hb34
        have S_34 := S_33.below hb34
        have T_34 := TT.below hb34
        clear hb34 hk33 X_33 A_33 B_33 R_33 S_33 TT
        clear X_34 A_34 B_34 R_34 S_34 T_34
        clear e4 e5 b1 b2
        go_wp2
        go_ret
        exact ⟨rfl, hk34⟩

end Go.Proofs.Ytjojkemegfljmaa
