/-
  The contracts of impl.JoinOf and spec.JoinOf: what is joined of two lists, in memory of its own; none, and false, if one is not right, a place is none, or it is too much.
-/
import Derived.Test.YtjaehoehfmklcaaJoined
import Derived.Test.YtjaehoehfmklcaaSpecJoin
import Derived.Test.YtjaehoehfmklcaaJoinHave
import Derived.Test.YtjaehoehfmklcaaGather
namespace Go.Proofs.Ytjaehoehfmklcaa
set_option maxRecDepth 100000
open Go.RowKit
attribute [local go_sem ↓] Go.wp_at_zero Go.wp_at_succ

theorem colJ_any (n : Int) (w : World) : Calls Try.prog 27 #[.int .i64 n, .int .i64 6] w fun e w' => e = .returned (.bool (placeB n)) ∧ w' = w := by
  by_cases h1 : 0 ≤ n
  · by_cases h2 : n < 6
    · go_enter Try.func27, Try.ntmps27
      go_wp2
      go_ret
      exact ⟨retb (by simp [placeB]; omega), rfl⟩
    · go_enter Try.func27, Try.ntmps27
      go_wp2
      go_ret
      exact ⟨retb (by simp [placeB]; omega), rfl⟩
  · go_enter Try.func27, Try.ntmps27
    go_wp2
    go_ret
    exact ⟨retb (by simp [placeB]; omega), rfl⟩

theorem joinZ_none {a b : List It} (x y : Nat) (h : a.length = 0 ∨ b.length = 0) : joinZ a b x y = [] := by
  rcases h with h | h
  · rw [List.length_eq_zero_iff.1 h]; rfl
  · rw [List.length_eq_zero_iff.1 h]
    unfold joinZ meetZ withZ
    simp
theorem row_in {xs : List Int} (h : rowOkB xs = true) (j : Nat) : -1000000000 ≤ xs.getD j 0 ∧ xs.getD j 0 ≤ 1000000000 := by
  by_cases hj : j < xs.length
  · simp only [rowOkB, Bool.and_eq_true, List.all_eq_true] at h
    have := h.2 xs[j] (List.getElem_mem hj)
    simp [cellB] at this
    simpa [List.getD, hj] using this
  · have : xs.getD j 0 = 0 := by simp [List.getD, List.getElem?_eq_none (Nat.le_of_not_lt hj)]
    rw [this]; omega
theorem keys_in {zs : List It} (h : zOkB zs = true) (x : Nat) : ∀ k, k < zs.length → -9223372036854775808 ≤ (zs.getD k ([], 0)).1.getD x 0 ∧ (zs.getD k ([], 0)).1.getD x 0 ≤ 9223372036854775807 := fun k hk => by
  have := row_in (zOk_row h hk).1 x
  omega
theorem zOk_all_in {zs : List It} (h : zOkB zs = true) : ∀ p ∈ zs, p.1.length ≤ 6 ∧ -10000 ≤ p.2 ∧ p.2 ≤ 10000 := fun _ hp => zOk_in h hp

set_option maxHeartbeats 2000000 in
theorem joined_none (v u : Value) (a b : List It) (x y : Int) (w : World) (h : ItemsAt w v a) (h2 : ItemsAt w u b) (h0 : a.length = 0 ∨ b.length = 0) :
    Calls Try.prog 25 #[v, u, .int .i64 x, .int .i64 y] w fun e w' => e = .returned (.slice none 0 0) ∧ w' = w := by
  obtain ⟨va, vc, rfl⟩ : ∃ va vc, v = .slice va a.length vc := by obtain ⟨_, va, vc, hv, _⟩ := h; exact ⟨va, vc, hv⟩
  obtain ⟨ua, uc, rfl⟩ : ∃ ua uc, u = .slice ua b.length uc := by obtain ⟨_, ua, uc, hu, _⟩ := h2; exact ⟨ua, uc, hu⟩
  clear h h2
  by_cases ha : a.length = 0
  · rw [ha]
    go_enter Try.func25, Try.ntmps25
    go_wp2
    go_ret
    exact ⟨rfl, rfl⟩
  · have hb : b.length = 0 := by omega
    have hnf : ((a.length : Int) == 0) = false := by rw [beq_eq_false_iff_ne]; omega
    rw [hb]
    go_enter Try.func25, Try.ntmps25
    go_wp2
    go_ret
    exact ⟨rfl, rfl⟩
theorem joined_any (v u : Value) (a b : List It) (x y : Nat) (w : World) (h : ItemsAt w v a) (h2 : ItemsAt w u b) (ha : zOkB a = true) (hb : zOkB b = true) (hc : canB a b x y = true) :
    Calls Try.prog 25 #[v, u, .int .i64 x, .int .i64 y] w fun e w' => ∃ v', e = .returned v' ∧ OwnZ w' w.heap.size w'.heap.size v' (joinZ a b x y) ∧ Below w.heap.size w w' := by
  by_cases h0 : a.length = 0 ∨ b.length = 0
  · refine (joined_none v u a b x y w h h2 h0).mono ?_
    rintro e w' ⟨rfl, rfl⟩
    exact ⟨_, rfl, by rw [joinZ_none x y h0]; exact nil_ownZ _ _, Below.refl _ _⟩
  · have hpa : 0 < a.length := by omega
    have hpb : 0 < b.length := by omega
    obtain ⟨_, _, hx, hy⟩ := can_at hc hpa hpb
    exact joined_some v u a b x y w h h2 hpa hpb (zOk_le ha) (zOk_le hb) (fun k hk => by have := hx k hk; omega) (fun k hk => by have := hy k hk; omega) (zOk_all_in ha) (zOk_all_in hb) (keys_in ha x) (keys_in hb y)

theorem join_not {a b : List It} {x y : Int} (h : (zOkB a && zOkB b && canB a b x y) = false) : joinOk a b x y = false ∧ joinOut a b x y = [] := by
  have : joinOk a b x y = false := by unfold joinOk; rw [h, Bool.false_and]
  exact ⟨this, by unfold joinOut; rw [this]; rfl⟩

set_option maxHeartbeats 2000000 in
theorem implJoin_any (v u : Value) (a b : List It) (x y : Int) (w : World) (h : ItemsAt w v a) (h2 : ItemsAt w u b) :
    Calls Try.prog 6 #[v, u, .int .i64 x, .int .i64 y] w fun e w' => ∃ v', e = .returned (.tuple #[v', .bool (joinOk a b x y)]) ∧ OwnZ w' w.heap.size w'.heap.size v' (joinOut a b x y) ∧ Below w.heap.size w w' := by
  cases ha : zOkB a with
  | false =>
    obtain ⟨e0, e1⟩ := join_not (a := a) (b := b) (x := x) (y := y) (by rw [ha]; rfl)
    rw [e0, e1]
    go_enter Try.func6, Try.ntmps6
    go_wp2_with fail
    refine (implZOk_any v a _ h).mono ?_
    rw [ha]
    rintro e w1 ⟨rfl, hb1⟩
    have HK : Hid (Below w.heap.size w w1) := hb1
    clear h h2 hb1 e0 e1
    go_wp2
    go_ret2
    exact ⟨_, rfl, nil_ownZ _ _, HK.out⟩
  | true =>
    cases hb : zOkB b with
    | false =>
      obtain ⟨e0, e1⟩ := join_not (a := a) (b := b) (x := x) (y := y) (by rw [hb, Bool.and_false]; rfl)
      rw [e0, e1]
      go_enter Try.func6, Try.ntmps6
      go_wp2_with fail
      refine (implZOk_any v a _ h).mono ?_
      rw [ha]
      rintro e w1 ⟨rfl, hb1⟩
      go_wp2_with fail
      refine (implZOk_any u b _ (h2.below hb1)).mono ?_
      rw [hb]
      rintro e w2 ⟨rfl, hb2⟩
      have HK : Hid (Below w.heap.size w w2) := below_then hb1 hb2
      clear h h2 hb1 hb2 e0 e1
      go_wp2
      go_ret2
      exact ⟨_, rfl, nil_ownZ _ _, HK.out⟩
    | true =>
      cases hc : canB a b x y with
      | false =>
        obtain ⟨e0, e1⟩ := join_not (a := a) (b := b) (x := x) (y := y) (by rw [hc, Bool.and_false])
        rw [e0, e1]
        go_enter Try.func6, Try.ntmps6
        go_wp2_with fail
        refine (implZOk_any v a _ h).mono ?_
        rw [ha]
        rintro e w1 ⟨rfl, hb1⟩
        go_wp2_with fail
        refine (implZOk_any u b _ (h2.below hb1)).mono ?_
        rw [hb]
        rintro e w2 ⟨rfl, hb2⟩
        have hk2 := below_then hb1 hb2
        go_wp2_with fail
        refine (canJoin_any v u a b x y _ (h.below hk2) (h2.below hk2)).mono ?_
        rw [hc]
        rintro e w3 ⟨rfl, hb3⟩
        have HK : Hid (Below w.heap.size w w3) := below_then hk2 hb3
        clear h h2 hb1 hb2 hb3 hk2 e0 e1
        go_wp2
        go_ret2
        exact ⟨_, rfl, nil_ownZ _ _, HK.out⟩
      | true =>
        have hxy : 0 ≤ x ∧ 0 ≤ y := by
          have := hc
          unfold canB placeB at this
          simp only [Bool.and_eq_true, decide_eq_true_eq] at this
          exact ⟨this.1.1.1, this.1.2.1⟩
        obtain ⟨xn, rfl⟩ := Int.eq_ofNat_of_zero_le hxy.1
        obtain ⟨yn, rfl⟩ := Int.eq_ofNat_of_zero_le hxy.2
        have e0 : joinOk a b xn yn = zOkB (addZ [] (joinZ a b xn yn)) := by simp [joinOk, ha, hb, hc]
        have e1 : joinOut a b xn yn = if zOkB (addZ [] (joinZ a b xn yn)) then addZ [] (joinZ a b xn yn) else [] := by simp [joinOut, e0]
        rw [e0, e1]
        obtain ⟨os, HO⟩ : ∃ os, Hid (os = if zOkB (addZ [] (joinZ a b xn yn)) then addZ [] (joinZ a b xn yn) else []) := ⟨_, rfl⟩
        obtain ⟨c, HC⟩ : ∃ c, Hid (c = zOkB (addZ [] (joinZ a b xn yn))) := ⟨_, rfl⟩
        rw [← HO.out, ← HC.out]
        have hfew := join_few ha hb xn yn
        have hin : ∀ z ∈ joinZ a b xn yn, -1099511627776 ≤ z.2 ∧ z.2 ≤ 1099511627776 := fun z hz => by have := (join_in ha hb hz).2; omega
        go_enter Try.func6, Try.ntmps6
        go_wp2_with fail
        refine (implZOk_any v a _ h).mono ?_
        rw [ha]
        rintro e w1 ⟨rfl, hb1⟩
        go_wp2_with fail
        refine (implZOk_any u b _ (h2.below hb1)).mono ?_
        rw [hb]
        rintro e w2 ⟨rfl, hb2⟩
        have hk2 := below_then hb1 hb2
        go_wp2_with fail
        refine (canJoin_any v u a b xn yn _ (h.below hk2) (h2.below hk2)).mono ?_
        rw [hc]
        rintro e w3 ⟨rfl, hb3⟩
        have hk3 := below_then hk2 hb3
        go_wp2_with fail
        refine (joined_any v u a b xn yn _ (h.below hk3) (h2.below hk3) ha hb hc).mono ?_
        rintro e w4 ⟨v4, rfl, Z4, hb4⟩
        have hk4 := below_then hk3 hb4
        have s3 := hk3.size
        have s4 := hb4.size
        clear h h2 hb1 hb2 hb3 hk2 e0 e1 hxy
        go_wp2_with fail
        refine (gather_any v4 _ _ (joinZ a b xn yn) _ Z4 hb4.size (by omega) hin).mono ?_
        rintro e w5 ⟨v5, rfl, Z5, O5⟩
        have hk5 : Below w.heap.size w w5 := O5.below hk4 (by omega) hk4.size
        have s5 := O5.size
        clear Z4 hb4 hk3 hk4 O5 hin
        go_wp2_with fail
        refine (unlessTooMuch_any v5 (addZ [] (joinZ a b xn yn)) _ _ _ Z5 (by omega)).mono ?_
        rw [← HO.out, ← HC.out]
        rintro e w6 ⟨v6, rfl, Z6, hb6⟩
        have HK : Hid (Below w.heap.size w w6) := below_then hk5 hb6
        have R : Hid (OwnZ w6 w.heap.size w6.heap.size v6 os) := Z6.wide s3 (Nat.le_refl _) (Nat.le_refl _)
        clear Z5 Z6 hb6 hk5
        go_wp2
        go_ret2
        exact ⟨_, rfl, R.out, HK.out⟩

set_option maxHeartbeats 4000000 in
theorem l5Join_none (v u : Value) (a b : List It) (x y : Int) (w : World) (h : ItemsAt w v a) (h2 : ItemsAt w u b) (h0 : a.length = 0 ∨ b.length = 0) (hal : a.length ≤ 100) :
    Calls Try.prog 28 #[v, u, .int .i64 x, .int .i64 y] w fun e w' => ∃ v', e = .returned (.tuple #[v', .bool true]) ∧ OwnZ w' w.heap.size w'.heap.size v' [] ∧ Below w.heap.size w w' := by
  obtain ⟨va, vc, rfl⟩ : ∃ va vc, v = .slice va a.length vc := by obtain ⟨_, va, vc, hv, _⟩ := h; exact ⟨va, vc, hv⟩
  obtain ⟨ua, uc, rfl⟩ : ∃ ua uc, u = .slice ua b.length uc := by obtain ⟨_, ua, uc, hu, _⟩ := h2; exact ⟨ua, uc, hu⟩
  clear h h2
  by_cases ha : a.length = 0
  · rw [ha]
    go_enter Try.func28, Try.ntmps28
    go_wp2
    refine wp_loop_rounds 1 ?_
    rw [rounds_succ]
    go_wp2
    go_ret2
    exact ⟨_, rfl, lit_ownZ w, below_alloc _⟩
  · have hb : b.length = 0 := by omega
    rw [hb]
    obtain ⟨n, hn⟩ : ∃ n, n = a.length := ⟨_, rfl⟩
    rw [← hn] at hal ⊢
    clear hn ha h0
    go_enter Try.func28, Try.ntmps28
    go_wp2
    go_loopw [10, 11] (fun s t wr => ∃ (i : Nat), i ≤ n ∧ t = .int .i64 i ∧ s = .slice (some ⟨w.heap.size, 0, none⟩) 0 0 ∧ wr = w.alloc (.cells #[] 31)) (fun _ t _ => n - (intOf t).toNat)
    case atStart => exact ⟨0, Nat.zero_le _, rfl, rfl, rfl⟩
    case round =>
      obtain ⟨i, hi, rfl, rfl, rfl⟩ := hrel
      by_cases hlti : i < n
      · go_wp2
        refine wp_loop_rounds 1 ?_
        rw [rounds_succ]
        go_wp2
        go_roundw
        case rel => exact ⟨i + 1, by omega, by go_num, by first | rfl | trivial, by first | rfl | trivial⟩
        case measure => simp [intOf]; omega
      · obtain rfl : i = n := by omega
        go_wp2
        go_ret2
        exact ⟨_, rfl, lit_ownZ w, below_alloc _⟩

theorem both_can {a b : List It} {x y : Nat} (hx : x < 6) (hy : y < 6) : canB a b x y = bothHave a b x y := by
  have hxy : (placeB (x : Int) && placeB (y : Int)) = true := by simp [placeB]; omega
  unfold canB
  rw [hxy, Bool.true_and]
  by_cases h0 : a.length = 0
  · rw [List.length_eq_zero_iff.1 h0]; simp [bothHave]
  · by_cases h1 : b.length = 0
    · rw [List.length_eq_zero_iff.1 h1]; simp [bothHave]
    · simp only [h0, h1, decide_false, Bool.false_or]
      cases hb : bothHave a b x y with
      | true =>
        unfold bothHave at hb
        rw [List.all_eq_true] at hb
        have hall : ∀ p ∈ a, ∀ q ∈ b, x < p.1.length ∧ y < q.1.length := fun p hp q hq => by
          have := hb p hp
          rw [List.all_eq_true] at this
          simpa using this q hq
        obtain ⟨p0, hp0⟩ := List.exists_mem_of_length_pos (show 0 < a.length by omega)
        obtain ⟨q0, hq0⟩ := List.exists_mem_of_length_pos (show 0 < b.length by omega)
        have e1 : hasAt x a = true := by
          unfold hasAt; rw [List.all_eq_true]; intro p hp
          have := (hall p hp q0 hq0).1
          simp; omega
        have e2 : hasAt y b = true := by
          unfold hasAt; rw [List.all_eq_true]; intro q hq
          have := (hall p0 hp0 q hq).2
          simp; omega
        rw [e1, e2]; rfl
      | false =>
        cases h3 : (hasAt (x : Int) a && hasAt (y : Int) b) with
        | false => rfl
        | true =>
          rw [Bool.and_eq_true] at h3
          have : bothHave a b x y = true := by
            unfold bothHave
            rw [List.all_eq_true]; intro p hp
            rw [List.all_eq_true]; intro q hq
            unfold hasAt at h3
            rw [List.all_eq_true, List.all_eq_true] at h3
            have t1 := h3.1 p hp
            have t2 := h3.2 q hq
            simp at t1 t2 ⊢
            omega
          rw [this] at hb
          cases hb
theorem l5Join_any (v u : Value) (a b : List It) (x y : Nat) (w : World) (h : ItemsAt w v a) (h2 : ItemsAt w u b) (ha : zOkB a = true) (hb : zOkB b = true) :
    Calls Try.prog 28 #[v, u, .int .i64 x, .int .i64 y] w fun e w' => ∃ v', e = .returned (.tuple #[v', .bool (bothHave a b x y)]) ∧ (bothHave a b x y = true → OwnZ w' w.heap.size w'.heap.size v' (addZ [] (joinZ a b x y))) ∧ Below w.heap.size w w' := by
  by_cases h0 : a.length = 0 ∨ b.length = 0
  · have hbt : bothHave a b x y = true := by
      rcases h0 with e | e
      · rw [List.length_eq_zero_iff.1 e]; simp [bothHave]
      · rw [List.length_eq_zero_iff.1 e]; simp [bothHave]
    refine (l5Join_none v u a b x y w h h2 h0 (zOk_le ha)).mono ?_
    rintro e w' ⟨v', rfl, hz, hk⟩
    exact ⟨v', by rw [hbt], fun _ => by rw [joinZ_none x y h0]; exact hz, hk⟩
  · exact l5Join_some v u a b x y w h h2 (by omega) (by omega) (zOk_le ha) (zOk_le hb) (zOk_all_in ha) (zOk_all_in hb) (fun z hz => (join_in ha hb hz).2)

set_option maxHeartbeats 4000000 in
theorem specJoin_any (v u : Value) (a b : List It) (x y : Int) (w : World) (h : ItemsAt w v a) (h2 : ItemsAt w u b) :
    Calls Try.prog 7 #[v, u, .int .i64 x, .int .i64 y] w fun e w' => ∃ v', e = .returned (.tuple #[v', .bool (joinOk a b x y)]) ∧ OwnZ w' w.heap.size w'.heap.size v' (joinOut a b x y) ∧ Below w.heap.size w w' := by
  cases ha : zOkB a with
  | false =>
    obtain ⟨e0, e1⟩ := join_not (a := a) (b := b) (x := x) (y := y) (by rw [ha]; rfl)
    rw [e0, e1]
    go_enter Try.func7, Try.ntmps7
    go_wp2_with fail
    refine (specZOk_any v a _ h).mono ?_
    rw [ha]
    rintro e w1 ⟨rfl, hd1⟩
    have HK : Hid (Below w.heap.size w w1) := hd1.below
    clear h h2 hd1 e0 e1
    go_wp2
    go_ret2
    exact ⟨_, rfl, (lit_ownZ w1).wide HK.out.size (Nat.le_refl _) (Nat.le_refl _), below_then HK.out (below_alloc _)⟩
  | true =>
    cases hb : zOkB b with
    | false =>
      obtain ⟨e0, e1⟩ := join_not (a := a) (b := b) (x := x) (y := y) (by rw [hb, Bool.and_false]; rfl)
      rw [e0, e1]
      go_enter Try.func7, Try.ntmps7
      go_wp2_with fail
      refine (specZOk_any v a _ h).mono ?_
      rw [ha]
      rintro e w1 ⟨rfl, hd1⟩
      go_wp2_with fail
      refine (specZOk_any u b _ (h2.below hd1.below)).mono ?_
      rw [hb]
      rintro e w2 ⟨rfl, hd2⟩
      have HK : Hid (Below w.heap.size w w2) := below_then hd1.below hd2.below
      clear h h2 hd1 hd2 e0 e1
      go_wp2
      go_ret2
      exact ⟨_, rfl, (lit_ownZ w2).wide HK.out.size (Nat.le_refl _) (Nat.le_refl _), below_then HK.out (below_alloc _)⟩
    | true =>
      cases hx : placeB x with
      | false =>
        obtain ⟨e0, e1⟩ := join_not (a := a) (b := b) (x := x) (y := y) (by simp [canB, hx])
        rw [e0, e1]
        go_enter Try.func7, Try.ntmps7
        go_wp2_with fail
        refine (specZOk_any v a _ h).mono ?_
        rw [ha]
        rintro e w1 ⟨rfl, hd1⟩
        go_wp2_with fail
        refine (specZOk_any u b _ (h2.below hd1.below)).mono ?_
        rw [hb]
        rintro e w2 ⟨rfl, hd2⟩
        have HK : Hid (Below w.heap.size w w2) := below_then hd1.below hd2.below
        clear h h2 hd1 hd2 e0 e1
        go_wp2_with fail
        refine (colJ_any x _).mono ?_
        rw [hx]
        rintro e w3 ⟨rfl, rfl⟩
        go_wp2
        go_ret2
        exact ⟨_, rfl, (lit_ownZ w3).wide HK.out.size (Nat.le_refl _) (Nat.le_refl _), below_then HK.out (below_alloc _)⟩
      | true =>
        cases hy : placeB y with
        | false =>
          obtain ⟨e0, e1⟩ := join_not (a := a) (b := b) (x := x) (y := y) (by simp [canB, hy])
          rw [e0, e1]
          go_enter Try.func7, Try.ntmps7
          go_wp2_with fail
          refine (specZOk_any v a _ h).mono ?_
          rw [ha]
          rintro e w1 ⟨rfl, hd1⟩
          go_wp2_with fail
          refine (specZOk_any u b _ (h2.below hd1.below)).mono ?_
          rw [hb]
          rintro e w2 ⟨rfl, hd2⟩
          have HK : Hid (Below w.heap.size w w2) := below_then hd1.below hd2.below
          clear h h2 hd1 hd2 e0 e1
          go_wp2_with fail
          refine (colJ_any x _).mono ?_
          rw [hx]
          rintro e w3 ⟨rfl, rfl⟩
          go_wp2_with fail
          refine (colJ_any y _).mono ?_
          rw [hy]
          rintro e w3 ⟨rfl, rfl⟩
          go_wp2
          go_ret2
          exact ⟨_, rfl, (lit_ownZ w3).wide HK.out.size (Nat.le_refl _) (Nat.le_refl _), below_then HK.out (below_alloc _)⟩
        | true =>
          have hx' := hx
          have hy' := hy
          unfold placeB at hx' hy'
          simp only [decide_eq_true_eq] at hx' hy'
          obtain ⟨xn, rfl⟩ := Int.eq_ofNat_of_zero_le hx'.1
          obtain ⟨yn, rfl⟩ := Int.eq_ofNat_of_zero_le hy'.1
          have hcan : canB a b xn yn = bothHave a b xn yn := both_can (by omega) (by omega)
          obtain ⟨os, HO⟩ : ∃ os, Hid (os = joinOut a b xn yn) := ⟨_, rfl⟩
          obtain ⟨c, HC⟩ : ∃ c, Hid (c = joinOk a b xn yn) := ⟨_, rfl⟩
          rw [← HO.out, ← HC.out]
          go_enter Try.func7, Try.ntmps7
          go_wp2_with fail
          refine (specZOk_any v a _ h).mono ?_
          rw [ha]
          rintro e w1 ⟨rfl, hd1⟩
          go_wp2_with fail
          refine (specZOk_any u b _ (h2.below hd1.below)).mono ?_
          rw [hb]
          rintro e w2 ⟨rfl, hd2⟩
          have hk2 := below_then hd1.below hd2.below
          go_wp2_with fail
          refine (colJ_any xn _).mono ?_
          rw [hx]
          rintro e w3 ⟨rfl, rfl⟩
          go_wp2_with fail
          refine (colJ_any yn _).mono ?_
          rw [hy]
          rintro e w3 ⟨rfl, rfl⟩
          go_wp2_with fail
          refine (l5Join_any v u a b xn yn _ (h.below hk2) (h2.below hk2) ha hb).mono ?_
          rintro e w4 ⟨v4, rfl, hz4, hb4⟩
          have hk4 := below_then hk2 hb4
          have s2 := hk2.size
          have s4 := hb4.size
          clear h h2 hd1 hd2
          cases hbh : bothHave a b xn yn with
          | false =>
            obtain ⟨e0, e1⟩ := join_not (a := a) (b := b) (x := xn) (y := yn) (by rw [hcan, hbh, Bool.and_false])
            have HE0 : Hid (c = false) := HC.out.trans e0
            have HE1 : Hid (os = []) := HO.out.trans e1
            have HK : Hid (Below w.heap.size w w4) := hk4
            clear hz4 hb4 hk2 hk4 e0 e1
            go_wp2
            go_ret2
            rw [HE0.out, HE1.out]
            exact ⟨_, rfl, (lit_ownZ w4).wide HK.out.size (Nat.le_refl _) (Nat.le_refl _), below_then HK.out (below_alloc _)⟩
          | true =>
            have Z4 := hz4 hbh
            have e0 : zOkB (addZ [] (joinZ a b xn yn)) = c := by rw [HC.out]; simp [joinOk, ha, hb, hcan, hbh]
            have e1 : (if zOkB (addZ [] (joinZ a b xn yn)) then addZ [] (joinZ a b xn yn) else []) = os := by rw [HO.out]; simp [joinOut, joinOk, ha, hb, hcan, hbh]
            go_wp2_with fail
            refine (l2Told_any v4 (addZ [] (joinZ a b xn yn)) _ _ _ Z4 hb4.size).mono ?_
            rw [e0] at *
            rw [e1]
            rintro e w5 ⟨v5, rfl, Z5, hb5⟩
            have HK : Hid (Below w.heap.size w w5) := below_then hk4 hb5
            have R : Hid (OwnZ w5 w.heap.size w5.heap.size v5 os) := Z5.wide s2 (Nat.le_refl _) (Nat.le_refl _)
            clear Z4 Z5 hb4 hb5 hk2 hk4 hz4 e0 e1
            go_wp2
            go_ret2
            exact ⟨_, rfl, R.out, HK.out⟩

end Go.Proofs.Ytjaehoehfmklcaa
