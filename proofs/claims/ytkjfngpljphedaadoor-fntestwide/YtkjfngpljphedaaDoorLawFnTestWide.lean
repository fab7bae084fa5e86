/-
  The walk of laws.FnTestWide, out of the contracts: whatever the bytes are, it answers true, and nothing that was there is written. Condition: the error of chapter 3 reads as it was laid.
-/
import Derived.Test.YtkjfngpljphedaaDoorTestImpl
import Derived.Test.YtkjfngpljphedaaDoorTestSpec2
import Derived.Test.YtkjfngpljphedaaDoorDrawT2
import Derived.Test.YtkjfngpljphedaaDoorJoin
import Derived.Test.YtkjfngpljphedaaDoorLaidSent
namespace Go.Proofs.YtkjfngpljphedaaDoor
open Go.RowKit
set_option linter.unusedVariables false

theorem getD_front {xs ys : List Int} {j : Nat} (h : j < xs.length) : (xs ++ ys).getD j 0 = xs.getD j 0 := by
  simp [List.getD, List.getElem?_append, h]
/-- What is reckoned of a row is reckoned so of a longer one that begins with it. -/
theorem wide_num {c : Cel} {xs ys : List Int} (h : c.okB xs.length = true) : c.num (xs ++ ys) = c.num xs := by
  rw [ok_iff] at h
  unfold Cel.num
  rcases h with ⟨h1, h2, h3, h4⟩ | ⟨h1, h2, h3, h4⟩ | ⟨h1, h2, h3, h4⟩
  · rw [if_pos h1, if_pos h1, getD_front (by omega)]
  · rw [if_neg (by omega), if_pos h1, if_neg (by omega), if_pos h1]
  · rw [if_neg (by omega), if_neg (by omega), if_neg (by omega), if_neg (by omega), getD_front (by omega), getD_front (by omega)]
theorem wide_ok {c : Cel} {xs ys : List Int} (h : c.okB xs.length = true) : c.okB (xs ++ ys).length = true := by
  rw [ok_iff] at h ⊢
  rw [List.length_append]
  omega
theorem wide_told {c : Cel} {xs ys : List Int} (h : c.toldB xs = true) (hj : rowOkB (xs ++ ys) = true) : c.toldB (xs ++ ys) = true ∧ c.valI (xs ++ ys) = c.valI xs := by
  have hk := (told_ok h).2
  have h1 : c.toldB (xs ++ ys) = true := by
    unfold Cel.toldB at h ⊢
    rw [hj, wide_ok hk, wide_num hk]
    simp only [Bool.and_eq_true] at h
    rw [h.2]; rfl
  exact ⟨h1, by rw [Cel.valI, if_pos h1, Cel.valI, if_pos h, wide_num hk]⟩
theorem wide_test {t : Tst} {xs ys : List Int} (h : t.toldB xs = true) (hj : rowOkB (xs ++ ys) = true) : t.toldB (xs ++ ys) = true ∧ t.valB (xs ++ ys) = t.valB xs ∧ t.l.toldB xs = true := by
  have h0 := h
  simp only [Tst.toldB, Bool.and_eq_true] at h0
  obtain ⟨⟨hk, hl⟩, hr⟩ := h0
  have h1 : t.toldB (xs ++ ys) = true := by simp [Tst.toldB, (wide_told hl hj).1, (wide_told hr hj).1]; simpa using hk
  refine ⟨h1, ?_, hl⟩
  rw [Tst.valB, Tst.valB, h, h1]
  unfold Tst.holdsB
  rw [wide_num (told_ok hl).2, wide_num (told_ok hr).2]

set_option maxRecDepth 100000 in
set_option maxHeartbeats 4000000 in
theorem lawFnTestWide (a : Option Addr) (len cap : Nat) (zs : List Int) (a2 : Option Addr) (len2 cap2 : Nat) (zs2 : List Int) (w : World) (h : IsRow .u8 w a len cap zs) (h2 : IsRow .u8 w a2 len2 cap2 zs2) (hs : HasSent w) :
    Calls Tryd.prog 4 #[.slice a len cap, .slice a2 len2 cap2] w fun e w' => e = .returned (.bool true) ∧ Below w.heap.size w w' := by
  by_cases hlim : len ≤ 1048576
  · by_cases hlim2 : len2 ≤ 1048576
    · obtain ⟨p, hp⟩ := hs
      go_enter Tryd.func4, Tryd.ntmps4
      go_wp2_with fail
      refine (drawTestOf_any a len cap zs _ h).mono ?_
      rintro e w1 ⟨⟨tk, tn, ⟨lk, la, lb, ln⟩, ⟨rk, ra, rb, rn⟩⟩, v, rfl, hlow, xs, hxl, hsm, hx, hb1⟩
      clear hlow hsm
      simp only
      have B1 : Hid (Below w.heap.size w w1) := hb1
      have HX : Hid (IntsAt w1 v xs) := hx
      have HP : Hid (Sent w p) := hp
      have H2 : Hid (IsRow .u8 w a2 len2 cap2 zs2) := h2
      obtain ⟨va, vn, vc, rfl⟩ : ∃ va vn vc, v = .slice va vn vc := by obtain ⟨_, va, vc, hv, _⟩ := hx; exact ⟨_, _, _, hv⟩
      clear hb1 hx hp h h2
      go_wp2_with fail
      refine (drawTestOf_any a2 len2 cap2 zs2 _ (H2.out.below (bel_then B1.out (bel_alloc _)))).mono ?_
      rintro e w2 ⟨⟨tk2, tn2, ⟨lk2, la2, lb2, ln2⟩, ⟨rk2, ra2, rb2, rn2⟩⟩, v2, rfl, hlow, ys, hyl, hsm, hy, hb2⟩
      clear hlow hsm
      simp only
      have XX2 : Hid (Box10 w2 w1.heap.size ⟨tk, tn, ⟨lk, la, lb, ln⟩, ⟨rk, ra, rb, rn⟩⟩) := (Box10.start w1 ⟨tk, tn, ⟨lk, la, lb, ln⟩, ⟨rk, ra, rb, rn⟩⟩ _).below hb2
      have X2 := XX2.out
      have B2 : Hid (Below w1.heap.size w1 w2) := bel_then (bel_alloc _) hb2
      have HY : Hid (IntsAt w2 v2 ys) := hy
      obtain ⟨va2, vn2, vc2, rfl⟩ : ∃ va vn vc, v2 = .slice va vn vc := by obtain ⟨_, va, vc, hv, _⟩ := hy; exact ⟨_, _, _, hv⟩
      clear hb2 hy
      obtain ⟨b, HBV⟩ : ∃ b, Hid (b = Tst.valB ⟨tk, tn, ⟨lk, la, lb, ln⟩, ⟨rk, ra, rb, rn⟩⟩ xs) := ⟨_, Eq.refl _⟩
      have hbb : (b != b) = false := by simp
      have hbe : (b == b) = true := by simp
      obtain ⟨x, HXV⟩ : ∃ x, Hid (x = Cel.valI ⟨lk, la, lb, ln⟩ xs) := ⟨_, Eq.refl _⟩
      have hxe : (x == x) = true := by simp
      obtain ⟨_, c0, c1, ⟨c2, c3, c4, c5⟩, c6, c7, c8, c9⟩ := X2
      simp only at c0 c1 c2 c3 c4 c5 c6 c7 c8 c9
      go_wp2_with fail
      refine (implTestOf_any ⟨tk, tn, ⟨lk, la, lb, ln⟩, ⟨rk, ra, rb, rn⟩⟩ _ xs _ p (HP.out.below (bel_then B1.out (bel_then B2.out (bel_alloc _)))) (HX.out.below (bel_then B2.out (bel_alloc _)))).mono ?_
      rw [← HBV.out]
      rintro e w3 ⟨rfl, hb3⟩
      have XX3 : Hid (Box10 w3 w1.heap.size ⟨tk, tn, ⟨lk, la, lb, ln⟩, ⟨rk, ra, rb, rn⟩⟩) := XX2.out.below (bel_then (bel_alloc _) hb3)
      have X3 := XX3.out
      have B3 : Hid (Below w1.heap.size w1 w3) := bel_then B2.out (bel_then (bel_alloc _) hb3)
      have HY3 : Hid (IntsAt w3 (.slice va2 vn2 vc2) ys) := HY.out.below (bel_then (bel_alloc _) hb3)
      clear hb3 c0 c1 c2 c3 c4 c5 c6 c7 c8 c9
      obtain ⟨_, c0, c1, ⟨c2, c3, c4, c5⟩, c6, c7, c8, c9⟩ := X3
      simp only at c0 c1 c2 c3 c4 c5 c6 c7 c8 c9
      go_wp2_with fail
      refine (specTestOf_any ⟨tk, tn, ⟨lk, la, lb, ln⟩, ⟨rk, ra, rb, rn⟩⟩ _ xs _ (HX.out.below B3.out)).mono ?_
      rw [← HBV.out]
      rintro e w4 ⟨rfl, hb4⟩
      have XX4 : Hid (Box10 w4 w1.heap.size ⟨tk, tn, ⟨lk, la, lb, ln⟩, ⟨rk, ra, rb, rn⟩⟩) := XX3.out.below hb4
      have X4 := XX4.out
      have B4 : Hid (Below w1.heap.size w1 w4) := bel_then B3.out hb4
      have HY4 : Hid (IntsAt w4 (.slice va2 vn2 vc2) ys) := HY3.out.below hb4
      clear hb4 c0 c1 c2 c3 c4 c5 c6 c7 c8 c9
      cases ht : Tst.toldB ⟨tk, tn, ⟨lk, la, lb, ln⟩, ⟨rk, ra, rb, rn⟩⟩ xs
      · go_wp2
        go_ret
        exact ⟨rfl, bel_then B1.out B4.out⟩
      · go_wp2_with fail
        refine (implRowJoin_any _ _ xs ys _ (HX.out.below B4.out) HY4.out (by omega)).mono ?_
        rintro e w5 ⟨v5, rfl, ho5, hb5, -⟩
        have XX5 : Hid (Box10 w5 w1.heap.size ⟨tk, tn, ⟨lk, la, lb, ln⟩, ⟨rk, ra, rb, rn⟩⟩) := XX4.out.below hb5
        have X5 := XX5.out
        have B5 : Hid (Below w1.heap.size w1 w5) := bel_then B4.out hb5
        have I5 : Hid (IntsAt w5 v5 (xs ++ ys)) := ho5.ints
        obtain ⟨va5, vn5, vc5, rfl⟩ : ∃ va vn vc, v5 = .slice va vn vc := by obtain ⟨_, va, vc, hv, _⟩ := I5.out; exact ⟨_, _, _, hv⟩
        clear hb5 ho5 X4
        go_wp2_with fail
        refine (implRowOk_any _ (xs ++ ys) _ I5.out).mono ?_
        rintro e w6 ⟨rfl, rfl⟩
        cases hj : rowOkB (xs ++ ys)
        · go_wp2
          go_ret
          exact ⟨rfl, bel_then B1.out B5.out⟩
        · obtain ⟨q1, q2, q3⟩ := wide_test ht hj
          obtain ⟨q4, q5⟩ := wide_told q3 hj
          simp only at q3 q4 q5
          rw [← HBV.out] at q2
          rw [← HXV.out] at q5
          obtain ⟨_, c0, c1, ⟨c2, c3, c4, c5⟩, c6, c7, c8, c9⟩ := X5
          simp only at c0 c1 c2 c3 c4 c5 c6 c7 c8 c9
          have HQ : Hid (Tst.toldB ⟨tk, tn, ⟨lk, la, lb, ln⟩, ⟨rk, ra, rb, rn⟩⟩ (xs ++ ys) = true ∧ Tst.valB ⟨tk, tn, ⟨lk, la, lb, ln⟩, ⟨rk, ra, rb, rn⟩⟩ (xs ++ ys) = b ∧ Cel.toldB ⟨lk, la, lb, ln⟩ xs = true ∧ Cel.toldB ⟨lk, la, lb, ln⟩ (xs ++ ys) = true ∧ Cel.valI ⟨lk, la, lb, ln⟩ (xs ++ ys) = x) := ⟨q1, q2, q3, q4, q5⟩
          clear q1 q2 q3 q4 q5 hj ht
          go_wp2_with fail
          refine (implTestOf_any ⟨tk, tn, ⟨lk, la, lb, ln⟩, ⟨rk, ra, rb, rn⟩⟩ _ (xs ++ ys) _ p (HP.out.below (bel_then B1.out B5.out)) I5.out).mono ?_
          rw [HQ.out.1, HQ.out.2.1]
          rintro e w7 ⟨rfl, hb7⟩
          have XX7 : Hid (Box10 w7 w1.heap.size ⟨tk, tn, ⟨lk, la, lb, ln⟩, ⟨rk, ra, rb, rn⟩⟩) := XX5.out.below hb7
          have X7 := XX7.out
          have B7 : Hid (Below w1.heap.size w1 w7) := bel_then B5.out hb7
          have I7 : Hid (IntsAt w7 (.slice va5 vn5 vc5) (xs ++ ys)) := I5.out.below hb7
          clear hb7 c0 c1 c2 c3 c4 c5 c6 c7 c8 c9
          obtain ⟨_, c0, c1, ⟨c2, c3, c4, c5⟩, c6, c7, c8, c9⟩ := X7
          simp only at c0 c1 c2 c3 c4 c5 c6 c7 c8 c9
          go_wp2_with fail
          refine (implCellOf_any ⟨lk, la, lb, ln⟩ _ (xs ++ ys) _ p (HP.out.below (bel_then B1.out B7.out)) I7.out).mono ?_
          rw [HQ.out.2.2.2.1, HQ.out.2.2.2.2]
          rintro e w8 ⟨rfl, hb8⟩
          have XX8 : Hid (Box10 w8 w1.heap.size ⟨tk, tn, ⟨lk, la, lb, ln⟩, ⟨rk, ra, rb, rn⟩⟩) := XX7.out.below hb8
          have X8 := XX8.out
          have B8 : Hid (Below w1.heap.size w1 w8) := bel_then B7.out hb8
          clear hb8 c0 c1 c2 c3 c4 c5 c6 c7 c8 c9
          obtain ⟨_, c0, c1, ⟨c2, c3, c4, c5⟩, c6, c7, c8, c9⟩ := X8
          simp only at c0 c1 c2 c3 c4 c5 c6 c7 c8 c9
          go_wp2_with fail
          refine (implCellOf_any ⟨lk, la, lb, ln⟩ _ xs _ p (HP.out.below (bel_then B1.out B8.out)) (HX.out.below B8.out)).mono ?_
          rw [HQ.out.2.2.1, ← HXV.out]
          rintro e w9 ⟨rfl, hb9⟩
          have B9 : Hid (Below w1.heap.size w1 w9) := bel_then B8.out hb9
          clear hb9 c0 c1 c2 c3 c4 c5 c6 c7 c8 c9
          go_wp2
          go_ret
          exact ⟨rfl, bel_then B1.out B9.out⟩
    · have hbig : (1048576 : Int) < (len2 : Int) := by omega
      go_enter Tryd.func4, Tryd.ntmps4
      go_wp2
      go_ret
      exact ⟨rfl, Below.refl _ _⟩
  · have hbig : (1048576 : Int) < (len : Int) := by omega
    go_enter Tryd.func4, Tryd.ntmps4
    go_wp2
    go_ret
    exact ⟨rfl, Below.refl _ _⟩

end Go.Proofs.YtkjfngpljphedaaDoor
