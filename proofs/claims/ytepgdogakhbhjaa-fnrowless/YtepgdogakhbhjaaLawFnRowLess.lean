/-
  The walk of laws.FnRowLess, out of the contracts: it answers true whatever the bytes are, and nothing that was there is written.
-/
import Derived.Test.YtepgdogakhbhjaaDraw2
import Derived.Test.YtepgdogakhbhjaaOrderFacts
namespace Go.Proofs.Ytepgdogakhbhjaa
open Go.RowKit

/-- Behind the test that is common to all: what is left of laws.FnRowLess, from the call of RowJoin on. -/
theorem IntsAt.shape2 {w : World} {v : Value} {xs : List Int} (h : IntsAt w v xs) : ∃ a cap, v = .slice a xs.length cap := by
  obtain ⟨_, a, cap, hv, _⟩ := h
  exact ⟨a, cap, hv⟩

theorem Own.back {w : World} {lo hi g cap c m : Nat} {xs : List Int} (h : Own w lo hi (.slice (some ⟨g, 0, none⟩) xs.length cap) xs) : IntsAt w (.slice (some ⟨g, m, none⟩) (xs.length - m) c) (xs.drop m) := by
  have hlen : (xs.drop m).length = xs.length - m := List.length_drop
  refine ⟨by have := h.2.2.1; omega, _, _, by rw [hlen], fun h => by simp at h, fun hne => ⟨g, m, rfl, ?_, fun j hj => ?_⟩⟩
  · exact (h.1.lt g rfl).2
  · rw [hlen] at hj
    rw [h.1.cellAt (m + j) (by omega)]
    have hj2 : m + j < xs.length := by omega
    simp [List.getD, hj2]
theorem ints_none {w : World} {x : Addr} {n c : Nat} (hn : n = 0) : IntsAt w (.slice (some x) n c) [] := by
  subst hn
  exact ⟨by simp, _, _, rfl, fun h => by simp at h, fun h => absurd rfl h⟩

set_option maxHeartbeats 8000000 in
theorem lawFnRowLess (a : Option Addr) (len cap : Nat) (zs0 : List Int) (a2 : Option Addr) (len2 cap2 : Nat) (zs2 : List Int) (w : World) (h : IsRow .u8 w a len cap zs0) (h2 : IsRow .u8 w a2 len2 cap2 zs2) :
    Calls Try.prog 3 #[.slice a len cap, .slice a2 len2 cap2] w fun e w' => e = .returned (.bool true) ∧ Below w.heap.size w w' := by
  by_cases hbig : (1048576 : Int) < (len : Int)
  · go_enter Try.func3, Try.ntmps3
    go_wp2
    go_ret
    exact ⟨rfl, Below.refl _ _⟩
  by_cases hbig2 : (1048576 : Int) < (len2 : Int)
  · go_enter Try.func3, Try.ntmps3
    go_wp2
    go_ret
    exact ⟨rfl, Below.refl _ _⟩
  go_enter Try.func3, Try.ntmps3
  go_wp2_with fail
  refine (drawLess_any _ _ _ zs0 _ h).mono ?_
  rintro e w1 ⟨va, vb, rfl, xs, ys, hxl, hyl, hx1, hy1, hb1⟩
  have h21 := h2.below hb1
  clear h h2
  go_wp2_with fail
  refine (drawOk_any _ _ _ zs2 _ h21).mono ?_
  rintro e w2 ⟨vc, rfl, zs, hzl, hoz, hb2⟩
  have hx := hx1.below hb2
  have hy := hy1.below hb2
  have hz := hoz.ints
  have hk : Below w.heap.size w w2 := hb1.trans (hb2.mono hb1.size)
  clear hx1 hy1 hb1 hb2 h21 hoz
  obtain ⟨aa, ca, hva⟩ := hx.shape2
  obtain ⟨ab, cb, hvb⟩ := hy.shape2
  subst hva hvb
  have HT := three xs ys
  rcases HT with ⟨t1, t2, t3⟩ | ⟨t1, t2, t3, -⟩ | ⟨t1, t2, t3⟩
  · skip
    go_wp2_with fail
    refine (implRowLess_any _ _ xs ys _ hx hy).mono ?_
    rintro e w3 ⟨rfl, hb⟩
    rw [t1]
    replace hx := hx.below hb
    replace hy := hy.below hb
    replace hz := hz.below hb
    replace hk : Below w.heap.size w w3 := hk.trans (hb.mono hk.size)
    clear hb
    go_wp2_with fail
    refine (implRowLess_any _ _ ys xs _ hy hx).mono ?_
    rintro e w4 ⟨rfl, hb⟩
    rw [t2]
    replace hx := hx.below hb
    replace hy := hy.below hb
    replace hz := hz.below hb
    replace hk : Below w.heap.size w w4 := hk.trans (hb.mono hk.size)
    clear hb
    go_wp2_with fail
    refine (implRowSame_any _ _ xs ys _ hx hy).mono ?_
    rintro e w5 ⟨rfl, hb⟩
    rw [t3]
    replace hx := hx.below hb
    replace hy := hy.below hb
    replace hz := hz.below hb
    replace hk : Below w.heap.size w w5 := hk.trans (hb.mono hk.size)
    clear hb
    go_wp2_with fail
    refine (specRowLess_any _ _ xs ys _ hx hy).mono ?_
    rintro e w6 ⟨rfl, hb⟩
    rw [t1]
    replace hx := hx.below hb
    replace hy := hy.below hb
    replace hz := hz.below hb
    replace hk : Below w.heap.size w w6 := hk.trans (hb.mono hk.size)
    clear hb
    go_wp2_with fail
    refine (specRowSame_any _ _ xs ys _ hx hy).mono ?_
    rintro e w7 ⟨rfl, hb⟩
    rw [t3]
    replace hx := hx.below hb
    replace hy := hy.below hb
    replace hz := hz.below hb
    replace hk : Below w.heap.size w w7 := hk.trans (hb.mono hk.size)
    clear hb
    go_wp2_with fail
    refine (implRowLess_any _ _ xs ys _ hx hy).mono ?_
    rintro e w8 ⟨rfl, hb⟩
    rw [t1]
    replace hx := hx.below hb
    replace hy := hy.below hb
    replace hz := hz.below hb
    replace hk : Below w.heap.size w w8 := hk.trans (hb.mono hk.size)
    clear hb
    cases hq : rowLessB ys zs with
    | false =>
      go_wp2_with fail
      refine (implRowLess_any _ _ ys zs _ hy hz).mono ?_
      rintro e w9 ⟨rfl, hb⟩
      rw [hq]
      replace hx := hx.below hb
      replace hy := hy.below hb
      replace hz := hz.below hb
      replace hk : Below w.heap.size w w9 := hk.trans (hb.mono hk.size)
      clear hb
      go_wp2_with fail
      refine (implRowJoin_any _ _ xs ys _ hx hy (by omega)).mono ?_
      rintro e w10 ⟨vj, rfl, hj, hb, hnn⟩
      obtain ⟨js, HJ⟩ : ∃ js, Hid (js = xs ++ ys) := ⟨_, rfl⟩
      rw [← HJ.out] at hj
      have hjl : ((js.length : Int) == (xs.length : Int) + (ys.length : Int)) = true := by rw [HJ.out, List.length_append]; simp
      have hxj : xs.length ≤ js.length := by rw [HJ.out, List.length_append]; omega
      have hj14 : js.length ≤ 14 := by rw [HJ.out, List.length_append]; omega
      replace hx := hx.below hb
      replace hy := hy.below hb
      replace hk : Below w.heap.size w w10 := hk.trans (hb.mono hk.size)
      clear hb hz
      obtain ⟨gj, cj, hvj, -, -, hcj, hcm⟩ := hj.shape' hnn
      subst hvj
      clear hnn
      unfold maxLen at hcm
      go_wp2_with fail
      refine (specRowJoin_any _ _ xs ys _ hx hy (by omega)).mono ?_
      rintro e w11 ⟨vs, rfl, hs, hb⟩
      rw [← HJ.out] at hs
      replace hx := hx.below hb
      replace hy := hy.below hb
      replace hj := hj.keep' hb
      replace hk : Below w.heap.size w w11 := hk.trans (hb.mono hk.size)
      clear hb
      go_wp2_with fail
      refine (implRowSame_any _ _ js js _ hj.ints hs.ints).mono ?_
      rintro e w12 ⟨rfl, hb⟩
      rw [same_self]
      replace hx := hx.below hb
      replace hy := hy.below hb
      replace hj := hj.keep' hb
      replace hk : Below w.heap.size w w12 := hk.trans (hb.mono hk.size)
      clear hb hs
      have hf := hj.front hxj
      rw [HJ.out, List.take_left] at hf
      go_wp2_with fail
      refine (implRowSame_any _ _ xs xs _ hf hx).mono ?_
      rintro e w100 ⟨rfl, hb⟩
      rw [same_self]
      replace hx := hx.below hb
      replace hy := hy.below hb
      replace hj := hj.keep' hb
      replace hk : Below w.heap.size w w100 := hk.trans (hb.mono hk.size)
      clear hb hf
      by_cases hys : ys.length = 0
      · have hyb : ((ys.length : Int) == 0) = true := by simp [hys]
        have HYN : Hid (ys = []) := List.length_eq_zero_iff.1 hys
        have hjx : js.length ≤ xs.length := by rw [HJ.out, List.length_append]; omega
        clear hys
        by_cases hce : xs.length < cj
        · have hq : IntsAt w100 (.slice (some ⟨gj, xs.length, none⟩) 0 (cj - xs.length)) ys := by rw [HYN.out]; exact ints_none rfl
          go_wp2_with fail
          refine (implRowSame_any _ _ ys ys _ hq hy).mono ?_
          rintro e w101 ⟨rfl, hb⟩
          rw [same_self]
          replace hk : Below w.heap.size w w101 := hk.trans (hb.mono hk.size)
          clear hb hq hj hx hy
          go_wp2
          go_ret
          exact ⟨rfl, hk⟩
        · obtain rfl : cj = xs.length := by omega
          have hq : IntsAt w100 (.slice (some ⟨gj, 0, none⟩) 0 0) ys := by rw [HYN.out]; exact ints_none rfl
          go_wp2_with fail
          refine (implRowSame_any _ _ ys ys _ hq hy).mono ?_
          rintro e w101 ⟨rfl, hb⟩
          rw [same_self]
          replace hk : Below w.heap.size w w101 := hk.trans (hb.mono hk.size)
          clear hb hq hj hx hy
          go_wp2
          go_ret
          exact ⟨rfl, hk⟩
      · have hyb : ((ys.length : Int) == 0) = false := by simp; exact fun e => hys (by rw [e]; rfl)
        have hle : rowLessB xs js = true := by rw [HJ.out]; exact less_append (fun e => hys (by rw [e]; rfl))
        have hce : xs.length < cj := by
          have : js.length = xs.length + ys.length := by rw [HJ.out, List.length_append]
          omega
        have hq := hj.back (c := cj - xs.length) (m := xs.length)
        rw [HJ.out, List.drop_left, ← HJ.out] at hq
        go_wp2_with fail
        refine (implRowSame_any _ _ ys ys _ hq hy).mono ?_
        rintro e w101 ⟨rfl, hb⟩
        rw [same_self]
        replace hx := hx.below hb
        replace hj := hj.keep' hb
        replace hk : Below w.heap.size w w101 := hk.trans (hb.mono hk.size)
        clear hb hq hy
        go_wp2_with fail
        refine (implRowLess_any _ _ xs js _ hx hj.ints).mono ?_
        rintro e w102 ⟨rfl, hb⟩
        rw [hle]
        replace hk : Below w.heap.size w w102 := hk.trans (hb.mono hk.size)
        clear hb hj hx
        go_wp2
        go_ret
        exact ⟨rfl, hk⟩
    | true =>
      have hq2 := less_trans t1 hq
      go_wp2_with fail
      refine (implRowLess_any _ _ ys zs _ hy hz).mono ?_
      rintro e w13 ⟨rfl, hb⟩
      rw [hq]
      replace hx := hx.below hb
      replace hy := hy.below hb
      replace hz := hz.below hb
      replace hk : Below w.heap.size w w13 := hk.trans (hb.mono hk.size)
      clear hb
      go_wp2_with fail
      refine (implRowLess_any _ _ xs zs _ hx hz).mono ?_
      rintro e w14 ⟨rfl, hb⟩
      rw [hq2]
      replace hx := hx.below hb
      replace hy := hy.below hb
      replace hz := hz.below hb
      replace hk : Below w.heap.size w w14 := hk.trans (hb.mono hk.size)
      clear hb
      go_wp2_with fail
      refine (implRowJoin_any _ _ xs ys _ hx hy (by omega)).mono ?_
      rintro e w15 ⟨vj, rfl, hj, hb, hnn⟩
      obtain ⟨js, HJ⟩ : ∃ js, Hid (js = xs ++ ys) := ⟨_, rfl⟩
      rw [← HJ.out] at hj
      have hjl : ((js.length : Int) == (xs.length : Int) + (ys.length : Int)) = true := by rw [HJ.out, List.length_append]; simp
      have hxj : xs.length ≤ js.length := by rw [HJ.out, List.length_append]; omega
      have hj14 : js.length ≤ 14 := by rw [HJ.out, List.length_append]; omega
      replace hx := hx.below hb
      replace hy := hy.below hb
      replace hk : Below w.heap.size w w15 := hk.trans (hb.mono hk.size)
      clear hb hz
      obtain ⟨gj, cj, hvj, -, -, hcj, hcm⟩ := hj.shape' hnn
      subst hvj
      clear hnn
      unfold maxLen at hcm
      go_wp2_with fail
      refine (specRowJoin_any _ _ xs ys _ hx hy (by omega)).mono ?_
      rintro e w16 ⟨vs, rfl, hs, hb⟩
      rw [← HJ.out] at hs
      replace hx := hx.below hb
      replace hy := hy.below hb
      replace hj := hj.keep' hb
      replace hk : Below w.heap.size w w16 := hk.trans (hb.mono hk.size)
      clear hb
      go_wp2_with fail
      refine (implRowSame_any _ _ js js _ hj.ints hs.ints).mono ?_
      rintro e w17 ⟨rfl, hb⟩
      rw [same_self]
      replace hx := hx.below hb
      replace hy := hy.below hb
      replace hj := hj.keep' hb
      replace hk : Below w.heap.size w w17 := hk.trans (hb.mono hk.size)
      clear hb hs
      have hf := hj.front hxj
      rw [HJ.out, List.take_left] at hf
      go_wp2_with fail
      refine (implRowSame_any _ _ xs xs _ hf hx).mono ?_
      rintro e w100 ⟨rfl, hb⟩
      rw [same_self]
      replace hx := hx.below hb
      replace hy := hy.below hb
      replace hj := hj.keep' hb
      replace hk : Below w.heap.size w w100 := hk.trans (hb.mono hk.size)
      clear hb hf
      by_cases hys : ys.length = 0
      · have hyb : ((ys.length : Int) == 0) = true := by simp [hys]
        have HYN : Hid (ys = []) := List.length_eq_zero_iff.1 hys
        have hjx : js.length ≤ xs.length := by rw [HJ.out, List.length_append]; omega
        clear hys
        by_cases hce : xs.length < cj
        · have hq : IntsAt w100 (.slice (some ⟨gj, xs.length, none⟩) 0 (cj - xs.length)) ys := by rw [HYN.out]; exact ints_none rfl
          go_wp2_with fail
          refine (implRowSame_any _ _ ys ys _ hq hy).mono ?_
          rintro e w101 ⟨rfl, hb⟩
          rw [same_self]
          replace hk : Below w.heap.size w w101 := hk.trans (hb.mono hk.size)
          clear hb hq hj hx hy
          go_wp2
          go_ret
          exact ⟨rfl, hk⟩
        · obtain rfl : cj = xs.length := by omega
          have hq : IntsAt w100 (.slice (some ⟨gj, 0, none⟩) 0 0) ys := by rw [HYN.out]; exact ints_none rfl
          go_wp2_with fail
          refine (implRowSame_any _ _ ys ys _ hq hy).mono ?_
          rintro e w101 ⟨rfl, hb⟩
          rw [same_self]
          replace hk : Below w.heap.size w w101 := hk.trans (hb.mono hk.size)
          clear hb hq hj hx hy
          go_wp2
          go_ret
          exact ⟨rfl, hk⟩
      · have hyb : ((ys.length : Int) == 0) = false := by simp; exact fun e => hys (by rw [e]; rfl)
        have hle : rowLessB xs js = true := by rw [HJ.out]; exact less_append (fun e => hys (by rw [e]; rfl))
        have hce : xs.length < cj := by
          have : js.length = xs.length + ys.length := by rw [HJ.out, List.length_append]
          omega
        have hq := hj.back (c := cj - xs.length) (m := xs.length)
        rw [HJ.out, List.drop_left, ← HJ.out] at hq
        go_wp2_with fail
        refine (implRowSame_any _ _ ys ys _ hq hy).mono ?_
        rintro e w101 ⟨rfl, hb⟩
        rw [same_self]
        replace hx := hx.below hb
        replace hj := hj.keep' hb
        replace hk : Below w.heap.size w w101 := hk.trans (hb.mono hk.size)
        clear hb hq hy
        go_wp2_with fail
        refine (implRowLess_any _ _ xs js _ hx hj.ints).mono ?_
        rintro e w102 ⟨rfl, hb⟩
        rw [hle]
        replace hk : Below w.heap.size w w102 := hk.trans (hb.mono hk.size)
        clear hb hj hx
        go_wp2
        go_ret
        exact ⟨rfl, hk⟩
  · skip
    go_wp2_with fail
    refine (implRowLess_any _ _ xs ys _ hx hy).mono ?_
    rintro e w18 ⟨rfl, hb⟩
    rw [t1]
    replace hx := hx.below hb
    replace hy := hy.below hb
    replace hz := hz.below hb
    replace hk : Below w.heap.size w w18 := hk.trans (hb.mono hk.size)
    clear hb
    go_wp2_with fail
    refine (implRowLess_any _ _ ys xs _ hy hx).mono ?_
    rintro e w19 ⟨rfl, hb⟩
    rw [t2]
    replace hx := hx.below hb
    replace hy := hy.below hb
    replace hz := hz.below hb
    replace hk : Below w.heap.size w w19 := hk.trans (hb.mono hk.size)
    clear hb
    go_wp2_with fail
    refine (implRowSame_any _ _ xs ys _ hx hy).mono ?_
    rintro e w20 ⟨rfl, hb⟩
    rw [t3]
    replace hx := hx.below hb
    replace hy := hy.below hb
    replace hz := hz.below hb
    replace hk : Below w.heap.size w w20 := hk.trans (hb.mono hk.size)
    clear hb
    go_wp2_with fail
    refine (specRowLess_any _ _ xs ys _ hx hy).mono ?_
    rintro e w21 ⟨rfl, hb⟩
    rw [t1]
    replace hx := hx.below hb
    replace hy := hy.below hb
    replace hz := hz.below hb
    replace hk : Below w.heap.size w w21 := hk.trans (hb.mono hk.size)
    clear hb
    go_wp2_with fail
    refine (specRowSame_any _ _ xs ys _ hx hy).mono ?_
    rintro e w22 ⟨rfl, hb⟩
    rw [t3]
    replace hx := hx.below hb
    replace hy := hy.below hb
    replace hz := hz.below hb
    replace hk : Below w.heap.size w w22 := hk.trans (hb.mono hk.size)
    clear hb
    go_wp2_with fail
    refine (implRowLess_any _ _ xs ys _ hx hy).mono ?_
    rintro e w23 ⟨rfl, hb⟩
    rw [t1]
    replace hx := hx.below hb
    replace hy := hy.below hb
    replace hz := hz.below hb
    replace hk : Below w.heap.size w w23 := hk.trans (hb.mono hk.size)
    clear hb
    go_wp2_with fail
    refine (implRowJoin_any _ _ xs ys _ hx hy (by omega)).mono ?_
    rintro e w24 ⟨vj, rfl, hj, hb, hnn⟩
    obtain ⟨js, HJ⟩ : ∃ js, Hid (js = xs ++ ys) := ⟨_, rfl⟩
    rw [← HJ.out] at hj
    have hjl : ((js.length : Int) == (xs.length : Int) + (ys.length : Int)) = true := by rw [HJ.out, List.length_append]; simp
    have hxj : xs.length ≤ js.length := by rw [HJ.out, List.length_append]; omega
    have hj14 : js.length ≤ 14 := by rw [HJ.out, List.length_append]; omega
    replace hx := hx.below hb
    replace hy := hy.below hb
    replace hk : Below w.heap.size w w24 := hk.trans (hb.mono hk.size)
    clear hb hz
    obtain ⟨gj, cj, hvj, -, -, hcj, hcm⟩ := hj.shape' hnn
    subst hvj
    clear hnn
    unfold maxLen at hcm
    go_wp2_with fail
    refine (specRowJoin_any _ _ xs ys _ hx hy (by omega)).mono ?_
    rintro e w25 ⟨vs, rfl, hs, hb⟩
    rw [← HJ.out] at hs
    replace hx := hx.below hb
    replace hy := hy.below hb
    replace hj := hj.keep' hb
    replace hk : Below w.heap.size w w25 := hk.trans (hb.mono hk.size)
    clear hb
    go_wp2_with fail
    refine (implRowSame_any _ _ js js _ hj.ints hs.ints).mono ?_
    rintro e w26 ⟨rfl, hb⟩
    rw [same_self]
    replace hx := hx.below hb
    replace hy := hy.below hb
    replace hj := hj.keep' hb
    replace hk : Below w.heap.size w w26 := hk.trans (hb.mono hk.size)
    clear hb hs
    have hf := hj.front hxj
    rw [HJ.out, List.take_left] at hf
    go_wp2_with fail
    refine (implRowSame_any _ _ xs xs _ hf hx).mono ?_
    rintro e w100 ⟨rfl, hb⟩
    rw [same_self]
    replace hx := hx.below hb
    replace hy := hy.below hb
    replace hj := hj.keep' hb
    replace hk : Below w.heap.size w w100 := hk.trans (hb.mono hk.size)
    clear hb hf
    by_cases hys : ys.length = 0
    · have hyb : ((ys.length : Int) == 0) = true := by simp [hys]
      have HYN : Hid (ys = []) := List.length_eq_zero_iff.1 hys
      have hjx : js.length ≤ xs.length := by rw [HJ.out, List.length_append]; omega
      clear hys
      by_cases hce : xs.length < cj
      · have hq : IntsAt w100 (.slice (some ⟨gj, xs.length, none⟩) 0 (cj - xs.length)) ys := by rw [HYN.out]; exact ints_none rfl
        go_wp2_with fail
        refine (implRowSame_any _ _ ys ys _ hq hy).mono ?_
        rintro e w101 ⟨rfl, hb⟩
        rw [same_self]
        replace hk : Below w.heap.size w w101 := hk.trans (hb.mono hk.size)
        clear hb hq hj hx hy
        go_wp2
        go_ret
        exact ⟨rfl, hk⟩
      · obtain rfl : cj = xs.length := by omega
        have hq : IntsAt w100 (.slice (some ⟨gj, 0, none⟩) 0 0) ys := by rw [HYN.out]; exact ints_none rfl
        go_wp2_with fail
        refine (implRowSame_any _ _ ys ys _ hq hy).mono ?_
        rintro e w101 ⟨rfl, hb⟩
        rw [same_self]
        replace hk : Below w.heap.size w w101 := hk.trans (hb.mono hk.size)
        clear hb hq hj hx hy
        go_wp2
        go_ret
        exact ⟨rfl, hk⟩
    · have hyb : ((ys.length : Int) == 0) = false := by simp; exact fun e => hys (by rw [e]; rfl)
      have hle : rowLessB xs js = true := by rw [HJ.out]; exact less_append (fun e => hys (by rw [e]; rfl))
      have hce : xs.length < cj := by
        have : js.length = xs.length + ys.length := by rw [HJ.out, List.length_append]
        omega
      have hq := hj.back (c := cj - xs.length) (m := xs.length)
      rw [HJ.out, List.drop_left, ← HJ.out] at hq
      go_wp2_with fail
      refine (implRowSame_any _ _ ys ys _ hq hy).mono ?_
      rintro e w101 ⟨rfl, hb⟩
      rw [same_self]
      replace hx := hx.below hb
      replace hj := hj.keep' hb
      replace hk : Below w.heap.size w w101 := hk.trans (hb.mono hk.size)
      clear hb hq hy
      go_wp2_with fail
      refine (implRowLess_any _ _ xs js _ hx hj.ints).mono ?_
      rintro e w102 ⟨rfl, hb⟩
      rw [hle]
      replace hk : Below w.heap.size w w102 := hk.trans (hb.mono hk.size)
      clear hb hj hx
      go_wp2
      go_ret
      exact ⟨rfl, hk⟩
  · skip
    go_wp2_with fail
    refine (implRowLess_any _ _ xs ys _ hx hy).mono ?_
    rintro e w27 ⟨rfl, hb⟩
    rw [t1]
    replace hx := hx.below hb
    replace hy := hy.below hb
    replace hz := hz.below hb
    replace hk : Below w.heap.size w w27 := hk.trans (hb.mono hk.size)
    clear hb
    go_wp2_with fail
    refine (implRowLess_any _ _ ys xs _ hy hx).mono ?_
    rintro e w28 ⟨rfl, hb⟩
    rw [t2]
    replace hx := hx.below hb
    replace hy := hy.below hb
    replace hz := hz.below hb
    replace hk : Below w.heap.size w w28 := hk.trans (hb.mono hk.size)
    clear hb
    go_wp2_with fail
    refine (implRowSame_any _ _ xs ys _ hx hy).mono ?_
    rintro e w29 ⟨rfl, hb⟩
    rw [t3]
    replace hx := hx.below hb
    replace hy := hy.below hb
    replace hz := hz.below hb
    replace hk : Below w.heap.size w w29 := hk.trans (hb.mono hk.size)
    clear hb
    go_wp2_with fail
    refine (specRowLess_any _ _ xs ys _ hx hy).mono ?_
    rintro e w30 ⟨rfl, hb⟩
    rw [t1]
    replace hx := hx.below hb
    replace hy := hy.below hb
    replace hz := hz.below hb
    replace hk : Below w.heap.size w w30 := hk.trans (hb.mono hk.size)
    clear hb
    go_wp2_with fail
    refine (specRowSame_any _ _ xs ys _ hx hy).mono ?_
    rintro e w31 ⟨rfl, hb⟩
    rw [t3]
    replace hx := hx.below hb
    replace hy := hy.below hb
    replace hz := hz.below hb
    replace hk : Below w.heap.size w w31 := hk.trans (hb.mono hk.size)
    clear hb
    go_wp2_with fail
    refine (implRowLess_any _ _ xs ys _ hx hy).mono ?_
    rintro e w32 ⟨rfl, hb⟩
    rw [t1]
    replace hx := hx.below hb
    replace hy := hy.below hb
    replace hz := hz.below hb
    replace hk : Below w.heap.size w w32 := hk.trans (hb.mono hk.size)
    clear hb
    go_wp2_with fail
    refine (implRowJoin_any _ _ xs ys _ hx hy (by omega)).mono ?_
    rintro e w33 ⟨vj, rfl, hj, hb, hnn⟩
    obtain ⟨js, HJ⟩ : ∃ js, Hid (js = xs ++ ys) := ⟨_, rfl⟩
    rw [← HJ.out] at hj
    have hjl : ((js.length : Int) == (xs.length : Int) + (ys.length : Int)) = true := by rw [HJ.out, List.length_append]; simp
    have hxj : xs.length ≤ js.length := by rw [HJ.out, List.length_append]; omega
    have hj14 : js.length ≤ 14 := by rw [HJ.out, List.length_append]; omega
    replace hx := hx.below hb
    replace hy := hy.below hb
    replace hk : Below w.heap.size w w33 := hk.trans (hb.mono hk.size)
    clear hb hz
    obtain ⟨gj, cj, hvj, -, -, hcj, hcm⟩ := hj.shape' hnn
    subst hvj
    clear hnn
    unfold maxLen at hcm
    go_wp2_with fail
    refine (specRowJoin_any _ _ xs ys _ hx hy (by omega)).mono ?_
    rintro e w34 ⟨vs, rfl, hs, hb⟩
    rw [← HJ.out] at hs
    replace hx := hx.below hb
    replace hy := hy.below hb
    replace hj := hj.keep' hb
    replace hk : Below w.heap.size w w34 := hk.trans (hb.mono hk.size)
    clear hb
    go_wp2_with fail
    refine (implRowSame_any _ _ js js _ hj.ints hs.ints).mono ?_
    rintro e w35 ⟨rfl, hb⟩
    rw [same_self]
    replace hx := hx.below hb
    replace hy := hy.below hb
    replace hj := hj.keep' hb
    replace hk : Below w.heap.size w w35 := hk.trans (hb.mono hk.size)
    clear hb hs
    have hf := hj.front hxj
    rw [HJ.out, List.take_left] at hf
    go_wp2_with fail
    refine (implRowSame_any _ _ xs xs _ hf hx).mono ?_
    rintro e w100 ⟨rfl, hb⟩
    rw [same_self]
    replace hx := hx.below hb
    replace hy := hy.below hb
    replace hj := hj.keep' hb
    replace hk : Below w.heap.size w w100 := hk.trans (hb.mono hk.size)
    clear hb hf
    by_cases hys : ys.length = 0
    · have hyb : ((ys.length : Int) == 0) = true := by simp [hys]
      have HYN : Hid (ys = []) := List.length_eq_zero_iff.1 hys
      have hjx : js.length ≤ xs.length := by rw [HJ.out, List.length_append]; omega
      clear hys
      by_cases hce : xs.length < cj
      · have hq : IntsAt w100 (.slice (some ⟨gj, xs.length, none⟩) 0 (cj - xs.length)) ys := by rw [HYN.out]; exact ints_none rfl
        go_wp2_with fail
        refine (implRowSame_any _ _ ys ys _ hq hy).mono ?_
        rintro e w101 ⟨rfl, hb⟩
        rw [same_self]
        replace hk : Below w.heap.size w w101 := hk.trans (hb.mono hk.size)
        clear hb hq hj hx hy
        go_wp2
        go_ret
        exact ⟨rfl, hk⟩
      · obtain rfl : cj = xs.length := by omega
        have hq : IntsAt w100 (.slice (some ⟨gj, 0, none⟩) 0 0) ys := by rw [HYN.out]; exact ints_none rfl
        go_wp2_with fail
        refine (implRowSame_any _ _ ys ys _ hq hy).mono ?_
        rintro e w101 ⟨rfl, hb⟩
        rw [same_self]
        replace hk : Below w.heap.size w w101 := hk.trans (hb.mono hk.size)
        clear hb hq hj hx hy
        go_wp2
        go_ret
        exact ⟨rfl, hk⟩
    · have hyb : ((ys.length : Int) == 0) = false := by simp; exact fun e => hys (by rw [e]; rfl)
      have hle : rowLessB xs js = true := by rw [HJ.out]; exact less_append (fun e => hys (by rw [e]; rfl))
      have hce : xs.length < cj := by
        have : js.length = xs.length + ys.length := by rw [HJ.out, List.length_append]
        omega
      have hq := hj.back (c := cj - xs.length) (m := xs.length)
      rw [HJ.out, List.drop_left, ← HJ.out] at hq
      go_wp2_with fail
      refine (implRowSame_any _ _ ys ys _ hq hy).mono ?_
      rintro e w101 ⟨rfl, hb⟩
      rw [same_self]
      replace hx := hx.below hb
      replace hj := hj.keep' hb
      replace hk : Below w.heap.size w w101 := hk.trans (hb.mono hk.size)
      clear hb hq hy
      go_wp2_with fail
      refine (implRowLess_any _ _ xs js _ hx hj.ints).mono ?_
      rintro e w102 ⟨rfl, hb⟩
      rw [hle]
      replace hk : Below w.heap.size w w102 := hk.trans (hb.mono hk.size)
      clear hb hj hx
      go_wp2
      go_ret
      exact ⟨rfl, hk⟩

end Go.Proofs.Ytepgdogakhbhjaa
