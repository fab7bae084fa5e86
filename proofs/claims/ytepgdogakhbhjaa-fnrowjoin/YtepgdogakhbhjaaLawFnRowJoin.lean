/-
  The walk of laws.FnRowJoin, out of the contracts: it answers true whatever the bytes are, and nothing that was there is written.
-/
import Derived.Test.YtepgdogakhbhjaaDraw2
import Derived.Test.YtepgdogakhbhjaaOrderFacts
namespace Go.Proofs.Ytepgdogakhbhjaa
open Go.RowKit

theorem IntsAt.shape {w : World} {v : Value} {xs : List Int} (h : IntsAt w v xs) : ∃ a cap, v = .slice a xs.length cap := by
  obtain ⟨_, a, cap, hv, _⟩ := h
  exact ⟨a, cap, hv⟩

set_option maxHeartbeats 4000000 in
theorem lawFnRowJoin (a : Option Addr) (len cap : Nat) (zs0 : List Int) (a2 : Option Addr) (len2 cap2 : Nat) (zs2 : List Int) (w : World) (h : IsRow .u8 w a len cap zs0) (h2 : IsRow .u8 w a2 len2 cap2 zs2) :
    Calls Try.prog 5 #[.slice a len cap, .slice a2 len2 cap2] w fun e w' => e = .returned (.bool true) ∧ Below w.heap.size w w' := by
  by_cases hbig : (1048576 : Int) < (len : Int)
  · go_enter Try.func5, Try.ntmps5
    go_wp2
    go_ret
    exact ⟨rfl, Below.refl _ _⟩
  by_cases hbig2 : (1048576 : Int) < (len2 : Int)
  · go_enter Try.func5, Try.ntmps5
    go_wp2
    go_ret
    exact ⟨rfl, Below.refl _ _⟩
  go_enter Try.func5, Try.ntmps5
  go_wp2_with fail
  refine (drawJoin_any _ _ _ zs0 _ h).mono ?_
  rintro e w1 ⟨va, vb, rfl, xs, ys, hxl, hyl, hx1, hy1, hb1⟩
  have h21 := h2.below hb1
  clear h h2
  go_wp2_with fail
  refine (drawJoin_any _ _ _ zs2 _ h21).mono ?_
  rintro e w2 ⟨vc, vd, rfl, zs, us, hzl, hul, hz2, hu2, hb2⟩
  have hx2 := hx1.below hb2
  have hy2 := hy1.below hb2
  have hk2 : Below w.heap.size w w2 := hb1.trans (hb2.mono hb1.size)
  clear hx1 hy1 hb1 hb2 h21
  go_wp2_with fail
  refine (implRowJoin_any _ _ xs ys _ hx2 hy2 (by omega)).mono ?_
  rintro e w3 ⟨vj, rfl, hj3, hb3, -⟩
  have hx3 := hx2.below hb3
  have hy3 := hy2.below hb3
  have hz3 := hz2.below hb3
  have hu3 := hu2.below hb3
  have hk3 : Below w.heap.size w w3 := hk2.trans (hb3.mono hk2.size)
  have hj3 := hj3.ints
  clear hx2 hy2 hz2 hu2 hk2 hb3
  go_wp2_with fail
  refine (specRowJoin_any _ _ xs ys _ hx3 hy3 (by omega)).mono ?_
  rintro e w4 ⟨vs, rfl, hs4, hb4⟩
  have hx4 := hx3.below hb4
  have hy4 := hy3.below hb4
  have hz4 := hz3.below hb4
  have hu4 := hu3.below hb4
  have hj4 := hj3.below hb4
  have hk4 : Below w.heap.size w w4 := hk3.trans (hb4.mono hk3.size)
  clear hx3 hy3 hz3 hu3 hk3 hb4 hj3
  go_wp2_with fail
  refine (implRowSame_any _ _ (xs ++ ys) (xs ++ ys) _ hj4 hs4.ints).mono ?_
  rintro e w5 ⟨rfl, hb5⟩
  rw [same_self]
  have hx5 := hx4.below hb5
  have hy5 := hy4.below hb5
  have hz5 := hz4.below hb5
  have hu5 := hu4.below hb5
  have hj5 := hj4.below hb5
  have hk5 : Below w.heap.size w w5 := hk4.trans (hb5.mono hk4.size)
  clear hx4 hy4 hz4 hu4 hk4 hb5 hj4 hs4
  go_wp2_with fail
  refine (implRowJoin_any _ _ (xs ++ ys) zs _ hj5 hz5 (by simp; omega)).mono ?_
  rintro e w6 ⟨vl, rfl, hl6, hb6, -⟩
  have hx6 := hx5.below hb6
  have hy6 := hy5.below hb6
  have hz6 := hz5.below hb6
  have hu6 := hu5.below hb6
  have hj6 := hj5.below hb6
  have hk6 : Below w.heap.size w w6 := hk5.trans (hb6.mono hk5.size)
  clear hx5 hy5 hz5 hu5 hk5 hb6 hj5
  go_wp2_with fail
  refine (implRowJoin_any _ _ ys zs _ hy6 hz6 (by omega)).mono ?_
  rintro e w7 ⟨vm, rfl, hm7, hb7, -⟩
  have hx7 := hx6.below hb7
  have hy7 := hy6.below hb7
  have hz7 := hz6.below hb7
  have hu7 := hu6.below hb7
  have hj7 := hj6.below hb7
  have hl7 := hl6.ints.below hb7
  have hk7 : Below w.heap.size w w7 := hk6.trans (hb7.mono hk6.size)
  clear hx6 hy6 hz6 hu6 hk6 hb7 hj6 hl6
  go_wp2_with fail
  refine (implRowJoin_any _ _ xs (ys ++ zs) _ hx7 hm7.ints (by simp; omega)).mono ?_
  rintro e w8 ⟨vn, rfl, hn8, hb8, -⟩
  have hx8 := hx7.below hb8
  have hy8 := hy7.below hb8
  have hz8 := hz7.below hb8
  have hu8 := hu7.below hb8
  have hj8 := hj7.below hb8
  have hl8 := hl7.below hb8
  have hn8 := hn8.ints
  rw [← List.append_assoc] at hn8
  have hk8 : Below w.heap.size w w8 := hk7.trans (hb8.mono hk7.size)
  clear hx7 hy7 hz7 hu7 hk7 hb8 hj7 hl7 hm7
  go_wp2_with fail
  refine (implRowSame_any _ _ (xs ++ ys ++ zs) (xs ++ ys ++ zs) _ hl8 hn8).mono ?_
  rintro e w9 ⟨rfl, hb9⟩
  rw [same_self]
  have hx9 := hx8.below hb9
  have hy9 := hy8.below hb9
  have hz9 := hz8.below hb9
  have hu9 := hu8.below hb9
  have hj9 := hj8.below hb9
  have hk9 : Below w.heap.size w w9 := hk8.trans (hb9.mono hk8.size)
  clear hx8 hy8 hz8 hu8 hk8 hb9 hj8 hl8 hn8
  obtain ⟨aa, ca, hva⟩ := hx9.shape
  obtain ⟨ab, cb, hvb⟩ := hy9.shape
  obtain ⟨ac, cc, hvc⟩ := hz9.shape
  obtain ⟨ad, cd, hvd⟩ := hu9.shape
  subst hva hvb hvc hvd
  by_cases hle : xs.length = zs.length
  · by_cases hle2 : ys.length = us.length
    · have HA : Hid (rowSameB (xs ++ ys) (zs ++ us) = (rowSameB xs zs && rowSameB ys us)) := same_append hle
      have hq1 : ((xs.length : Int) != (zs.length : Int)) = false := by simp [hle]
      have hq2 : ((ys.length : Int) != (us.length : Int)) = false := by simp [hle2]
      clear hle hle2
      go_wp2_with fail
      refine (implRowJoin_any _ _ zs us _ hz9 hu9 (by omega)).mono ?_
      rintro e w10 ⟨vo, rfl, ho10, hb10, -⟩
      have hx10 := hx9.below hb10
      have hy10 := hy9.below hb10
      have hz10 := hz9.below hb10
      have hu10 := hu9.below hb10
      have hj10 := hj9.below hb10
      have hk10 : Below w.heap.size w w10 := hk9.trans (hb10.mono hk9.size)
      clear hx9 hy9 hz9 hu9 hk9 hb10 hj9
      go_wp2_with fail
      refine (implRowSame_any _ _ (xs ++ ys) (zs ++ us) _ hj10 ho10.ints).mono ?_
      rintro e w11 ⟨rfl, hb11⟩
      rw [HA.out]
      have hx11 := hx10.below hb11
      have hy11 := hy10.below hb11
      have hz11 := hz10.below hb11
      have hu11 := hu10.below hb11
      have hk11 : Below w.heap.size w w11 := hk10.trans (hb11.mono hk10.size)
      clear hx10 hy10 hz10 hu10 hk10 hb11 hj10 ho10 HA
      cases hp : rowSameB xs zs with
      | false =>
        go_wp2_with fail
        refine (implRowSame_any _ _ xs zs _ hx11 hz11).mono ?_
        rintro e w12 ⟨rfl, hb12⟩
        rw [hp]
        have hk12 : Below w.heap.size w w12 := hk11.trans (hb12.mono hk11.size)
        clear hx11 hy11 hz11 hu11 hk11 hb12
        go_wp2
        go_ret
        exact ⟨rfl, hk12⟩
      | true =>
        go_wp2_with fail
        refine (implRowSame_any _ _ xs zs _ hx11 hz11).mono ?_
        rintro e w12 ⟨rfl, hb12⟩
        rw [hp]
        have hk12 : Below w.heap.size w w12 := hk11.trans (hb12.mono hk11.size)
        have hy12 := hy11.below hb12
        have hu12 := hu11.below hb12
        clear hx11 hy11 hz11 hu11 hk11 hb12
        go_wp2_with fail
        refine (implRowSame_any _ _ ys us _ hy12 hu12).mono ?_
        rintro e w13 ⟨rfl, hb13⟩
        have hk13 : Below w.heap.size w w13 := hk12.trans (hb13.mono hk12.size)
        clear hk12 hb13 hy12 hu12
        go_wp2
        go_ret
        exact ⟨ret_bool (by simp), hk13⟩
    · have hq1 : ((xs.length : Int) != (zs.length : Int)) = false := by simp [hle]
      have hq2 : ((ys.length : Int) != (us.length : Int)) = true := by rw [bne_iff_ne]; omega
      clear hle hle2 hx9 hy9 hz9 hu9 hj9
      go_wp2
      go_ret
      exact ⟨rfl, hk9⟩
  · have hq1 : ((xs.length : Int) != (zs.length : Int)) = true := by rw [bne_iff_ne]; omega
    clear hle hx9 hy9 hz9 hu9 hj9
    go_wp2
    go_ret
    exact ⟨rfl, hk9⟩

end Go.Proofs.Ytepgdogakhbhjaa
