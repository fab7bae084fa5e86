/-
  The walk of laws.FnExactRowLess, out of the contracts: it answers true at all int slices, and nothing that was there is written.
-/
import Derived.Test.YtepgdogakhbhjapOrder
namespace Go.Proofs.Ytepgdogakhbhjap
open Go.RowKit

set_option maxHeartbeats 2000000 in
theorem lawRowLess (a : Option Addr) (len cap : Nat) (zs : List Int) (a2 : Option Addr) (len2 cap2 : Nat) (zs2 : List Int) (w : World) (h : IsRow .i64 w a len cap zs) (h2 : IsRow .i64 w a2 len2 cap2 zs2) :
    Calls Try.prog 7 #[.slice a len cap, .slice a2 len2 cap2] w fun e w' => e = .returned (.bool true) ∧ Below w.heap.size w w' := by
  by_cases hlim : len ≤ 1048576
  · by_cases hlim2 : len2 ≤ 1048576
    · obtain ⟨xs, HL, hx⟩ := h.ints (by omega)
      obtain ⟨ys, HL2, hy⟩ := h2.ints (by omega)
      subst HL HL2
      clear h h2
      go_enter Try.func7, Try.ntmps7
      go_wp2_with fail
      refine (toIntS_any _ xs _ hx hlim).mono ?_
      rintro e w1 ⟨rfl, ho1, hb1⟩
      have hc1 := ints_of_row (by omega) ho1
      clear ho1
      go_wp2_with fail
      refine (toIntS_any _ ys _ (hy.below hb1) hlim2).mono ?_
      rintro e w2 ⟨rfl, ho2, hb2⟩
      have hc2 := ints_of_row (by omega) ho2
      clear ho2
      go_wp2_with fail
      refine (specRowLess_any _ _ xs ys _ (hc1.below hb2) hc2).mono ?_
      rintro e w3 ⟨rfl, hb3⟩
      have hk3 : Below w.heap.size w w3 := (hb1.trans (hb2.mono hb1.size)).trans (hb3.mono (by have := hb1.size; have := hb2.size; omega))
      clear hc1 hc2 hb1 hb2 hb3
      go_wp2_with fail
      refine (toIntS_any _ xs _ (hx.below hk3) hlim).mono ?_
      rintro e w4 ⟨rfl, ho4, hb4⟩
      have hc4 := ints_of_row (by omega) ho4
      clear ho4
      have hk4 : Below w.heap.size w w4 := hk3.trans (hb4.mono hk3.size)
      go_wp2_with fail
      refine (toIntS_any _ ys _ (hy.below hk4) hlim2).mono ?_
      rintro e w5 ⟨rfl, ho5, hb5⟩
      have hc5 := ints_of_row (by omega) ho5
      clear ho5
      have hk5 : Below w.heap.size w w5 := hk4.trans (hb5.mono hk4.size)
      have hd5 := hc4.below hb5
      clear hc4
      go_wp2_with fail
      refine (implRowLess_any _ _ xs ys _ hd5 hc5).mono ?_
      rintro e w6 ⟨rfl, hb6⟩
      have hk6 : Below w.heap.size w w6 := hk5.trans (hb6.mono hk5.size)
      have hc6 := hc5.below hb6
      have hd6 := hd5.below hb6
      clear hc5 hd5
      go_wp2_with fail
      refine (toIntS_any _ xs _ (hx.below hk6) hlim).mono ?_
      rintro e w7 ⟨rfl, ho7, hb7⟩
      have hc7 := ints_of_row (by omega) ho7
      clear ho7
      have hk7 : Below w.heap.size w w7 := hk6.trans (hb7.mono hk6.size)
      have he7 := hc6.below hb7
      have hd7 := hd6.below hb7
      clear hc6 hd6
      go_wp2_with fail
      refine (eqIntS_any _ _ xs xs _ hd7 hc7).mono ?_
      rintro e w8 ⟨rfl, hb8⟩
      rw [sameB_refl]
      have hk8 : Below w.heap.size w w8 := hk7.trans (hb8.mono hk7.size)
      have he8 := he7.below hb8
      clear hc7 hd7 he7
      go_wp2_with fail
      refine (toIntS_any _ ys _ (hy.below hk8) hlim2).mono ?_
      rintro e w9 ⟨rfl, ho9, hb9⟩
      have hc9 := ints_of_row (by omega) ho9
      clear ho9
      have hk9 : Below w.heap.size w w9 := hk8.trans (hb9.mono hk8.size)
      have he9 := he8.below hb9
      clear he8
      go_wp2_with fail
      refine (eqIntS_any _ _ ys ys _ he9 hc9).mono ?_
      rintro e w10 ⟨rfl, hb10⟩
      rw [sameB_refl]
      have hk10 : Below w.heap.size w w10 := hk9.trans (hb10.mono hk9.size)
      clear hb4 hb5 hb6 hb7 hb8 hb9 hb10 hk3 hk4 hk5 hk6 hk7 hk8 hk9 hc9 he9 hx hy
      go_wp2
      go_ret
      exact ⟨rfl, hk10⟩
    · have hbig : (1048576 : Int) < (len2 : Int) := by omega
      go_enter Try.func7, Try.ntmps7
      go_wp2
      go_ret
      exact ⟨rfl, Below.refl _ _⟩
  · have hbig : (1048576 : Int) < (len : Int) := by omega
    go_enter Try.func7, Try.ntmps7
    go_wp2
    go_ret
    exact ⟨rfl, Below.refl _ _⟩

end Go.Proofs.Ytepgdogakhbhjap
