/-
  The walk of laws.FnExactRowOk, out of the contracts: it answers true at every int slice, and nothing that was there is written.
-/
import Derived.Test.YtepgdogakhbhjapRowOk
namespace Go.Proofs.Ytepgdogakhbhjap
open Go.RowKit

set_option maxHeartbeats 1000000 in
theorem lawRowOk (a : Option Addr) (len cap : Nat) (zs : List Int) (w : World) (h : IsRow .i64 w a len cap zs) :
    Calls Try.prog 5 #[.slice a len cap] w fun e w' => e = .returned (.bool true) ∧ Below w.heap.size w w' := by
  by_cases hlim : len ≤ 1048576
  · obtain ⟨xs, HL, hx⟩ := h.ints (by omega)
    subst HL
    go_enter Try.func5, Try.ntmps5
    go_wp2_with fail
    refine (toIntS_any _ xs _ hx hlim).mono ?_
    rintro e w1 ⟨rfl, ho1, hb1⟩
    go_wp2_with fail
    refine (specRowOk_any _ xs _ (ints_of_row (by omega) ho1)).mono ?_
    rintro e w2 ⟨rfl, rfl⟩
    have hx2 := hx.below hb1
    clear ho1
    go_wp2_with fail
    refine (toIntS_any _ xs _ hx2 hlim).mono ?_
    rintro e w3 ⟨rfl, ho3, hb3⟩
    have hx0 := ints_of_row (by omega) ho3
    clear ho3
    go_wp2_with fail
    refine (implRowOk_any _ xs _ hx0).mono ?_
    rintro e w4 ⟨rfl, rfl⟩
    have hx4 := hx2.below hb3
    go_wp2_with fail
    refine (toIntS_any _ xs _ hx4 hlim).mono ?_
    rintro e w5 ⟨rfl, ho5, hb5⟩
    have hx5 := hx0.below hb5
    go_wp2_with fail
    refine (eqIntS_any _ _ xs xs _ hx5 (ints_of_row (by omega) ho5)).mono ?_
    rintro e w6 ⟨rfl, hb6⟩
    rw [sameB_refl]
    have hs1 := hb1.size
    have hs3 := hb3.size
    have hs5 := hb5.size
    have hend := ((hb1.trans (hb3.mono hs1)).trans (hb5.mono (by omega))).trans (hb6.mono (by omega))
    clear hb1 hb3 hb5 hb6 hx hx2 hx0 hx4 hx5 ho5
    go_wp2
    go_ret
    exact ⟨rfl, hend⟩
  · have hbig : (1048576 : Int) < (len : Int) := by omega
    go_enter Try.func5, Try.ntmps5
    go_wp2
    go_ret
    exact ⟨rfl, Below.refl _ _⟩

end Go.Proofs.Ytepgdogakhbhjap
