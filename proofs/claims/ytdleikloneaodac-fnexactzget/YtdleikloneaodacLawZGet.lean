/-
  The walk of laws.FnExactZGet, out of the contracts: it answers true at all items and rows, and nothing that was there is written.
-/
import Derived.Test.YtdleikloneaodacSearch
import Derived.Test.YtdleikloneaodacItemsIn
namespace Go.Proofs.Ytdleikloneaodac
open Go.RowKit

set_option maxHeartbeats 4000000 in
theorem lawZGet (v : Value) (zs : List It) (a : Option Addr) (len cap : Nat) (rs : List Int) (w : World) (h : RawItems w v zs) (_ : WfItems zs) (h2 : IsRow .i64 w a len cap rs) :
    Calls Try.prog 3 #[v, .slice a len cap] w fun e w' => e = .returned (.bool true) ∧ Below w.heap.size w w' := by
  by_cases hl : len ≤ 1048576
  · obtain ⟨xs, HL, hx⟩ := h2.ints (by omega)
    subst HL
    clear h2
    obtain ⟨gv, HG⟩ : ∃ gv : Int, Hid (gv = if zOkB zs then getZ zs xs else 0) := ⟨_, rfl⟩
    go_enter Try.func3, Try.ntmps3
    go_wp2_with fail
    refine (szItemS_any v zs 1048576 _ h (by omega) (by omega)).mono ?_
    rintro e w1 ⟨r, rfl, hr, hb1⟩
    by_cases hneg : r < 0
    · clear hr
      go_wp2
      go_ret
      exact ⟨rfl, hb1⟩
    · have hlim : zs.length + rowsLen zs ≤ 1048576 := by omega
      have hz0 := (h.items hlim)
      clear hr h
      go_wp2_with fail
      refine (toItemS_any v zs _ (hz0.below hb1) hlim).mono ?_
      rintro e w2 ⟨v2, rfl, Z2, hb2⟩
      have hk2 := below_then hb1 hb2
      go_wp2_with fail
      refine (toIntS_any _ xs _ (hx.below hk2) hl).mono ?_
      rintro e w3 ⟨rfl, ho3, hb3⟩
      have O3 := own_new ho3 (by omega)
      have hk3 := below_then hk2 hb3
      have Y3 := Z2.keep' hb3
      clear ho3 Z2 hb1 hb2 hk2
      go_wp2_with fail
      refine (specZGet_any v2 zs _ xs _ Y3.items O3.ints).mono ?_
      rw [← HG.out]
      rintro e w4 ⟨rfl, hb4⟩
      have hk4 := below_then hk3 hb4
      clear O3 Y3 hb3 hb4 hk3
      go_wp2_with fail
      refine (toItemS_any v zs _ (hz0.below hk4) hlim).mono ?_
      rintro e w5 ⟨v5, rfl, Z5, hb5⟩
      have hk5 := below_then hk4 hb5
      go_wp2_with fail
      refine (toIntS_any _ xs _ (hx.below hk5) hl).mono ?_
      rintro e w6 ⟨rfl, ho6, hb6⟩
      have O6 := own_new ho6 (by omega)
      have hk6 := below_then hk5 hb6
      have X6 := Z5.keep' hb6
      clear ho6 Z5 hb5 hk4 hk5
      go_wp2_with fail
      refine (implZGet_any v5 zs _ xs _ X6.items O6.ints).mono ?_
      rw [← HG.out]
      rintro e w7 ⟨rfl, hb7⟩
      have hk7 := below_then hk6 hb7
      have X7 := X6.keep' hb7
      have R7 := O6.keep' hb7
      clear X6 O6 hb6 hb7 hk6
      go_wp2_with fail
      refine (toItemS_any v zs _ (hz0.below hk7) hlim).mono ?_
      rintro e w8 ⟨v8, rfl, Z8, hb8⟩
      have hk8 := below_then hk7 hb8
      have X8 := X7.keep' hb8
      have R8 := R7.keep' hb8
      clear X7 R7 hb8 hk7
      go_wp2_with fail
      refine (eqItemS_self v5 v8 zs _ X8.items Z8.items).mono ?_
      rintro e w9 ⟨rfl, hb9⟩
      have hk9 := below_then hk8 hb9
      have R9 := R8.keep' hb9
      clear X8 R8 Z8 hb9 hk8
      go_wp2_with fail
      refine (toIntS_any _ xs _ (hx.below hk9) hl).mono ?_
      rintro e w10 ⟨rfl, ho10, hb10⟩
      have O10 := own_new ho10 (by omega)
      have hk10 := below_then hk9 hb10
      have R10 := R9.keep' hb10
      clear R9 hb10 hk9 ho10
      go_wp2_with fail
      refine (eqIntS_any _ _ xs xs _ R10.ints O10.ints).mono ?_
      rintro e w11 ⟨rfl, hb11⟩
      rw [sameB_refl]
      have hk11 := below_then hk10 hb11
      clear R10 O10 hb11 hk10 hz0 hx
      go_wp2
      go_ret
      exact ⟨rfl, hk11⟩
  · have hbig : (1048576 : Int) < (len : Int) := by omega
    clear h h2
    go_enter Try.func3, Try.ntmps3
    go_wp2
    go_ret
    exact ⟨rfl, Below.refl _ _⟩

end Go.Proofs.Ytdleikloneaodac
