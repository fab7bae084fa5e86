/-
  The walk of laws.FnExactZSame, out of the contracts: it answers true at all items, and nothing that was there is written.
-/
import Derived.Test.YtlchholllbkaeaaZSame
import Derived.Test.YtlchholllbkaeaaItemsIn
namespace Go.Proofs.Ytlchholllbkaeaa
open Go.RowKit

set_option maxHeartbeats 2000000 in
theorem lawZSame (v : Value) (zs : List It) (u : Value) (ys : List It) (w : World) (h : RawItems w v zs) (_ : WfItems zs) (h2 : RawItems w u ys) (_ : WfItems ys) :
    Calls Try.prog 4 #[v, u] w fun e w' => e = .returned (.bool true) ∧ Below w.heap.size w w' := by
  go_enter Try.func4, Try.ntmps4
  go_wp2_with fail
  refine (szItemS_any v zs 1048576 _ h (by omega) (by omega)).mono ?_
  rintro e w1 ⟨r, rfl, hr, hb1⟩
  by_cases hneg : r < 0
  · clear hr
    go_wp2
    go_ret
    exact ⟨rfl, hb1⟩
  · have hlim : zs.length + rowsLen zs ≤ 1048576 := by omega
    have hrl : r ≤ 1048576 := by omega
    have hz0 := (h.items hlim)
    clear hr
    go_wp2_with fail
    refine (szItemS_any u ys r _ (h2.below hb1) (by omega) hrl).mono ?_
    rintro e w1' ⟨r2, rfl, hr2, hb1'⟩
    have hk1 := below_then hb1 hb1'
    by_cases hneg2 : r2 < 0
    · clear hr2
      go_wp2
      go_ret
      exact ⟨rfl, hk1⟩
    · have hlim2 : ys.length + rowsLen ys ≤ 1048576 := by omega
      have hy0 := (h2.items hlim2)
      clear hr2
      go_wp2_with fail
      refine (toItemS_any v zs _ (hz0.below hk1) hlim).mono ?_
      rintro e w2 ⟨v2, rfl, Z2, hb2⟩
      have hk2 := below_then hk1 hb2
      go_wp2_with fail
      refine (toItemS_any u ys _ (hy0.below hk2) hlim2).mono ?_
      rintro e w3 ⟨v3, rfl, Z3, hb3⟩
      have hk3 := below_then hk2 hb3
      have Y2 := Z2.keep' hb3
      go_wp2_with fail
      refine (specZSame_any v2 v3 zs ys _ Y2.items Z3.items).mono ?_
      rintro e w4 ⟨rfl, hb4⟩
      have hk4 := below_then hk3 hb4
      clear Z2 Z3 Y2 hb2 hb3 hb4 hk2 hk3
      go_wp2_with fail
      refine (toItemS_any v zs _ (hz0.below hk4) hlim).mono ?_
      rintro e w5 ⟨v5, rfl, Z5, hb5⟩
      have hk5 := below_then hk4 hb5
      go_wp2_with fail
      refine (toItemS_any u ys _ (hy0.below hk5) hlim2).mono ?_
      rintro e w6 ⟨v6, rfl, Z6, hb6⟩
      have hk6 := below_then hk5 hb6
      have X6 := Z5.keep' hb6
      go_wp2_with fail
      refine (implZSame_any v5 v6 zs ys _ X6.items Z6.items).mono ?_
      rintro e w7 ⟨rfl, hb7⟩
      have hk7 := below_then hk6 hb7
      have X7 := X6.keep' hb7
      have Y7 := Z6.keep' hb7
      clear Z5 X6 Z6 hb5 hb6 hb7 hk4 hk5 hk6
      go_wp2_with fail
      refine (toItemS_any v zs _ (hz0.below hk7) hlim).mono ?_
      rintro e w8 ⟨v8, rfl, Z8, hb8⟩
      have hk8 := below_then hk7 hb8
      have X8 := X7.keep' hb8
      have Y8 := Y7.keep' hb8
      go_wp2_with fail
      refine (eqItemS_self v5 v8 zs _ X8.items Z8.items).mono ?_
      rintro e w9 ⟨rfl, hb9⟩
      have hk9 := below_then hk8 hb9
      have Y9 := Y8.keep' hb9
      clear X7 Y7 X8 Y8 Z8 hb8 hb9 hk7 hk8
      go_wp2_with fail
      refine (toItemS_any u ys _ (hy0.below hk9) hlim2).mono ?_
      rintro e w10 ⟨v10, rfl, Z10, hb10⟩
      have hk10 := below_then hk9 hb10
      have Y10 := Y9.keep' hb10
      go_wp2_with fail
      refine (eqItemS_self v6 v10 ys _ Y10.items Z10.items).mono ?_
      rintro e w11 ⟨rfl, hb11⟩
      have hk11 := below_then hk10 hb11
      clear Y9 Y10 Z10 hb10 hb11 hk9 hk10 hz0 hy0 h h2 hb1 hb1' hk1
      go_wp2
      go_ret
      exact ⟨rfl, hk11⟩

end Go.Proofs.Ytlchholllbkaeaa
