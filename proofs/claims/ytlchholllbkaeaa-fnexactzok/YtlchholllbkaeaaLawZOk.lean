/-
  The walk of laws.FnExactZOk, out of the contracts: it answers true at all items, and nothing that was there is written.
-/
import Derived.Test.YtlchholllbkaeaaZOk
import Derived.Test.YtlchholllbkaeaaItemsIn
namespace Go.Proofs.Ytlchholllbkaeaa
open Go.RowKit

set_option maxHeartbeats 2000000 in
theorem lawZOk (v : Value) (zs : List It) (w : World) (h : RawItems w v zs) (_ : WfItems zs) :
    Calls Try.prog 3 #[v] w fun e w' => e = .returned (.bool true) ∧ Below w.heap.size w w' := by
  go_enter Try.func3, Try.ntmps3
  go_wp2_with fail
  refine (szItemS_any v zs 1048576 _ h (by omega) (by omega)).mono ?_
  rintro e w1 ⟨r, rfl, hr, hb1⟩
  by_cases hneg : r < 0
  · clear hr
    go_wp2
    go_ret
    exact ⟨rfl, hb1⟩
  · have hlim : zs.length + rowsLen zs ≤ 1048576 := by omega
    have hz0 := (h.items hlim)
    clear hr
    have hz := hz0.below hb1
    go_wp2_with fail
    refine (toItemS_any v zs _ hz hlim).mono ?_
    rintro e w2 ⟨v2, rfl, Z2, hb2⟩
    have hk2 := below_then hb1 hb2
    go_wp2_with fail
    refine (specZOk_any v2 zs _ Z2.items).mono ?_
    rintro e w3 ⟨rfl, hd3⟩
    have hk3 := below_then hk2 hd3.below
    clear Z2 hd3
    go_wp2_with fail
    refine (toItemS_any v zs _ (hz0.below hk3) hlim).mono ?_
    rintro e w4 ⟨v4, rfl, Z4, hb4⟩
    have hk4 := below_then hk3 hb4
    go_wp2_with fail
    refine (implZOk_any v4 zs _ Z4.items).mono ?_
    rintro e w5 ⟨rfl, hb5⟩
    have hk5 := below_then hk4 hb5
    have Z5 := Z4.keep' hb5
    clear Z4
    go_wp2_with fail
    refine (toItemS_any v zs _ (hz0.below hk5) hlim).mono ?_
    rintro e w6 ⟨v6, rfl, Z6, hb6⟩
    have hk6 := below_then hk5 hb6
    have X6 := Z5.keep' hb6
    clear Z5
    go_wp2_with fail
    refine (eqItemS_self v4 v6 zs _ X6.items Z6.items).mono ?_
    rintro e w7 ⟨rfl, hb7⟩
    have hk7 := below_then hk6 hb7
    clear X6 Z6 hb1 hb2 hb4 hb5 hb6 hb7 hk2 hk3 hk4 hk5 hk6 hz hz0 h
    go_wp2
    go_ret
    exact ⟨rfl, hk7⟩

end Go.Proofs.Ytlchholllbkaeaa
