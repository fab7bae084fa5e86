/-
  The walk of laws.FnExactRunSame, out of the contracts: it answers true at all runs, and nothing that was there is written.
-/
import Derived.Test.YtjobidfkhaiiaaaRunSame
import Derived.Test.YtjobidfkhaiiaaaRunsLaw
namespace Go.Proofs.Ytjobidfkhaiiaaa
set_option maxRecDepth 100000
open Go.RowKit

set_option maxHeartbeats 8000000 in
theorem lawRunSame (v : Value) (zss : Rn) (u : Value) (yss : Rn) (w : World) (h : RawRuns w v zss) (g : RawRuns w u yss) :
    Calls Try.prog 4 #[.agg #[v], .agg #[u]] w fun e w' => e = .returned (.bool true) ∧ Below w.heap.size w w' := by
  obtain ⟨a, cap, hsh⟩ := h.shape
  obtain ⟨n, HN⟩ : ∃ n, Hid (n = zss.length) := ⟨_, rfl⟩
  rw [← HN.out] at hsh
  subst hsh
  obtain ⟨b, cbp, hsh2⟩ := g.shape
  obtain ⟨m, HM⟩ : ∃ n, Hid (n = yss.length) := ⟨_, rfl⟩
  rw [← HM.out] at hsh2
  subst hsh2
  obtain ⟨c, HC⟩ : ∃ c, Hid (c = rsB zss yss) := ⟨_, rfl⟩
  have hba : Below w.heap.size w ((w.alloc (.cells #[.slice a n cap] 24)).alloc (.cells #[.slice b m cbp] 24)) := below_then (below_alloc _) (below_alloc _)
  go_enter Try.func4, Try.ntmps4
  go_wp2_with fail
  refine (szSpine_any _ zss 1048576 _ (h.below hba) (by omega) (by omega)).mono ?_
  rintro e w1 ⟨r, rfl, hr, hb1⟩
  have hk1 := below_then hba hb1
  have hx1 : w1.cell? ⟨w.heap.size, 0, none⟩ = some (.slice a n cap) := cell_is hb1 (by simp; omega) (by simp [go_sem])
  have hy1 : w1.cell? ⟨w.heap.size + 1, 0, none⟩ = some (.slice b m cbp) := cell_is hb1 (by simp) (by simp [go_sem])
  have s1 : w.heap.size + 2 ≤ w1.heap.size := by have := hb1.size; simp at this; omega
  clear hb1 hba
  by_cases hneg : r < 0
  · clear hr hx1 hy1
    go_wp2
    go_ret
    exact ⟨rfl, hk1⟩
  · have hlim : zss.length + runsLen zss ≤ 1048576 := by omega
    have hrl : r ≤ 1048576 := by omega
    clear hr
    go_wp2_with fail
    refine (szSpine_any _ yss r _ (g.below hk1) (by omega) hrl).mono ?_
    rintro e w2 ⟨r2, rfl, hr2, hb2⟩
    have hk2 := below_then hk1 hb2
    have hx2 := cell_is hb2 (show w.heap.size < w1.heap.size by omega) hx1
    have hy2 := cell_is hb2 (show w.heap.size + 1 < w1.heap.size by omega) hy1
    have s2 := hb2.size
    clear hb2 hk1 hx1 hy1
    by_cases hneg2 : r2 < 0
    · clear hr2 hx2 hy2
      go_wp2
      go_ret
      exact ⟨rfl, hk2⟩
    · have hlim2 : yss.length + runsLen yss ≤ 1048576 := by omega
      clear hr2
      go_wp2
      go_region_with (first
        | (go_at_call 14; have hO := O4; refine (specRunSame_any _ _ zss yss _ (O3.keep' hb4).runs O4.runs).mono ?_; rw [← HC.out]; rintro e w5 ⟨rfl, hb5⟩)
        | (go_at_call 11; have hO := O3; refine (toSpine_any _ yss _ (by first | exact g.below hk3 | exact g.below (below_drewN hk3 _) | exact g.below (Below.drew hk3)) hlim2).mono ?_; rintro e w4 ⟨v4, rfl, O4, hb4'⟩; have hb4 : Below w3.heap.size w3 w4 := (by first | exact hb4' | exact below_then (below_drewN (Below.refl _ _) _) hb4' | exact below_then (Below.drew (Below.refl _ _)) hb4'))
        | (go_at_call 11; refine (toSpine_any _ zss _ (by first | exact h.below hk2 | exact h.below (below_drewN hk2 _) | exact h.below (Below.drew hk2)) hlim).mono ?_; rintro e w3 ⟨v3, rfl, O3, hb3'⟩; have hb3 : Below w2.heap.size w2 w3 := (by first | exact hb3' | exact below_then (below_drewN (Below.refl _ _) _) hb3' | exact below_then (Below.drew (Below.refl _ _)) hb3'); have hk3 := below_then hk2 hb3; have hy3 : w3.cell? ⟨w.heap.size + 1, 0, none⟩ = some (.slice b m cbp) := (cell_is hb3 (show w.heap.size + 1 < w2.heap.size by omega) hy2)))
      all_goals
      have hb25 : Below w2.heap.size w2 w5 := below_then (below_then hb3 hb4) hb5
      have hk5 := below_then hk2 hb25
      have hx5 := cell_is hb25 (show w.heap.size < w2.heap.size by omega) hx2
      have hy5 := cell_is hb25 (show w.heap.size + 1 < w2.heap.size by omega) hy2
      have s5 := hb25.size
      clear hb5 hb4 hb3 hb25 hk2 hk3 hx2 hy2 hy3 O3 O4
      go_wp2_with fail
      refine (toSpine_any _ zss _ (h.below hk5) hlim).mono ?_
      rintro e w6 ⟨v6, rfl, O6, hb6⟩
      have hk6 := below_then hk5 hb6
      have hx6 := cell_is hb6 (show w.heap.size < w5.heap.size by omega) hx5
      have hy6 := cell_is hb6 (show w.heap.size + 1 < w5.heap.size by omega) hy5
      have s6 := hb6.size
      obtain ⟨a6, n6, c6, rfl⟩ := O6.runs.shapeN
      clear hb6 hk5 hx5 hy5
      have hb7 : Below w6.heap.size w6 (w6.alloc (.cells #[.slice a6 n6 c6] 29)) := below_alloc _
      have R7 := O6.runs.below hb7
      have hk7 := below_then hk6 hb7
      have hx7 := cell_is hb7 (show w.heap.size < w6.heap.size by omega) hx6
      have hy7 := cell_is hb7 (show w.heap.size + 1 < w6.heap.size by omega) hy6
      have p7 : (w6.alloc (.cells #[.slice a6 n6 c6] 29)).cell? ⟨w6.heap.size, 0, none⟩ = some (.slice a6 n6 c6) := by simp [go_sem]
      have S7 : Hid ((w6.alloc (.cells #[.slice a6 n6 c6] 29)).heap.size = w6.heap.size + 1) := by show _ = _; simp
      clear hk6 hx6 hy6 O6 hb7
      go_wp2_with fail
      refine (toSpine_any _ yss _ (g.below hk7) hlim2).mono ?_
      rintro e w8 ⟨v8, rfl, O8, hb8⟩
      have s8 := hb8.size
      rw [S7.out] at s8
      have hk8 := below_then hk7 hb8
      have hx8 := cell_is hb8 (show w.heap.size < (w6.alloc (.cells #[.slice a6 n6 c6] 29)).heap.size by rw [S7.out]; omega) hx7
      have hy8 := cell_is hb8 (show w.heap.size + 1 < (w6.alloc (.cells #[.slice a6 n6 c6] 29)).heap.size by rw [S7.out]; omega) hy7
      have p8 := cell_is hb8 (show w6.heap.size < (w6.alloc (.cells #[.slice a6 n6 c6] 29)).heap.size by rw [S7.out]; omega) p7
      have R8 := R7.below hb8
      obtain ⟨a8, n8, c8, rfl⟩ := O8.runs.shapeN
      clear hb8 hk7 hx7 hy7 R7 p7 S7
      have hb9 : Below w8.heap.size w8 (w8.alloc (.cells #[.slice a8 n8 c8] 29)) := below_alloc _
      have R9 := R8.below hb9
      have Q9 := O8.runs.below hb9
      have hk9 := below_then hk8 hb9
      have hx9 := cell_is hb9 (show w.heap.size < w8.heap.size by omega) hx8
      have hy9 := cell_is hb9 (show w.heap.size + 1 < w8.heap.size by omega) hy8
      have p9 := cell_is hb9 (show w6.heap.size < w8.heap.size by omega) p8
      have q9 : (w8.alloc (.cells #[.slice a8 n8 c8] 29)).cell? ⟨w8.heap.size, 0, none⟩ = some (.slice a8 n8 c8) := by simp [go_sem]
      have S9 : Hid ((w8.alloc (.cells #[.slice a8 n8 c8] 29)).heap.size = w8.heap.size + 1) := by show _ = _; simp
      clear hk8 hx8 hy8 R8 O8 p8 hb9
      go_wp2_with fail
      refine (implRunSame_any _ _ zss yss _ R9 Q9).mono ?_
      rw [← HC.out]
      rintro e w10 ⟨rfl, hb10⟩
      have s10 := hb10.size
      rw [S9.out] at s10
      have hk10 := below_then hk9 hb10
      have hx10 := cell_is hb10 (show w.heap.size < (w8.alloc (.cells #[.slice a8 n8 c8] 29)).heap.size by rw [S9.out]; omega) hx9
      have hy10 := cell_is hb10 (show w.heap.size + 1 < (w8.alloc (.cells #[.slice a8 n8 c8] 29)).heap.size by rw [S9.out]; omega) hy9
      have p10 := cell_is hb10 (show w6.heap.size < (w8.alloc (.cells #[.slice a8 n8 c8] 29)).heap.size by rw [S9.out]; omega) p9
      have q10 := cell_is hb10 (show w8.heap.size < (w8.alloc (.cells #[.slice a8 n8 c8] 29)).heap.size by rw [S9.out]; omega) q9
      have R10 := R9.below hb10
      have Q10 := Q9.below hb10
      clear hb10 hk9 hx9 hy9 R9 Q9 p9 q9 S9
      have hcc : (c != c) = false := by simp
      go_wp2
      go_region_with (first
        | (go_at_call 13; have hO := O11; refine (eqSpine_self _ _ zss _ (R10.below hb11) O11.runs).mono ?_; rintro e w12 ⟨rfl, hb12⟩)
        | (go_at_call 11; refine (toSpine_any _ zss _ (by first | exact h.below hk10 | exact h.below (below_drewN hk10 _) | exact h.below (Below.drew hk10)) hlim).mono ?_; rintro e w11 ⟨v11, rfl, O11, hb11'⟩; have hb11 : Below w10.heap.size w10 w11 := (by first | exact hb11' | exact below_then (below_drewN (Below.refl _ _) _) hb11' | exact below_then (Below.drew (Below.refl _ _)) hb11'); have c11 : w11.cell? ⟨w6.heap.size, 0, none⟩ = some (.slice a6 n6 c6) := (cell_is hb11 (show w6.heap.size < w10.heap.size by omega) p10)))
      all_goals
        have hb12' : Below w10.heap.size w10 w12 := below_then hb11 hb12
        have s12 := hb12'.size
        have hk12 := below_then hk10 hb12'
        have hx12 := cell_is hb12' (show w.heap.size < w10.heap.size by omega) hx10
        have hy12 := cell_is hb12' (show w.heap.size + 1 < w10.heap.size by omega) hy10
        have q12 := cell_is hb12' (show w8.heap.size < w10.heap.size by omega) q10
        have Q12 := Q10.below hb12'
        clear O11 hb11 hb12 hb12' hk10 hx10 hy10 p10 q10 R10 Q10 c11
        go_wp2
        go_region_with (first
          | (go_at_call 13; have hO := O13; refine (eqSpine_self _ _ yss _ (Q12.below hb13) O13.runs).mono ?_; rintro e w14 ⟨rfl, hb14⟩)
          | (go_at_call 11; refine (toSpine_any _ yss _ (by first | exact g.below hk12 | exact g.below (below_drewN hk12 _) | exact g.below (Below.drew hk12)) hlim2).mono ?_; rintro e w13 ⟨v13, rfl, O13, hb13'⟩; have hb13 : Below w12.heap.size w12 w13 := (by first | exact hb13' | exact below_then (below_drewN (Below.refl _ _) _) hb13' | exact below_then (Below.drew (Below.refl _ _)) hb13'); have c13 : w13.cell? ⟨w8.heap.size, 0, none⟩ = some (.slice a8 n8 c8) := (cell_is hb13 (show w8.heap.size < w12.heap.size by omega) q12)))
        all_goals
          have hk14 : Hid (Below w.heap.size w w14) := below_then (below_then hk12 hb13) hb14
          clear O13 hb13 hb14 hk12 hx12 hy12 q12 Q12
          go_wp2
          go_ret
          exact ⟨rfl, hk14.out⟩

end Go.Proofs.Ytjobidfkhaiiaaa
