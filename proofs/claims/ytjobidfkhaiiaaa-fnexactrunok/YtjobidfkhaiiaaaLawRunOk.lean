/-
  The walk of laws.FnExactRunOk, out of the contracts: it answers true at all runs, and nothing that was there is written.
-/
import Derived.Test.YtjobidfkhaiiaaaRunOkSpec
import Derived.Test.YtjobidfkhaiiaaaRunsLaw
namespace Go.Proofs.Ytjobidfkhaiiaaa
set_option maxRecDepth 100000
open Go.RowKit

set_option maxHeartbeats 4000000 in
theorem lawRunOk (v : Value) (zss : Rn) (w : World) (h : RawRuns w v zss) :
    Calls Try.prog 3 #[.agg #[v]] w fun e w' => e = .returned (.bool true) ∧ Below w.heap.size w w' := by
  obtain ⟨a, cap, hsh⟩ := h.shape
  obtain ⟨n, HN⟩ : ∃ n, Hid (n = zss.length) := ⟨_, rfl⟩
  rw [← HN.out] at hsh
  subst hsh
  obtain ⟨c, HC⟩ : ∃ c, Hid (c = runOkB zss) := ⟨_, rfl⟩
  go_enter Try.func3, Try.ntmps3
  go_wp2_with fail
  refine (szSpine_any _ zss 1048576 _ (h.below (below_alloc _)) (by omega) (by omega)).mono ?_
  rintro e w1 ⟨r, rfl, hr, hb1⟩
  have hk1 := below_then (below_alloc _) hb1
  have hbx1 : w1.cell? ⟨w.heap.size, 0, none⟩ = some (.slice a n cap) := cell_is hb1 (by simp) (by simp [go_sem])
  have s1 : w.heap.size < w1.heap.size := by have := hb1.size; simp at this; omega
  clear hb1
  by_cases hneg : r < 0
  · clear hr hbx1
    go_wp2
    go_ret
    exact ⟨rfl, hk1⟩
  · have hlim : zss.length + runsLen zss ≤ 1048576 := by omega
    clear hr
    go_wp2_with fail
    refine (toSpine_any _ zss _ (h.below hk1) hlim).mono ?_
    rintro e w2 ⟨v2, rfl, O2, hb2⟩
    have hk2 := below_then hk1 hb2
    have hbx2 := cell_is hb2 s1 hbx1
    have s2 := hb2.size
    obtain ⟨a2, n2, c2, rfl⟩ := O2.runs.shapeN
    go_wp2_with fail
    refine (specRunOk_any _ zss _ O2.runs).mono ?_
    rw [← HC.out]
    rintro e w3 ⟨rfl, hb3⟩
    have hk3 := below_then hk2 hb3
    have hbx3 := cell_is hb3 (show w.heap.size < w2.heap.size by omega) hbx2
    have s3 := hb3.size
    clear O2 hb2 hb3 hk1 hk2 hbx1 hbx2
    go_wp2_with fail
    refine (toSpine_any _ zss _ (h.below hk3) hlim).mono ?_
    rintro e w4 ⟨v4, rfl, O4, hb4⟩
    have hk4 := below_then hk3 hb4
    have hbx4 := cell_is hb4 (show w.heap.size < w3.heap.size by omega) hbx3
    have s4 := hb4.size
    obtain ⟨a4, n4, c4, rfl⟩ := O4.runs.shapeN
    clear hb4 hk3 hbx3
    have hR5 := O4.runs.below (below_alloc (.cells #[.slice a4 n4 c4] 29))
    have hk5 := below_then hk4 (below_alloc (.cells #[.slice a4 n4 c4] 29))
    go_wp2_with fail
    refine (implRunOk_any _ zss _ hR5).mono ?_
    rw [← HC.out]
    rintro e w6 ⟨rfl, hb6⟩
    have hk6 := below_then hk5 hb6
    have hbx6 : w6.cell? ⟨w.heap.size, 0, none⟩ = some (.slice a n cap) := cell_is hb6 (by simp; omega) (by
      rw [World.cell?_alloc_lt] <;> first | exact hbx4 | (show w.heap.size < w4.heap.size; omega))
    have hbx6' : w6.cell? ⟨w4.heap.size, 0, none⟩ = some (.slice a4 n4 c4) := cell_is hb6 (by simp) (by simp [go_sem])
    have hR6 := hR5.below hb6
    have s6 := hb6.size
    simp at s6
    clear O4 hb6 hk4 hk5 hR5 hbx4
    have hcc : (c != c) = false := by simp
    go_wp2
    go_region_with (first
      | (go_at_call 13; have hO := O7; refine (eqSpine_self _ _ zss _ (hR6.below hb7) O7.runs).mono ?_; rintro e w8 ⟨rfl, hb8⟩)
      | (go_at_call 11; refine (toSpine_any _ zss _ (by first | exact h.below hk6 | exact h.below (below_drewN hk6 _) | exact h.below (Below.drew hk6)) hlim).mono ?_; rintro e w7 ⟨v7, rfl, O7, hb7'⟩; have hb7 : Below w6.heap.size w6 w7 := (by first | exact hb7' | exact below_then (below_drewN (Below.refl _ _) _) hb7' | exact below_then (Below.drew (Below.refl _ _)) hb7'); have c7 : w7.cell? ⟨w4.heap.size, 0, none⟩ = some (.slice a4 n4 c4) := (cell_is hb7 (show w4.heap.size < w6.heap.size by omega) hbx6')))
    all_goals
      have hk8 : Hid (Below w.heap.size w w8) := below_then (below_then hk6 hb7) hb8
      clear O7 hb7 hb8 hR6 hk6 hbx6 hbx6'
      go_wp2
      go_ret
      exact ⟨rfl, hk8.out⟩

end Go.Proofs.Ytjobidfkhaiiaaa
