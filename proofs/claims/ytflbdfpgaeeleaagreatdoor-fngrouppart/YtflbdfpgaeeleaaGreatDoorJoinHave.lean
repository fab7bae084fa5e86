/-
  The contracts of impl.isPlace, impl.allHave (with slices.IndexFunc and slices.ContainsFunc at its closure) and impl.canJoin.
-/
import Derived.Test.YtflbdfpgaeeleaaGreatDoorJoinMath
import Derived.Test.YtflbdfpgaeeleaaGreatDoorZOk
namespace Go.Proofs.YtflbdfpgaeeleaaGreatDoor
set_option maxRecDepth 100000
open Go.RowKit
attribute [local go_sem ↓] Go.wp_at_zero Go.wp_at_succ

theorem retb {b c : Bool} (h : b = c) : Ending.returned (.bool b) = Ending.returned (.bool c) := by rw [h]
theorem isPlace_any (n wide : Int) (w : World) : Calls Tryz.prog 46 #[.int .i64 n, .int .i64 wide] w fun e w' => e = .returned (.bool (decide (0 ≤ n ∧ n < wide))) ∧ w' = w := by
  by_cases h1 : 0 ≤ n
  · by_cases h2 : n < wide
    · go_enter Tryz.func46, Tryz.ntmps46
      go_wp2
      go_ret
      exact ⟨retb (by simp; omega), rfl⟩
    · go_enter Tryz.func46, Tryz.ntmps46
      go_wp2
      go_ret
      exact ⟨retb (by simp; omega), rfl⟩
  · go_enter Tryz.func46, Tryz.ntmps46
    go_wp2
    go_ret
    exact ⟨retb (by simp; omega), rfl⟩

set_option maxHeartbeats 1000000 in
theorem lacks_any (a : Option Addr) (n c : Nat) (y x : Int) (g : Nat) (w : World) (hg : g < w.heap.size) (hx : w.cell? ⟨g, 0, none⟩ = some (.int .i64 x)) :
    Calls Tryz.prog 72 #[.agg #[.slice a n c, .int .i64 y], .pointer (some ⟨g, 0, none⟩)] w fun e w' => e = .returned (.bool (!decide (0 ≤ x ∧ x < (n : Int)))) ∧ Below w.heap.size w w' := by
  obtain ⟨d, HD⟩ : ∃ d, Hid (d = decide (0 ≤ x ∧ x < (n : Int))) := ⟨_, rfl⟩
  rw [← HD.out]
  go_enter Tryz.func72, Tryz.ntmps72
  go_wp2_with fail
  refine (isPlace_any x n _).mono ?_
  rw [← HD.out]
  rintro e w1 ⟨rfl, rfl⟩
  go_wp2
  go_ret
  exact ⟨rfl, below_alloc _⟩

theorem has_miss {x : Int} {zs : List It} {k : Nat} (hk : k < zs.length) (h : decide (0 ≤ x ∧ x < ((zs.getD k ([], 0)).1.length : Int)) = false) : hasAt x zs = false := by
  unfold hasAt
  rw [List.all_eq_false]
  exact ⟨zs.getD k ([], 0), by simp [List.getD, hk], by simpa using h⟩
theorem has_all {x : Int} {zs : List It} (h : ∀ k, k < zs.length → decide (0 ≤ x ∧ x < ((zs.getD k ([], 0)).1.length : Int)) = true) : hasAt x zs = true := by
  unfold hasAt
  rw [List.all_eq_true]
  intro p hp
  obtain ⟨j, hj, e⟩ := mem_getD (d := ([], 0)) hp
  rw [← e]
  exact h j hj

set_option maxHeartbeats 4000000 in
theorem indexHave_any (v : Value) (zs : List It) (x : Int) (g : Nat) (w : World) (h : ItemsAt w v zs) (hg : g < w.heap.size) (hx : w.cell? ⟨g, 0, none⟩ = some (.int .i64 x)) :
    Calls Tryz.prog 90 #[v, .func (.func 72) #[] #[.pointer (some ⟨g, 0, none⟩)]] w fun e w' => ∃ i : Int, e = .returned (.int .i64 i) ∧ ((i = -1 ∧ hasAt x zs = true) ∨ (0 ≤ i ∧ hasAt x zs = false)) ∧ Below w.heap.size w w' := by
  rcases h.cases with ⟨a, cap, rfl, rfl⟩ | ⟨b, off, cap, hpos, hlim, rfl, hbw, hc⟩
  · clear h
    go_enter Tryz.func90, Tryz.ntmps90
    go_wp2
    refine wp_loop_rounds 1 ?_
    rw [rounds_succ]
    go_wp2
    go_ret
    exact ⟨-1, rfl, .inl ⟨rfl, rfl⟩, Below.refl _ _⟩
  · clear h
    obtain ⟨n, hn⟩ : ∃ n, n = zs.length := ⟨_, rfl⟩
    have HN : Hid (n = zs.length) := hn
    rw [← hn] at hpos hlim hc ⊢
    clear hn
    go_enter Tryz.func90, Tryz.ntmps90
    go_wp2
    go_loopw [8] (fun i wr => ∃ k : Nat, k ≤ n ∧ i = .int .i64 k ∧ Hid (∀ j, j < k → decide (0 ≤ x ∧ x < ((zs.getD j ([], 0)).1.length : Int)) = true) ∧ Hid (Below w.heap.size w wr)) (fun i _ => n - (intOf i).toNat)
    case atStart => exact ⟨0, Nat.zero_le _, rfl, fun j hj => by omega, Below.refl _ _⟩
    case round =>
      obtain ⟨k, hk, rfl, HA, HW⟩ := hrel
      by_cases hlt : k < n
      · have HB := HW.out
        have hlt' : k < zs.length := by rw [← HN.out]; exact hlt
        obtain ⟨rv, hrv0, hwt0, hix0⟩ := hc k hlt
        have hrv := (HB.cell (p := ⟨b, off + k * 2, none⟩) hbw).trans hrv0
        have hwt := (HB.cell (p := ⟨b, off + k * 2 + 1, none⟩) hbw).trans hwt0
        have hxw := (HB.cell (p := ⟨g, 0, none⟩) hg).trans hx
        have hgw : g < wr.heap.size := Nat.lt_of_lt_of_le hg HB.size
        obtain ⟨_, ra, rc, rfl, _⟩ := hix0
        have hmiss := has_miss (x := x) hlt'
        obtain ⟨m, HM⟩ : ∃ m, Hid (m = (zs.getD k ([], 0)).1.length) := ⟨_, rfl⟩
        obtain ⟨y, HY⟩ : ∃ y, Hid (y = (zs.getD k ([], 0)).2) := ⟨_, rfl⟩
        rw [← HM.out] at hrv hmiss
        rw [← HY.out] at hwt
        clear hrv0 hwt0 hc
        obtain ⟨d, HD⟩ : ∃ d, Hid (d = decide (0 ≤ x ∧ x < (m : Int))) := ⟨_, rfl⟩
        rw [← HD.out] at hmiss
        go_wp2_with fail
        refine (lacks_any ra m rc y x g _ hgw hxw).mono ?_
        rw [← HD.out]
        rintro e w2 ⟨rfl, hb2⟩
        have HK : Hid (Below w.heap.size w w2) := below_then HB hb2
        clear hb2 hrv hwt hxw HB
        cases hd : d with
        | false =>
          have HF : Hid (hasAt x zs = false) := hmiss hd
          subst hd
          clear hmiss
          go_wp2
          go_ret
          exact ⟨k, rfl, .inr ⟨by omega, HF.out⟩, HK.out⟩
        | true =>
          have HA2 : Hid (∀ j, j < k + 1 → decide (0 ≤ x ∧ x < ((zs.getD j ([], 0)).1.length : Int)) = true) := fun j hj => by
            rcases Nat.lt_succ_iff_lt_or_eq.1 hj with h | h
            · exact HA.out j h
            · rw [h, ← HM.out, ← HD.out, hd]
          subst hd
          clear hmiss
          go_wp2
          go_roundw
          case rel => exact ⟨k + 1, by omega, by go_num, HA2.out, HK.out⟩
          case measure => simp [intOf]; omega
      · have e : k = n := by omega
        subst e
        clear hc
        go_wp2
        go_ret
        exact ⟨-1, rfl, .inl ⟨rfl, has_all (fun j hj => HA.out j (by rw [HN.out]; exact hj))⟩, HW.out⟩

set_option maxHeartbeats 1000000 in
theorem allHave_any (v : Value) (zs : List It) (x : Int) (w : World) (h : ItemsAt w v zs) :
    Calls Tryz.prog 49 #[v, .int .i64 x] w fun e w' => e = .returned (.bool (hasAt x zs)) ∧ Below w.heap.size w w' := by
  have hA : ItemsAt (w.alloc (.cells #[.int .i64 x] 3)) v zs := h.below (below_alloc _)
  have hcon := indexHave_any v zs x w.heap.size (w.alloc (.cells #[.int .i64 x] 3)) hA (by simp) (by simp [go_sem])
  clear h hA
  have hcon2 : Calls Tryz.prog 71 #[v, .func (.func 72) #[] #[.pointer (some ⟨w.heap.size, 0, none⟩)]] (w.alloc (.cells #[.int .i64 x] 3)) fun e w' => e = .returned (.bool (!hasAt x zs)) ∧ Below w.heap.size w w' := by
    go_enter Tryz.func71, Tryz.ntmps71
    go_wp2_with fail
    refine hcon.mono ?_
    rintro e w1 ⟨i, rfl, hi, hb1⟩
    have HK : Hid (Below w.heap.size w w1) := below_then (below_alloc _) hb1
    clear hb1
    rcases hi with ⟨rfl, hh⟩ | ⟨hi0, hh⟩
    · have HH : Hid (hasAt x zs = true) := hh
      clear hh
      go_wp2
      go_ret
      exact ⟨by rw [HH.out]; rfl, HK.out⟩
    · have HH : Hid (hasAt x zs = false) := hh
      clear hh
      go_wp2
      go_ret
      exact ⟨by rw [HH.out]; rfl, HK.out⟩
  clear hcon
  obtain ⟨d, HD⟩ : ∃ d, Hid (d = hasAt x zs) := ⟨_, rfl⟩
  rw [← HD.out] at hcon2 ⊢
  go_enter Tryz.func49, Tryz.ntmps49
  go_wp2_with fail
  refine hcon2.mono ?_
  rintro e w1 ⟨rfl, hb1⟩
  have HK : Hid (Below w.heap.size w w1) := hb1
  clear hb1 hcon2
  go_wp2
  go_ret
  exact ⟨by simp, HK.out⟩

end Go.Proofs.YtflbdfpgaeeleaaGreatDoor
