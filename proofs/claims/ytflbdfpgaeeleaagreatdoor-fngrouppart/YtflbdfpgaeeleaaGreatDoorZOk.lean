/-
  The contracts of spec.ZOk and impl.ZOk: both answer zOkB, at all items.
-/
import Derived.Test.YtflbdfpgaeeleaaGreatDoorItems
namespace Go.Proofs.YtflbdfpgaeeleaaGreatDoor
open Go.RowKit


theorem specRowOk_val {v : Value} {xs : List Int} {c : Bool} (hr : rowOkB xs = c) {w : World} (h : IntsAt w v xs) : Calls Tryz.prog 55 #[v] w fun e w' => e = .returned (.bool c) ∧ w' = w := hr ▸ specRowOk_any v xs w h
theorem implRowOk_val {v : Value} {xs : List Int} {c : Bool} (hr : rowOkB xs = c) {w : World} (h : IntsAt w v xs) : Calls Tryz.prog 43 #[v] w fun e w' => e = .returned (.bool c) ∧ w' = w := hr ▸ implRowOk_any v xs w h
theorem specRowLess_val {v v2 : Value} {xs ys : List Int} {c : Bool} (hr : rowLessB xs ys = c) {w : World} (h : IntsAt w v xs) (h2 : IntsAt w v2 ys) : Calls Tryz.prog 57 #[v, v2] w fun e w' => e = .returned (.bool c) ∧ Drew w w' := hr ▸ specRowLess_q v v2 xs ys w h h2
theorem implRowLess_val {v v2 : Value} {xs ys : List Int} {c : Bool} (hr : rowLessB xs ys = c) {w : World} (h : IntsAt w v xs) (h2 : IntsAt w v2 ys) : Calls Tryz.prog 45 #[v, v2] w fun e w' => e = .returned (.bool c) ∧ Drew w w' := hr ▸ implRowLess_q v v2 xs ys w h h2
theorem l2W_val {n : Int} {c : Bool} (hr : wB n = c) {w : World} : Calls Tryz.prog 56 #[.int .i64 n] w fun e w' => e = .returned (.bool c) ∧ w' = w := hr ▸ l2W_any n w
theorem weightFits_val {n : Int} {c : Bool} (hr : wB n = c) {w : World} : Calls Tryz.prog 44 #[.int .i64 n] w fun e w' => e = .returned (.bool c) ∧ w' = w := hr ▸ weightFits_any n w

set_option maxHeartbeats 2000000 in
theorem specZOk_some (b off cap : Nat) (zs : List It) (w : World) (hpos : 0 < zs.length) (hlim : zs.length ≤ 140737488355328) (hbw : b < w.heap.size)
    (hc : ∀ j, j < zs.length → ∃ rv, w.cell? ⟨b, off + j * 2, none⟩ = some rv ∧ w.cell? ⟨b, off + j * 2 + 1, none⟩ = some (.int .i64 (zs.getD j ([], 0)).2) ∧ IntsAt w rv (zs.getD j ([], 0)).1) :
    Calls Tryz.prog 25 #[.slice (some ⟨b, off, none⟩) zs.length cap] w fun e w' => e = .returned (.bool (zOkB zs)) ∧ Drew w w' := by
  obtain ⟨n, hn⟩ : ∃ n, n = zs.length := ⟨_, rfl⟩
  have HN : Hid (n = zs.length) := hn
  rw [← hn] at hpos hlim hc ⊢
  clear hn
  by_cases h100 : n ≤ 100
  · go_enter Tryz.func25, Tryz.ntmps25
    go_wp2
    go_loopw [3] (fun i wr => ∃ k : Nat, k ≤ n ∧ i = .int .i64 k ∧ Hid (Drew w wr) ∧ Hid (∀ j, j < k → stepB zs j = true)) (fun i _ => n - (intOf i).toNat)
    case atStart => exact ⟨0, Nat.zero_le _, rfl, Drew.refl _, fun j hj => by omega⟩
    case round =>
      obtain ⟨k, hk, rfl, HW, HS⟩ := hrel
      by_cases hlt : k < n
      · have HB := HW.out.below
        obtain ⟨rv, hrv0, hwt0, hix0⟩ := hc k hlt
        have hrv := (HB.cell (p := ⟨b, off + k * 2, none⟩) hbw).trans hrv0
        have hwt := (HB.cell (p := ⟨b, off + k * 2 + 1, none⟩) hbw).trans hwt0
        have hix := hix0.below HB
        clear hrv0 hwt0 hix0
        obtain ⟨x, HX⟩ : ∃ x, Hid (x = (zs.getD k ([], 0)).1) := ⟨_, rfl⟩
        obtain ⟨y, HY⟩ : ∃ y, Hid (y = (zs.getD k ([], 0)).2) := ⟨_, rfl⟩
        rw [← HX.out] at hix
        rw [← HY.out] at hwt
        cases hr : rowOkB x with
        | false =>
          clear hc HB
          go_wp2
          go_quiet (first | (go_at_call 55; exact Calls.quiet_of_same (specRowOk_val hr (hix.drewN _))))
          go_wp2
          go_ret
          exact ⟨ret_bool (zOk_miss (by rw [← HN.out]; exact hlt) (by unfold stepB; rw [← HX.out, hr]; rfl)).symm, HW.out.more _⟩
        | true =>
          cases hw : wB y with
          | false =>
            clear hc HB
            go_wp2
            go_quiet (first | (go_at_call 55; exact Calls.quiet_of_same (specRowOk_val hr (hix.drewN _))) | (go_at_call 56; exact Calls.quiet_of_same (l2W_val hw)))
            go_wp2
            go_ret
            exact ⟨ret_bool (zOk_miss (by rw [← HN.out]; exact hlt) (by unfold stepB; rw [← HY.out, hw, Bool.and_false]; rfl)).symm, HW.out.more _⟩
          | true =>
            by_cases hk0 : k = 0
            · have HK : Hid (k = 0) := hk0
              have hd : decide (0 < k) = false := by rw [decide_eq_false_iff_not]; omega
              clear hc HB hk0
              go_wp2
              go_quiet (first | (go_at_call 55; exact Calls.quiet_of_same (specRowOk_val hr (hix.drewN _))) | (go_at_call 56; exact Calls.quiet_of_same (l2W_val hw)))
              go_wp2
              go_roundw
              case rel => exact ⟨k + 1, by omega, by go_num, HW.out.more _, fun j hj => by
                obtain rfl : j = k := by have := HK.out; omega
                unfold stepB; rw [← HX.out, ← HY.out, hr, hw, HK.out]; rfl⟩
              case measure => simp [intOf]; omega
            · obtain ⟨p, rfl⟩ : ∃ p, k = p + 1 := ⟨k - 1, by omega⟩
              obtain ⟨rv', hrv0', _, hix0'⟩ := hc p (by omega)
              have hrv' := (HB.cell (p := ⟨b, off + p * 2, none⟩) hbw).trans hrv0'
              have hix' := hix0'.below HB
              clear hrv0' hix0' hc HB
              obtain ⟨x', HX'⟩ : ∃ x, Hid (x = (zs.getD p ([], 0)).1) := ⟨_, rfl⟩
              rw [← HX'.out] at hix'
              cases hle : rowLessB x' x with
              | false =>
                go_wp2
                go_quiet (first | (go_at_call 55; exact Calls.quiet_of_same (specRowOk_val hr (hix.drewN _))) | (go_at_call 56; exact Calls.quiet_of_same (l2W_val hw)) | (go_at_call 57; exact Calls.quiet_of (specRowLess_val hle (hix'.drewN _) (hix.drewN _))))
                go_wp2
                go_ret
                exact ⟨ret_bool (zOk_miss (by rw [← HN.out]; exact hlt) (by unfold stepB; rw [Nat.add_sub_cancel, ← HX.out, ← HX'.out, hle]; simp)).symm, HW.out.more _⟩
              | true =>
                go_wp2
                go_quiet (first | (go_at_call 55; exact Calls.quiet_of_same (specRowOk_val hr (hix.drewN _))) | (go_at_call 56; exact Calls.quiet_of_same (l2W_val hw)) | (go_at_call 57; exact Calls.quiet_of (specRowLess_val hle (hix'.drewN _) (hix.drewN _))))
                go_wp2
                go_roundw
                case rel => exact ⟨p + 1 + 1, by omega, by go_num, HW.out.more _, fun j hj => by
                  rcases Nat.lt_succ_iff_lt_or_eq.1 hj with h | h
                  · exact HS.out j h
                  · subst h; unfold stepB; rw [Nat.add_sub_cancel, ← HX.out, ← HY.out, ← HX'.out, hr, hw, hle]; simp⟩
                case measure => simp [intOf]; omega
      · have e : k = n := by omega
        subst e
        clear hc
        go_wp2
        go_ret
        exact ⟨ret_bool (zOk_all (by rw [← HN.out]; exact h100) (by rw [← HN.out]; exact HS.out)).symm, HW.out⟩
  · go_enter Tryz.func25, Tryz.ntmps25
    go_wp2
    go_ret
    exact ⟨ret_bool (zOk_len (by rw [← HN.out]; exact h100)).symm, Drew.refl _⟩

theorem specZOk_none (a : Option Addr) (cap : Nat) (w : World) :
    Calls Tryz.prog 25 #[.slice a 0 cap] w fun e w' => e = .returned (.bool (zOkB [])) ∧ Drew w w' := by
  go_enter Tryz.func25, Tryz.ntmps25
  go_wp2
  refine wp_loop_rounds 1 ?_
  rw [rounds_succ]
  go_wp2
  go_ret
  exact ⟨rfl, Drew.refl _⟩

theorem specZOk_any (v : Value) (zs : List It) (w : World) (h : ItemsAt w v zs) :
    Calls Tryz.prog 25 #[v] w fun e w' => e = .returned (.bool (zOkB zs)) ∧ Drew w w' := by
  rcases h.cases with ⟨a, cap, rfl, rfl⟩ | ⟨b, off, cap, hpos, hlim, rfl, hbw, hc⟩
  · exact specZOk_none a cap w
  · exact specZOk_some b off cap zs w hpos hlim hbw hc


set_option maxHeartbeats 2000000 in
theorem implZOk_some (b off cap : Nat) (zs : List It) (w : World) (hpos : 0 < zs.length) (hlim : zs.length ≤ 140737488355328) (hbw : b < w.heap.size)
    (hc : ∀ j, j < zs.length → ∃ rv, w.cell? ⟨b, off + j * 2, none⟩ = some rv ∧ w.cell? ⟨b, off + j * 2 + 1, none⟩ = some (.int .i64 (zs.getD j ([], 0)).2) ∧ IntsAt w rv (zs.getD j ([], 0)).1) :
    Calls Tryz.prog 17 #[.slice (some ⟨b, off, none⟩) zs.length cap] w fun e w' => e = .returned (.bool (zOkB zs)) ∧ Below w.heap.size w w' := by
  obtain ⟨n, hn⟩ : ∃ n, n = zs.length := ⟨_, rfl⟩
  have HN : Hid (n = zs.length) := hn
  rw [← hn] at hpos hlim hc ⊢
  clear hn
  by_cases h100 : n ≤ 100
  · go_enter Tryz.func17, Tryz.ntmps17
    go_wp2
    go_loopw [10] (fun i wr => ∃ k : Nat, k ≤ n ∧ i = .int .i64 k ∧ Hid (Below w.heap.size w wr) ∧ Hid (∀ j, j < k → stepB zs j = true)) (fun i _ => n - (intOf i).toNat)
    case atStart => exact ⟨0, Nat.zero_le _, rfl, Below.refl _ _, fun j hj => by omega⟩
    case round =>
      obtain ⟨k, hk, rfl, HW, HS⟩ := hrel
      by_cases hlt : k < n
      · have HB := HW.out
        obtain ⟨rv, hrv0, hwt0, hix0⟩ := hc k hlt
        have hrv := (HB.cell (p := ⟨b, off + k * 2, none⟩) hbw).trans hrv0
        have hwt := (HB.cell (p := ⟨b, off + k * 2 + 1, none⟩) hbw).trans hwt0
        have hix := hix0.below HB
        have hbr : b < wr.heap.size := Nat.lt_of_lt_of_le hbw HB.size
        clear hrv0 hwt0 hix0
        obtain ⟨x, HX⟩ : ∃ x, Hid (x = (zs.getD k ([], 0)).1) := ⟨_, rfl⟩
        obtain ⟨y, HY⟩ : ∃ y, Hid (y = (zs.getD k ([], 0)).2) := ⟨_, rfl⟩
        rw [← HX.out] at hix
        rw [← HY.out] at hwt
        obtain ⟨ra, rn, rc, rfl⟩ := hix.shape
        cases hr : rowOkB x with
        | false =>
          clear hc HB
          go_wp2_with (go_at_call 43; refine (implRowOk_val hr (hix.alloc _)).mono ?_; rintro e w' ⟨rfl, rfl⟩)
          go_ret
          exact ⟨ret_bool (zOk_miss (by rw [← HN.out]; exact hlt) (by unfold stepB; rw [← HX.out, hr]; rfl)).symm, below_then HW.out (below_alloc _)⟩
        | true =>
          cases hw : wB y with
          | false =>
            clear hc HB
            go_wp2_with (first | (go_at_call 43; refine (implRowOk_val hr (hix.alloc _)).mono ?_; rintro e w' ⟨rfl, rfl⟩) | (go_at_call 44; refine (weightFits_val hw).mono ?_; rintro e w' ⟨rfl, rfl⟩))
            go_ret
            exact ⟨ret_bool (zOk_miss (by rw [← HN.out]; exact hlt) (by unfold stepB; rw [← HY.out, hw, Bool.and_false]; rfl)).symm, below_then HW.out (below_alloc _)⟩
          | true =>
            by_cases hk0 : k = 0
            · have HK : Hid (k = 0) := hk0
              have hd : decide (0 < k) = false := by rw [decide_eq_false_iff_not]; omega
              clear hc HB hk0
              go_wp2_with (first | (go_at_call 43; refine (implRowOk_val hr (hix.alloc _)).mono ?_; rintro e w' ⟨rfl, rfl⟩) | (go_at_call 44; refine (weightFits_val hw).mono ?_; rintro e w' ⟨rfl, rfl⟩))
              go_quiet (fail)
              go_wp2
              go_roundw
              case rel => exact ⟨k + 1, by omega, by go_num, below_then HW.out (below_then (below_alloc _) (below_drewN (Below.refl _ _) _)), fun j hj => by
                obtain rfl : j = k := by have := HK.out; omega
                unfold stepB; rw [← HX.out, ← HY.out, hr, hw, HK.out]; rfl⟩
              case measure => simp [intOf]; omega
            · obtain ⟨p, rfl⟩ : ∃ p, k = p + 1 := ⟨k - 1, by omega⟩
              obtain ⟨rv', hrv0', _, hix0'⟩ := hc p (by omega)
              have hrv' := (HB.cell (p := ⟨b, off + p * 2, none⟩) hbw).trans hrv0'
              have hix' := hix0'.below HB
              clear hrv0' hix0' hc HB
              obtain ⟨x', HX'⟩ : ∃ x, Hid (x = (zs.getD p ([], 0)).1) := ⟨_, rfl⟩
              rw [← HX'.out] at hix'
              cases hle : rowLessB x' x with
              | false =>
                go_wp2_with (first | (go_at_call 43; refine (implRowOk_val hr (hix.alloc _)).mono ?_; rintro e w' ⟨rfl, rfl⟩) | (go_at_call 44; refine (weightFits_val hw).mono ?_; rintro e w' ⟨rfl, rfl⟩))
                go_quiet (first | (go_at_call 45; exact Calls.quiet_of (implRowLess_val hle ((hix'.alloc _).drewN _) ((hix.alloc _).drewN _))))
                go_wp2
                go_ret
                exact ⟨ret_bool (zOk_miss (by rw [← HN.out]; exact hlt) (by unfold stepB; rw [Nat.add_sub_cancel, ← HX.out, ← HX'.out, hle]; simp)).symm, below_then HW.out (below_then (below_alloc _) (below_drewN (Below.refl _ _) _))⟩
              | true =>
                go_wp2_with (first | (go_at_call 43; refine (implRowOk_val hr (hix.alloc _)).mono ?_; rintro e w' ⟨rfl, rfl⟩) | (go_at_call 44; refine (weightFits_val hw).mono ?_; rintro e w' ⟨rfl, rfl⟩))
                go_quiet (first | (go_at_call 45; exact Calls.quiet_of (implRowLess_val hle ((hix'.alloc _).drewN _) ((hix.alloc _).drewN _))))
                go_wp2
                go_roundw
                case rel => exact ⟨p + 1 + 1, by omega, by go_num, below_then HW.out (below_then (below_alloc _) (below_drewN (Below.refl _ _) _)), fun j hj => by
                  rcases Nat.lt_succ_iff_lt_or_eq.1 hj with h | h
                  · exact HS.out j h
                  · subst h; unfold stepB; rw [Nat.add_sub_cancel, ← HX.out, ← HY.out, ← HX'.out, hr, hw, hle]; simp⟩
                case measure => simp [intOf]; omega
      · have e : k = n := by omega
        subst e
        clear hc
        go_wp2
        go_ret
        exact ⟨ret_bool (zOk_all (by rw [← HN.out]; exact h100) (by rw [← HN.out]; exact HS.out)).symm, HW.out⟩
  · go_enter Tryz.func17, Tryz.ntmps17
    go_wp2
    go_ret
    exact ⟨ret_bool (zOk_len (by rw [← HN.out]; exact h100)).symm, Below.refl _ _⟩

theorem implZOk_none (a : Option Addr) (cap : Nat) (w : World) :
    Calls Tryz.prog 17 #[.slice a 0 cap] w fun e w' => e = .returned (.bool (zOkB [])) ∧ Below w.heap.size w w' := by
  go_enter Tryz.func17, Tryz.ntmps17
  go_wp2
  refine wp_loop_rounds 1 ?_
  rw [rounds_succ]
  go_wp2
  go_ret
  exact ⟨rfl, Below.refl _ _⟩

theorem implZOk_any (v : Value) (zs : List It) (w : World) (h : ItemsAt w v zs) :
    Calls Tryz.prog 17 #[v] w fun e w' => e = .returned (.bool (zOkB zs)) ∧ Below w.heap.size w w' := by
  rcases h.cases with ⟨a, cap, rfl, rfl⟩ | ⟨b, off, cap, hpos, hlim, rfl, hbw, hc⟩
  · exact implZOk_none a cap w
  · exact implZOk_some b off cap zs w hpos hlim hbw hc

end Go.Proofs.YtflbdfpgaeeleaaGreatDoor
