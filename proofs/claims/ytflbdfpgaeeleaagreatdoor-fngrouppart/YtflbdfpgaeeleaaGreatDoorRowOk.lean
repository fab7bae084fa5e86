/-
  The contracts of spec.RowOk and impl.RowOk, and of their tests of a cell: both answer rowOkB, at every int slice.
-/
import Derived.Test.YtflbdfpgaeeleaaGreatDoorTextMath
namespace Go.Proofs.YtflbdfpgaeeleaaGreatDoor
open Go.RowKit


theorem cellB_yes {n : Int} (h1 : -1000000000 ≤ n) (h2 : n ≤ 1000000000) : cellB n = true := by simp [cellB, h1, h2]
theorem cellB_no {n : Int} (h : ¬ (-1000000000 ≤ n ∧ n ≤ 1000000000)) : cellB n = false := by simp only [cellB, h, decide_false]

theorem l1Cell_any (n : Int) (w : World) : Calls Tryz.prog 31 #[.int .i64 n] w fun e w' => e = .returned (.bool (cellB n)) ∧ w' = w := by
  by_cases h1 : -1000000000 ≤ n
  · by_cases h2 : n ≤ 1000000000
    · go_enter Tryz.func31, Tryz.ntmps31
      go_wp2
      go_ret
      exact ⟨ret_bool (cellB_yes h1 h2).symm, rfl⟩
    · go_enter Tryz.func31, Tryz.ntmps31
      go_wp2
      go_ret
      exact ⟨ret_bool (cellB_no (by omega)).symm, rfl⟩
  · go_enter Tryz.func31, Tryz.ntmps31
    go_wp2
    go_ret
    exact ⟨ret_bool (cellB_no (by omega)).symm, rfl⟩

theorem cellFits_any (n : Int) (w : World) : Calls Tryz.prog 21 #[.int .i64 n] w fun e w' => e = .returned (.bool (cellB n)) ∧ w' = w := by
  by_cases h1 : -1000000000 ≤ n
  · by_cases h2 : n ≤ 1000000000
    · go_enter Tryz.func21, Tryz.ntmps21
      go_wp2
      go_ret
      exact ⟨ret_bool (cellB_yes h1 h2).symm, rfl⟩
    · go_enter Tryz.func21, Tryz.ntmps21
      go_wp2
      go_ret
      exact ⟨ret_bool (cellB_no (by omega)).symm, rfl⟩
  · go_enter Tryz.func21, Tryz.ntmps21
    go_wp2
    go_ret
    exact ⟨ret_bool (cellB_no (by omega)).symm, rfl⟩

theorem all_step {xs : List Int} {k : Nat} (hk : k < xs.length) (h : (xs.take k).all cellB = true) (hc : cellB (xs.getD k 0) = true) : (xs.take (k + 1)).all cellB = true := by
  rw [List.take_succ_eq_append_getElem hk, List.all_append, h]
  simpa [List.getD, hk] using hc
theorem all_miss {xs : List Int} {k : Nat} (hk : k < xs.length) (hc : cellB (xs.getD k 0) = false) : rowOkB xs = false := by
  have h : xs.all cellB = false := by
    rw [List.all_eq_false]
    exact ⟨xs[k], List.getElem_mem hk, by simpa [List.getD, hk] using hc⟩
  simp [rowOkB, h]
theorem ok_all {xs : List Int} (h1 : 1 ≤ xs.length) (h6 : xs.length ≤ 6) (h : (xs.take xs.length).all cellB = true) : rowOkB xs = true := by
  rw [List.take_length] at h
  simp [rowOkB, h1, h6, h]
theorem ok_wide {xs : List Int} (h6 : ¬ xs.length ≤ 6) : rowOkB xs = false := by simp [rowOkB, h6]

set_option maxHeartbeats 1000000 in
theorem specRowOk_some (b off cap : Nat) (xs : List Int) (w : World) (hpos : 0 < xs.length) (hlim : xs.length ≤ 140737488355328)
    (hc : ∀ j, j < xs.length → w.cell? ⟨b, off + j, none⟩ = some (.int .i64 (xs.getD j 0))) :
    Calls Tryz.prog 55 #[.slice (some ⟨b, off, none⟩) xs.length cap] w fun e w' => e = .returned (.bool (rowOkB xs)) ∧ w' = w := by
  obtain ⟨n, hn⟩ : ∃ n, n = xs.length := ⟨_, rfl⟩
  have HN : Hid (n = xs.length) := hn
  rw [← hn] at hpos hlim hc ⊢
  clear hn
  go_enter Tryz.func55, Tryz.ntmps55
  go_wp2
  go_loop [3] (fun i => ∃ k : Nat, k ≤ n ∧ i = .int .i64 k ∧ Hid ((xs.take k).all cellB = true)) (fun i => n - (intOf i).toNat)
  case atStart => exact ⟨0, Nat.zero_le _, rfl, by simp [Hid]⟩
  case round =>
    obtain ⟨k, hk, rfl, hall⟩ := hrel
    by_cases hlt : k < n
    · have hx := hc k hlt
      clear hc
      obtain ⟨x, HX⟩ : ∃ x, Hid (x = xs.getD k 0) := ⟨_, rfl⟩
      rw [← HX.out] at hx
      cases hcb : cellB x with
      | true =>
        go_wp2_with (go_at_call 31; refine (l1Cell_any _ _).mono ?_; rintro e w' ⟨rfl, rfl⟩)
        go_round
        case rel => exact ⟨k + 1, by omega, by go_num, all_step (by rw [← HN.out]; exact hlt) hall.out (by rw [← HX.out]; exact hcb)⟩
        case measure => simp [intOf]; omega
      | false =>
        go_wp2_with (go_at_call 31; refine (l1Cell_any _ _).mono ?_; rintro e w' ⟨rfl, rfl⟩)
        go_ret
        exact ⟨ret_bool (all_miss (by rw [← HN.out]; exact hlt) (by rw [← HX.out]; exact hcb)).symm, rfl⟩
    · have e : k = n := by omega
      subst e
      by_cases h6 : k ≤ 6
      · go_wp2
        go_ret
        exact ⟨ret_bool ((decide_eq_true (by omega)).trans (ok_all (by rw [← HN.out]; omega) (by rw [← HN.out]; omega) (by rw [← HN.out]; exact hall.out)).symm), rfl⟩
      · go_wp2
        go_ret
        exact ⟨ret_bool ((decide_eq_false (by omega)).trans (ok_wide (by rw [← HN.out]; omega)).symm), rfl⟩

theorem specRowOk_none (a : Option Addr) (cap : Nat) (w : World) :
    Calls Tryz.prog 55 #[.slice a 0 cap] w fun e w' => e = .returned (.bool (rowOkB [])) ∧ w' = w := by
  go_enter Tryz.func55, Tryz.ntmps55
  go_wp2
  refine wp_loop_rounds 1 ?_
  rw [rounds_succ]
  go_wp2
  go_ret
  exact ⟨rfl, rfl⟩

theorem specRowOk_any (v : Value) (xs : List Int) (w : World) (h : IntsAt w v xs) :
    Calls Tryz.prog 55 #[v] w fun e w' => e = .returned (.bool (rowOkB xs)) ∧ w' = w := by
  rcases h.cases with ⟨a, cap, rfl, rfl⟩ | ⟨b, off, cap, hpos, hlim, rfl, hbw, hc⟩
  · exact specRowOk_none a cap w
  · exact specRowOk_some b off cap xs w hpos hlim hc

set_option maxHeartbeats 1000000 in
theorem implRowOk_some (b off cap : Nat) (xs : List Int) (w : World) (hpos : 0 < xs.length) (hlim : xs.length ≤ 140737488355328)
    (hc : ∀ j, j < xs.length → w.cell? ⟨b, off + j, none⟩ = some (.int .i64 (xs.getD j 0))) :
    Calls Tryz.prog 43 #[.slice (some ⟨b, off, none⟩) xs.length cap] w fun e w' => e = .returned (.bool (rowOkB xs)) ∧ w' = w := by
  obtain ⟨n, hn⟩ : ∃ n, n = xs.length := ⟨_, rfl⟩
  have HN : Hid (n = xs.length) := hn
  rw [← hn] at hpos hlim hc ⊢
  clear hn
  by_cases h6 : n ≤ 6
  · go_enter Tryz.func43, Tryz.ntmps43
    go_wp2
    go_loop [15] (fun i => ∃ k : Nat, k ≤ n ∧ i = .int .i64 k ∧ Hid ((xs.take k).all cellB = true)) (fun i => n - (intOf i).toNat)
    case atStart => exact ⟨0, Nat.zero_le _, rfl, by simp [Hid]⟩
    case round =>
      obtain ⟨k, hk, rfl, hall⟩ := hrel
      by_cases hlt : k < n
      · have hx := hc k hlt
        clear hc
        obtain ⟨x, HX⟩ : ∃ x, Hid (x = xs.getD k 0) := ⟨_, rfl⟩
        rw [← HX.out] at hx
        cases hcb : cellB x with
        | true =>
          go_wp2_with (go_at_call 21; refine (cellFits_any _ _).mono ?_; rintro e w' ⟨rfl, rfl⟩)
          go_round
          case rel => exact ⟨k + 1, by omega, by go_num, all_step (by rw [← HN.out]; exact hlt) hall.out (by rw [← HX.out]; exact hcb)⟩
          case measure => simp [intOf]; omega
        | false =>
          go_wp2_with (go_at_call 21; refine (cellFits_any _ _).mono ?_; rintro e w' ⟨rfl, rfl⟩)
          go_ret
          exact ⟨ret_bool (all_miss (by rw [← HN.out]; exact hlt) (by rw [← HX.out]; exact hcb)).symm, rfl⟩
      · have e : k = n := by omega
        subst e
        go_wp2
        go_ret
        exact ⟨ret_bool (ok_all (by rw [← HN.out]; omega) (by rw [← HN.out]; omega) (by rw [← HN.out]; exact hall.out)).symm, rfl⟩
  · go_enter Tryz.func43, Tryz.ntmps43
    go_wp2
    go_ret
    exact ⟨ret_bool (ok_wide (by rw [← HN.out]; omega)).symm, rfl⟩

theorem implRowOk_none (a : Option Addr) (cap : Nat) (w : World) :
    Calls Tryz.prog 43 #[.slice a 0 cap] w fun e w' => e = .returned (.bool (rowOkB [])) ∧ w' = w := by
  go_enter Tryz.func43, Tryz.ntmps43
  go_wp2
  go_ret
  exact ⟨rfl, rfl⟩

theorem implRowOk_any (v : Value) (xs : List Int) (w : World) (h : IntsAt w v xs) :
    Calls Tryz.prog 43 #[v] w fun e w' => e = .returned (.bool (rowOkB xs)) ∧ w' = w := by
  rcases h.cases with ⟨a, cap, rfl, rfl⟩ | ⟨b, off, cap, hpos, hlim, rfl, hbw, hc⟩
  · exact implRowOk_none a cap w
  · exact implRowOk_some b off cap xs w hpos hlim hc

end Go.Proofs.YtflbdfpgaeeleaaGreatDoor
