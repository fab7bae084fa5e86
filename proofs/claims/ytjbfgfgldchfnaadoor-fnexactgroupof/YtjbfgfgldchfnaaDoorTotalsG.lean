/-
  The contracts of the totals of a group (impl.countTotal, sumTotal, leastTotal, mostTotal), spec.l5Agg, impl.cellFits and spec.l1Cell.
-/
import Derived.Test.YtjbfgfgldchfnaaDoorGroupMath
import Derived.Test.YtjbfgfgldchfnaaDoorKeys
namespace Go.Proofs.YtjbfgfgldchfnaaDoor
set_option maxRecDepth 100000
open Go.RowKit
attribute [local go_sem ↓] Go.wp_at_zero Go.wp_at_succ

theorem reti {a b : Int} (h : a = b) : Ending.returned (.int .i64 a) = Ending.returned (.int .i64 b) := by rw [h]
theorem nil_of_len {g : List It} (h : ¬ 0 < g.length) : g = [] := List.length_eq_zero_iff.1 (by omega)
theorem upto_one {col : Nat} {g : List It} {k : Nat} (hk : k < g.length) : leastC col (g.take (max (k + 1) 1)) = min (leastC col (g.take (max k 1))) ((g.getD k ([], 0)).1.getD col 0) := by
  rcases Nat.eq_zero_or_pos k with h | h
  · subst h
    show leastC col (g.take 1) = min (leastC col (g.take 1)) _
    rw [least_one hk]; omega
  · rw [show max (k + 1) 1 = k + 1 by omega, show max k 1 = k by omega, least_step hk h]
theorem upto_oneM {col : Nat} {g : List It} {k : Nat} (hk : k < g.length) : mostC col (g.take (max (k + 1) 1)) = max (mostC col (g.take (max k 1))) ((g.getD k ([], 0)).1.getD col 0) := by
  rcases Nat.eq_zero_or_pos k with h | h
  · subst h
    show mostC col (g.take 1) = max (mostC col (g.take 1)) _
    rw [most_one hk]; omega
  · rw [show max (k + 1) 1 = k + 1 by omega, show max k 1 = k by omega, most_step hk h]
theorem ints_at {w : World} {rv : Value} {x : List Int} (h : IntsAt w rv x) {col : Nat} (hc : col < x.length) : ∃ b off cap, rv = .slice (some ⟨b, off, none⟩) x.length cap ∧ b < w.heap.size ∧ w.cell? ⟨b, off + col, none⟩ = some (.int .i64 (x.getD col 0)) := by
  rcases h.cases with ⟨a, cap, rfl, rfl⟩ | ⟨b, off, cap, _, _, rfl, hb, hcell⟩
  · simp at hc
  · exact ⟨b, off, cap, rfl, hb, hcell col hc⟩
set_option maxHeartbeats 4000000 in
theorem count_any (u rc : Value) (g : List It) (col : Nat) (w : World) (h : ItemsAt w u g) (hf : Fine g col) (hpos : 0 < g.length) (hrc : rc = .agg #[]) :
    Calls Tryd.prog 122 #[rc, u, .int .i64 col] w fun e w' => e = .returned (.int .i64 (cntG g)) ∧ Below w.heap.size w w' := by
  subst hrc
  rcases h.cases with ⟨a, cap, rfl, rfl⟩ | ⟨b, off, cap, _, hlim, rfl, hbw, hc⟩
  · simp at hpos
  · clear h
    obtain ⟨n, hn⟩ : ∃ n, n = g.length := ⟨_, rfl⟩
    have HN : Hid (n = g.length) := hn
    have hn100 : n ≤ 100 := by rw [hn]; exact hf.1
    rw [← hn] at hpos hlim hc ⊢
    have HF : Hid (Fine g col) := hf
    clear hn hf
    go_enter Tryd.func122, Tryd.ntmps122
    go_wp2
    go_loopw [7, 12] (fun s i wr => ∃ k : Nat, k ≤ n ∧ i = .int .i64 k ∧ s = .int .i64 (cntG (g.take k)) ∧ Hid (Below w.heap.size w wr)) (fun _ i _ => n - (intOf i).toNat)
    case atStart => exact ⟨0, Nat.zero_le _, rfl, by simp [cntG], below_alloc _⟩
    case round =>
      obtain ⟨k, hk, rfl, rfl, HW⟩ := hrel
      by_cases hlt : k < n
      · have hlt' : k < g.length := by rw [← HN.out]; exact hlt
        have HB := HW.out
        obtain ⟨rv, hrv0, hwt0, hix0⟩ := hc k hlt
        obtain ⟨b1, o1, cp1, rfl, hb1, hx0⟩ := ints_at hix0 (HF.out.at hlt').2.1
        have hrv := (HB.cell (p := ⟨b, off + k * 2, none⟩) hbw).trans hrv0
        have hwt := (HB.cell (p := ⟨b, off + k * 2 + 1, none⟩) hbw).trans hwt0
        have hx := (HB.cell (p := ⟨b1, o1 + col, none⟩) hb1).trans hx0
        have hb1r : b1 < wr.heap.size := Nat.lt_of_lt_of_le hb1 HB.size
        have hfk := HF.out.at hlt'
        have HS : Hid (cntG (g.take (k + 1)) = cntG (g.take k) + (g.getD k ([], 0)).2) := cnt_step hlt'
        have hin := cnt_in HF.out k (by omega)
        obtain ⟨m, HM⟩ : ∃ m, Hid (m = (g.getD k ([], 0)).1.length) := ⟨_, rfl⟩
        obtain ⟨y, HY⟩ : ∃ y, Hid (y = (g.getD k ([], 0)).2) := ⟨_, rfl⟩
        obtain ⟨z, HZ⟩ : ∃ z, Hid (z = (g.getD k ([], 0)).1.getD col 0) := ⟨_, rfl⟩
        obtain ⟨s0, HS0⟩ : ∃ s, Hid (s = cntG (g.take k)) := ⟨_, rfl⟩
        rw [← HM.out] at hrv hfk
        rw [← HY.out] at hwt hfk HS
        rw [← HZ.out] at hx hfk
        rw [← HS0.out] at HS hin ⊢
        clear hrv0 hwt0 hix0 hx0 hc
        have hwrap : IntKind.i64.wrap (s0 + y) = s0 + y := by rw [IntKind.wrap_i64]; omega
        go_wp2
        go_roundw
        case rel => exact ⟨k + 1, by omega, by go_num, by rw [HS.out], below_then HW.out (below_alloc _)⟩
        case measure => simp [intOf]; omega
      · obtain rfl : k = n := by omega
        have HE : Hid (cntG (g.take k) = cntG g) := by
          show _ = _
          rw [HN.out, List.take_length]
        obtain ⟨s0, HS0⟩ : ∃ s, Hid (s = cntG (g.take k)) := ⟨_, rfl⟩
        rw [← HS0.out] at HE ⊢
        clear hc
        go_wp2
        go_ret
        exact ⟨reti HE.out, HW.out⟩
set_option maxHeartbeats 4000000 in
theorem sum_any (u rc : Value) (g : List It) (col : Nat) (w : World) (h : ItemsAt w u g) (hf : Fine g col) (hpos : 0 < g.length) (hrc : rc = .agg #[]) :
    Calls Tryd.prog 123 #[rc, u, .int .i64 col] w fun e w' => e = .returned (.int .i64 (sumC col g)) ∧ Below w.heap.size w w' := by
  subst hrc
  rcases h.cases with ⟨a, cap, rfl, rfl⟩ | ⟨b, off, cap, _, hlim, rfl, hbw, hc⟩
  · simp at hpos
  · clear h
    obtain ⟨n, hn⟩ : ∃ n, n = g.length := ⟨_, rfl⟩
    have HN : Hid (n = g.length) := hn
    have hn100 : n ≤ 100 := by rw [hn]; exact hf.1
    rw [← hn] at hpos hlim hc ⊢
    have HF : Hid (Fine g col) := hf
    clear hn hf
    go_enter Tryd.func123, Tryd.ntmps123
    go_wp2
    go_loopw [7, 12] (fun s i wr => ∃ k : Nat, k ≤ n ∧ i = .int .i64 k ∧ s = .int .i64 (sumC col (g.take k)) ∧ Hid (Below w.heap.size w wr)) (fun _ i _ => n - (intOf i).toNat)
    case atStart => exact ⟨0, Nat.zero_le _, rfl, by simp [sumC], below_alloc _⟩
    case round =>
      obtain ⟨k, hk, rfl, rfl, HW⟩ := hrel
      by_cases hlt : k < n
      · have hlt' : k < g.length := by rw [← HN.out]; exact hlt
        have HB := HW.out
        obtain ⟨rv, hrv0, hwt0, hix0⟩ := hc k hlt
        obtain ⟨b1, o1, cp1, rfl, hb1, hx0⟩ := ints_at hix0 (HF.out.at hlt').2.1
        have hrv := (HB.cell (p := ⟨b, off + k * 2, none⟩) hbw).trans hrv0
        have hwt := (HB.cell (p := ⟨b, off + k * 2 + 1, none⟩) hbw).trans hwt0
        have hx := (HB.cell (p := ⟨b1, o1 + col, none⟩) hb1).trans hx0
        have hb1r : b1 < wr.heap.size := Nat.lt_of_lt_of_le hb1 HB.size
        have hfk := HF.out.at hlt'
        have HS : Hid (sumC col (g.take (k + 1)) = sumC col (g.take k) + (g.getD k ([], 0)).2 * (g.getD k ([], 0)).1.getD col 0) := sum_step hlt'
        have hin := sum_in HF.out k (by omega)
        obtain ⟨m, HM⟩ : ∃ m, Hid (m = (g.getD k ([], 0)).1.length) := ⟨_, rfl⟩
        obtain ⟨y, HY⟩ : ∃ y, Hid (y = (g.getD k ([], 0)).2) := ⟨_, rfl⟩
        obtain ⟨z, HZ⟩ : ∃ z, Hid (z = (g.getD k ([], 0)).1.getD col 0) := ⟨_, rfl⟩
        obtain ⟨s0, HS0⟩ : ∃ s, Hid (s = sumC col (g.take k)) := ⟨_, rfl⟩
        rw [← HM.out] at hrv hfk
        rw [← HY.out] at hwt hfk HS
        rw [← HZ.out] at hx hfk HS
        rw [← HS0.out] at HS hin ⊢
        clear hrv0 hwt0 hix0 hx0 hc
        have hml := mul_in (A := 1000000000) (B := 10000) hfk.2.2 hfk.1 (by omega) (by omega)
        have hcm : z * y = y * z := Int.mul_comm _ _
        have hwrap1 : IntKind.i64.wrap (z * y) = z * y := by rw [IntKind.wrap_i64]; omega
        have hwrap : IntKind.i64.wrap (s0 + z * y) = s0 + z * y := by rw [IntKind.wrap_i64]; omega
        rw [← hcm] at HS
        have hcl : col < m := hfk.2.1
        clear hcm hml
        go_wp2
        go_quiet (fail)
        go_wp2
        go_roundw
        case rel => exact ⟨k + 1, by omega, by go_num, by rw [HS.out], below_drewN (below_then HW.out (below_alloc _)) _⟩
        case measure => simp [intOf]; omega
      · obtain rfl : k = n := by omega
        have HE : Hid (sumC col (g.take k) = sumC col g) := by
          show _ = _
          rw [HN.out, List.take_length]
        obtain ⟨s0, HS0⟩ : ∃ s, Hid (s = sumC col (g.take k)) := ⟨_, rfl⟩
        rw [← HS0.out] at HE ⊢
        clear hc
        go_wp2
        go_ret
        exact ⟨reti HE.out, HW.out⟩
set_option maxHeartbeats 4000000 in
theorem least_any (u rc : Value) (g : List It) (col : Nat) (w : World) (h : ItemsAt w u g) (hf : Fine g col) (hpos : 0 < g.length) (hrc : rc = .agg #[]) :
    Calls Tryd.prog 124 #[rc, u, .int .i64 col] w fun e w' => e = .returned (.int .i64 (leastC col g)) ∧ Below w.heap.size w w' := by
  subst hrc
  rcases h.cases with ⟨a, cap, rfl, rfl⟩ | ⟨b, off, cap, _, hlim, rfl, hbw, hc⟩
  · simp at hpos
  · clear h
    obtain ⟨n, hn⟩ : ∃ n, n = g.length := ⟨_, rfl⟩
    have HN : Hid (n = g.length) := hn
    have hn100 : n ≤ 100 := by rw [hn]; exact hf.1
    rw [← hn] at hpos hlim hc ⊢
    have HF : Hid (Fine g col) := hf
    clear hn hf
    obtain ⟨rv0, d0, _, dix⟩ := hc 0 hpos
    have hp0 : 0 < g.length := by rw [← HN.out]; exact hpos
    obtain ⟨b0, o0, cp0, rfl, hb0, d1⟩ := ints_at dix (HF.out.at hp0).2.1
    have HV0 : Hid (leastC col (g.take (max 0 1)) = (g.getD 0 ([], 0)).1.getD col 0) := least_one hp0
    obtain ⟨m0, HM0⟩ : ∃ m, Hid (m = (g.getD 0 ([], 0)).1.length) := ⟨_, rfl⟩
    have hcm0 : col < m0 := by rw [HM0.out]; exact (HF.out.at hp0).2.1
    obtain ⟨v0, HV⟩ : ∃ v, Hid (v = (g.getD 0 ([], 0)).1.getD col 0) := ⟨_, rfl⟩
    rw [← HM0.out] at d0
    rw [← HV.out] at d1 HV0
    simp only [Nat.zero_mul, Nat.add_zero] at d0
    have hnI : (0 : Int) < (n : Int) := by omega
    have hbx : Below w.heap.size w (w.alloc (.cells #[] 74)) := below_alloc _
    go_enter Tryd.func124, Tryd.ntmps124
    go_wp2
    go_loopw [7, 19] (fun s i wr => ∃ k : Nat, k ≤ n ∧ i = .int .i64 k ∧ s = .int .i64 (leastC col (g.take (max k 1))) ∧ Hid (Below w.heap.size w wr)) (fun _ i _ => n - (intOf i).toNat)
    case atStart => exact ⟨0, Nat.zero_le _, rfl, by rw [HV0.out], below_alloc _⟩
    case round =>
      obtain ⟨k, hk, rfl, rfl, HW⟩ := hrel
      by_cases hlt : k < n
      · have hlt' : k < g.length := by rw [← HN.out]; exact hlt
        have HB := HW.out
        obtain ⟨rv, hrv0, hwt0, hix0⟩ := hc k hlt
        obtain ⟨b1, o1, cp1, rfl, hb1, hx0⟩ := ints_at hix0 (HF.out.at hlt').2.1
        have hrv := (HB.cell (p := ⟨b, off + k * 2, none⟩) hbw).trans hrv0
        have hwt := (HB.cell (p := ⟨b, off + k * 2 + 1, none⟩) hbw).trans hwt0
        have hx := (HB.cell (p := ⟨b1, o1 + col, none⟩) hb1).trans hx0
        have hb1r : b1 < wr.heap.size := Nat.lt_of_lt_of_le hb1 HB.size
        have hfk := HF.out.at hlt'
        have HS : Hid (leastC col (g.take (max (k + 1) 1)) = min (leastC col (g.take (max k 1))) ((g.getD k ([], 0)).1.getD col 0)) := upto_one hlt'
        have hin := hfk
        obtain ⟨m, HM⟩ : ∃ m, Hid (m = (g.getD k ([], 0)).1.length) := ⟨_, rfl⟩
        obtain ⟨y, HY⟩ : ∃ y, Hid (y = (g.getD k ([], 0)).2) := ⟨_, rfl⟩
        obtain ⟨z, HZ⟩ : ∃ z, Hid (z = (g.getD k ([], 0)).1.getD col 0) := ⟨_, rfl⟩
        obtain ⟨s0, HS0⟩ : ∃ s, Hid (s = leastC col (g.take (max k 1))) := ⟨_, rfl⟩
        rw [← HM.out] at hrv hfk
        rw [← HY.out] at hwt hfk
        rw [← HZ.out] at hx hfk HS
        rw [← HS0.out] at HS ⊢
        clear hrv0 hwt0 hix0 hx0 hc
        have hcl : col < m := hfk.2.1
        go_wp2
        go_roundw
        case rel => exact ⟨k + 1, by omega, by go_num, by rw [HS.out]; first | rfl | (simp; omega) | skip, below_then HW.out (below_alloc _)⟩
        case measure => simp [intOf]; omega
      · obtain rfl : k = n := by omega
        have HE : Hid (leastC col (g.take (max k 1)) = leastC col g) := by
          show _ = _
          rw [show max k 1 = k by omega, HN.out, List.take_length]
        obtain ⟨s0, HS0⟩ : ∃ s, Hid (s = leastC col (g.take (max k 1))) := ⟨_, rfl⟩
        rw [← HS0.out] at HE ⊢
        clear hc
        go_wp2
        go_ret
        exact ⟨reti HE.out, HW.out⟩
set_option maxHeartbeats 4000000 in
theorem most_any (u rc : Value) (g : List It) (col : Nat) (w : World) (h : ItemsAt w u g) (hf : Fine g col) (hpos : 0 < g.length) (hrc : rc = .agg #[]) :
    Calls Tryd.prog 125 #[rc, u, .int .i64 col] w fun e w' => e = .returned (.int .i64 (mostC col g)) ∧ Below w.heap.size w w' := by
  subst hrc
  rcases h.cases with ⟨a, cap, rfl, rfl⟩ | ⟨b, off, cap, _, hlim, rfl, hbw, hc⟩
  · simp at hpos
  · clear h
    obtain ⟨n, hn⟩ : ∃ n, n = g.length := ⟨_, rfl⟩
    have HN : Hid (n = g.length) := hn
    have hn100 : n ≤ 100 := by rw [hn]; exact hf.1
    rw [← hn] at hpos hlim hc ⊢
    have HF : Hid (Fine g col) := hf
    clear hn hf
    obtain ⟨rv0, d0, _, dix⟩ := hc 0 hpos
    have hp0 : 0 < g.length := by rw [← HN.out]; exact hpos
    obtain ⟨b0, o0, cp0, rfl, hb0, d1⟩ := ints_at dix (HF.out.at hp0).2.1
    have HV0 : Hid (mostC col (g.take (max 0 1)) = (g.getD 0 ([], 0)).1.getD col 0) := most_one hp0
    obtain ⟨m0, HM0⟩ : ∃ m, Hid (m = (g.getD 0 ([], 0)).1.length) := ⟨_, rfl⟩
    have hcm0 : col < m0 := by rw [HM0.out]; exact (HF.out.at hp0).2.1
    obtain ⟨v0, HV⟩ : ∃ v, Hid (v = (g.getD 0 ([], 0)).1.getD col 0) := ⟨_, rfl⟩
    rw [← HM0.out] at d0
    rw [← HV.out] at d1 HV0
    simp only [Nat.zero_mul, Nat.add_zero] at d0
    have hnI : (0 : Int) < (n : Int) := by omega
    have hbx : Below w.heap.size w (w.alloc (.cells #[] 75)) := below_alloc _
    go_enter Tryd.func125, Tryd.ntmps125
    go_wp2
    go_loopw [7, 19] (fun s i wr => ∃ k : Nat, k ≤ n ∧ i = .int .i64 k ∧ s = .int .i64 (mostC col (g.take (max k 1))) ∧ Hid (Below w.heap.size w wr)) (fun _ i _ => n - (intOf i).toNat)
    case atStart => exact ⟨0, Nat.zero_le _, rfl, by rw [HV0.out], below_alloc _⟩
    case round =>
      obtain ⟨k, hk, rfl, rfl, HW⟩ := hrel
      by_cases hlt : k < n
      · have hlt' : k < g.length := by rw [← HN.out]; exact hlt
        have HB := HW.out
        obtain ⟨rv, hrv0, hwt0, hix0⟩ := hc k hlt
        obtain ⟨b1, o1, cp1, rfl, hb1, hx0⟩ := ints_at hix0 (HF.out.at hlt').2.1
        have hrv := (HB.cell (p := ⟨b, off + k * 2, none⟩) hbw).trans hrv0
        have hwt := (HB.cell (p := ⟨b, off + k * 2 + 1, none⟩) hbw).trans hwt0
        have hx := (HB.cell (p := ⟨b1, o1 + col, none⟩) hb1).trans hx0
        have hb1r : b1 < wr.heap.size := Nat.lt_of_lt_of_le hb1 HB.size
        have hfk := HF.out.at hlt'
        have HS : Hid (mostC col (g.take (max (k + 1) 1)) = max (mostC col (g.take (max k 1))) ((g.getD k ([], 0)).1.getD col 0)) := upto_oneM hlt'
        have hin := hfk
        obtain ⟨m, HM⟩ : ∃ m, Hid (m = (g.getD k ([], 0)).1.length) := ⟨_, rfl⟩
        obtain ⟨y, HY⟩ : ∃ y, Hid (y = (g.getD k ([], 0)).2) := ⟨_, rfl⟩
        obtain ⟨z, HZ⟩ : ∃ z, Hid (z = (g.getD k ([], 0)).1.getD col 0) := ⟨_, rfl⟩
        obtain ⟨s0, HS0⟩ : ∃ s, Hid (s = mostC col (g.take (max k 1))) := ⟨_, rfl⟩
        rw [← HM.out] at hrv hfk
        rw [← HY.out] at hwt hfk
        rw [← HZ.out] at hx hfk HS
        rw [← HS0.out] at HS ⊢
        clear hrv0 hwt0 hix0 hx0 hc
        have hcl : col < m := hfk.2.1
        go_wp2
        go_roundw
        case rel => exact ⟨k + 1, by omega, by go_num, by rw [HS.out]; first | rfl | (simp; omega) | skip, below_then HW.out (below_alloc _)⟩
        case measure => simp [intOf]; omega
      · obtain rfl : k = n := by omega
        have HE : Hid (mostC col (g.take (max k 1)) = mostC col g) := by
          show _ = _
          rw [show max k 1 = k by omega, HN.out, List.take_length]
        obtain ⟨s0, HS0⟩ : ∃ s, Hid (s = mostC col (g.take (max k 1))) := ⟨_, rfl⟩
        rw [← HS0.out] at HE ⊢
        clear hc
        go_wp2
        go_ret
        exact ⟨reti HE.out, HW.out⟩
end Go.Proofs.YtjbfgfgldchfnaaDoor
