/-
  The contracts of spec.l5Agg and spec.l5Of: what is reckoned of a group; the items of a group.
-/
import Derived.Test.YtjbfgfgldchfnaaDoorTotalsG
import Derived.Test.YtjbfgfgldchfnaaDoorNear
namespace Go.Proofs.YtjbfgfgldchfnaaDoor
set_option maxRecDepth 100000
open Go.RowKit
attribute [local go_sem ↓] Go.wp_at_zero Go.wp_at_succ

/-- The items that are there whose cells at the keys are so. -/
def grpZ (z : List It) (ks key : List Int) : List It := z.filter fun p => decide (0 < p.2) && decide (keyZ p.1 ks = key)
theorem grp_take {z : List It} {ks key : List Int} {k : Nat} (hk : k < z.length) : grpZ (z.take (k + 1)) ks key = grpZ (z.take k) ks key ++ (if decide (0 < (z.getD k ([], 0)).2) && decide (keyZ (z.getD k ([], 0)).1 ks = key) then [((z.getD k ([], 0)).1, (z.getD k ([], 0)).2)] else []) := by
  unfold grpZ
  have e : z.getD k ([], 0) = z[k] := by simp [List.getD, hk]
  rw [List.take_succ_eq_append_getElem hk, List.filter_append, e, List.filter_cons, List.filter_nil]
theorem grpZ_len (z : List It) (ks key : List Int) : (grpZ z ks key).length ≤ z.length := List.length_filter_le _ _
set_option maxHeartbeats 4000000 in
theorem l5Agg_0 (u : Value) (g : List It) (col : Nat) (w : World) (h : ItemsAt w u g) (hf : Fine g col) (hpos : 0 < g.length) :
    Calls Tryd.prog 31 #[u, .int .i64 0, .int .i64 col] w fun e w' => e = .returned (.int .i64 (cntG g)) ∧ w' = w := by
  rcases h.cases with ⟨a, cap, rfl, rfl⟩ | ⟨b, off, cap, _, hlim, rfl, hbw, hc⟩
  · simp at hpos
  · clear h
    obtain ⟨n, hn⟩ : ∃ n, n = g.length := ⟨_, rfl⟩
    have HN : Hid (n = g.length) := hn
    have hn100 : n ≤ 100 := by rw [hn]; exact hf.1
    rw [← hn] at hpos hlim hc ⊢
    have HF : Hid (Fine g col) := hf
    clear hn hf
    go_enter Tryd.func31, Tryd.ntmps31
    go_wp2
    go_loopw [7, 8] (fun s i wr => ∃ k : Nat, k ≤ n ∧ i = .int .i64 k ∧ s = .int .i64 (cntG (g.take k)) ∧ wr = w) (fun _ i _ => n - (intOf i).toNat)
    case atStart => exact ⟨0, Nat.zero_le _, rfl, by simp [cntG], rfl⟩
    case round =>
      obtain ⟨k, hk, rfl, rfl, rfl⟩ := hrel
      by_cases hlt : k < n
      · have hlt' : k < g.length := by rw [← HN.out]; exact hlt
        obtain ⟨rv, hrv, hwt, hix⟩ := hc k hlt
        obtain ⟨b1, o1, cp1, rfl, hb1, hx⟩ := ints_at hix (HF.out.at hlt').2.1
        have hfk := HF.out.at hlt'
        have HS : Hid (cntG (g.take (k + 1)) = cntG (g.take k) + (g.getD k ([], 0)).2) := cnt_step hlt'
        have hin := cnt_in HF.out k (by omega)
        obtain ⟨m, HM⟩ : ∃ m, Hid (m = (g.getD k ([], 0)).1.length) := ⟨_, rfl⟩
        obtain ⟨y, HY⟩ : ∃ y, Hid (y = (g.getD k ([], 0)).2) := ⟨_, rfl⟩
        obtain ⟨z, HZ⟩ : ∃ z, Hid (z = (g.getD k ([], 0)).1.getD col 0) := ⟨_, rfl⟩
        obtain ⟨s0, HS0⟩ : ∃ s, Hid (s = cntG (g.take k)) := ⟨_, rfl⟩
        rw [← HM.out] at hrv hfk
        rw [← HY.out] at hwt hfk HS
        rw [← HZ.out] at hx hfk
        rw [← HS0.out] at HS hin ⊢
        have hcl : col < m := hfk.2.1
        clear hix hc
        have hwrap : IntKind.i64.wrap (s0 + y) = s0 + y := by rw [IntKind.wrap_i64]; omega
        go_wp2
        go_roundw
        case rel => exact ⟨k + 1, by omega, by go_num, by rw [HS.out], by first | rfl | trivial⟩
        case measure => simp [intOf]; omega
      · obtain rfl : k = n := by omega
        have HE : Hid (cntG (g.take k) = cntG g) := by
          show _ = _
          rw [HN.out, List.take_length]
        obtain ⟨s0, HS0⟩ : ∃ s, Hid (s = cntG (g.take k)) := ⟨_, rfl⟩
        rw [← HS0.out] at HE ⊢
        clear hc
        go_wp2
        go_ret
        exact ⟨reti HE.out, rfl⟩
set_option maxHeartbeats 4000000 in
theorem l5Agg_1 (u : Value) (g : List It) (col : Nat) (w : World) (h : ItemsAt w u g) (hf : Fine g col) (hpos : 0 < g.length) :
    Calls Tryd.prog 31 #[u, .int .i64 1, .int .i64 col] w fun e w' => e = .returned (.int .i64 (sumC col g)) ∧ w' = w := by
  rcases h.cases with ⟨a, cap, rfl, rfl⟩ | ⟨b, off, cap, _, hlim, rfl, hbw, hc⟩
  · simp at hpos
  · clear h
    obtain ⟨n, hn⟩ : ∃ n, n = g.length := ⟨_, rfl⟩
    have HN : Hid (n = g.length) := hn
    have hn100 : n ≤ 100 := by rw [hn]; exact hf.1
    rw [← hn] at hpos hlim hc ⊢
    have HF : Hid (Fine g col) := hf
    clear hn hf
    go_enter Tryd.func31, Tryd.ntmps31
    go_wp2
    go_loopw [7, 8] (fun s i wr => ∃ k : Nat, k ≤ n ∧ i = .int .i64 k ∧ s = .int .i64 (sumC col (g.take k)) ∧ wr = w) (fun _ i _ => n - (intOf i).toNat)
    case atStart => exact ⟨0, Nat.zero_le _, rfl, by simp [sumC], rfl⟩
    case round =>
      obtain ⟨k, hk, rfl, rfl, rfl⟩ := hrel
      by_cases hlt : k < n
      · have hlt' : k < g.length := by rw [← HN.out]; exact hlt
        obtain ⟨rv, hrv, hwt, hix⟩ := hc k hlt
        obtain ⟨b1, o1, cp1, rfl, hb1, hx⟩ := ints_at hix (HF.out.at hlt').2.1
        have hfk := HF.out.at hlt'
        have HS : Hid (sumC col (g.take (k + 1)) = sumC col (g.take k) + (g.getD k ([], 0)).2 * (g.getD k ([], 0)).1.getD col 0) := sum_step hlt'
        have hin := sum_in HF.out k (by omega)
        obtain ⟨m, HM⟩ : ∃ m, Hid (m = (g.getD k ([], 0)).1.length) := ⟨_, rfl⟩
        obtain ⟨y, HY⟩ : ∃ y, Hid (y = (g.getD k ([], 0)).2) := ⟨_, rfl⟩
        obtain ⟨z, HZ⟩ : ∃ z, Hid (z = (g.getD k ([], 0)).1.getD col 0) := ⟨_, rfl⟩
        obtain ⟨s0, HS0⟩ : ∃ s, Hid (s = sumC col (g.take k)) := ⟨_, rfl⟩
        rw [← HM.out] at hrv hfk
        rw [← HY.out] at hwt hfk HS
        rw [← HZ.out] at hx hfk HS
        rw [← HS0.out] at HS hin ⊢
        have hcl : col < m := hfk.2.1
        clear hix hc
        have hml := mul_in (A := 10000) (B := 1000000000) hfk.1 hfk.2.2 (by omega) (by omega)
        have hwrap1 : IntKind.i64.wrap (y * z) = y * z := by rw [IntKind.wrap_i64]; omega
        have hwrap : IntKind.i64.wrap (s0 + y * z) = s0 + y * z := by rw [IntKind.wrap_i64]; omega
        clear hml
        go_wp2
        go_roundw
        case rel => exact ⟨k + 1, by omega, by go_num, by rw [HS.out], by first | rfl | trivial⟩
        case measure => simp [intOf]; omega
      · obtain rfl : k = n := by omega
        have HE : Hid (sumC col (g.take k) = sumC col g) := by
          show _ = _
          rw [HN.out, List.take_length]
        obtain ⟨s0, HS0⟩ : ∃ s, Hid (s = sumC col (g.take k)) := ⟨_, rfl⟩
        rw [← HS0.out] at HE ⊢
        clear hc
        go_wp2
        go_ret
        exact ⟨reti HE.out, rfl⟩
set_option maxHeartbeats 4000000 in
theorem l5Agg_2 (u : Value) (g : List It) (col : Nat) (w : World) (h : ItemsAt w u g) (hf : Fine g col) (hpos : 0 < g.length) :
    Calls Tryd.prog 31 #[u, .int .i64 2, .int .i64 col] w fun e w' => e = .returned (.int .i64 (leastC col g)) ∧ w' = w := by
  rcases h.cases with ⟨a, cap, rfl, rfl⟩ | ⟨b, off, cap, _, hlim, rfl, hbw, hc⟩
  · simp at hpos
  · clear h
    obtain ⟨n, hn⟩ : ∃ n, n = g.length := ⟨_, rfl⟩
    have HN : Hid (n = g.length) := hn
    have hn100 : n ≤ 100 := by rw [hn]; exact hf.1
    rw [← hn] at hpos hlim hc ⊢
    have HF : Hid (Fine g col) := hf
    clear hn hf
    go_enter Tryd.func31, Tryd.ntmps31
    go_wp2
    go_loopw [7, 8] (fun s i wr => ∃ k : Nat, k ≤ n ∧ i = .int .i64 k ∧ s = .int .i64 (leastC col (g.take k)) ∧ wr = w) (fun _ i _ => n - (intOf i).toNat)
    case atStart => exact ⟨0, Nat.zero_le _, rfl, by simp [leastC], rfl⟩
    case round =>
      obtain ⟨k, hk, rfl, rfl, rfl⟩ := hrel
      by_cases hlt : k < n
      · have hlt' : k < g.length := by rw [← HN.out]; exact hlt
        obtain ⟨rv, hrv, hwt, hix⟩ := hc k hlt
        obtain ⟨b1, o1, cp1, rfl, hb1, hx⟩ := ints_at hix (HF.out.at hlt').2.1
        have hfk := HF.out.at hlt'
        have HS : Hid (0 < k → leastC col (g.take (k + 1)) = min (leastC col (g.take k)) ((g.getD k ([], 0)).1.getD col 0)) := fun h0 => least_step hlt' h0
        have HS1 : Hid (k = 0 → leastC col (g.take (k + 1)) = (g.getD k ([], 0)).1.getD col 0) := fun h0 => by subst h0; exact least_one hlt'
        obtain ⟨m, HM⟩ : ∃ m, Hid (m = (g.getD k ([], 0)).1.length) := ⟨_, rfl⟩
        obtain ⟨y, HY⟩ : ∃ y, Hid (y = (g.getD k ([], 0)).2) := ⟨_, rfl⟩
        obtain ⟨z, HZ⟩ : ∃ z, Hid (z = (g.getD k ([], 0)).1.getD col 0) := ⟨_, rfl⟩
        obtain ⟨s0, HS0⟩ : ∃ s, Hid (s = leastC col (g.take k)) := ⟨_, rfl⟩
        rw [← HM.out] at hrv hfk
        rw [← HY.out] at hwt hfk
        rw [← HZ.out] at hx hfk HS HS1
        rw [← HS0.out] at HS ⊢
        have hcl : col < m := hfk.2.1
        clear hix hc
        by_cases hk0 : k = 0
        · have HE : Hid _ := HS1.out hk0
          have hkt : ((k : Int) == 0) = true := by simp [hk0]
          clear hk0
          go_wp2
          go_roundw
          case rel => exact ⟨k + 1, by omega, by go_num, by rw [HE.out], by first | rfl | trivial⟩
          case measure => simp [intOf]; omega
        · have HE : Hid _ := HS.out (by omega)
          have hkf : ((k : Int) == 0) = false := by simp; omega
          by_cases hv : z < s0
          · have HE2 : Hid (_ = z) := HE.out.trans (Int.min_eq_right (by omega))
            go_wp2
            go_roundw
            case rel => exact ⟨k + 1, by omega, by go_num, by rw [HE2.out], by first | rfl | trivial⟩
            case measure => simp [intOf]; omega
          · have HE2 : Hid (_ = s0) := HE.out.trans (Int.min_eq_left (by omega))
            go_wp2
            go_roundw
            case rel => exact ⟨k + 1, by omega, by go_num, by rw [HE2.out], by first | rfl | trivial⟩
            case measure => simp [intOf]; omega
      · obtain rfl : k = n := by omega
        have HE : Hid (leastC col (g.take k) = leastC col g) := by
          show _ = _
          rw [HN.out, List.take_length]
        obtain ⟨s0, HS0⟩ : ∃ s, Hid (s = leastC col (g.take k)) := ⟨_, rfl⟩
        rw [← HS0.out] at HE ⊢
        clear hc
        go_wp2
        go_ret
        exact ⟨reti HE.out, rfl⟩
set_option maxHeartbeats 4000000 in
theorem l5Agg_3 (u : Value) (g : List It) (col : Nat) (w : World) (h : ItemsAt w u g) (hf : Fine g col) (hpos : 0 < g.length) :
    Calls Tryd.prog 31 #[u, .int .i64 3, .int .i64 col] w fun e w' => e = .returned (.int .i64 (mostC col g)) ∧ w' = w := by
  rcases h.cases with ⟨a, cap, rfl, rfl⟩ | ⟨b, off, cap, _, hlim, rfl, hbw, hc⟩
  · simp at hpos
  · clear h
    obtain ⟨n, hn⟩ : ∃ n, n = g.length := ⟨_, rfl⟩
    have HN : Hid (n = g.length) := hn
    have hn100 : n ≤ 100 := by rw [hn]; exact hf.1
    rw [← hn] at hpos hlim hc ⊢
    have HF : Hid (Fine g col) := hf
    clear hn hf
    go_enter Tryd.func31, Tryd.ntmps31
    go_wp2
    go_loopw [7, 8] (fun s i wr => ∃ k : Nat, k ≤ n ∧ i = .int .i64 k ∧ s = .int .i64 (mostC col (g.take k)) ∧ wr = w) (fun _ i _ => n - (intOf i).toNat)
    case atStart => exact ⟨0, Nat.zero_le _, rfl, by simp [mostC], rfl⟩
    case round =>
      obtain ⟨k, hk, rfl, rfl, rfl⟩ := hrel
      by_cases hlt : k < n
      · have hlt' : k < g.length := by rw [← HN.out]; exact hlt
        obtain ⟨rv, hrv, hwt, hix⟩ := hc k hlt
        obtain ⟨b1, o1, cp1, rfl, hb1, hx⟩ := ints_at hix (HF.out.at hlt').2.1
        have hfk := HF.out.at hlt'
        have HS : Hid (0 < k → mostC col (g.take (k + 1)) = max (mostC col (g.take k)) ((g.getD k ([], 0)).1.getD col 0)) := fun h0 => most_step hlt' h0
        have HS1 : Hid (k = 0 → mostC col (g.take (k + 1)) = (g.getD k ([], 0)).1.getD col 0) := fun h0 => by subst h0; exact most_one hlt'
        obtain ⟨m, HM⟩ : ∃ m, Hid (m = (g.getD k ([], 0)).1.length) := ⟨_, rfl⟩
        obtain ⟨y, HY⟩ : ∃ y, Hid (y = (g.getD k ([], 0)).2) := ⟨_, rfl⟩
        obtain ⟨z, HZ⟩ : ∃ z, Hid (z = (g.getD k ([], 0)).1.getD col 0) := ⟨_, rfl⟩
        obtain ⟨s0, HS0⟩ : ∃ s, Hid (s = mostC col (g.take k)) := ⟨_, rfl⟩
        rw [← HM.out] at hrv hfk
        rw [← HY.out] at hwt hfk
        rw [← HZ.out] at hx hfk HS HS1
        rw [← HS0.out] at HS ⊢
        have hcl : col < m := hfk.2.1
        clear hix hc
        by_cases hk0 : k = 0
        · have HE : Hid _ := HS1.out hk0
          have hkt : ((k : Int) == 0) = true := by simp [hk0]
          clear hk0
          go_wp2
          go_roundw
          case rel => exact ⟨k + 1, by omega, by go_num, by rw [HE.out], by first | rfl | trivial⟩
          case measure => simp [intOf]; omega
        · have HE : Hid _ := HS.out (by omega)
          have hkf : ((k : Int) == 0) = false := by simp; omega
          by_cases hv : s0 < z
          · have HE2 : Hid (_ = z) := HE.out.trans (Int.max_eq_right (by omega))
            go_wp2
            go_roundw
            case rel => exact ⟨k + 1, by omega, by go_num, by rw [HE2.out], by first | rfl | trivial⟩
            case measure => simp [intOf]; omega
          · have HE2 : Hid (_ = s0) := HE.out.trans (Int.max_eq_left (by omega))
            go_wp2
            go_roundw
            case rel => exact ⟨k + 1, by omega, by go_num, by rw [HE2.out], by first | rfl | trivial⟩
            case measure => simp [intOf]; omega
      · obtain rfl : k = n := by omega
        have HE : Hid (mostC col (g.take k) = mostC col g) := by
          show _ = _
          rw [HN.out, List.take_length]
        obtain ⟨s0, HS0⟩ : ∃ s, Hid (s = mostC col (g.take k)) := ⟨_, rfl⟩
        rw [← HS0.out] at HE ⊢
        clear hc
        go_wp2
        go_ret
        exact ⟨reti HE.out, rfl⟩
theorem l5Agg_any (u : Value) (g : List It) (agg : Int) (col : Nat) (w : World) (h : ItemsAt w u g) (hf : Fine g col) (hpos : 0 < g.length) (ha : aggB agg = true) :
    Calls Tryd.prog 31 #[u, .int .i64 agg, .int .i64 col] w fun e w' => e = .returned (.int .i64 (aggZ agg col g)) ∧ w' = w := by
  have h1 := of_decide_eq_true ha
  rcases (by omega : agg = 0 ∨ agg = 1 ∨ agg = 2 ∨ agg = 3) with rfl | rfl | rfl | rfl
  · exact l5Agg_0 u g col w h hf hpos
  · exact l5Agg_1 u g col w h hf hpos
  · exact l5Agg_2 u g col w h hf hpos
  · exact l5Agg_3 u g col w h hf hpos
set_option maxHeartbeats 8000000 in
theorem l5Of_any (v u kv : Value) (z : List It) (ks key : List Int) (w : World) (h : ItemsAt w v z) (h2 : IntsAt w u ks) (h3 : IntsAt w kv key) (hz : zOkB z = true) (hkz : haveAll z ks = true) (hl : ks.length ≤ 6) :
    Calls Tryd.prog 32 #[v, u, kv] w fun e w' => ∃ v', e = .returned v' ∧ ItemsAt w' v' (grpZ z ks key) ∧ Below w.heap.size w w' := by
  obtain ⟨i0, hi0, hz0, hz1, hz2⟩ := info_parts infoItem
  have hrow : ∀ k, k < z.length → ∀ q ∈ ks, 0 ≤ q ∧ q < ((z.getD k ([], 0)).1.length : Int) := fun k hk q hq => have_iff.1 hkz q hq _ (by simp [List.getD, hk])
  have hz100 := zOk_le hz
  have HK2 : Hid (IntsAt w u ks) := h2
  have HK3 : Hid (IntsAt w kv key) := h3
  obtain ⟨ua, un, uc, rfl⟩ := h2.shape
  obtain ⟨ka, kn, kc, rfl⟩ := h3.shape
  clear h2 h3 hz hkz
  rcases h.cases with ⟨a, cap, rfl, rfl⟩ | ⟨b, off, cap, hpos, hlim, rfl, hbw, hc⟩
  · clear h hrow
    go_enter Tryd.func32, Tryd.ntmps32
    go_wp2
    refine wp_loop_rounds 1 ?_
    rw [rounds_succ]
    go_wp2
    go_ret
    exact ⟨_, rfl, (lit_ownZ w).items, below_alloc _⟩
  · clear h
    obtain ⟨n, hn⟩ : ∃ n, n = z.length := ⟨_, rfl⟩
    have HN : Hid (n = z.length) := hn
    rw [← hn] at hpos hlim hc hrow hz100 ⊢
    clear hn
    have hS0 : Spine (w.alloc (.cells #[] 43)) w.heap.size (w.alloc (.cells #[] 43)).heap.size (.slice (some ⟨w.heap.size, 0, none⟩) 0 0) (prs []) := by
      obtain ⟨l, hl2, S, _, _⟩ := (lit_ownZ w).opened
      have : l = [] := List.length_eq_zero_iff.1 (by rw [← its_length, ← hl2]; rfl)
      subst this
      exact S
    have HS0 : Hid _ := hS0
    clear hS0
    go_enter Tryd.func32, Tryd.ntmps32
    go_wp2
    go_loopw [7, 8] (fun s i wr => ∃ (k : Nat) (l : List Rw), k ≤ n ∧ i = .int .i64 k ∧ Hid (its l = grpZ (z.take k) ks key) ∧ Hid (Spine wr w.heap.size wr.heap.size s (prs l)) ∧ Hid (RowsIn w l) ∧ Hid (Below w.heap.size w wr)) (fun _ i _ => n - (intOf i).toNat)
    case atStart => exact ⟨0, [], Nat.zero_le _, rfl, rfl, HS0.out, fun x hx => by simp at hx, below_alloc _⟩
    case round =>
      obtain ⟨k, l, hk, rfl, HL, HS, HR, HW⟩ := hrel
      clear HS0
      by_cases hlt : k < n
      · have hlt' : k < z.length := by rw [← HN.out]; exact hlt
        have HB := HW.out
        obtain ⟨rv, hrv0, hwt0, hix0⟩ := hc k hlt
        have hrv := (HB.cell (p := ⟨b, off + k * 2, none⟩) hbw).trans hrv0
        have hwt := (HB.cell (p := ⟨b, off + k * 2 + 1, none⟩) hbw).trans hwt0
        have hix := hix0.below HB
        have hr2 := hrow k hlt
        have HT : Hid (grpZ (z.take (k + 1)) ks key = _) := grp_take (ks := ks) (key := key) hlt'
        have hll : l.length ≤ 100 := by
          have h1 : (its l).length = (grpZ (z.take k) ks key).length := by rw [HL.out]
          have h2 := grpZ_len (z.take k) ks key
          rw [its_length] at h1
          rw [List.length_take] at h2
          omega
        obtain ⟨x, HX⟩ : ∃ x, Hid (x = (z.getD k ([], 0)).1) := ⟨_, rfl⟩
        obtain ⟨y, HY⟩ : ∃ y, Hid (y = (z.getD k ([], 0)).2) := ⟨_, rfl⟩
        rw [← HX.out] at hix hr2 HT hix0
        rw [← HY.out] at hwt HT
        obtain ⟨xa, xn, xc, rfl⟩ := hix.shape
        have HIX : Hid (IntsAt w (.slice xa xn xc) x) := hix0
        have hbr : b < wr.heap.size := Nat.lt_of_lt_of_le hbw HB.size
        have hsw := HB.size
        clear hc hrow hrv0 hwt0 hix0
        by_cases hy : 0 < y
        · go_wp2_with fail
          refine (l5Key_any _ _ x ks _ hix (HK2.out.below HB) hr2 hl).mono ?_
          rintro e w2 ⟨v2, rfl, O2, hb2⟩
          have hk2 := below_then HB hb2
          go_wp2_with fail
          refine (specRowSame_any v2 _ (keyZ x ks) key _ O2.ints (HK3.out.below hk2)).mono ?_
          rw [same_iff]
          rintro e w3 ⟨rfl, hb3⟩
          have hk3 := below_then hk2 hb3
          have hw3 : Below wr.heap.size wr w3 := below_then hb2 hb3
          have hs3 := hk3.size
          have hrv3 := cell_is (p := ⟨b, off + k * 2, none⟩) hw3 hbr hrv
          have hwt3 := cell_is (p := ⟨b, off + k * 2 + 1, none⟩) hw3 hbr hwt
          have S3 : Spine w3 w.heap.size wr.heap.size u7 (prs l) := HS.out.keep' hw3
          have HKB3 : Hid (Below w.heap.size w w3) := hk3
          clear hrv hwt hix hb2 hb3 hk2 hk3 O2 HB HW HS hr2
          by_cases hs : keyZ x ks = key
          · rw [decide_eq_true hs]
            have HTT : Hid (its (l ++ [(.slice xa xn xc, (x, y))]) = grpZ (z.take (k + 1)) ks key) := by
              show _ = _
              rw [HT.out, decide_eq_true hy, decide_eq_true hs, its_append, HL.out]; rfl
            have HR2 : Hid (RowsIn w (l ++ [(.slice xa xn xc, (x, y))])) := fun q hq => by
              rcases List.mem_append.1 hq with e | e
              · exact HR.out q e
              · simp at e; subst e; exact HIX.out
            obtain ⟨hspW, hprW, hfin⟩ := merge_ready (xv := .slice xa xn xc) y S3 ⟨_, _, _, rfl⟩ (by omega) (by omega)
            have hpl : (prs l).length ≤ 100 := by rw [prs_length]; exact hll
            clear HT HL HR S3 hs
            go_wp2_with (at_builtin; (refine wpList_append_pairs rfl _ _ 25 rfl w.heap.size 43 i0 Tryd.underlying25 hi0 hz0 hz1 hz2 u7 (prs l) rfl hspW _ _ rfl hprW (by simp; omega) (by simp; omega) ?_; intro v4 w4 hown4 hg4 _))
            obtain ⟨S4, B4⟩ := hfin v4 w4 x hown4 hg4
            have HS4 : Hid (Spine w4 w.heap.size w4.heap.size v4 (prs (l ++ [(.slice xa xn xc, (x, y))]))) := S4
            have HK4 : Hid (Below w.heap.size w w4) := HKB3.out.trans B4
            clear hfin hown4 hg4 hspW hprW B4 S4 hrv3 hwt3 hw3
            go_wp2
            go_roundw
            case rel => exact ⟨k + 1, _, by omega, by go_num, HTT.out, HS4.out, HR2.out, HK4.out⟩
            case measure => simp [intOf]; omega
          · rw [decide_eq_false hs]
            have HTT : Hid (its l = grpZ (z.take (k + 1)) ks key) := by
              show _ = _
              rw [HT.out, decide_eq_false hs, Bool.and_false, HL.out]; simp
            have HS4 : Hid (Spine w3 w.heap.size w3.heap.size u7 (prs l)) := S3.wide (Nat.le_refl _) hw3.size (Nat.le_refl _)
            clear HT HL S3 hs hrv3 hwt3 hw3
            go_wp2
            go_roundw
            case rel => exact ⟨k + 1, _, by omega, by go_num, HTT.out, HS4.out, HR.out, HKB3.out⟩
            case measure => simp [intOf]; omega
        · have HTT : Hid (its l = grpZ (z.take (k + 1)) ks key) := by
            show _ = _
            rw [HT.out, decide_eq_false hy, Bool.false_and, HL.out]; simp
          clear HT HL hr2 hix
          go_wp2
          go_roundw
          case rel => exact ⟨k + 1, _, by omega, by go_num, HTT.out, HS.out, HR.out, HW.out⟩
          case measure => simp [intOf]; omega
      · obtain rfl : k = n := by omega
        have hI : ItemsAt wr u7 (its l) := (HS.out.pairs HR.out.shape).itemsOf (HR.out.below HW.out)
        rw [HL.out, HN.out, List.take_length] at hI
        clear hc hrow
        go_wp2
        go_ret
        exact ⟨_, rfl, hI, HW.out⟩

end Go.Proofs.YtjbfgfgldchfnaaDoor
