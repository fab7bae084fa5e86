/-
  The contracts of impl.RunSame and spec.RunSame at all runs.
-/
import Derived.Test.YtfmgohoddaobmaaRunOk
import Derived.Test.YtfmgohoddaobmaaItemsMidFnExactFlowSame
namespace Go.Proofs.Ytfmgohoddaobmaa
set_option maxRecDepth 100000
open Go.RowKit

def rsB (zs ys : Rn) : Bool := decide (zs = ys)
theorem rsB_of (xs ys : Rn) (hl : xs.length = ys.length) (h : ∀ j, j < xs.length → xs.getD j [] = ys.getD j []) : rsB xs ys = true := by
  unfold rsB
  rw [decide_eq_true_iff]
  apply List.ext_getElem hl
  intro j h1 h2
  have := h j h1
  simpa [List.getD, h1, h2] using this
theorem rsB_len (xs ys : Rn) (hl : xs.length ≠ ys.length) : rsB xs ys = false := by
  unfold rsB
  rw [decide_eq_false_iff_not]
  intro h; exact hl (by rw [h])
theorem rsB_at (xs ys : Rn) (j : Nat) (h : xs.getD j [] ≠ ys.getD j []) : rsB xs ys = false := by
  unfold rsB
  rw [decide_eq_false_iff_not]
  intro e; exact h (by rw [e])
theorem zsB_true {a b : List It} (h : zsB a b = true) : a = b := by simpa [zsB] using h
theorem zsB_false {a b : List It} (h : zsB a b = false) : a ≠ b := by simpa [zsB] using h

set_option maxHeartbeats 4000000 in
theorem equalRuns_some (b off cap b2 off2 cap2 : Nat) (zs ys : Rn) (w : World) (hpos : 0 < zs.length) (hlim : zs.length ≤ 140737488355328) (hlen : zs.length = ys.length) (hbw : b < w.heap.size) (hbw2 : b2 < w.heap.size)
    (hc : ∀ j, j < zs.length → ∃ rv, w.cell? ⟨b, off + j, none⟩ = some rv ∧ TailZ w rv (zs.getD j []))
    (hc2 : ∀ j, j < zs.length → ∃ rv, w.cell? ⟨b2, off2 + j, none⟩ = some rv ∧ TailZ w rv (ys.getD j [])) :
    Calls Try.prog 39 #[.slice (some ⟨b, off, none⟩) zs.length cap, .slice (some ⟨b2, off2, none⟩) zs.length cap2, .func (.func 40) #[] #[]] w fun e w' => e = .returned (.bool (rsB zs ys)) ∧ Below w.heap.size w w' := by
  obtain ⟨n, hn⟩ : ∃ n, n = zs.length := ⟨_, rfl⟩
  have HN : Hid (n = zs.length) := hn
  have HL : Hid (zs.length = ys.length) := hlen
  rw [← hn] at hpos hlim hc hc2 ⊢
  clear hn hlen
  go_enter Try.func39, Try.ntmps39
  go_wp2
  go_loopw [17] (fun i wr => ∃ k : Nat, k ≤ n ∧ i = .int .i64 k ∧ Hid (Below w.heap.size w wr) ∧ Hid (∀ j, j < k → zs.getD j [] = ys.getD j [])) (fun i _ => n - (intOf i).toNat)
  case atStart => exact ⟨0, Nat.zero_le _, rfl, Below.refl _ _, fun j hj => by omega⟩
  case round =>
    obtain ⟨k, hk, rfl, HW, HS⟩ := hrel
    by_cases hlt : k < n
    · have HB := HW.out
      obtain ⟨rv, hrv0, hix0⟩ := hc k hlt
      have hrv := (HB.cell (p := ⟨b, off + k, none⟩) hbw).trans hrv0
      have hix := hix0.below HB
      obtain ⟨rv2, hrv02, hix02⟩ := hc2 k hlt
      have hrv2 := (HB.cell (p := ⟨b2, off2 + k, none⟩) hbw2).trans hrv02
      have hix2 := hix02.below HB
      clear hrv0 hix0 hrv02 hix02 HB hc hc2
      obtain ⟨p, HP⟩ : ∃ p, Hid (p = zs.getD k []) := ⟨_, rfl⟩
      obtain ⟨q, HQ⟩ : ∃ q, Hid (q = ys.getD k []) := ⟨_, rfl⟩
      rw [← HP.out] at hix
      rw [← HQ.out] at hix2
      have hsh : ∃ a n c, rv = .slice a n c := by obtain ⟨a, c, e⟩ := hix.shape1; exact ⟨a, _, c, e⟩
      have hsh2 : ∃ a n c, rv2 = .slice a n c := by obtain ⟨a, c, e⟩ := hix2.shape1; exact ⟨a, _, c, e⟩
      obtain ⟨ra, rn, rc, rfl⟩ := hsh
      obtain ⟨ra2, rn2, rc2, rfl⟩ := hsh2
      go_wp2_with fail
      refine (implZSame_any _ _ p q _ hix.items hix2.items).mono ?_
      rintro e w1 ⟨rfl, hb1⟩
      have HK : Hid (Below w.heap.size w w1) := below_then HW.out hb1
      clear hb1 hrv hrv2 hix hix2
      cases hc : zsB p q with
      | false =>
        have H2 : Hid (p ≠ q) := zsB_false hc
        go_wp2
        go_ret
        exact ⟨ret_bool (rsB_at zs ys k (by rw [← HP.out, ← HQ.out]; exact H2.out)).symm, HK.out⟩
      | true =>
        have H1 : Hid (p = q) := zsB_true hc
        go_wp2
        go_roundw
        case rel => exact ⟨k + 1, by omega, by go_num, HK.out, fun j hj => by
          rcases Nat.lt_succ_iff_lt_or_eq.1 hj with h | h
          · exact HS.out j h
          · rw [h, ← HP.out, ← HQ.out]; exact H1.out⟩
        case measure => simp [intOf]; omega
    · have e : k = n := by omega
      subst e
      clear hc hc2
      go_wp2
      go_ret
      exact ⟨ret_bool (rsB_of zs ys HL.out (by rw [← HN.out]; exact HS.out)).symm, HW.out⟩

theorem equalRuns_len (a : Option Addr) (cap n : Nat) (a2 : Option Addr) (cap2 m : Nat) (f : Value) (w : World) (hne : ((n : Int) != (m : Int)) = true) :
    Calls Try.prog 39 #[.slice a n cap, .slice a2 m cap2, f] w fun e w' => e = .returned (.bool false) ∧ Below w.heap.size w w' := by
  go_enter Try.func39, Try.ntmps39
  go_wp2
  go_ret
  exact ⟨rfl, Below.refl _ _⟩

theorem equalRuns_none (a : Option Addr) (cap : Nat) (a2 : Option Addr) (cap2 : Nat) (f : Value) (w : World) :
    Calls Try.prog 39 #[.slice a 0 cap, .slice a2 0 cap2, f] w fun e w' => e = .returned (.bool true) ∧ Below w.heap.size w w' := by
  go_enter Try.func39, Try.ntmps39
  go_wp2
  refine wp_loop_rounds 1 ?_
  rw [rounds_succ]
  go_wp2
  go_ret
  exact ⟨rfl, Below.refl _ _⟩

theorem equalRuns_any (v v2 : Value) (zs ys : Rn) (w : World) (h : RunsAt w v zs) (h2 : RunsAt w v2 ys) :
    Calls Try.prog 39 #[v, v2, .func (.func 40) #[] #[]] w fun e w' => e = .returned (.bool (rsB zs ys)) ∧ Below w.heap.size w w' := by
  by_cases hl : zs.length = ys.length
  · rcases h.cases with ⟨a, cap, rfl, rfl, _⟩ | ⟨b, off, cap, hpos, hlim, _, _, rfl, hbw, hc⟩
    · obtain rfl : ys = [] := List.length_eq_zero_iff.1 hl.symm
      obtain ⟨a2, cap2, rfl⟩ := h2.shape
      exact equalRuns_none a cap a2 cap2 _ w
    · rcases h2.cases with ⟨a2, cap2, rfl, rfl, _⟩ | ⟨b2, off2, cap2, _, _, _, _, rfl, hbw2, hc2⟩
      · simp at hl; simp [hl] at hpos
      · rw [← hl]
        exact equalRuns_some b off cap b2 off2 cap2 zs ys w hpos hlim hl hbw hbw2 hc (by rw [hl]; exact hc2)
  · obtain ⟨a, cap, rfl⟩ := h.shape
    obtain ⟨a2, cap2, rfl⟩ := h2.shape
    rw [rsB_len zs ys hl]
    exact equalRuns_len a cap _ a2 cap2 _ _ w (by rw [bne_iff_ne]; omega)

set_option maxHeartbeats 1000000 in
theorem implRunSame_any (v v2 : Value) (zs ys : Rn) (w : World) (h : RunsAt w v zs) (h2 : RunsAt w v2 ys) :
    Calls Try.prog 52 #[.agg #[v], .agg #[v2]] w fun e w' => e = .returned (.bool (rsB zs ys)) ∧ Below w.heap.size w w' := by
  obtain ⟨a, n, cap, rfl⟩ := h.shapeN
  obtain ⟨a2, n2, cap2, rfl⟩ := h2.shapeN
  go_enter Try.func52, Try.ntmps52
  go_wp2_with fail
  refine (equalRuns_any _ _ zs ys _ ((h.below (below_alloc _)).below (below_alloc _)) ((h2.below (below_alloc _)).below (below_alloc _))).mono ?_
  rintro e w1 ⟨rfl, hb1⟩
  have HK : Hid (Below w.heap.size w w1) := below_then (below_then (below_alloc _) (below_alloc _)) hb1
  clear h h2 hb1
  go_wp2
  go_ret
  exact ⟨rfl, HK.out⟩

set_option maxHeartbeats 4000000 in
theorem specRunSame_some (b off cap b2 off2 cap2 : Nat) (zs ys : Rn) (w : World) (hpos : 0 < zs.length) (hlim : zs.length ≤ 140737488355328) (hlen : zs.length = ys.length) (hbw : b < w.heap.size) (hbw2 : b2 < w.heap.size)
    (hc : ∀ j, j < zs.length → ∃ rv, w.cell? ⟨b, off + j, none⟩ = some rv ∧ TailZ w rv (zs.getD j []))
    (hc2 : ∀ j, j < zs.length → ∃ rv, w.cell? ⟨b2, off2 + j, none⟩ = some rv ∧ TailZ w rv (ys.getD j [])) :
    Calls Try.prog 19 #[.agg #[.slice (some ⟨b, off, none⟩) zs.length cap], .agg #[.slice (some ⟨b2, off2, none⟩) zs.length cap2]] w fun e w' => e = .returned (.bool (rsB zs ys)) ∧ Below w.heap.size w w' := by
  obtain ⟨n, hn⟩ : ∃ n, n = zs.length := ⟨_, rfl⟩
  have HN : Hid (n = zs.length) := hn
  have HL : Hid (zs.length = ys.length) := hlen
  rw [← hn] at hpos hlim hc hc2 ⊢
  clear hn hlen
  go_enter Try.func19, Try.ntmps19
  go_wp2
  go_loopw [5] (fun i wr => ∃ k : Nat, k ≤ n ∧ i = .int .i64 k ∧ Hid (Below (w.heap.size + 2) ((w.alloc (.cells #[.slice (some ⟨b, off, none⟩) n cap] 48)).alloc (.cells #[.slice (some ⟨b2, off2, none⟩) n cap2] 48)) wr) ∧ Hid (∀ j, j < k → zs.getD j [] = ys.getD j [])) (fun i _ => n - (intOf i).toNat)
  case atStart => exact ⟨0, Nat.zero_le _, rfl, by show Below _ _ _; exact Below.refl _ _, fun j hj => by omega⟩
  case round =>
    obtain ⟨k, hk, rfl, HW, HS⟩ := hrel
    have hbx1 : wr.cell? ⟨w.heap.size, 0, none⟩ = some (.slice (some ⟨b, off, none⟩) n cap) := cell_is HW.out (show w.heap.size < w.heap.size + 2 by omega) (by simp [go_sem])
    have hbx2 : wr.cell? ⟨w.heap.size + 1, 0, none⟩ = some (.slice (some ⟨b2, off2, none⟩) n cap2) := cell_is HW.out (show w.heap.size + 1 < w.heap.size + 2 by omega) (by simp [go_sem])
    have HB : Below w.heap.size w wr := below_then (below_then (below_alloc _) (below_alloc _)) (by simpa using HW.out)
    by_cases hlt : k < n
    · obtain ⟨rv, hrv0, hix0⟩ := hc k hlt
      have hrv := (HB.cell (p := ⟨b, off + k, none⟩) hbw).trans hrv0
      have hix := hix0.below HB
      obtain ⟨rv2, hrv02, hix02⟩ := hc2 k hlt
      have hrv2 := (HB.cell (p := ⟨b2, off2 + k, none⟩) hbw2).trans hrv02
      have hix2 := hix02.below HB
      clear hrv0 hix0 hrv02 hix02 hc hc2
      obtain ⟨p, HP⟩ : ∃ p, Hid (p = zs.getD k []) := ⟨_, rfl⟩
      obtain ⟨q, HQ⟩ : ∃ q, Hid (q = ys.getD k []) := ⟨_, rfl⟩
      rw [← HP.out] at hix
      rw [← HQ.out] at hix2
      have hsh : ∃ a n c, rv = .slice a n c := by obtain ⟨a, c, e⟩ := hix.shape1; exact ⟨a, _, c, e⟩
      have hsh2 : ∃ a n c, rv2 = .slice a n c := by obtain ⟨a, c, e⟩ := hix2.shape1; exact ⟨a, _, c, e⟩
      obtain ⟨ra, rn, rc, rfl⟩ := hsh
      obtain ⟨ra2, rn2, rc2, rfl⟩ := hsh2
      have hsz : w.heap.size + 2 ≤ wr.heap.size := by have := HW.out.size; simpa using this
      obtain ⟨c, HC⟩ : ∃ c, Hid (c = zsB p q) := ⟨_, rfl⟩
      go_wp2
      go_region_with (go_at_call 33; refine (specZSame_any _ _ p q _ (by first | exact hix.items | exact (hix.below (below_drewN (Below.refl _ _) _)).items | exact (hix.below (Below.drew (Below.refl _ _))).items) (by first | exact hix2.items | exact (hix2.below (below_drewN (Below.refl _ _) _)).items | exact (hix2.below (Below.drew (Below.refl _ _))).items)).mono ?_; rw [← HC.out]; rintro e w1 ⟨rfl, hb1⟩)
      all_goals
        have hb1' : Below wr.heap.size wr w1 := by
          first
            | exact hb1
            | exact below_then (below_drewN (Below.refl _ _) _) hb1
            | exact below_then (Below.drew (Below.refl _ _)) hb1
            | exact hb1.below
            | exact below_then (below_drewN (Below.refl _ _) _) hb1.below
            | exact below_then (Below.drew (Below.refl _ _)) hb1.below
        have HK : Hid (Below (w.heap.size + 2) ((w.alloc (.cells #[.slice (some ⟨b, off, none⟩) n cap] 48)).alloc (.cells #[.slice (some ⟨b2, off2, none⟩) n cap2] 48)) w1) := HW.out.trans (hb1'.mono hsz)
        clear hb1 hb1' hrv hrv2 hix hix2 hbx1 hbx2 HB hsz
        cases c with
        | false =>
          go_wp2
          go_ret
          exact ⟨ret_bool (rsB_at zs ys k (by rw [← HP.out, ← HQ.out]; exact zsB_false HC.out.symm)).symm, below_then (below_then (below_alloc _) (below_alloc _)) (by simpa using HK.out)⟩
        | true =>
          go_wp2
          go_roundw
          case rel => exact ⟨k + 1, by omega, by go_num, HK.out, fun j hj => by
            rcases Nat.lt_succ_iff_lt_or_eq.1 hj with h | h
            · exact HS.out j h
            · rw [h, ← HP.out, ← HQ.out]; exact zsB_true HC.out.symm⟩
          case measure => simp [intOf]; omega
    · have e : k = n := by omega
      subst e
      clear hc hc2
      go_wp2
      go_ret
      exact ⟨ret_bool (rsB_of zs ys HL.out (by rw [← HN.out]; exact HS.out)).symm, HB⟩

theorem specRunSame_len (a : Option Addr) (cap n : Nat) (a2 : Option Addr) (cap2 m : Nat) (w : World) (hne : ((n : Int) != (m : Int)) = true) :
    Calls Try.prog 19 #[.agg #[.slice a n cap], .agg #[.slice a2 m cap2]] w fun e w' => e = .returned (.bool false) ∧ Below w.heap.size w w' := by
  go_enter Try.func19, Try.ntmps19
  go_wp2
  go_ret
  exact ⟨rfl, below_then (below_alloc _) (below_alloc _)⟩

theorem specRunSame_none (a : Option Addr) (cap : Nat) (a2 : Option Addr) (cap2 : Nat) (w : World) :
    Calls Try.prog 19 #[.agg #[.slice a 0 cap], .agg #[.slice a2 0 cap2]] w fun e w' => e = .returned (.bool true) ∧ Below w.heap.size w w' := by
  go_enter Try.func19, Try.ntmps19
  go_wp2
  refine wp_loop_rounds 1 ?_
  rw [rounds_succ]
  go_wp2
  go_ret
  exact ⟨rfl, below_then (below_alloc _) (below_alloc _)⟩

theorem specRunSame_any (v v2 : Value) (zs ys : Rn) (w : World) (h : RunsAt w v zs) (h2 : RunsAt w v2 ys) :
    Calls Try.prog 19 #[.agg #[v], .agg #[v2]] w fun e w' => e = .returned (.bool (rsB zs ys)) ∧ Below w.heap.size w w' := by
  by_cases hl : zs.length = ys.length
  · rcases h.cases with ⟨a, cap, rfl, rfl, _⟩ | ⟨b, off, cap, hpos, hlim, _, _, rfl, hbw, hc⟩
    · obtain rfl : ys = [] := List.length_eq_zero_iff.1 hl.symm
      obtain ⟨a2, cap2, rfl⟩ := h2.shape
      exact specRunSame_none a cap a2 cap2 w
    · rcases h2.cases with ⟨a2, cap2, rfl, rfl, _⟩ | ⟨b2, off2, cap2, _, _, _, _, rfl, hbw2, hc2⟩
      · simp at hl; simp [hl] at hpos
      · rw [← hl]
        exact specRunSame_some b off cap b2 off2 cap2 zs ys w hpos hlim hl hbw hbw2 hc (by rw [hl]; exact hc2)
  · obtain ⟨a, cap, rfl⟩ := h.shape
    obtain ⟨a2, cap2, rfl⟩ := h2.shape
    rw [rsB_len zs ys hl]
    exact specRunSame_len a cap _ a2 cap2 _ w (by rw [bne_iff_ne]; omega)

end Go.Proofs.Ytfmgohoddaobmaa
