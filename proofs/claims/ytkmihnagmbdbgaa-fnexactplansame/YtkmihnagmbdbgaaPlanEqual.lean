/-
  The contracts of slices.Equal at numbers and at cells: whether the lists are one.
-/
import Derived.Test.YtkmihnagmbdbgaaPlanEq
namespace Go.Proofs.Ytkmihnagmbdbgaa
set_option maxRecDepth 100000
open Go.RowKit
set_option linter.unusedVariables false

set_option maxHeartbeats 1000000 in
theorem equalI_some (b off cap b2 off2 cap2 : Nat) (xs ys : List Int) (w : World) (hpos : 0 < xs.length) (hlim : xs.length ≤ 140737488355328)
    (hc : ∀ j, j < xs.length → w.cell? ⟨b, off + j, none⟩ = some (.int .i64 (xs.getD j 0)))
    (hlen : xs.length = ys.length)
    (hc2 : ∀ j, j < xs.length → w.cell? ⟨b2, off2 + j, none⟩ = some (.int .i64 (ys.getD j 0))) :
    Calls Try.prog 27 #[.slice (some ⟨b, off, none⟩) xs.length cap, .slice (some ⟨b2, off2, none⟩) xs.length cap2] w fun e w' =>
      e = .returned (.bool (sameB xs ys)) ∧ Below w.heap.size w w' := by
  obtain ⟨n, hn⟩ : ∃ n, n = xs.length := ⟨_, rfl⟩
  have HN : Hid (n = xs.length) := hn
  have HL : Hid (xs.length = ys.length) := hlen
  clear hlen
  rw [← hn] at hpos hlim hc hc2 ⊢
  clear hn
  go_enter Try.func27, Try.ntmps27
  go_wp2
  go_loopw [13] (fun i wr => ∃ k q : Nat, k ≤ n ∧ i = .int .i64 k ∧ wr = w.drewN q ∧ ∀ j, j < k → xs.getD j 0 = ys.getD j 0)
    (fun i _ => n - (intOf i).toNat)
  case atStart => exact ⟨0, 0, Nat.zero_le _, rfl, rfl, by omega⟩
  case round =>
    obtain ⟨k, q, hk, rfl, rfl, hsame⟩ := hrel
    have HS : Hid (∀ j, j < k → xs.getD j 0 = ys.getD j 0) := hsame
    clear hsame
    by_cases hlt : k < n
    · have hx := hc k hlt
      have hy := hc2 k hlt
      clear hc hc2
      obtain ⟨x, HX⟩ : ∃ x, Hid (x = xs.getD k 0) := ⟨_, rfl⟩
      obtain ⟨y, HY⟩ : ∃ y, Hid (y = ys.getD k 0) := ⟨_, rfl⟩
      rw [← HX.out] at hx
      rw [← HY.out] at hy
      by_cases hxy : x = y
      · have hne : (x != y) = false := by simp [hxy]
        have HXY : Hid (x = y) := hxy
        clear hxy
        go_wp2
        go_quiet (fail)
        go_wp2
        go_roundw
        case rel => exact ⟨k + 1, _, by omega, by go_num, rfl, fun j hj => by
          rcases Nat.lt_succ_iff_lt_or_eq.1 hj with h | h
          · exact HS.out j h
          · rw [h, ← HX.out, ← HY.out]; exact HXY.out⟩
        case measure => simp [intOf]; omega
      · have hne : (x != y) = true := by simp [hxy]
        go_wp2
        go_quiet (fail)
        go_wp2
        go_ret
        exact ⟨ret_bool (sameB_at xs ys k (by rw [← HX.out, ← HY.out]; exact hxy)).symm, below_drewN (below_drewN (Below.refl _ _) _) _⟩
    · have e : k = n := by omega
      subst e
      go_wp2
      go_ret
      exact ⟨ret_bool (sameB_of xs ys HL.out (by rw [← HN.out]; exact HS.out)).symm, below_drewN (Below.refl _ _) _⟩

theorem equalI_len (a : Option Addr) (cap n : Nat) (a2 : Option Addr) (cap2 m : Nat) (w : World) (hne : ((n : Int) != (m : Int)) = true) :
    Calls Try.prog 27 #[.slice a n cap, .slice a2 m cap2] w fun e w' => e = .returned (.bool false) ∧ Below w.heap.size w w' := by
  go_enter Try.func27, Try.ntmps27
  go_wp2
  go_ret
  exact ⟨rfl, Below.refl _ _⟩
theorem equalI_none (a : Option Addr) (cap : Nat) (a2 : Option Addr) (cap2 : Nat) (w : World) :
    Calls Try.prog 27 #[.slice a 0 cap, .slice a2 0 cap2] w fun e w' => e = .returned (.bool true) ∧ Below w.heap.size w w' := by
  go_enter Try.func27, Try.ntmps27
  go_wp2
  refine wp_loop_rounds 1 ?_
  rw [rounds_succ]
  go_wp2
  go_ret
  exact ⟨rfl, Below.refl _ _⟩
theorem equalI_any (v v2 : Value) (xs ys : List Int) (w : World) (h : IntsAt w v xs) (h2 : IntsAt w v2 ys) :
    Calls Try.prog 27 #[v, v2] w fun e w' => e = .returned (.bool (sameB xs ys)) ∧ Below w.heap.size w w' := by
  by_cases hl : xs.length = ys.length
  · rcases h.cases with ⟨a, cap, rfl, rfl⟩ | ⟨b, off, cap, hpos, hlim, rfl, hbw, hc⟩
    · obtain rfl : ys = [] := List.length_eq_zero_iff.1 hl.symm
      obtain ⟨_, a2, cap2, rfl, _⟩ := h2
      exact equalI_none a cap a2 cap2 w
    · rcases h2.cases with ⟨a2, cap2, rfl, rfl⟩ | ⟨b2, off2, cap2, _, _, rfl, _, hc2⟩
      · simp at hl; simp [hl] at hpos
      · rw [← hl]
        exact equalI_some b off cap b2 off2 cap2 xs ys w hpos hlim hc hl (by rw [hl]; exact hc2)
  · obtain ⟨_, a, cap, rfl, _⟩ := h
    obtain ⟨_, a2, cap2, rfl, _⟩ := h2
    rw [sameB_len xs ys hl]
    exact equalI_len a cap _ a2 cap2 _ w (by rw [bne_iff_ne]; omega)

/-- The two lists of cells are one. -/
def celsB (xs ys : List Cel) : Bool := all2 Cel.eqB xs ys
theorem celsB_iff (xs ys : List Cel) : celsB xs ys = true ↔ xs = ys := all2_iff (fun _ _ => Cel.eqB_iff) xs ys
theorem celsB_of (xs ys : List Cel) (hl : xs.length = ys.length) (h : ∀ j, j < xs.length → xs.getD j Cel.zero = ys.getD j Cel.zero) : celsB xs ys = true := by
  rw [celsB_iff]
  apply List.ext_getElem hl
  intro j h1 h2
  have := h j h1
  simpa [List.getD, h1, h2] using this
theorem celsB_len (xs ys : List Cel) (hl : xs.length ≠ ys.length) : celsB xs ys = false := by
  rw [Bool.eq_false_iff, Ne, celsB_iff]
  intro h; exact hl (by rw [h])
theorem celsB_at (xs ys : List Cel) (j : Nat) (h : xs.getD j Cel.zero ≠ ys.getD j Cel.zero) : celsB xs ys = false := by
  rw [Bool.eq_false_iff, Ne, celsB_iff]
  intro e; exact h (by rw [e])

theorem cellNe (c e : Cel) (w : World) :
    (binOp .neq 33 (.agg #[.int .i64 c.k, .int .i64 c.a, .int .i64 c.b, .int .i64 c.n]) (.agg #[.int .i64 e.k, .int .i64 e.a, .int .i64 e.b, .int .i64 e.n])).run Try.prog w = .ok (.bool (!c.eqB e)) w := by
  rw [run_neq_struct, cellIn 9998 c e w]
  simp

set_option maxHeartbeats 1000000 in
theorem equalC_some (b off cap b2 off2 cap2 : Nat) (xs ys : List Cel) (w : World) (hpos : 0 < xs.length) (hlim : xs.length ≤ 140737488355328)
    (hc : ∀ j, j < xs.length → Cell4 w b (off + j * 4) (xs.getD j Cel.zero))
    (hlen : xs.length = ys.length)
    (hc2 : ∀ j, j < xs.length → Cell4 w b2 (off2 + j * 4) (ys.getD j Cel.zero)) :
    Calls Try.prog 26 #[.slice (some ⟨b, off, none⟩) xs.length cap, .slice (some ⟨b2, off2, none⟩) xs.length cap2] w fun e w' =>
      e = .returned (.bool (celsB xs ys)) ∧ Below w.heap.size w w' := by
  obtain ⟨n, hn⟩ : ∃ n, n = xs.length := ⟨_, rfl⟩
  have HN : Hid (n = xs.length) := hn
  have HL : Hid (xs.length = ys.length) := hlen
  clear hlen
  rw [← hn] at hpos hlim hc hc2 ⊢
  clear hn
  have HC : Hid (∀ j, j < n → Cell4 w b (off + j * 4) (xs.getD j Cel.zero)) := hc
  have HC2 : Hid (∀ j, j < n → Cell4 w b2 (off2 + j * 4) (ys.getD j Cel.zero)) := hc2
  clear hc hc2
  go_enter Try.func26, Try.ntmps26
  go_wp2
  go_loopw [13] (fun i wr => ∃ k q : Nat, k ≤ n ∧ i = .int .i64 k ∧ wr = w.drewN q ∧ Hid (∀ j, j < k → xs.getD j Cel.zero = ys.getD j Cel.zero))
    (fun i _ => n - (intOf i).toNat)
  case atStart => exact ⟨0, 0, Nat.zero_le _, rfl, rfl, fun j hj => by omega⟩
  case round =>
    obtain ⟨k, q, hk, rfl, rfl, HS⟩ := hrel
    by_cases hlt : k < n
    · obtain ⟨x0, x1, x2, x3⟩ := HC.out k hlt
      obtain ⟨y0, y1, y2, y3⟩ := HC2.out k hlt
      obtain ⟨x, HX⟩ : ∃ x, Hid (x = xs.getD k Cel.zero) := ⟨_, rfl⟩
      obtain ⟨y, HY⟩ : ∃ y, Hid (y = ys.getD k Cel.zero) := ⟨_, rfl⟩
      rw [← HX.out] at x0 x1 x2 x3
      rw [← HY.out] at y0 y1 y2 y3
      have hq := cellNe x y
      cases hxy : x.eqB y with
      | true =>
        have HXY : Hid (x = y) := Cel.eqB_iff.1 hxy
        rw [hxy] at hq
        clear hxy
        go_wp2
        go_quiet (fail)
        go_wp2
        go_roundw
        case rel => exact ⟨k + 1, _, by omega, by go_num, rfl, fun j hj => by
          rcases Nat.lt_succ_iff_lt_or_eq.1 hj with h | h
          · exact HS.out j h
          · rw [h, ← HX.out, ← HY.out]; exact HXY.out⟩
        case measure => simp [intOf]; omega
      | false =>
        have HXY : Hid (x ≠ y) := fun h => by rw [Cel.eqB_iff.2 h] at hxy; cases hxy
        rw [hxy] at hq
        clear hxy
        go_wp2
        go_quiet (fail)
        go_wp2
        go_ret
        exact ⟨ret_bool (celsB_at xs ys k (by rw [← HX.out, ← HY.out]; exact HXY.out)).symm, below_drewN (below_drewN (Below.refl _ _) _) _⟩
    · have e : k = n := by omega
      subst e
      go_wp2
      go_ret
      exact ⟨ret_bool (celsB_of xs ys HL.out (by rw [← HN.out]; exact HS.out)).symm, below_drewN (Below.refl _ _) _⟩
theorem equalC_len (a : Option Addr) (cap n : Nat) (a2 : Option Addr) (cap2 m : Nat) (w : World) (hne : ((n : Int) != (m : Int)) = true) :
    Calls Try.prog 26 #[.slice a n cap, .slice a2 m cap2] w fun e w' => e = .returned (.bool false) ∧ Below w.heap.size w w' := by
  go_enter Try.func26, Try.ntmps26
  go_wp2
  go_ret
  exact ⟨rfl, Below.refl _ _⟩
theorem equalC_none (a : Option Addr) (cap : Nat) (a2 : Option Addr) (cap2 : Nat) (w : World) :
    Calls Try.prog 26 #[.slice a 0 cap, .slice a2 0 cap2] w fun e w' => e = .returned (.bool true) ∧ Below w.heap.size w w' := by
  go_enter Try.func26, Try.ntmps26
  go_wp2
  refine wp_loop_rounds 1 ?_
  rw [rounds_succ]
  go_wp2
  go_ret
  exact ⟨rfl, Below.refl _ _⟩
theorem equalC_any (v v2 : Value) (xs ys : List Cel) (w : World) (h : RawCels w v xs) (h2 : RawCels w v2 ys) (hlim : xs.length ≤ 140737488355328) (hlim2 : ys.length ≤ 140737488355328) :
    Calls Try.prog 26 #[v, v2] w fun e w' => e = .returned (.bool (celsB xs ys)) ∧ Below w.heap.size w w' := by
  obtain ⟨_, a, cap, rfl, _, hc⟩ := h
  obtain ⟨_, a2, cap2, rfl, _, hc2⟩ := h2
  by_cases hl : xs.length = ys.length
  · by_cases hne : xs = []
    · subst hne
      obtain rfl : ys = [] := List.length_eq_zero_iff.1 hl.symm
      exact equalC_none a cap a2 cap2 w
    · obtain ⟨b, off, rfl, hbw, hk⟩ := hc hne
      obtain ⟨b2, off2, rfl, hbw2, hk2⟩ := hc2 (fun h => hne (List.length_eq_zero_iff.1 (by rw [hl, h]; rfl)))
      rw [← hl]
      exact equalC_some b off cap b2 off2 cap2 xs ys w (List.length_pos_iff.2 hne) hlim hk hl (by rw [hl]; exact hk2)
  · rw [celsB_len xs ys hl]
    exact equalC_len a cap _ a2 cap2 _ w (by rw [bne_iff_ne]; omega)

end Go.Proofs.Ytkmihnagmbdbgaa
