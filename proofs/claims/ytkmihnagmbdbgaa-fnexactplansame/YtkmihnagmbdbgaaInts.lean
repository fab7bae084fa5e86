/-
  The contracts of laws.toIntS (a copy in new memory) and laws.eqIntS (equal as lists), at every int slice of at most 2^20 (the copy), of any length (the comparison).
-/
import Derived.Test.YtkmihnagmbdbgaaBase
namespace Go.Proofs.Ytkmihnagmbdbgaa
open Go.RowKit

/-- What stands in the copy behind k rounds. -/
def copyTo (xs : List Int) (k : Nat) : List Value := (xs.take k).map (Value.int .i64) ++ List.replicate (xs.length - k) (.int .i64 0)

theorem copyTo_zero (xs : List Int) : copyTo xs 0 = List.replicate xs.length (.int .i64 0) := by simp [copyTo]
theorem copyTo_all (xs : List Int) : copyTo xs xs.length = xs.map (Value.int .i64) := by simp [copyTo]
theorem copyTo_set (xs : List Int) (k : Nat) (hk : k < xs.length) : (copyTo xs k).set k (.int .i64 (xs.getD k 0)) = copyTo xs (k + 1) := by
  unfold copyTo
  rw [List.set_append_right _ _ (by simp; omega)]
  have h1 : k - ((xs.take k).map (Value.int .i64)).length = 0 := by simp; omega
  rw [h1]
  obtain ⟨m, hm⟩ : ∃ m, xs.length - k = m + 1 := ⟨xs.length - k - 1, by omega⟩
  have hm' : xs.length - (k + 1) = m := by omega
  have h2 : xs.getD k 0 = xs[k] := by simp [List.getD, hk]
  rw [hm, hm', List.replicate_succ, List.set_cons_zero, List.take_succ_eq_append_getElem hk, h2, List.map_append, List.append_assoc]
  rfl
theorem copyTo_length (xs : List Int) (k : Nat) (hk : k ≤ xs.length) : (copyTo xs k).length = xs.length := by
  simp [copyTo]; omega

theorem rel_copy {w wr : World} {n : Nat} {xs : List Int} {k : Nat} (hk : k < xs.length)
    (hown : wr.ownsRow w.heap.size 3 1 (.slice (some ⟨w.heap.size, 0, none⟩) n n) n (copyTo xs k)) (hb : Below w.heap.size w wr) :
    (wr.setCell ⟨w.heap.size, k, none⟩ (.int .i64 (xs.getD k 0))).ownsRow w.heap.size 3 1 (.slice (some ⟨w.heap.size, 0, none⟩) n n) n (copyTo xs (k + 1)) ∧
      Below w.heap.size w (wr.setCell ⟨w.heap.size, k, none⟩ (.int .i64 (xs.getD k 0))) := by
  have h := (hown.stored k (.int .i64 (xs.getD k 0))).1
  rw [copyTo_set xs k hk] at h
  exact ⟨h, hb.setCell (Nat.le_refl _) _⟩

set_option maxHeartbeats 1000000 in
theorem toIntS_some (b off cap : Nat) (xs : List Int) (w : World) (hpos : 0 < xs.length) (hlim : xs.length ≤ 1048576) (hbw : b < w.heap.size)
    (hc : ∀ j, j < xs.length → w.cell? ⟨b, off + j, none⟩ = some (.int .i64 (xs.getD j 0))) :
    Calls Try.prog 15 #[.slice (some ⟨b, off, none⟩) xs.length cap] w fun e w' =>
      e = .returned (.slice (some ⟨w.heap.size, 0, none⟩) xs.length xs.length) ∧ w'.ownsRow w.heap.size 3 1 (.slice (some ⟨w.heap.size, 0, none⟩) xs.length xs.length) xs.length (copyTo xs xs.length) ∧ Below w.heap.size w w' := by
  obtain ⟨i0, hi, hz0, hz1, hz2⟩ := info_parts infoInt
  obtain ⟨n, hn⟩ : ∃ n, n = xs.length := ⟨_, rfl⟩
  have HN : Hid (n = xs.length) := hn
  rw [← hn] at hpos hlim hc ⊢
  clear hn
  go_enter Try.func15, Try.ntmps15
  go_wp2_with (at_make; refine wpList_make_full _ rfl _ _ 27 rfl w.heap.size 3 i0 (.int .i64 0) 1 Try.underlying27 hi hz0 hz1 _ _ _ _ n rfl rfl rfl rfl (by rw [hz2]; omega) (by unfold maxLen; omega) (Nat.le_refl _) ?_; intro w1 hown1 hgrow1)
  have hb1 : Below w.heap.size w w1 := (Below.refl _ _).grown hgrow1 (Nat.le_refl _) (by simp)
  have hown2 : w1.ownsRow w.heap.size 3 1 (.slice (some ⟨w.heap.size, 0, none⟩) n n) n (copyTo xs 0) := by
    rw [copyTo_zero, ← HN.out]
    simpa [Value.cells, toList_madeCells_one] using hown1
  clear hown1 hgrow1
  go_loopw [4] (fun i wr => ∃ k : Nat, k ≤ n ∧ i = .int .i64 k ∧ wr.ownsRow w.heap.size 3 1 (.slice (some ⟨w.heap.size, 0, none⟩) n n) n (copyTo xs k) ∧ Below w.heap.size w wr)
    (fun i _ => n - (intOf i).toNat)
  case atStart => exact ⟨0, Nat.zero_le _, rfl, hown2, hb1⟩
  case round =>
    obtain ⟨k, hk, rfl, hown, hb⟩ := hrel
    by_cases hlt : k < n
    · have R := rel_copy (by rw [← HN.out]; exact hlt) hown hb
      have hcx : wr.cell? ⟨b, off + k, none⟩ = some (.int .i64 (xs.getD k 0)) := (hb.cell (p := ⟨b, off + k, none⟩) hbw).trans (hc k hlt)
      have hfz := hown.frozenAt k
      obtain ⟨u, hcu⟩ : ∃ u, wr.cell? ⟨w.heap.size, k, none⟩ = some u := by
        have h1 := hown.cellAt k (by omega)
        have h2 : k < (copyTo xs k).length := by rw [copyTo_length _ _ (by rw [← HN.out]; omega), ← HN.out]; exact hlt
        exact ⟨_, h1.trans (List.getElem?_eq_getElem h2)⟩
      clear hown hb hc hown2 hb1
      go_wp2
      go_roundw
      case rel => exact ⟨k + 1, by omega, by go_num, R.1, R.2⟩
      case measure => simp [intOf]; omega
    · have e : k = n := by omega
      subst e
      go_wp2
      go_ret
      exact ⟨rfl, hown, hb⟩

set_option maxHeartbeats 1000000 in
theorem toIntS_none (a : Option Addr) (cap : Nat) (w : World) :
    Calls Try.prog 15 #[.slice a 0 cap] w fun e w' =>
      e = .returned (.slice (some ⟨w.heap.size, 0, none⟩) 0 0) ∧ w'.ownsRow w.heap.size 3 1 (.slice (some ⟨w.heap.size, 0, none⟩) 0 0) 0 (copyTo [] 0) ∧ Below w.heap.size w w' := by
  obtain ⟨i0, hi, hz0, hz1, hz2⟩ := info_parts infoInt
  go_enter Try.func15, Try.ntmps15
  go_wp2_with (at_make; refine wpList_make_full _ rfl _ _ 27 rfl w.heap.size 3 i0 (.int .i64 0) 1 Try.underlying27 hi hz0 hz1 _ _ _ _ 0 rfl rfl rfl rfl (by rw [hz2]; omega) (by unfold maxLen; omega) (Nat.le_refl _) ?_; intro w1 hown1 hgrow1)
  have hb1 : Below w.heap.size w w1 := (Below.refl _ _).grown hgrow1 (Nat.le_refl _) (by simp)
  have hown2 : w1.ownsRow w.heap.size 3 1 (.slice (some ⟨w.heap.size, 0, none⟩) 0 0) 0 (copyTo [] 0) := by
    simpa [copyTo, Value.cells, toList_madeCells_one] using hown1
  clear hown1 hgrow1
  refine wp_loop_rounds 1 ?_
  rw [rounds_succ]
  go_wp2
  go_ret
  exact ⟨rfl, hown2, hb1⟩

theorem toIntS_any (v : Value) (xs : List Int) (w : World) (h : IntsAt w v xs) (hlim : xs.length ≤ 1048576) :
    Calls Try.prog 15 #[v] w fun e w' =>
      e = .returned (.slice (some ⟨w.heap.size, 0, none⟩) xs.length xs.length) ∧ w'.ownsRow w.heap.size 3 1 (.slice (some ⟨w.heap.size, 0, none⟩) xs.length xs.length) xs.length (xs.map (Value.int .i64)) ∧ Below w.heap.size w w' := by
  rcases h.cases with ⟨a, cap, rfl, rfl⟩ | ⟨b, off, cap, hpos, _, rfl, hbw, hc⟩
  · refine (toIntS_none a cap w).mono fun e w' ⟨he, ho, hb⟩ => ⟨he, ?_, hb⟩
    simpa [copyTo] using ho
  · refine (toIntS_some b off cap xs w hpos hlim hbw hc).mono fun e w' ⟨he, ho, hb⟩ => ⟨he, ?_, hb⟩
    rw [copyTo_all] at ho
    exact ho

/-- The two lists are one. -/
def sameB (xs ys : List Int) : Bool := decide (xs = ys)

theorem sameB_of (xs ys : List Int) (hl : xs.length = ys.length) (h : ∀ j, j < xs.length → xs.getD j 0 = ys.getD j 0) : sameB xs ys = true := by
  unfold sameB
  rw [decide_eq_true_iff]
  apply List.ext_getElem hl
  intro j h1 h2
  have := h j h1
  simpa [List.getD, h1, h2] using this
theorem sameB_len (xs ys : List Int) (hl : xs.length ≠ ys.length) : sameB xs ys = false := by
  unfold sameB
  rw [decide_eq_false_iff_not]
  intro h; exact hl (by rw [h])
theorem sameB_at (xs ys : List Int) (j : Nat) (h : xs.getD j 0 ≠ ys.getD j 0) : sameB xs ys = false := by
  unfold sameB
  rw [decide_eq_false_iff_not]
  intro e; exact h (by rw [e])
theorem sameB_refl (xs : List Int) : sameB xs xs = true := by simp [sameB]

set_option maxHeartbeats 1000000 in
theorem eqIntS_some (b off cap b2 off2 cap2 : Nat) (xs ys : List Int) (w : World) (hpos : 0 < xs.length) (hlim : xs.length ≤ 140737488355328)
    (hc : ∀ j, j < xs.length → w.cell? ⟨b, off + j, none⟩ = some (.int .i64 (xs.getD j 0)))
    (hlen : xs.length = ys.length)
    (hc2 : ∀ j, j < xs.length → w.cell? ⟨b2, off2 + j, none⟩ = some (.int .i64 (ys.getD j 0))) :
    Calls Try.prog 22 #[.slice (some ⟨b, off, none⟩) xs.length cap, .slice (some ⟨b2, off2, none⟩) xs.length cap2] w fun e w' =>
      e = .returned (.bool (sameB xs ys)) ∧ Below w.heap.size w w' := by
  obtain ⟨n, hn⟩ : ∃ n, n = xs.length := ⟨_, rfl⟩
  have HN : Hid (n = xs.length) := hn
  have HL : Hid (xs.length = ys.length) := hlen
  clear hlen
  rw [← hn] at hpos hlim hc hc2 ⊢
  clear hn
  go_enter Try.func22, Try.ntmps22
  go_wp2
  go_loopw [5] (fun i wr => ∃ k q : Nat, k ≤ n ∧ i = .int .i64 k ∧ wr = w.drewN q ∧ ∀ j, j < k → xs.getD j 0 = ys.getD j 0)
    (fun i _ => n - (intOf i).toNat)
  case atStart => exact ⟨0, 0, Nat.zero_le _, rfl, rfl, by omega⟩
  case round =>
    obtain ⟨k, q, hk, rfl, rfl, hsame⟩ := hrel
    have HS : Hid (∀ j, j < k → xs.getD j 0 = ys.getD j 0) := hsame
    clear hsame
    by_cases hlt : k < n
    · have hx := hc k hlt
      have hy := hc2 k hlt
      clear hc hc2
      obtain ⟨x, HX⟩ : ∃ x, Hid (x = xs.getD k 0) := ⟨_, rfl⟩
      obtain ⟨y, HY⟩ : ∃ y, Hid (y = ys.getD k 0) := ⟨_, rfl⟩
      rw [← HX.out] at hx
      rw [← HY.out] at hy
      by_cases hxy : x = y
      · have hne : (x != y) = false := by simp [hxy]
        have HXY : Hid (x = y) := hxy
        clear hxy
        go_wp2
        go_quiet (fail)
        go_wp2
        go_roundw
        case rel => exact ⟨k + 1, _, by omega, by go_num, rfl, fun j hj => by
          rcases Nat.lt_succ_iff_lt_or_eq.1 hj with h | h
          · exact HS.out j h
          · rw [h, ← HX.out, ← HY.out]; exact HXY.out⟩
        case measure => simp [intOf]; omega
      · have hne : (x != y) = true := by simp [hxy]
        go_wp2
        go_quiet (fail)
        go_wp2
        go_ret
        exact ⟨ret_bool (sameB_at xs ys k (by rw [← HX.out, ← HY.out]; exact hxy)).symm, below_drewN (below_drewN (Below.refl _ _) _) _⟩
    · have e : k = n := by omega
      subst e
      go_wp2
      go_ret
      exact ⟨ret_bool (sameB_of xs ys HL.out (by rw [← HN.out]; exact HS.out)).symm, below_drewN (Below.refl _ _) _⟩

theorem eqIntS_len (a : Option Addr) (cap n : Nat) (a2 : Option Addr) (cap2 m : Nat) (w : World) (hne : ((n : Int) != (m : Int)) = true) :
    Calls Try.prog 22 #[.slice a n cap, .slice a2 m cap2] w fun e w' => e = .returned (.bool false) ∧ Below w.heap.size w w' := by
  go_enter Try.func22, Try.ntmps22
  go_wp2
  go_ret
  exact ⟨rfl, Below.refl _ _⟩

theorem eqIntS_none (a : Option Addr) (cap : Nat) (a2 : Option Addr) (cap2 : Nat) (w : World) :
    Calls Try.prog 22 #[.slice a 0 cap, .slice a2 0 cap2] w fun e w' => e = .returned (.bool true) ∧ Below w.heap.size w w' := by
  go_enter Try.func22, Try.ntmps22
  go_wp2
  refine wp_loop_rounds 1 ?_
  rw [rounds_succ]
  go_wp2
  go_ret
  exact ⟨rfl, Below.refl _ _⟩

theorem eqIntS_any (v v2 : Value) (xs ys : List Int) (w : World) (h : IntsAt w v xs) (h2 : IntsAt w v2 ys) :
    Calls Try.prog 22 #[v, v2] w fun e w' => e = .returned (.bool (sameB xs ys)) ∧ Below w.heap.size w w' := by
  by_cases hl : xs.length = ys.length
  · rcases h.cases with ⟨a, cap, rfl, rfl⟩ | ⟨b, off, cap, hpos, hlim, rfl, hbw, hc⟩
    · obtain rfl : ys = [] := List.length_eq_zero_iff.1 hl.symm
      obtain ⟨_, a2, cap2, rfl, _⟩ := h2
      exact eqIntS_none a cap a2 cap2 w
    · rcases h2.cases with ⟨a2, cap2, rfl, rfl⟩ | ⟨b2, off2, cap2, _, _, rfl, _, hc2⟩
      · simp at hl; simp [hl] at hpos
      · rw [← hl]
        exact eqIntS_some b off cap b2 off2 cap2 xs ys w hpos hlim hc hl (by rw [hl]; exact hc2)
  · obtain ⟨_, a, cap, rfl, _⟩ := h
    obtain ⟨_, a2, cap2, rfl, _⟩ := h2
    rw [sameB_len xs ys hl]
    exact eqIntS_len a cap _ a2 cap2 _ w (by rw [bne_iff_ne]; omega)

end Go.Proofs.Ytkmihnagmbdbgaa
