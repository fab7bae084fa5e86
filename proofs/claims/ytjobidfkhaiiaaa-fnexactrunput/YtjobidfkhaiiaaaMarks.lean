/-
  The contracts of laws.markIntS and laws.heldIntS: numbers from k on are written into a slice of the call's own, and are found there.
-/
import Derived.Test.YtjobidfkhaiiaaaOwn
namespace Go.Proofs.Ytjobidfkhaiiaaa
open Go.RowKit

/-- k, k + 1, .. -/
def marks (k : Int) (n : Nat) : List Int := (List.range n).map (fun t : Nat => k + (t : Int))
theorem marks_length (k : Int) (n : Nat) : (marks k n).length = n := by simp [marks]
theorem marks_get (k : Int) (n j : Nat) (h : j < n) : (marks k n).getD j 0 = k + j := by simp [marks, List.getD, h]
theorem marks_succ (k : Int) (n : Nat) : marks k (n + 1) = marks k n ++ [k + n] := by simp [marks, List.range_succ]

def marksTo (cs : List Value) (k : Int) (j : Nat) : List Value := (marks k j).map (Value.int .i64) ++ cs.drop j
theorem marksTo_set (cs : List Value) (k : Int) (j : Nat) (hj : j < cs.length) : (marksTo cs k j).set j (.int .i64 (k + j)) = marksTo cs k (j + 1) := by
  unfold marksTo
  rw [List.set_append_right _ _ (by simp [marks_length])]
  have h1 : j - ((marks k j).map (Value.int .i64)).length = 0 := by simp [marks_length]
  rw [h1, List.drop_eq_getElem_cons hj, List.set_cons_zero, marks_succ, List.map_append, List.append_assoc]
  rfl
theorem marksTo_length (cs : List Value) (k : Int) (j : Nat) (hj : j ≤ cs.length) : (marksTo cs k j).length = cs.length := by
  simp [marksTo, marks_length]; omega

set_option maxHeartbeats 1000000 in
theorem markIntS_row (g n cap base : Nat) (cs : List Value) (k : Int) (w : World) (hk0 : 0 ≤ k) (hk : k ≤ 140737488355328) (hn : n ≤ 140737488355328)
    (hown : w.ownsRow base 3 1 (.slice (some ⟨g, 0, none⟩) n cap) n cs) :
    Calls Try.prog 53 #[.slice (some ⟨g, 0, none⟩) n cap, .int .i64 k] w fun e w' =>
      e = .returned (.int .i64 (k + n)) ∧ w'.ownsRow base 3 1 (.slice (some ⟨g, 0, none⟩) n cap) n ((marks k n).map (Value.int .i64)) ∧ w.grownBy w' (some g) := by
  have HL : Hid (cs.length = n) := by
    show cs.length = n
    have := hown.1; simpa using this
  go_enter Try.func53, Try.ntmps53
  go_wp2
  go_loopw [1, 5] (fun q i wr => ∃ j : Nat, j ≤ n ∧ i = .int .i64 j ∧ q = .int .i64 (k + j) ∧ wr.ownsRow base 3 1 (.slice (some ⟨g, 0, none⟩) n cap) n (marksTo cs k j) ∧ w.grownBy wr (some g))
    (fun _ i _ => n - (intOf i).toNat)
  case atStart => exact ⟨0, Nat.zero_le _, rfl, by simp, by simpa [marksTo, marks] using hown, grown_refl _ _⟩
  case round =>
    obtain ⟨j, hj, rfl, rfl, ho, hg⟩ := hrel
    by_cases hlt : j < n
    · have hst := ho.stored j (.int .i64 (k + j))
      rw [marksTo_set cs k j (by rw [HL.out]; exact hlt)] at hst
      have R : Hid ((wr.setCell ⟨g, j, none⟩ (.int .i64 (k + j))).ownsRow base 3 1 (.slice (some ⟨g, 0, none⟩) n cap) n (marksTo cs k (j + 1)) ∧ w.grownBy (wr.setCell ⟨g, j, none⟩ (.int .i64 (k + j))) (some g)) := ⟨hst.1, grown_trans hg hst.2⟩
      have hfz := ho.frozenAt j
      obtain ⟨u, hcu⟩ : ∃ u, wr.cell? ⟨g, j, none⟩ = some u := by
        have h1 := ho.cellAt j (by omega)
        have h2 : j < (marksTo cs k j).length := by rw [marksTo_length _ _ _ (by rw [HL.out]; exact hj), HL.out]; exact hlt
        exact ⟨_, h1.trans (List.getElem?_eq_getElem h2)⟩
      clear ho hg hst hown
      go_wp2
      go_roundw
      case rel => exact ⟨j + 1, by omega, by go_num, by rw [Int.natCast_add, Int.natCast_one, ← Int.add_assoc], R.out.1, R.out.2⟩
      case measure => simp [intOf]; omega
    · have e : j = n := by omega
      subst e
      have hm : marksTo cs k j = (marks k j).map (Value.int .i64) := by
        unfold marksTo; rw [List.drop_eq_nil_iff.2 (by rw [HL.out]; omega), List.append_nil]
      rw [hm] at ho
      clear hown hm
      go_wp2
      go_ret
      exact ⟨rfl, ho, hg⟩

theorem markIntS_nil (a : Option Addr) (cap : Nat) (k : Int) (w : World) : Calls Try.prog 53 #[.slice a 0 cap, .int .i64 k] w fun e w' => e = .returned (.int .i64 k) ∧ w' = w := by
  go_enter Try.func53, Try.ntmps53
  go_wp2
  refine wp_loop_rounds 1 ?_
  rw [rounds_succ]
  go_wp2
  go_ret
  exact ⟨rfl, rfl⟩

theorem markIntS_any (v : Value) (lo hi : Nat) (xs : List Int) (k : Int) (w : World) (hk0 : 0 ≤ k) (hk : k ≤ 140737488355328) (h : Own w lo hi v xs) :
    Calls Try.prog 53 #[v, .int .i64 k] w fun e w' => e = .returned (.int .i64 (k + xs.length)) ∧ Own w' lo hi v (marks k xs.length) ∧ w.grownBy w' v.ownBlock := by
  obtain ⟨ho, hhi, hl, hs⟩ := h
  rcases ho.2 with ⟨rfl, hn⟩ | ⟨g, cap, cur, rfl, _⟩
  · have : xs = [] := List.length_eq_zero_iff.1 hn
    subst this
    refine (markIntS_nil none 0 k w).mono fun e w' ⟨he, hw⟩ => ?_
    subst hw
    exact ⟨by simpa using he, ⟨by simpa [marks] using ho, hhi, by simp [marks], hs⟩, grown_refl _ _⟩
  · refine (markIntS_row g xs.length cap lo _ k w hk0 hk hl ho).mono fun e w' ⟨he, ho', hg⟩ => ?_
    refine ⟨he, ⟨by rw [marks_length]; exact ho', hhi, by rw [marks_length]; exact hl, Nat.le_trans hs hg.size⟩, hg⟩

set_option maxHeartbeats 1000000 in
theorem heldIntS_some (b off cap n : Nat) (k : Int) (w : World) (hk0 : 0 ≤ k) (hk : k ≤ 140737488355328) (hpos : 0 < n) (hn : n ≤ 140737488355328)
    (hc : ∀ j, j < n → w.cell? ⟨b, off + j, none⟩ = some (.int .i64 (k + j))) :
    Calls Try.prog 55 #[.slice (some ⟨b, off, none⟩) n cap, .int .i64 k] w fun e w' => e = .returned (.int .i64 (k + n)) ∧ w' = w := by
  go_enter Try.func55, Try.ntmps55
  go_wp2
  go_loop [1, 5] (fun q i => ∃ j : Nat, j ≤ n ∧ i = .int .i64 j ∧ q = .int .i64 (k + j)) (fun _ i => n - (intOf i).toNat)
  case atStart => exact ⟨0, Nat.zero_le _, rfl, by simp⟩
  case round =>
    obtain ⟨j, hj, rfl, rfl⟩ := hrel
    by_cases hlt : j < n
    · have hx := hc j hlt
      clear hc
      go_wp2
      go_round
      case rel => exact ⟨j + 1, by omega, by go_num, by rw [Int.natCast_add, Int.natCast_one, ← Int.add_assoc]⟩
      case measure => simp [intOf]; omega
    · have e : j = n := by omega
      subst e
      clear hc
      go_wp2
      go_ret
      exact ⟨rfl, rfl⟩

theorem heldIntS_nil (a : Option Addr) (cap : Nat) (k : Int) (w : World) : Calls Try.prog 55 #[.slice a 0 cap, .int .i64 k] w fun e w' => e = .returned (.int .i64 k) ∧ w' = w := by
  go_enter Try.func55, Try.ntmps55
  go_wp2
  refine wp_loop_rounds 1 ?_
  rw [rounds_succ]
  go_wp2
  go_ret
  exact ⟨rfl, rfl⟩

theorem heldIntS_any (v : Value) (n : Nat) (k : Int) (w : World) (hk0 : 0 ≤ k) (hk : k ≤ 140737488355328) (h : IntsAt w v (marks k n)) :
    Calls Try.prog 55 #[v, .int .i64 k] w fun e w' => e = .returned (.int .i64 (k + n)) ∧ w' = w := by
  rcases h.cases with ⟨a, cap, hm, rfl⟩ | ⟨b, off, cap, hpos, hlim, rfl, _, hc⟩
  · have h0 : n = 0 := by rw [← marks_length k n, hm]; rfl
    subst h0
    refine (heldIntS_nil a cap k w).mono fun e w' ⟨he, hw⟩ => ⟨by simpa using he, hw⟩
  · rw [marks_length] at hpos hlim hc ⊢
    exact heldIntS_some b off cap n k w hk0 hk hpos hlim (fun j hj => by rw [hc j hj, marks_get k n j hj])

end Go.Proofs.Ytjobidfkhaiiaaa
