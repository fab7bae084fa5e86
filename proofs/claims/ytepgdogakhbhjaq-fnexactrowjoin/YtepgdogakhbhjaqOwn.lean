/-
  Int slices in memory of the call's own, by the range of blocks in which they lie; append of an int slice; the contracts of laws.markIntS and laws.heldIntS.
-/
import Derived.Test.YtepgdogakhbhjaqInts
import Derived.Laws.AppendOwnNone
namespace Go.Proofs.Ytepgdogakhbhjaq
open Go.RowKit

/-- v is an int slice of the call's own in a block from lo up to hi, its elements are xs. -/
def Own (w : World) (lo hi : Nat) (v : Value) (xs : List Int) : Prop :=
  w.ownsRow lo 3 1 v xs.length (xs.map (Value.int .i64)) ∧ (∀ k, v.ownBlock = some k → k < hi) ∧ xs.length ≤ 140737488355328 ∧ hi ≤ w.heap.size

theorem own_new {w : World} {lo n : Nat} {v : Value} {xs : List Int} (h : w.ownsRow lo 3 1 v n (xs.map (Value.int .i64))) (hl : xs.length ≤ 140737488355328) : Own w lo w.heap.size v xs := by
  have hn : n = xs.length := by simpa using h.1.symm
  subst hn
  exact ⟨h, fun k hk => (h.lt k hk).2, hl, Nat.le_refl _⟩

theorem Own.ints {w : World} {lo hi : Nat} {v : Value} {xs : List Int} (h : Own w lo hi v xs) : IntsAt w v xs := by
  obtain ⟨ho, _, hl, _⟩ := h
  rcases ho.2 with ⟨rfl, hn⟩ | ⟨g, cap, cur, rfl, _⟩
  · have : xs = [] := List.length_eq_zero_iff.1 hn
    subst this
    exact ⟨by simp, none, 0, rfl, fun _ => rfl, fun h => absurd rfl h⟩
  · exact ints_of_row hl ho

theorem Own.keep {w w' : World} {lo hi : Nat} {v : Value} {xs : List Int} (h : Own w lo hi v xs) (hb : Below hi w w') : Own w' lo hi v xs := by
  obtain ⟨⟨h1, h2⟩, hhi, hl, hs⟩ := h
  refine ⟨⟨h1, ?_⟩, hhi, hl, Nat.le_trans hs hb.size⟩
  rcases h2 with h2 | ⟨g, cap, cur, hv, hg, hh, r⟩
  · exact .inl h2
  · exact .inr ⟨g, cap, cur, hv, hg, (hb.block g (hhi g (by rw [hv]; rfl))).trans hh, r⟩

theorem Own.keep' {w w' : World} {lo hi : Nat} {v : Value} {xs : List Int} (h : Own w lo hi v xs) (hb : Below w.heap.size w w') : Own w' lo hi v xs := h.keep (hb.mono h.2.2.2)

theorem Own.kept {w w' : World} {lo hi : Nat} {v : Value} {xs : List Int} (h : Own w lo hi v xs) {row : Option Nat} (hg : w.grownBy w' row) (hne : ∀ k, row = some k → k < lo ∨ hi ≤ k) : Own w' lo hi v xs := by
  obtain ⟨ho, hhi, hl, hs⟩ := h
  refine ⟨ho.kept hg ?_, hhi, hl, Nat.le_trans hs hg.size⟩
  cases hv : v.ownBlock with
  | none => exact .inl rfl
  | some k =>
    refine .inr fun e => ?_
    have h1 := (ho.lt k hv).1
    have h2 := hhi k hv
    rcases hne k e.symm with h | h <;> omega

theorem grown_trans {a b c : World} {row : Option Nat} (h : a.grownBy b row) (k : b.grownBy c row) : a.grownBy c row :=
  ⟨k.os.trans h.os, k.tape.trans h.tape, k.output.trans h.output, Nat.le_trans h.size k.size, fun i hi hne => (k.block i (Nat.lt_of_lt_of_le hi h.size) hne).trans (h.block i hi hne)⟩
theorem grown_refl (a : World) (row : Option Nat) : a.grownBy a row := ⟨rfl, rfl, rfl, Nat.le_refl _, fun _ _ _ => rfl⟩

theorem oneCells (xs : List Int) : ∀ u ∈ xs.map (Value.int .i64), u.oneCell' = true := ints_oneCell .i64 xs

/-- append of an int slice, whatever it is, to one that the call owns. -/
theorem wpList_append_ints {P : Program} {w : World} {ops : Array Oper} {rest : List Oper} {o : Oper} {a : Act} {Q : Exit → Act → World → Prop} (hgd : o.guard = none) (s x : Operand) (t : TypeId)
    (ho : o.op = .call { callee := .builtin .append, args := #[s, x], argTypes := #[t, t] })
    (base : Nat) (e : TypeId) (i : TypeInfo) (ht : P.underlying t = some (.slice e)) (hi : P.info? e = some i) (hz : i.zero = some (.int .i64 0))
    (hsize : i.size = 1) (hby : i.bytes = 8)
    (v : Value) (n : Nat) (xs : List Value) (hs : a.eval s = v) (hown : w.ownsRow base e 1 v n xs)
    (vx : Value) (src : List Int) (hx : a.eval x = vx) (hsrc : IntsAt w vx src)
    (hbytes : (n + src.length) * 8 ≤ 140737488355328) (hbase : base ≤ w.heap.size)
    (h : ∀ v' w', w'.ownsRow base e 1 v' (n + src.length) (xs ++ src.map (Value.int .i64)) → w.grownBy w' v.ownBlock → (v ≠ .slice none 0 0 → v' ≠ .slice none 0 0) → wpList P ops Q rest (a.put o.dst v') w') : wpList P ops Q (o :: rest) a w := by
  obtain ⟨hl, ad, cap, rfl, hnone, hc⟩ := hsrc
  cases ad with
  | none =>
    have hsrc : src = [] := by
      by_cases h0 : src = []
      · exact h0
      · obtain ⟨b, off, hh, _⟩ := hc h0
        simp at hh
    subst hsrc
    have hcap := hnone rfl
    subst hcap
    refine wpList_append_own_none hgd s x t ho base e i 1 ht hi v n xs hs hown hx ?_
    refine h v w (by simpa using hown) (grown_refl _ _) (fun h => h)
  | some ad =>
    have hnews : ∀ j u, (src.map (Value.int .i64))[j]? = some u → w.cell? (ad.add j) = some u := by
      intro j u hu
      by_cases h0 : src = []
      · subst h0; simp at hu
      · obtain ⟨b, off, hh, _, hcell⟩ := hc h0
        simp at hh
        subst hh
        have hj : j < src.length := by
          have := (List.getElem?_eq_some_iff.1 hu).1
          simpa using this
        rw [Addr.add_lit, hcell j hj]
        rw [← hu]
        simp [List.getD, hj]
    refine wpList_append_own w hgd s x t ho base e i (.int .i64 0) 1 8 ht hi hz hsize hby rfl (by decide) v n xs hs hown ad src.length cap (src.map (Value.int .i64)) hx (by simp) hnews (oneCells src) (by unfold maxLen; omega) hbytes hbase ?_
    intro v' w' h1 h2 h3
    exact h v' w' h1 h2 (fun hv hv' => hv (h3.1 hv').1)

/-- k, k + 1, .. -/
def marks (k : Int) (n : Nat) : List Int := (List.range n).map (fun t : Nat => k + (t : Int))
theorem marks_length (k : Int) (n : Nat) : (marks k n).length = n := by simp [marks]
theorem marks_get (k : Int) (n j : Nat) (h : j < n) : (marks k n).getD j 0 = k + j := by simp [marks, List.getD, h]
theorem marks_succ (k : Int) (n : Nat) : marks k (n + 1) = marks k n ++ [k + n] := by simp [marks, List.range_succ]

def marksTo (cs : List Value) (k : Int) (j : Nat) : List Value := (marks k j).map (Value.int .i64) ++ cs.drop j
theorem marksTo_set (cs : List Value) (k : Int) (j : Nat) (hj : j < cs.length) : (marksTo cs k j).set j (.int .i64 (k + j)) = marksTo cs k (j + 1) := by
  unfold marksTo
  rw [List.set_append_right _ _ (by simp [marks_length])]
  have h1 : j - ((marks k j).map (Value.int .i64)).length = 0 := by simp [marks_length]
  rw [h1, List.drop_eq_getElem_cons hj, List.set_cons_zero, marks_succ, List.map_append, List.append_assoc]
  rfl
theorem marksTo_length (cs : List Value) (k : Int) (j : Nat) (hj : j ≤ cs.length) : (marksTo cs k j).length = cs.length := by
  simp [marksTo, marks_length]; omega

set_option maxHeartbeats 1000000 in
theorem markIntS_row (g n cap base : Nat) (cs : List Value) (k : Int) (w : World) (hk0 : 0 ≤ k) (hk : k ≤ 140737488355328) (hn : n ≤ 140737488355328)
    (hown : w.ownsRow base 3 1 (.slice (some ⟨g, 0, none⟩) n cap) n cs) :
    Calls Try.prog 8 #[.slice (some ⟨g, 0, none⟩) n cap, .int .i64 k] w fun e w' =>
      e = .returned (.int .i64 (k + n)) ∧ w'.ownsRow base 3 1 (.slice (some ⟨g, 0, none⟩) n cap) n ((marks k n).map (Value.int .i64)) ∧ w.grownBy w' (some g) := by
  have HL : Hid (cs.length = n) := by
    show cs.length = n
    have := hown.1; simpa using this
  go_enter Try.func8, Try.ntmps8
  go_wp2
  go_loopw [1, 5] (fun q i wr => ∃ j : Nat, j ≤ n ∧ i = .int .i64 j ∧ q = .int .i64 (k + j) ∧ wr.ownsRow base 3 1 (.slice (some ⟨g, 0, none⟩) n cap) n (marksTo cs k j) ∧ w.grownBy wr (some g))
    (fun _ i _ => n - (intOf i).toNat)
  case atStart => exact ⟨0, Nat.zero_le _, rfl, by simp, by simpa [marksTo, marks] using hown, grown_refl _ _⟩
  case round =>
    obtain ⟨j, hj, rfl, rfl, ho, hg⟩ := hrel
    by_cases hlt : j < n
    · have hst := ho.stored j (.int .i64 (k + j))
      rw [marksTo_set cs k j (by rw [HL.out]; exact hlt)] at hst
      have R : Hid ((wr.setCell ⟨g, j, none⟩ (.int .i64 (k + j))).ownsRow base 3 1 (.slice (some ⟨g, 0, none⟩) n cap) n (marksTo cs k (j + 1)) ∧ w.grownBy (wr.setCell ⟨g, j, none⟩ (.int .i64 (k + j))) (some g)) := ⟨hst.1, grown_trans hg hst.2⟩
      have hfz := ho.frozenAt j
      obtain ⟨u, hcu⟩ : ∃ u, wr.cell? ⟨g, j, none⟩ = some u := by
        have h1 := ho.cellAt j (by omega)
        have h2 : j < (marksTo cs k j).length := by rw [marksTo_length _ _ _ (by rw [HL.out]; exact hj), HL.out]; exact hlt
        exact ⟨_, h1.trans (List.getElem?_eq_getElem h2)⟩
      clear ho hg hst hown
      go_wp2
      go_roundw
      case rel => exact ⟨j + 1, by omega, by go_num, by rw [Int.natCast_add, Int.natCast_one, ← Int.add_assoc], R.out.1, R.out.2⟩
      case measure => simp [intOf]; omega
    · have e : j = n := by omega
      subst e
      have hm : marksTo cs k j = (marks k j).map (Value.int .i64) := by
        unfold marksTo; rw [List.drop_eq_nil_iff.2 (by rw [HL.out]; omega), List.append_nil]
      rw [hm] at ho
      clear hown hm
      go_wp2
      go_ret
      exact ⟨rfl, ho, hg⟩

theorem markIntS_nil (a : Option Addr) (cap : Nat) (k : Int) (w : World) : Calls Try.prog 8 #[.slice a 0 cap, .int .i64 k] w fun e w' => e = .returned (.int .i64 k) ∧ w' = w := by
  go_enter Try.func8, Try.ntmps8
  go_wp2
  refine wp_loop_rounds 1 ?_
  rw [rounds_succ]
  go_wp2
  go_ret
  exact ⟨rfl, rfl⟩

theorem markIntS_any (v : Value) (lo hi : Nat) (xs : List Int) (k : Int) (w : World) (hk0 : 0 ≤ k) (hk : k ≤ 140737488355328) (h : Own w lo hi v xs) :
    Calls Try.prog 8 #[v, .int .i64 k] w fun e w' => e = .returned (.int .i64 (k + xs.length)) ∧ Own w' lo hi v (marks k xs.length) ∧ w.grownBy w' v.ownBlock := by
  obtain ⟨ho, hhi, hl, hs⟩ := h
  rcases ho.2 with ⟨rfl, hn⟩ | ⟨g, cap, cur, rfl, _⟩
  · have : xs = [] := List.length_eq_zero_iff.1 hn
    subst this
    refine (markIntS_nil none 0 k w).mono fun e w' ⟨he, hw⟩ => ?_
    subst hw
    exact ⟨by simpa using he, ⟨by simpa [marks] using ho, hhi, by simp [marks], hs⟩, grown_refl _ _⟩
  · refine (markIntS_row g xs.length cap lo _ k w hk0 hk hl ho).mono fun e w' ⟨he, ho', hg⟩ => ?_
    refine ⟨he, ⟨by rw [marks_length]; exact ho', hhi, by rw [marks_length]; exact hl, Nat.le_trans hs hg.size⟩, hg⟩

set_option maxHeartbeats 1000000 in
theorem heldIntS_some (b off cap n : Nat) (k : Int) (w : World) (hk0 : 0 ≤ k) (hk : k ≤ 140737488355328) (hpos : 0 < n) (hn : n ≤ 140737488355328)
    (hc : ∀ j, j < n → w.cell? ⟨b, off + j, none⟩ = some (.int .i64 (k + j))) :
    Calls Try.prog 9 #[.slice (some ⟨b, off, none⟩) n cap, .int .i64 k] w fun e w' => e = .returned (.int .i64 (k + n)) ∧ w' = w := by
  go_enter Try.func9, Try.ntmps9
  go_wp2
  go_loop [1, 5] (fun q i => ∃ j : Nat, j ≤ n ∧ i = .int .i64 j ∧ q = .int .i64 (k + j)) (fun _ i => n - (intOf i).toNat)
  case atStart => exact ⟨0, Nat.zero_le _, rfl, by simp⟩
  case round =>
    obtain ⟨j, hj, rfl, rfl⟩ := hrel
    by_cases hlt : j < n
    · have hx := hc j hlt
      clear hc
      go_wp2
      go_round
      case rel => exact ⟨j + 1, by omega, by go_num, by rw [Int.natCast_add, Int.natCast_one, ← Int.add_assoc]⟩
      case measure => simp [intOf]; omega
    · have e : j = n := by omega
      subst e
      clear hc
      go_wp2
      go_ret
      exact ⟨rfl, rfl⟩

theorem heldIntS_nil (a : Option Addr) (cap : Nat) (k : Int) (w : World) : Calls Try.prog 9 #[.slice a 0 cap, .int .i64 k] w fun e w' => e = .returned (.int .i64 k) ∧ w' = w := by
  go_enter Try.func9, Try.ntmps9
  go_wp2
  refine wp_loop_rounds 1 ?_
  rw [rounds_succ]
  go_wp2
  go_ret
  exact ⟨rfl, rfl⟩

theorem heldIntS_any (v : Value) (n : Nat) (k : Int) (w : World) (hk0 : 0 ≤ k) (hk : k ≤ 140737488355328) (h : IntsAt w v (marks k n)) :
    Calls Try.prog 9 #[v, .int .i64 k] w fun e w' => e = .returned (.int .i64 (k + n)) ∧ w' = w := by
  rcases h.cases with ⟨a, cap, hm, rfl⟩ | ⟨b, off, cap, hpos, hlim, rfl, _, hc⟩
  · have h0 : n = 0 := by rw [← marks_length k n, hm]; rfl
    subst h0
    refine (heldIntS_nil a cap k w).mono fun e w' ⟨he, hw⟩ => ⟨by simpa using he, hw⟩
  · rw [marks_length] at hpos hlim hc ⊢
    exact heldIntS_some b off cap n k w hk0 hk hpos hlim (fun j hj => by rw [hc j hj, marks_get k n j hj])

end Go.Proofs.Ytepgdogakhbhjaq
