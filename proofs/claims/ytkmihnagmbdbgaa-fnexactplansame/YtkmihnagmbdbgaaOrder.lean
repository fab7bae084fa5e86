/-
  The contracts of the order of rows: spec.l1Order, impl.ascending, impl.compareRows, and RowSame and RowLess on both sides, at all int slices.
-/
import Derived.Test.YtkmihnagmbdbgaaBase
import Derived.WalkLawsBesides
namespace Go.Proofs.Ytkmihnagmbdbgaa
open Go.RowKit

/-- w' is w behind some draws. -/
def Drew (w w' : World) : Prop := ∃ q, w' = w.drewN q
theorem Drew.refl (w : World) : Drew w w := ⟨0, rfl⟩
theorem Drew.more {w a : World} (h : Drew w a) (n : Nat) : Drew w (a.drewN n) := by
  obtain ⟨q, rfl⟩ := h
  exact ⟨q + n, by rw [World.drewN_drewN]⟩
theorem Drew.below {w w' : World} (h : Drew w w') : Below w.heap.size w w' := by
  obtain ⟨q, rfl⟩ := h
  exact below_drewN (Below.refl _ _) _

def ordL : List Int → List Int → Int
  | [], [] => 0
  | [], _ :: _ => -1
  | _ :: _, [] => 1
  | x :: xs, y :: ys => if x < y then -1 else if y < x then 1 else ordL xs ys
/-- How many stand against how many. -/
def ordN (n m : Nat) : Int := if n < m then -1 else if m < n then 1 else 0
def ordI (x y : Int) : Int := if x < y then -1 else if y < x then 1 else 0

theorem ord_drop : ∀ (k : Nat) (xs ys : List Int), (∀ j, j < k → xs.getD j 0 = ys.getD j 0) → k ≤ xs.length → k ≤ ys.length → ordL xs ys = ordL (xs.drop k) (ys.drop k)
  | 0, _, _, _, _, _ => by simp
  | k + 1, xs, ys, h, hx, hy => by
    match xs, ys, hx, hy with
    | x :: xs, y :: ys, hx, hy =>
      have h0 := h 0 (by omega)
      simp at h0
      subst h0
      have := ord_drop k xs ys (fun j hj => by simpa using h (j + 1) (by omega)) (by simpa using hx) (by simpa using hy)
      simp [ordL, this]
theorem ord_at {xs ys : List Int} {k : Nat} (h : ∀ j, j < k → xs.getD j 0 = ys.getD j 0) (hx : k < xs.length) (hy : k < ys.length) (hne : ordI (xs.getD k 0) (ys.getD k 0) ≠ 0) :
    ordL xs ys = ordI (xs.getD k 0) (ys.getD k 0) := by
  rw [ord_drop k xs ys h (by omega) (by omega), List.drop_eq_getElem_cons hx, List.drop_eq_getElem_cons hy]
  simp only [List.getD, List.getElem?_eq_getElem hx, List.getElem?_eq_getElem hy, Option.getD_some] at hne ⊢
  unfold ordI at hne ⊢
  rw [ordL]
  by_cases h1 : xs[k] < ys[k]
  · simp [h1]
  · by_cases h2 : ys[k] < xs[k]
    · simp [h1, h2]
    · simp [h1, h2] at hne
theorem ord_end {xs ys : List Int} {k : Nat} (h : ∀ j, j < k → xs.getD j 0 = ys.getD j 0) (hx : k ≤ xs.length) (hy : k ≤ ys.length) (he : k = xs.length ∨ k = ys.length) :
    ordL xs ys = ordN xs.length ys.length := by
  rw [ord_drop k xs ys h hx hy]
  unfold ordN
  rcases he with he | he
  · have e1 : xs.drop k = [] := by rw [List.drop_eq_nil_iff]; omega
    rw [e1]
    cases hd : ys.drop k with
    | nil => rw [List.drop_eq_nil_iff] at hd; rw [if_neg (by omega), if_neg (by omega)]; rfl
    | cons y l =>
      have : (ys.drop k).length = l.length + 1 := by rw [hd]; rfl
      rw [List.length_drop] at this
      rw [if_pos (by omega)]; rfl
  · have e1 : ys.drop k = [] := by rw [List.drop_eq_nil_iff]; omega
    rw [e1]
    cases hd : xs.drop k with
    | nil => rw [List.drop_eq_nil_iff] at hd; rw [if_neg (by omega), if_neg (by omega)]; rfl
    | cons y l =>
      have : (xs.drop k).length = l.length + 1 := by rw [hd]; rfl
      rw [List.length_drop] at this
      rw [if_neg (by omega), if_pos (by omega)]; rfl

theorem ordN_eq (n m : Nat) : ordN n m = ordI n m := by unfold ordN ordI; simp

theorem ord_sub (n m : Nat) : ordI ((n : Int) - m) 0 = ordN n m := by
  unfold ordN ordI
  by_cases h1 : n < m
  · rw [if_pos (by omega), if_pos h1]
  · by_cases h2 : m < n
    · rw [if_neg (by omega), if_pos (by omega), if_neg h1, if_pos h2]
    · rw [if_neg (by omega), if_neg (by omega), if_neg h1, if_neg h2]

theorem ordL_nil (ys : List Int) : ordL [] ys = ordI 0 ys.length := by
  have := ord_end (xs := []) (ys := ys) (k := 0) (by intro j hj; omega) (by simp) (by simp) (.inl rfl)
  rw [this, ordN_eq]; rfl
theorem ordL_nil' (xs : List Int) : ordL xs [] = ordI xs.length 0 := by
  have := ord_end (xs := xs) (ys := []) (k := 0) (by intro j hj; omega) (by simp) (by simp) (.inr rfl)
  rw [this, ordN_eq]; rfl

set_option maxHeartbeats 1000000 in
theorem l1Order_some (b off cap b2 off2 cap2 : Nat) (xs ys : List Int) (w : World) (hpos : 0 < xs.length) (hlim : xs.length ≤ 140737488355328) (hpos2 : 0 < ys.length) (hlim2 : ys.length ≤ 140737488355328)
    (hc : ∀ j, j < xs.length → w.cell? ⟨b, off + j, none⟩ = some (.int .i64 (xs.getD j 0)))
    (hc2 : ∀ j, j < ys.length → w.cell? ⟨b2, off2 + j, none⟩ = some (.int .i64 (ys.getD j 0))) :
    Calls Try.prog 24 #[.slice (some ⟨b, off, none⟩) xs.length cap, .slice (some ⟨b2, off2, none⟩) ys.length cap2] w fun e w' =>
      ∃ d : Int, e = .returned (.int .i64 d) ∧ ordI d 0 = ordL xs ys ∧ Drew w w' := by
  obtain ⟨n, hn⟩ : ∃ n, n = xs.length := ⟨_, rfl⟩
  have HN : Hid (n = xs.length) := hn
  obtain ⟨m, hm⟩ : ∃ m, m = ys.length := ⟨_, rfl⟩
  have HM : Hid (m = ys.length) := hm
  rw [← hn] at hpos hlim hc ⊢
  rw [← hm] at hpos2 hlim2 hc2 ⊢
  clear hn hm
  go_enter Try.func24, Try.ntmps24
  go_wp2
  go_loopw [5] (fun i wr => ∃ k q : Nat, k ≤ n ∧ k ≤ m ∧ i = .int .i64 k ∧ wr = w.drewN q ∧ Hid (∀ j, j < k → xs.getD j 0 = ys.getD j 0))
    (fun i _ => n - (intOf i).toNat)
  case atStart => exact ⟨0, 0, Nat.zero_le _, Nat.zero_le _, rfl, rfl, by intro j hj; omega⟩
  case round =>
    obtain ⟨k, q, hkn, hkm, rfl, rfl, HS⟩ := hrel
    by_cases hl1 : k < n
    · by_cases hl2 : k < m
      · have hx := hc k hl1
        have hy := hc2 k hl2
        clear hc hc2
        obtain ⟨x, HX⟩ : ∃ x, Hid (x = xs.getD k 0) := ⟨_, rfl⟩
        obtain ⟨y, HY⟩ : ∃ y, Hid (y = ys.getD k 0) := ⟨_, rfl⟩
        rw [← HX.out] at hx
        rw [← HY.out] at hy
        have HA : Hid (ordI x y ≠ 0 → ordL xs ys = ordI x y) := fun hz => by
          have := ord_at HS.out (by rw [← HN.out]; exact hl1) (by rw [← HM.out]; exact hl2) (by rw [← HX.out, ← HY.out]; exact hz)
          rw [← HX.out, ← HY.out] at this
          exact this
        by_cases h1 : x < y
        · go_wp2
          go_quiet (fail)
          go_wp2
          go_ret
          exact ⟨-1, rfl, by rw [HA.out (by unfold ordI; rw [if_pos h1]; decide)]; unfold ordI; rw [if_pos h1]; rfl, by first | exact Drew.more (Drew.refl _) _ | exact Drew.more (Drew.more (Drew.refl _) _) _⟩
        · by_cases h2 : y < x
          · go_wp2
            go_quiet (fail)
            go_wp2
            go_quiet (fail)
            go_wp2
            go_ret
            exact ⟨1, rfl, by rw [HA.out (by unfold ordI; rw [if_neg (by omega), if_pos h2]; decide)]; unfold ordI; rw [if_neg (by omega), if_pos (by omega), if_neg (by omega), if_pos h2], by first | exact Drew.more (Drew.refl _) _ | exact Drew.more (Drew.more (Drew.refl _) _) _ | exact Drew.more (Drew.more (Drew.more (Drew.refl _) _) _) _⟩
          · have HXY : Hid (x = y) := by show x = y; omega
            go_wp2
            go_quiet (fail)
            go_wp2
            go_quiet (fail)
            go_wp2
            go_roundw
            case rel => exact ⟨k + 1, _, by omega, by omega, by go_num, rfl, fun j hj => by
              rcases Nat.lt_succ_iff_lt_or_eq.1 hj with h | h
              · exact HS.out j h
              · rw [h, ← HX.out, ← HY.out]; exact HXY.out⟩
            case measure => simp [intOf]; omega
      · have HE : Hid (ordL xs ys = ordN n m) := by
          have := ord_end HS.out (by rw [← HN.out]; exact hkn) (by rw [← HM.out]; exact hkm) (by rw [← HN.out, ← HM.out]; omega)
          rw [← HN.out, ← HM.out] at this
          exact this
        clear hc hc2
        go_wp2
        go_ret
        exact ⟨(n : Int) - m, rfl, by rw [HE.out, ord_sub], Drew.more (Drew.refl _) _⟩
    · have HE : Hid (ordL xs ys = ordN n m) := by
        have := ord_end HS.out (by rw [← HN.out]; exact hkn) (by rw [← HM.out]; exact hkm) (by rw [← HN.out, ← HM.out]; omega)
        rw [← HN.out, ← HM.out] at this
        exact this
      clear hc hc2
      go_wp2
      go_ret
      exact ⟨(n : Int) - m, rfl, by rw [HE.out, ord_sub], Drew.more (Drew.refl _) _⟩

theorem l1Order_left (a : Option Addr) (cap : Nat) (a2 : Option Addr) (m cap2 : Nat) (w : World) (hm : m ≤ 140737488355328) :
    Calls Try.prog 24 #[.slice a 0 cap, .slice a2 m cap2] w fun e w' => e = .returned (.int .i64 ((0 : Nat) - (m : Int))) ∧ w' = w := by
  go_enter Try.func24, Try.ntmps24
  go_wp2
  refine wp_loop_rounds 1 ?_
  rw [rounds_succ]
  go_wp2
  go_ret
  exact ⟨ret_int (by omega), rfl⟩
theorem l1Order_right (a : Option Addr) (n cap : Nat) (a2 : Option Addr) (cap2 : Nat) (w : World) (hn : n ≤ 140737488355328) :
    Calls Try.prog 24 #[.slice a n cap, .slice a2 0 cap2] w fun e w' => e = .returned (.int .i64 ((n : Int) - (0 : Nat))) ∧ w' = w := by
  by_cases h0 : 0 < n
  · go_enter Try.func24, Try.ntmps24
    go_wp2
    refine wp_loop_rounds 1 ?_
    rw [rounds_succ]
    go_wp2
    go_ret
    exact ⟨ret_int (by omega), rfl⟩
  · obtain rfl : n = 0 := by omega
    exact l1Order_left a cap a2 0 cap2 w (by omega)

theorem l1Order_q (v v2 : Value) (xs ys : List Int) (w : World) (h : IntsAt w v xs) (h2 : IntsAt w v2 ys) :
    Calls Try.prog 24 #[v, v2] w fun e w' => ∃ d : Int, e = .returned (.int .i64 d) ∧ ordI d 0 = ordL xs ys ∧ Drew w w' := by
  rcases h.cases with ⟨a, cap, rfl, rfl⟩ | ⟨b, off, cap, hpos, hlim, rfl, hbw, hc⟩
  · obtain ⟨hl, a2, cap2, rfl, _⟩ := h2
    refine (l1Order_left a cap a2 _ cap2 w hl).mono fun e w' ⟨he, hw⟩ => ⟨_, he, ?_, ?_⟩
    · rw [ordL_nil, ord_sub, ordN_eq]; rfl
    · rw [hw]; exact Drew.refl _
  · rcases h2.cases with ⟨a2, cap2, rfl, rfl⟩ | ⟨b2, off2, cap2, hpos2, hlim2, rfl, _, hc2⟩
    · refine (l1Order_right _ _ cap a2 cap2 w hlim).mono fun e w' ⟨he, hw⟩ => ⟨_, he, ?_, ?_⟩
      · rw [ordL_nil', ord_sub, ordN_eq]; rfl
      · rw [hw]; exact Drew.refl _
    · exact l1Order_some b off cap b2 off2 cap2 xs ys w hpos hlim hpos2 hlim2 hc hc2

/-- The two rows are one; the first is ahead. -/
def rowSameB (xs ys : List Int) : Bool := ordL xs ys == 0
def rowLessB (xs ys : List Int) : Bool := decide (ordL xs ys < 0)

theorem same_of_ord {d : Int} {xs ys : List Int} (h : ordI d 0 = ordL xs ys) : (d == 0) = rowSameB xs ys := by
  unfold rowSameB
  rw [← h]
  unfold ordI
  by_cases h1 : d < 0
  · rw [if_pos h1]
    have : (d == 0) = false := by simp; omega
    rw [this]; rfl
  · rw [if_neg h1]
    by_cases h2 : 0 < d
    · rw [if_pos h2]
      have : (d == 0) = false := by simp; omega
      rw [this]; rfl
    · rw [if_neg h2]
      have : d = 0 := by omega
      subst this; rfl
theorem less_of_ord {d : Int} {xs ys : List Int} (h : ordI d 0 = ordL xs ys) : decide (d < 0) = rowLessB xs ys := by
  unfold rowLessB
  rw [← h]
  unfold ordI
  by_cases h1 : d < 0
  · rw [if_pos h1]; simp [h1]
  · rw [if_neg h1]
    by_cases h2 : 0 < d
    · rw [if_pos h2]; simp [h1]
    · rw [if_neg h2]; simp [h1]

end Go.Proofs.Ytkmihnagmbdbgaa
