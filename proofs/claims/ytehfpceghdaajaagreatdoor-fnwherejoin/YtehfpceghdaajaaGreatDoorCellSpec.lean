/-
  The contracts of the document's own l3Col, CellOk, CellOf, TestOk, TestOf: they answer Cel.okB, Cel.valI, Tst.okB, Tst.valB.
-/
import Derived.Test.YtehfpceghdaajaaGreatDoorRowOk
import Derived.Test.YtehfpceghdaajaaGreatDoorCellMath
namespace Go.Proofs.YtehfpceghdaajaaGreatDoor
open Go.RowKit

theorem bel_alloc {w : World} (o : Obj) : Below w.heap.size w (w.alloc o) := (Below.refl _ _).alloc (Nat.le_refl _) _
theorem bel_then {w a b : World} (h : Below w.heap.size w a) (k : Below a.heap.size a b) : Below w.heap.size w b := h.trans (k.mono h.size)
theorem alloc_size (w : World) (o : Obj) : (w.alloc o).heap.size = w.heap.size + 1 := World.size_alloc w o
/-- The four cells of what a call was handed stay. -/
theorem cells4 {w w2 : World} {v0 v1 v2 v3 : Value} {t : TypeId} (h : Below (w.alloc (.cells #[v0, v1, v2, v3] t)).heap.size (w.alloc (.cells #[v0, v1, v2, v3] t)) w2) :
    w2.cell? ⟨w.heap.size, 0, none⟩ = some v0 ∧ w2.cell? ⟨w.heap.size, 1, none⟩ = some v1 ∧ w2.cell? ⟨w.heap.size, 2, none⟩ = some v2 ∧ w2.cell? ⟨w.heap.size, 3, none⟩ = some v3 := by
  have hl : w.heap.size < (w.alloc (.cells #[v0, v1, v2, v3] t)).heap.size := by rw [alloc_size]; omega
  refine ⟨(h.cell (p := ⟨w.heap.size, 0, none⟩) hl).trans ?_, (h.cell (p := ⟨w.heap.size, 1, none⟩) hl).trans ?_, (h.cell (p := ⟨w.heap.size, 2, none⟩) hl).trans ?_, (h.cell (p := ⟨w.heap.size, 3, none⟩) hl).trans ?_⟩ <;> simp [go_sem]

theorem l3Col_any (n wide : Int) (w : World) : Calls Tryz.prog 37 #[.int .i64 n, .int .i64 wide] w fun e w' => e = .returned (.bool (colB n wide)) ∧ w' = w := by
  by_cases h1 : 0 ≤ n
  · by_cases h2 : n < wide
    · by_cases h3 : n < 6
      · go_enter Tryz.func37, Tryz.ntmps37
        go_wp2
        go_ret
        exact ⟨ret_bool (by simp [colB]; omega), rfl⟩
      · go_enter Tryz.func37, Tryz.ntmps37
        go_wp2
        go_ret
        exact ⟨ret_bool (by simp [colB]; omega), rfl⟩
    · go_enter Tryz.func37, Tryz.ntmps37
      go_wp2
      go_ret
      exact ⟨ret_bool (by simp [colB]; omega), rfl⟩
  · go_enter Tryz.func37, Tryz.ntmps37
    go_wp2
    go_ret
    exact ⟨ret_bool (by simp [colB]; omega), rfl⟩

theorem colB_iff {n wide : Int} : colB n wide = true ↔ 0 ≤ n ∧ n < wide ∧ n < 6 := by simp [colB]
theorem colB_no {n wide : Int} : colB n wide = false ↔ ¬ (0 ≤ n ∧ n < wide ∧ n < 6) := by simp [colB]
theorem ok_yes {c : Cel} {wide : Int} (h : (c.k = 1 ∧ (0 ≤ c.a ∧ c.a < wide ∧ c.a < 6) ∧ c.b = 0 ∧ c.n = 0) ∨ (c.k = 2 ∧ c.a = 0 ∧ c.b = 0 ∧ -1000000000 ≤ c.n ∧ c.n ≤ 1000000000) ∨
    (c.k = 3 ∧ (0 ≤ c.a ∧ c.a < wide ∧ c.a < 6) ∧ (0 ≤ c.b ∧ c.b < wide ∧ c.b < 6) ∧ c.n = 0)) : c.okB wide = true := decide_eq_true h
theorem ok_no {c : Cel} {wide : Int} (h : ¬ ((c.k = 1 ∧ (0 ≤ c.a ∧ c.a < wide ∧ c.a < 6) ∧ c.b = 0 ∧ c.n = 0) ∨ (c.k = 2 ∧ c.a = 0 ∧ c.b = 0 ∧ -1000000000 ≤ c.n ∧ c.n ≤ 1000000000) ∨
    (c.k = 3 ∧ (0 ≤ c.a ∧ c.a < wide ∧ c.a < 6) ∧ (0 ≤ c.b ∧ c.b < wide ∧ c.b < 6) ∧ c.n = 0))) : c.okB wide = false := decide_eq_false h

set_option maxHeartbeats 1000000 in
theorem ok1_col (k a b n wide : Int) (w : World) (h1 : k = 1) (ha : colB a wide = false) :
    Calls Tryz.prog 78 #[.agg #[.int .i64 k, .int .i64 a, .int .i64 b, .int .i64 n], .int .i64 wide] w fun e w' => e = .returned (.bool false) ∧ Below w.heap.size w w' := by
  go_enter Tryz.func78, Tryz.ntmps78
  go_wp2_with (first | (go_at_call 37; refine (l3Col_any _ _ _).mono ?_; rintro e w' ⟨rfl, rfl⟩) | (go_at_call 76; refine (l1Cell_any _ _).mono ?_; rintro e w' ⟨rfl, rfl⟩))
  go_ret
  exact ⟨rfl, bel_alloc _⟩

set_option maxHeartbeats 1000000 in
theorem ok1_b (k a b n wide : Int) (w : World) (h1 : k = 1) (ha : colB a wide = true) (hb : (b == 0) = false) :
    Calls Tryz.prog 78 #[.agg #[.int .i64 k, .int .i64 a, .int .i64 b, .int .i64 n], .int .i64 wide] w fun e w' => e = .returned (.bool false) ∧ Below w.heap.size w w' := by
  go_enter Tryz.func78, Tryz.ntmps78
  go_wp2_with (first | (go_at_call 37; refine (l3Col_any _ _ _).mono ?_; rintro e w' ⟨rfl, rfl⟩) | (go_at_call 76; refine (l1Cell_any _ _).mono ?_; rintro e w' ⟨rfl, rfl⟩))
  go_ret
  exact ⟨rfl, bel_alloc _⟩

set_option maxHeartbeats 1000000 in
theorem ok1_n (k a b n wide : Int) (w : World) (h1 : k = 1) (ha : colB a wide = true) (hb : (b == 0) = true) :
    Calls Tryz.prog 78 #[.agg #[.int .i64 k, .int .i64 a, .int .i64 b, .int .i64 n], .int .i64 wide] w fun e w' => e = .returned (.bool (n == 0)) ∧ Below w.heap.size w w' := by
  go_enter Tryz.func78, Tryz.ntmps78
  go_wp2_with (first | (go_at_call 37; refine (l3Col_any _ _ _).mono ?_; rintro e w' ⟨rfl, rfl⟩) | (go_at_call 76; refine (l1Cell_any _ _).mono ?_; rintro e w' ⟨rfl, rfl⟩))
  go_ret
  exact ⟨rfl, bel_alloc _⟩

set_option maxHeartbeats 1000000 in
theorem ok2_a (k a b n wide : Int) (w : World) (h1 : k = 2) (ha : (a == 0) = false) :
    Calls Tryz.prog 78 #[.agg #[.int .i64 k, .int .i64 a, .int .i64 b, .int .i64 n], .int .i64 wide] w fun e w' => e = .returned (.bool false) ∧ Below w.heap.size w w' := by
  go_enter Tryz.func78, Tryz.ntmps78
  go_wp2_with (first | (go_at_call 37; refine (l3Col_any _ _ _).mono ?_; rintro e w' ⟨rfl, rfl⟩) | (go_at_call 76; refine (l1Cell_any _ _).mono ?_; rintro e w' ⟨rfl, rfl⟩))
  go_ret
  exact ⟨rfl, bel_alloc _⟩

set_option maxHeartbeats 1000000 in
theorem ok2_b (k a b n wide : Int) (w : World) (h1 : k = 2) (ha : (a == 0) = true) (hb : (b == 0) = false) :
    Calls Tryz.prog 78 #[.agg #[.int .i64 k, .int .i64 a, .int .i64 b, .int .i64 n], .int .i64 wide] w fun e w' => e = .returned (.bool false) ∧ Below w.heap.size w w' := by
  go_enter Tryz.func78, Tryz.ntmps78
  go_wp2_with (first | (go_at_call 37; refine (l3Col_any _ _ _).mono ?_; rintro e w' ⟨rfl, rfl⟩) | (go_at_call 76; refine (l1Cell_any _ _).mono ?_; rintro e w' ⟨rfl, rfl⟩))
  go_ret
  exact ⟨rfl, bel_alloc _⟩

set_option maxHeartbeats 1000000 in
theorem ok2_n (k a b n wide : Int) (w : World) (h1 : k = 2) (ha : (a == 0) = true) (hb : (b == 0) = true) :
    Calls Tryz.prog 78 #[.agg #[.int .i64 k, .int .i64 a, .int .i64 b, .int .i64 n], .int .i64 wide] w fun e w' => e = .returned (.bool (cellB n)) ∧ Below w.heap.size w w' := by
  go_enter Tryz.func78, Tryz.ntmps78
  go_wp2_with (first | (go_at_call 37; refine (l3Col_any _ _ _).mono ?_; rintro e w' ⟨rfl, rfl⟩) | (go_at_call 76; refine (l1Cell_any _ _).mono ?_; rintro e w' ⟨rfl, rfl⟩))
  go_ret
  exact ⟨rfl, bel_alloc _⟩

set_option maxHeartbeats 1000000 in
theorem ok3_a (k a b n wide : Int) (w : World) (h1 : k = 3) (ha : colB a wide = false) :
    Calls Tryz.prog 78 #[.agg #[.int .i64 k, .int .i64 a, .int .i64 b, .int .i64 n], .int .i64 wide] w fun e w' => e = .returned (.bool false) ∧ Below w.heap.size w w' := by
  go_enter Tryz.func78, Tryz.ntmps78
  go_wp2_with (first | (go_at_call 37; refine (l3Col_any _ _ _).mono ?_; rintro e w' ⟨rfl, rfl⟩) | (go_at_call 76; refine (l1Cell_any _ _).mono ?_; rintro e w' ⟨rfl, rfl⟩))
  go_ret
  exact ⟨rfl, bel_alloc _⟩

set_option maxHeartbeats 1000000 in
theorem ok3_b (k a b n wide : Int) (w : World) (h1 : k = 3) (ha : colB a wide = true) (hb : colB b wide = false) :
    Calls Tryz.prog 78 #[.agg #[.int .i64 k, .int .i64 a, .int .i64 b, .int .i64 n], .int .i64 wide] w fun e w' => e = .returned (.bool false) ∧ Below w.heap.size w w' := by
  go_enter Tryz.func78, Tryz.ntmps78
  go_wp2_with (first | (go_at_call 37; refine (l3Col_any _ _ _).mono ?_; rintro e w' ⟨rfl, rfl⟩) | (go_at_call 76; refine (l1Cell_any _ _).mono ?_; rintro e w' ⟨rfl, rfl⟩))
  go_ret
  exact ⟨rfl, bel_alloc _⟩

set_option maxHeartbeats 1000000 in
theorem ok3_n (k a b n wide : Int) (w : World) (h1 : k = 3) (ha : colB a wide = true) (hb : colB b wide = true) :
    Calls Tryz.prog 78 #[.agg #[.int .i64 k, .int .i64 a, .int .i64 b, .int .i64 n], .int .i64 wide] w fun e w' => e = .returned (.bool (n == 0)) ∧ Below w.heap.size w w' := by
  go_enter Tryz.func78, Tryz.ntmps78
  go_wp2_with (first | (go_at_call 37; refine (l3Col_any _ _ _).mono ?_; rintro e w' ⟨rfl, rfl⟩) | (go_at_call 76; refine (l1Cell_any _ _).mono ?_; rintro e w' ⟨rfl, rfl⟩))
  go_ret
  exact ⟨rfl, bel_alloc _⟩

set_option maxHeartbeats 1000000 in
theorem ok_none (k a b n wide : Int) (w : World) (h1 : (k == 1) = false) (h2 : (k == 2) = false) (h3 : (k == 3) = false) :
    Calls Tryz.prog 78 #[.agg #[.int .i64 k, .int .i64 a, .int .i64 b, .int .i64 n], .int .i64 wide] w fun e w' => e = .returned (.bool false) ∧ Below w.heap.size w w' := by
  go_enter Tryz.func78, Tryz.ntmps78
  go_wp2_with (first | (go_at_call 37; refine (l3Col_any _ _ _).mono ?_; rintro e w' ⟨rfl, rfl⟩) | (go_at_call 76; refine (l1Cell_any _ _).mono ?_; rintro e w' ⟨rfl, rfl⟩))
  go_ret
  exact ⟨rfl, bel_alloc _⟩

theorem specCellOk_any (c : Cel) (wide : Int) (w : World) :
    Calls Tryz.prog 78 #[.agg #[.int .i64 c.k, .int .i64 c.a, .int .i64 c.b, .int .i64 c.n], .int .i64 wide] w fun e w' => e = .returned (.bool (c.okB wide)) ∧ Below w.heap.size w w' := by
  obtain ⟨k, a, b, n⟩ := c
  by_cases h1 : k = 1
  · cases ha : colB a wide
    · rw [ok_no (by rw [colB_no] at ha; simp only; omega)]
      exact ok1_col k a b n wide w h1 ha
    · by_cases hb : b = 0
      · refine (ok1_n k a b n wide w h1 ha (by simpa using hb)).mono fun e w' ⟨he, hw⟩ => ⟨he.trans (ret_bool ?_), hw⟩
        rw [colB_iff] at ha
        by_cases hn : n = 0
        · rw [ok_yes (by simp only; omega)]; simpa using hn
        · rw [ok_no (by simp only; omega)]; simpa using hn
      · rw [ok_no (by simp only; omega)]
        exact ok1_b k a b n wide w h1 ha (by simpa using hb)
  · by_cases h2 : k = 2
    · by_cases ha : a = 0
      · by_cases hb : b = 0
        · refine (ok2_n k a b n wide w h2 (by simpa using ha) (by simpa using hb)).mono fun e w' ⟨he, hw⟩ => ⟨he.trans (ret_bool ?_), hw⟩
          cases hn : cellB n
          · rw [ok_no (by simp [cellB] at hn; simp only; omega)]
          · rw [ok_yes (by rw [cellB_iff] at hn; simp only; omega)]
        · rw [ok_no (by simp only; omega)]
          exact ok2_b k a b n wide w h2 (by simpa using ha) (by simpa using hb)
      · rw [ok_no (by simp only; omega)]
        exact ok2_a k a b n wide w h2 (by simpa using ha)
    · by_cases h3 : k = 3
      · cases ha : colB a wide
        · rw [ok_no (by rw [colB_no] at ha; simp only; omega)]
          exact ok3_a k a b n wide w h3 ha
        · cases hb : colB b wide
          · rw [ok_no (by rw [colB_no] at hb; simp only; omega)]
            exact ok3_b k a b n wide w h3 ha hb
          · refine (ok3_n k a b n wide w h3 ha hb).mono fun e w' ⟨he, hw⟩ => ⟨he.trans (ret_bool ?_), hw⟩
            rw [colB_iff] at ha hb
            by_cases hn : n = 0
            · rw [ok_yes (by simp only; omega)]; simpa using hn
            · rw [ok_no (by simp only; omega)]; simpa using hn
      · rw [ok_no (by simp only; omega)]
        exact ok_none k a b n wide w (by simpa using h1) (by simpa using h2) (by simpa using h3)

set_option maxHeartbeats 1000000 in
theorem specOf_row (c : Cel) (v : Value) (xs : List Int) (w : World) (hx : IntsAt w v xs) (hr : rowOkB xs = false) :
    Calls Tryz.prog 56 #[.agg #[.int .i64 c.k, .int .i64 c.a, .int .i64 c.b, .int .i64 c.n], v] w fun e w' => e = .returned (.tuple #[.int .i64 0, .bool false]) ∧ Below w.heap.size w w' := by
  obtain ⟨k, a, b, n⟩ := c
  simp only at *
  obtain ⟨s0, len, cap, rfl, hlen⟩ : ∃ s0 len cap, v = .slice s0 len cap ∧ len = xs.length := by
    obtain ⟨_, s0, cap, hv, _⟩ := hx
    exact ⟨s0, _, cap, hv, rfl⟩
  have HL : Hid (len = xs.length) := hlen
  clear hlen
  go_enter Tryz.func56, Tryz.ntmps56
  go_wp2_with fail
  refine (specRowOk_any _ xs _ (hx.below (bel_alloc _))).mono ?_
  rintro e w1 ⟨rfl, rfl⟩
  go_wp2
  go_ret2
  exact ⟨rfl, bel_alloc _⟩

set_option maxHeartbeats 1000000 in
theorem specOf_ok (c : Cel) (v : Value) (xs : List Int) (w : World) (hx : IntsAt w v xs) (hr : rowOkB xs = true) (hk : c.okB xs.length = false) :
    Calls Tryz.prog 56 #[.agg #[.int .i64 c.k, .int .i64 c.a, .int .i64 c.b, .int .i64 c.n], v] w fun e w' => e = .returned (.tuple #[.int .i64 0, .bool false]) ∧ Below w.heap.size w w' := by
  obtain ⟨k, a, b, n⟩ := c
  simp only at *
  obtain ⟨s0, len, cap, rfl, hlen⟩ : ∃ s0 len cap, v = .slice s0 len cap ∧ len = xs.length := by
    obtain ⟨_, s0, cap, hv, _⟩ := hx
    exact ⟨s0, _, cap, hv, rfl⟩
  have HL : Hid (len = xs.length) := hlen
  clear hlen
  go_enter Tryz.func56, Tryz.ntmps56
  go_wp2_with fail
  refine (specRowOk_any _ xs _ (hx.below (bel_alloc _))).mono ?_
  rintro e w1 ⟨rfl, rfl⟩
  go_wp2_with fail
  refine (specCellOk_any ⟨k, a, b, n⟩ _ _).mono ?_
  rintro e w2 ⟨rfl, hb2⟩
  rw [HL.out]
  have HB : Hid (Below w.heap.size w w2) := bel_then (bel_alloc _) hb2
  obtain ⟨c0, c1, c2, c3⟩ := cells4 hb2
  clear hb2
  go_wp2
  go_ret2
  exact ⟨rfl, HB.out⟩

set_option maxHeartbeats 1000000 in
theorem specOf_1 (c : Cel) (v : Value) (xs : List Int) (w : World) (hx : IntsAt w v xs) (hk1 : c.k = 1) (ha : 0 ≤ c.a ∧ c.a < xs.length)(hr : rowOkB xs = true) (hk : c.okB xs.length = true) (hcb : cellB (xs.getD c.a.toNat 0) = true) :
    Calls Tryz.prog 56 #[.agg #[.int .i64 c.k, .int .i64 c.a, .int .i64 c.b, .int .i64 c.n], v] w fun e w' => e = .returned (.tuple #[.int .i64 (xs.getD c.a.toNat 0), .bool true]) ∧ Below w.heap.size w w' := by
  obtain ⟨k, a, b, n⟩ := c
  simp only at *
  subst hk1
  obtain ⟨g, off, cap, hpos, hlim, rfl, hbw, hc⟩ := (hx.cases).resolve_left (by rintro ⟨a0, cap0, rfl, _⟩; simp [rowOkB] at hr)
  obtain ⟨len, HL⟩ : ∃ len, Hid (len = xs.length) := ⟨_, Eq.refl _⟩
  have hcel : ∀ w2 : World, Below w.heap.size w w2 → ∀ j, j < len → w2.cell? ⟨g, off + j, none⟩ = some (.int .i64 (xs.getD j 0)) := fun w2 h j hj => (h.cell (p := ⟨g, off + j, none⟩) hbw).trans (hc j (by rw [← HL.out]; exact hj))
  rw [← HL.out] at hpos hlim ⊢
  rw [← HL.out] at hk ha
  clear hc
  have HX : Hid (IntsAt w (.slice (some ⟨g, off, none⟩) len cap) xs) := by rw [HL.out]; exact hx
  clear hx
  obtain ⟨ja, rfl⟩ : ∃ ja : Nat, a = ja := ⟨a.toNat, by omega⟩
  have hja : ja < len := by omega
  rw [Int.toNat_natCast] at hcb
  obtain ⟨x, HXA⟩ : ∃ x, Hid (x = xs.getD ja 0) := ⟨_, Eq.refl _⟩
  rw [← HXA.out] at hcb
  rw [Int.toNat_natCast, ← HXA.out]

  go_enter Tryz.func56, Tryz.ntmps56
  go_wp2_with fail
  refine (specRowOk_any _ xs _ (HX.out.below (bel_alloc _))).mono ?_
  rintro e w1 ⟨rfl, rfl⟩
  go_wp2_with fail
  refine (specCellOk_any ⟨1, ja, b, n⟩ _ _).mono ?_
  rintro e w2 ⟨rfl, hb2⟩
  have HB : Hid (Below w.heap.size w w2) := bel_then (bel_alloc _) hb2
  obtain ⟨c0, c1, c2, c3⟩ := cells4 hb2
  clear hb2
  have d0 := hcel w2 HB.out ja hja
  rw [← HXA.out] at d0
  clear hcel
  go_wp2_with fail
  refine (l1Cell_any _ _).mono ?_
  rintro e w3 ⟨rfl, rfl⟩
  go_wp2
  go_ret2
  exact ⟨rfl, HB.out⟩

set_option maxHeartbeats 1000000 in
theorem specOf_2 (c : Cel) (v : Value) (xs : List Int) (w : World) (hx : IntsAt w v xs) (hk1 : c.k = 2)(hr : rowOkB xs = true) (hk : c.okB xs.length = true) (hcb : cellB c.n = true) :
    Calls Tryz.prog 56 #[.agg #[.int .i64 c.k, .int .i64 c.a, .int .i64 c.b, .int .i64 c.n], v] w fun e w' => e = .returned (.tuple #[.int .i64 c.n, .bool true]) ∧ Below w.heap.size w w' := by
  obtain ⟨k, a, b, n⟩ := c
  simp only at *
  subst hk1
  obtain ⟨g, off, cap, hpos, hlim, rfl, hbw, hc⟩ := (hx.cases).resolve_left (by rintro ⟨a0, cap0, rfl, _⟩; simp [rowOkB] at hr)
  obtain ⟨len, HL⟩ : ∃ len, Hid (len = xs.length) := ⟨_, Eq.refl _⟩
  have hcel : ∀ w2 : World, Below w.heap.size w w2 → ∀ j, j < len → w2.cell? ⟨g, off + j, none⟩ = some (.int .i64 (xs.getD j 0)) := fun w2 h j hj => (h.cell (p := ⟨g, off + j, none⟩) hbw).trans (hc j (by rw [← HL.out]; exact hj))
  rw [← HL.out] at hpos hlim ⊢
  rw [← HL.out] at hk
  clear hc
  have HX : Hid (IntsAt w (.slice (some ⟨g, off, none⟩) len cap) xs) := by rw [HL.out]; exact hx
  clear hx

  go_enter Tryz.func56, Tryz.ntmps56
  go_wp2_with fail
  refine (specRowOk_any _ xs _ (HX.out.below (bel_alloc _))).mono ?_
  rintro e w1 ⟨rfl, rfl⟩
  go_wp2_with fail
  refine (specCellOk_any ⟨2, a, b, n⟩ _ _).mono ?_
  rintro e w2 ⟨rfl, hb2⟩
  have HB : Hid (Below w.heap.size w w2) := bel_then (bel_alloc _) hb2
  obtain ⟨c0, c1, c2, c3⟩ := cells4 hb2
  clear hb2
  clear hcel
  go_wp2_with fail
  refine (l1Cell_any _ _).mono ?_
  rintro e w3 ⟨rfl, rfl⟩
  go_wp2
  go_ret2
  exact ⟨rfl, HB.out⟩

set_option maxHeartbeats 1000000 in
theorem specOf_3 (c : Cel) (v : Value) (xs : List Int) (w : World) (hx : IntsAt w v xs) (hk1 : c.k = 3) (ha : 0 ≤ c.a ∧ c.a < xs.length) (hb : 0 ≤ c.b ∧ c.b < xs.length) (hx2 : -1000000000 ≤ xs.getD c.a.toNat 0 ∧ xs.getD c.a.toNat 0 ≤ 1000000000) (hy2 : -1000000000 ≤ xs.getD c.b.toNat 0 ∧ xs.getD c.b.toNat 0 ≤ 1000000000)(hr : rowOkB xs = true) (hk : c.okB xs.length = true) (hcb : cellB (xs.getD c.a.toNat 0 + xs.getD c.b.toNat 0) = true) :
    Calls Tryz.prog 56 #[.agg #[.int .i64 c.k, .int .i64 c.a, .int .i64 c.b, .int .i64 c.n], v] w fun e w' => e = .returned (.tuple #[.int .i64 (xs.getD c.a.toNat 0 + xs.getD c.b.toNat 0), .bool true]) ∧ Below w.heap.size w w' := by
  obtain ⟨k, a, b, n⟩ := c
  simp only at *
  subst hk1
  obtain ⟨g, off, cap, hpos, hlim, rfl, hbw, hc⟩ := (hx.cases).resolve_left (by rintro ⟨a0, cap0, rfl, _⟩; simp [rowOkB] at hr)
  obtain ⟨len, HL⟩ : ∃ len, Hid (len = xs.length) := ⟨_, Eq.refl _⟩
  have hcel : ∀ w2 : World, Below w.heap.size w w2 → ∀ j, j < len → w2.cell? ⟨g, off + j, none⟩ = some (.int .i64 (xs.getD j 0)) := fun w2 h j hj => (h.cell (p := ⟨g, off + j, none⟩) hbw).trans (hc j (by rw [← HL.out]; exact hj))
  rw [← HL.out] at hpos hlim ⊢
  rw [← HL.out] at hk ha hb
  clear hc
  have HX : Hid (IntsAt w (.slice (some ⟨g, off, none⟩) len cap) xs) := by rw [HL.out]; exact hx
  clear hx
  obtain ⟨ja, rfl⟩ : ∃ ja : Nat, a = ja := ⟨a.toNat, by omega⟩
  obtain ⟨jb, rfl⟩ : ∃ jb : Nat, b = jb := ⟨b.toNat, by omega⟩
  have hja : ja < len := by omega
  have hjb : jb < len := by omega
  simp only [Int.toNat_natCast] at hcb hx2 hy2 ⊢
  obtain ⟨x, HXA⟩ : ∃ x, Hid (x = xs.getD ja 0) := ⟨_, Eq.refl _⟩
  obtain ⟨y, HXB⟩ : ∃ y, Hid (y = xs.getD jb 0) := ⟨_, Eq.refl _⟩
  rw [← HXA.out] at hcb hx2
  rw [← HXB.out] at hcb hy2
  try rw [← HXA.out, ← HXB.out]
  have hwr : IntKind.i64.wrap (x + y) = x + y := by unfold IntKind.wrap; simp [IntKind.bits, IntKind.signed]; omega

  go_enter Tryz.func56, Tryz.ntmps56
  go_wp2_with fail
  refine (specRowOk_any _ xs _ (HX.out.below (bel_alloc _))).mono ?_
  rintro e w1 ⟨rfl, rfl⟩
  go_wp2_with fail
  refine (specCellOk_any ⟨3, ja, jb, n⟩ _ _).mono ?_
  rintro e w2 ⟨rfl, hb2⟩
  have HB : Hid (Below w.heap.size w w2) := bel_then (bel_alloc _) hb2
  obtain ⟨c0, c1, c2, c3⟩ := cells4 hb2
  clear hb2
  have d0 := hcel w2 HB.out ja hja
  rw [← HXA.out] at d0
  have d1 := hcel w2 HB.out jb hjb
  rw [← HXB.out] at d1
  clear hcel
  go_wp2_with fail
  go_quiet (fail)
  go_wp2_with fail
  refine (l1Cell_any _ _).mono ?_
  rintro e w3 ⟨rfl, rfl⟩
  go_wp2
  go_ret2
  exact ⟨rfl, below_drewN HB.out _⟩

set_option maxHeartbeats 1000000 in
theorem specOf_3no (c : Cel) (v : Value) (xs : List Int) (w : World) (hx : IntsAt w v xs) (hk1 : c.k = 3) (ha : 0 ≤ c.a ∧ c.a < xs.length) (hb : 0 ≤ c.b ∧ c.b < xs.length) (hx2 : -1000000000 ≤ xs.getD c.a.toNat 0 ∧ xs.getD c.a.toNat 0 ≤ 1000000000) (hy2 : -1000000000 ≤ xs.getD c.b.toNat 0 ∧ xs.getD c.b.toNat 0 ≤ 1000000000)(hr : rowOkB xs = true) (hk : c.okB xs.length = true) (hcb : cellB (xs.getD c.a.toNat 0 + xs.getD c.b.toNat 0) = false) :
    Calls Tryz.prog 56 #[.agg #[.int .i64 c.k, .int .i64 c.a, .int .i64 c.b, .int .i64 c.n], v] w fun e w' => e = .returned (.tuple #[.int .i64 0, .bool false]) ∧ Below w.heap.size w w' := by
  obtain ⟨k, a, b, n⟩ := c
  simp only at *
  subst hk1
  obtain ⟨g, off, cap, hpos, hlim, rfl, hbw, hc⟩ := (hx.cases).resolve_left (by rintro ⟨a0, cap0, rfl, _⟩; simp [rowOkB] at hr)
  obtain ⟨len, HL⟩ : ∃ len, Hid (len = xs.length) := ⟨_, Eq.refl _⟩
  have hcel : ∀ w2 : World, Below w.heap.size w w2 → ∀ j, j < len → w2.cell? ⟨g, off + j, none⟩ = some (.int .i64 (xs.getD j 0)) := fun w2 h j hj => (h.cell (p := ⟨g, off + j, none⟩) hbw).trans (hc j (by rw [← HL.out]; exact hj))
  rw [← HL.out] at hpos hlim ⊢
  rw [← HL.out] at hk ha hb
  clear hc
  have HX : Hid (IntsAt w (.slice (some ⟨g, off, none⟩) len cap) xs) := by rw [HL.out]; exact hx
  clear hx
  obtain ⟨ja, rfl⟩ : ∃ ja : Nat, a = ja := ⟨a.toNat, by omega⟩
  obtain ⟨jb, rfl⟩ : ∃ jb : Nat, b = jb := ⟨b.toNat, by omega⟩
  have hja : ja < len := by omega
  have hjb : jb < len := by omega
  simp only [Int.toNat_natCast] at hcb hx2 hy2 ⊢
  obtain ⟨x, HXA⟩ : ∃ x, Hid (x = xs.getD ja 0) := ⟨_, Eq.refl _⟩
  obtain ⟨y, HXB⟩ : ∃ y, Hid (y = xs.getD jb 0) := ⟨_, Eq.refl _⟩
  rw [← HXA.out] at hcb hx2
  rw [← HXB.out] at hcb hy2
  try rw [← HXA.out, ← HXB.out]
  have hwr : IntKind.i64.wrap (x + y) = x + y := by unfold IntKind.wrap; simp [IntKind.bits, IntKind.signed]; omega

  go_enter Tryz.func56, Tryz.ntmps56
  go_wp2_with fail
  refine (specRowOk_any _ xs _ (HX.out.below (bel_alloc _))).mono ?_
  rintro e w1 ⟨rfl, rfl⟩
  go_wp2_with fail
  refine (specCellOk_any ⟨3, ja, jb, n⟩ _ _).mono ?_
  rintro e w2 ⟨rfl, hb2⟩
  have HB : Hid (Below w.heap.size w w2) := bel_then (bel_alloc _) hb2
  obtain ⟨c0, c1, c2, c3⟩ := cells4 hb2
  clear hb2
  have d0 := hcel w2 HB.out ja hja
  rw [← HXA.out] at d0
  have d1 := hcel w2 HB.out jb hjb
  rw [← HXB.out] at d1
  clear hcel
  go_wp2_with fail
  go_quiet (fail)
  go_wp2_with fail
  refine (l1Cell_any _ _).mono ?_
  rintro e w3 ⟨rfl, rfl⟩
  go_wp2
  go_ret2
  exact ⟨rfl, below_drewN HB.out _⟩

theorem ok_iff {c : Cel} {wide : Int} : c.okB wide = true ↔ ((c.k = 1 ∧ (0 ≤ c.a ∧ c.a < wide ∧ c.a < 6) ∧ c.b = 0 ∧ c.n = 0) ∨ (c.k = 2 ∧ c.a = 0 ∧ c.b = 0 ∧ -1000000000 ≤ c.n ∧ c.n ≤ 1000000000) ∨
    (c.k = 3 ∧ (0 ≤ c.a ∧ c.a < wide ∧ c.a < 6) ∧ (0 ≤ c.b ∧ c.b < wide ∧ c.b < 6) ∧ c.n = 0)) := by simp only [Cel.okB, decide_eq_true_eq]

theorem specCellOf_any (c : Cel) (v : Value) (xs : List Int) (w : World) (hx : IntsAt w v xs) :
    Calls Tryz.prog 56 #[.agg #[.int .i64 c.k, .int .i64 c.a, .int .i64 c.b, .int .i64 c.n], v] w fun e w' => e = .returned (.tuple #[.int .i64 (c.valI xs), .bool (c.toldB xs)]) ∧ Below w.heap.size w w' := by
  cases hr : rowOkB xs
  · have h1 : c.toldB xs = false := by simp [Cel.toldB, hr]
    have h2 : c.valI xs = 0 := by simp [Cel.valI, h1]
    rw [h1, h2]
    exact specOf_row c v xs w hx hr
  · cases hk : c.okB xs.length
    · have h1 : c.toldB xs = false := by simp [Cel.toldB, hk]
      have h2 : c.valI xs = 0 := by simp [Cel.valI, h1]
      rw [h1, h2]
      exact specOf_ok c v xs w hx hr hk
    · rcases ok_iff.1 hk with ⟨k1, ha, hb, hn⟩ | ⟨k2, ha, hb, hn⟩ | ⟨k3, ha, hb, hn⟩
      · have hu : c.num xs = xs.getD c.a.toNat 0 := by simp [Cel.num, k1]
        have hf := cellB_iff.2 (row_cell hr (j := c.a.toNat) (by omega))
        have h1 : c.toldB xs = true := by unfold Cel.toldB; rw [hr, hk, hu, hf]; rfl
        have h2 : c.valI xs = xs.getD c.a.toNat 0 := by rw [Cel.valI, if_pos h1, hu]
        rw [h1, h2]
        exact specOf_1 c v xs w hx k1 (by omega) hr hk hf
      · have hu : c.num xs = c.n := by simp [Cel.num, k2]
        have hf := cellB_iff.2 hn
        have h1 : c.toldB xs = true := by unfold Cel.toldB; rw [hr, hk, hu, hf]; rfl
        have h2 : c.valI xs = c.n := by rw [Cel.valI, if_pos h1, hu]
        rw [h1, h2]
        exact specOf_2 c v xs w hx k2 hr hk hf
      · have hu : c.num xs = xs.getD c.a.toNat 0 + xs.getD c.b.toNat 0 := by simp [Cel.num, k3]
        have ra := row_cell hr (j := c.a.toNat) (by omega)
        have rb := row_cell hr (j := c.b.toNat) (by omega)
        cases hf : cellB (xs.getD c.a.toNat 0 + xs.getD c.b.toNat 0)
        · have h1 : c.toldB xs = false := by unfold Cel.toldB; rw [hu, hf, Bool.and_false]
          have h2 : c.valI xs = 0 := by simp [Cel.valI, h1]
          rw [h1, h2]
          exact specOf_3no c v xs w hx k3 (by omega) (by omega) ra rb hr hk hf
        · have h1 : c.toldB xs = true := by unfold Cel.toldB; rw [hr, hk, hu, hf]; rfl
          have h2 : c.valI xs = xs.getD c.a.toNat 0 + xs.getD c.b.toNat 0 := by rw [Cel.valI, if_pos h1, hu]
          rw [h1, h2]
          exact specOf_3 c v xs w hx k3 (by omega) (by omega) ra rb hr hk hf

end Go.Proofs.YtehfpceghdaajaaGreatDoor
