/-
  The contracts of the document's own l3Col, CellOk, CellOf, TestOk, TestOf: they answer Cel.okB, Cel.valI, Tst.okB, Tst.valB.
-/
import Derived.Test.YtkgopbffgahhcaaDoorRowOk
import Derived.Test.YtkgopbffgahhcaaDoorCellMath
namespace Go.Proofs.YtkgopbffgahhcaaDoor
open Go.RowKit

theorem bel_alloc {w : World} (o : Obj) : Below w.heap.size w (w.alloc o) := (Below.refl _ _).alloc (Nat.le_refl _) _
theorem bel_then {w a b : World} (h : Below w.heap.size w a) (k : Below a.heap.size a b) : Below w.heap.size w b := h.trans (k.mono h.size)
theorem alloc_size (w : World) (o : Obj) : (w.alloc o).heap.size = w.heap.size + 1 := World.size_alloc w o
/-- The four cells of what a call was handed stay. -/
theorem cells4 {w w2 : World} {v0 v1 v2 v3 : Value} {t : TypeId} (h : Below (w.alloc (.cells #[v0, v1, v2, v3] t)).heap.size (w.alloc (.cells #[v0, v1, v2, v3] t)) w2) :
    w2.cell? ⟨w.heap.size, 0, none⟩ = some v0 ∧ w2.cell? ⟨w.heap.size, 1, none⟩ = some v1 ∧ w2.cell? ⟨w.heap.size, 2, none⟩ = some v2 ∧ w2.cell? ⟨w.heap.size, 3, none⟩ = some v3 := by
  have hl : w.heap.size < (w.alloc (.cells #[v0, v1, v2, v3] t)).heap.size := by rw [alloc_size]; omega
  refine ⟨(h.cell (p := ⟨w.heap.size, 0, none⟩) hl).trans ?_, (h.cell (p := ⟨w.heap.size, 1, none⟩) hl).trans ?_, (h.cell (p := ⟨w.heap.size, 2, none⟩) hl).trans ?_, (h.cell (p := ⟨w.heap.size, 3, none⟩) hl).trans ?_⟩ <;> simp [go_sem]

theorem l3Col_any (n wide : Int) (w : World) : Calls Tryd.prog 17 #[.int .i64 n, .int .i64 wide] w fun e w' => e = .returned (.bool (colB n wide)) ∧ w' = w := by
  by_cases h1 : 0 ≤ n
  · by_cases h2 : n < wide
    · by_cases h3 : n < 6
      · go_enter Tryd.func17, Tryd.ntmps17
        go_wp2
        go_ret
        exact ⟨ret_bool (by simp [colB]; omega), rfl⟩
      · go_enter Tryd.func17, Tryd.ntmps17
        go_wp2
        go_ret
        exact ⟨ret_bool (by simp [colB]; omega), rfl⟩
    · go_enter Tryd.func17, Tryd.ntmps17
      go_wp2
      go_ret
      exact ⟨ret_bool (by simp [colB]; omega), rfl⟩
  · go_enter Tryd.func17, Tryd.ntmps17
    go_wp2
    go_ret
    exact ⟨ret_bool (by simp [colB]; omega), rfl⟩

theorem colB_iff {n wide : Int} : colB n wide = true ↔ 0 ≤ n ∧ n < wide ∧ n < 6 := by simp [colB]
theorem colB_no {n wide : Int} : colB n wide = false ↔ ¬ (0 ≤ n ∧ n < wide ∧ n < 6) := by simp [colB]
theorem ok_yes {c : Cel} {wide : Int} (h : (c.k = 1 ∧ (0 ≤ c.a ∧ c.a < wide ∧ c.a < 6) ∧ c.b = 0 ∧ c.n = 0) ∨ (c.k = 2 ∧ c.a = 0 ∧ c.b = 0 ∧ -1000000000 ≤ c.n ∧ c.n ≤ 1000000000) ∨
    (c.k = 3 ∧ (0 ≤ c.a ∧ c.a < wide ∧ c.a < 6) ∧ (0 ≤ c.b ∧ c.b < wide ∧ c.b < 6) ∧ c.n = 0)) : c.okB wide = true := decide_eq_true h
theorem ok_no {c : Cel} {wide : Int} (h : ¬ ((c.k = 1 ∧ (0 ≤ c.a ∧ c.a < wide ∧ c.a < 6) ∧ c.b = 0 ∧ c.n = 0) ∨ (c.k = 2 ∧ c.a = 0 ∧ c.b = 0 ∧ -1000000000 ≤ c.n ∧ c.n ≤ 1000000000) ∨
    (c.k = 3 ∧ (0 ≤ c.a ∧ c.a < wide ∧ c.a < 6) ∧ (0 ≤ c.b ∧ c.b < wide ∧ c.b < 6) ∧ c.n = 0))) : c.okB wide = false := decide_eq_false h

set_option maxHeartbeats 1000000 in
theorem ok1_col (k a b n wide : Int) (w : World) (h1 : k = 1) (ha : colB a wide = false) :
    Calls Tryd.prog 7 #[.agg #[.int .i64 k, .int .i64 a, .int .i64 b, .int .i64 n], .int .i64 wide] w fun e w' => e = .returned (.bool false) ∧ Below w.heap.size w w' := by
  go_enter Tryd.func7, Tryd.ntmps7
  go_wp2_with (first | (go_at_call 17; refine (l3Col_any _ _ _).mono ?_; rintro e w' ⟨rfl, rfl⟩) | (go_at_call 18; refine (l1Cell_any _ _).mono ?_; rintro e w' ⟨rfl, rfl⟩))
  go_ret
  exact ⟨rfl, bel_alloc _⟩

set_option maxHeartbeats 1000000 in
theorem ok1_b (k a b n wide : Int) (w : World) (h1 : k = 1) (ha : colB a wide = true) (hb : (b == 0) = false) :
    Calls Tryd.prog 7 #[.agg #[.int .i64 k, .int .i64 a, .int .i64 b, .int .i64 n], .int .i64 wide] w fun e w' => e = .returned (.bool false) ∧ Below w.heap.size w w' := by
  go_enter Tryd.func7, Tryd.ntmps7
  go_wp2_with (first | (go_at_call 17; refine (l3Col_any _ _ _).mono ?_; rintro e w' ⟨rfl, rfl⟩) | (go_at_call 18; refine (l1Cell_any _ _).mono ?_; rintro e w' ⟨rfl, rfl⟩))
  go_ret
  exact ⟨rfl, bel_alloc _⟩

set_option maxHeartbeats 1000000 in
theorem ok1_n (k a b n wide : Int) (w : World) (h1 : k = 1) (ha : colB a wide = true) (hb : (b == 0) = true) :
    Calls Tryd.prog 7 #[.agg #[.int .i64 k, .int .i64 a, .int .i64 b, .int .i64 n], .int .i64 wide] w fun e w' => e = .returned (.bool (n == 0)) ∧ Below w.heap.size w w' := by
  go_enter Tryd.func7, Tryd.ntmps7
  go_wp2_with (first | (go_at_call 17; refine (l3Col_any _ _ _).mono ?_; rintro e w' ⟨rfl, rfl⟩) | (go_at_call 18; refine (l1Cell_any _ _).mono ?_; rintro e w' ⟨rfl, rfl⟩))
  go_ret
  exact ⟨rfl, bel_alloc _⟩

set_option maxHeartbeats 1000000 in
theorem ok2_a (k a b n wide : Int) (w : World) (h1 : k = 2) (ha : (a == 0) = false) :
    Calls Tryd.prog 7 #[.agg #[.int .i64 k, .int .i64 a, .int .i64 b, .int .i64 n], .int .i64 wide] w fun e w' => e = .returned (.bool false) ∧ Below w.heap.size w w' := by
  go_enter Tryd.func7, Tryd.ntmps7
  go_wp2_with (first | (go_at_call 17; refine (l3Col_any _ _ _).mono ?_; rintro e w' ⟨rfl, rfl⟩) | (go_at_call 18; refine (l1Cell_any _ _).mono ?_; rintro e w' ⟨rfl, rfl⟩))
  go_ret
  exact ⟨rfl, bel_alloc _⟩

set_option maxHeartbeats 1000000 in
theorem ok2_b (k a b n wide : Int) (w : World) (h1 : k = 2) (ha : (a == 0) = true) (hb : (b == 0) = false) :
    Calls Tryd.prog 7 #[.agg #[.int .i64 k, .int .i64 a, .int .i64 b, .int .i64 n], .int .i64 wide] w fun e w' => e = .returned (.bool false) ∧ Below w.heap.size w w' := by
  go_enter Tryd.func7, Tryd.ntmps7
  go_wp2_with (first | (go_at_call 17; refine (l3Col_any _ _ _).mono ?_; rintro e w' ⟨rfl, rfl⟩) | (go_at_call 18; refine (l1Cell_any _ _).mono ?_; rintro e w' ⟨rfl, rfl⟩))
  go_ret
  exact ⟨rfl, bel_alloc _⟩

set_option maxHeartbeats 1000000 in
theorem ok2_n (k a b n wide : Int) (w : World) (h1 : k = 2) (ha : (a == 0) = true) (hb : (b == 0) = true) :
    Calls Tryd.prog 7 #[.agg #[.int .i64 k, .int .i64 a, .int .i64 b, .int .i64 n], .int .i64 wide] w fun e w' => e = .returned (.bool (cellB n)) ∧ Below w.heap.size w w' := by
  go_enter Tryd.func7, Tryd.ntmps7
  go_wp2_with (first | (go_at_call 17; refine (l3Col_any _ _ _).mono ?_; rintro e w' ⟨rfl, rfl⟩) | (go_at_call 18; refine (l1Cell_any _ _).mono ?_; rintro e w' ⟨rfl, rfl⟩))
  go_ret
  exact ⟨rfl, bel_alloc _⟩

set_option maxHeartbeats 1000000 in
theorem ok3_a (k a b n wide : Int) (w : World) (h1 : k = 3) (ha : colB a wide = false) :
    Calls Tryd.prog 7 #[.agg #[.int .i64 k, .int .i64 a, .int .i64 b, .int .i64 n], .int .i64 wide] w fun e w' => e = .returned (.bool false) ∧ Below w.heap.size w w' := by
  go_enter Tryd.func7, Tryd.ntmps7
  go_wp2_with (first | (go_at_call 17; refine (l3Col_any _ _ _).mono ?_; rintro e w' ⟨rfl, rfl⟩) | (go_at_call 18; refine (l1Cell_any _ _).mono ?_; rintro e w' ⟨rfl, rfl⟩))
  go_ret
  exact ⟨rfl, bel_alloc _⟩

set_option maxHeartbeats 1000000 in
theorem ok3_b (k a b n wide : Int) (w : World) (h1 : k = 3) (ha : colB a wide = true) (hb : colB b wide = false) :
    Calls Tryd.prog 7 #[.agg #[.int .i64 k, .int .i64 a, .int .i64 b, .int .i64 n], .int .i64 wide] w fun e w' => e = .returned (.bool false) ∧ Below w.heap.size w w' := by
  go_enter Tryd.func7, Tryd.ntmps7
  go_wp2_with (first | (go_at_call 17; refine (l3Col_any _ _ _).mono ?_; rintro e w' ⟨rfl, rfl⟩) | (go_at_call 18; refine (l1Cell_any _ _).mono ?_; rintro e w' ⟨rfl, rfl⟩))
  go_ret
  exact ⟨rfl, bel_alloc _⟩

set_option maxHeartbeats 1000000 in
theorem ok3_n (k a b n wide : Int) (w : World) (h1 : k = 3) (ha : colB a wide = true) (hb : colB b wide = true) :
    Calls Tryd.prog 7 #[.agg #[.int .i64 k, .int .i64 a, .int .i64 b, .int .i64 n], .int .i64 wide] w fun e w' => e = .returned (.bool (n == 0)) ∧ Below w.heap.size w w' := by
  go_enter Tryd.func7, Tryd.ntmps7
  go_wp2_with (first | (go_at_call 17; refine (l3Col_any _ _ _).mono ?_; rintro e w' ⟨rfl, rfl⟩) | (go_at_call 18; refine (l1Cell_any _ _).mono ?_; rintro e w' ⟨rfl, rfl⟩))
  go_ret
  exact ⟨rfl, bel_alloc _⟩

set_option maxHeartbeats 1000000 in
theorem ok_none (k a b n wide : Int) (w : World) (h1 : (k == 1) = false) (h2 : (k == 2) = false) (h3 : (k == 3) = false) :
    Calls Tryd.prog 7 #[.agg #[.int .i64 k, .int .i64 a, .int .i64 b, .int .i64 n], .int .i64 wide] w fun e w' => e = .returned (.bool false) ∧ Below w.heap.size w w' := by
  go_enter Tryd.func7, Tryd.ntmps7
  go_wp2_with (first | (go_at_call 17; refine (l3Col_any _ _ _).mono ?_; rintro e w' ⟨rfl, rfl⟩) | (go_at_call 18; refine (l1Cell_any _ _).mono ?_; rintro e w' ⟨rfl, rfl⟩))
  go_ret
  exact ⟨rfl, bel_alloc _⟩

theorem specCellOk_any (c : Cel) (wide : Int) (w : World) :
    Calls Tryd.prog 7 #[.agg #[.int .i64 c.k, .int .i64 c.a, .int .i64 c.b, .int .i64 c.n], .int .i64 wide] w fun e w' => e = .returned (.bool (c.okB wide)) ∧ Below w.heap.size w w' := by
  obtain ⟨k, a, b, n⟩ := c
  by_cases h1 : k = 1
  · cases ha : colB a wide
    · rw [ok_no (by rw [colB_no] at ha; simp only; omega)]
      exact ok1_col k a b n wide w h1 ha
    · by_cases hb : b = 0
      · refine (ok1_n k a b n wide w h1 ha (by simpa using hb)).mono fun e w' ⟨he, hw⟩ => ⟨he.trans (ret_bool ?_), hw⟩
        rw [colB_iff] at ha
        by_cases hn : n = 0
        · rw [ok_yes (by simp only; omega)]; simpa using hn
        · rw [ok_no (by simp only; omega)]; simpa using hn
      · rw [ok_no (by simp only; omega)]
        exact ok1_b k a b n wide w h1 ha (by simpa using hb)
  · by_cases h2 : k = 2
    · by_cases ha : a = 0
      · by_cases hb : b = 0
        · refine (ok2_n k a b n wide w h2 (by simpa using ha) (by simpa using hb)).mono fun e w' ⟨he, hw⟩ => ⟨he.trans (ret_bool ?_), hw⟩
          cases hn : cellB n
          · rw [ok_no (by simp [cellB] at hn; simp only; omega)]
          · rw [ok_yes (by rw [cellB_iff] at hn; simp only; omega)]
        · rw [ok_no (by simp only; omega)]
          exact ok2_b k a b n wide w h2 (by simpa using ha) (by simpa using hb)
      · rw [ok_no (by simp only; omega)]
        exact ok2_a k a b n wide w h2 (by simpa using ha)
    · by_cases h3 : k = 3
      · cases ha : colB a wide
        · rw [ok_no (by rw [colB_no] at ha; simp only; omega)]
          exact ok3_a k a b n wide w h3 ha
        · cases hb : colB b wide
          · rw [ok_no (by rw [colB_no] at hb; simp only; omega)]
            exact ok3_b k a b n wide w h3 ha hb
          · refine (ok3_n k a b n wide w h3 ha hb).mono fun e w' ⟨he, hw⟩ => ⟨he.trans (ret_bool ?_), hw⟩
            rw [colB_iff] at ha hb
            by_cases hn : n = 0
            · rw [ok_yes (by simp only; omega)]; simpa using hn
            · rw [ok_no (by simp only; omega)]; simpa using hn
      · rw [ok_no (by simp only; omega)]
        exact ok_none k a b n wide w (by simpa using h1) (by simpa using h2) (by simpa using h3)

theorem ok_iff {c : Cel} {wide : Int} : c.okB wide = true ↔ ((c.k = 1 ∧ (0 ≤ c.a ∧ c.a < wide ∧ c.a < 6) ∧ c.b = 0 ∧ c.n = 0) ∨ (c.k = 2 ∧ c.a = 0 ∧ c.b = 0 ∧ -1000000000 ≤ c.n ∧ c.n ≤ 1000000000) ∨
    (c.k = 3 ∧ (0 ≤ c.a ∧ c.a < wide ∧ c.a < 6) ∧ (0 ≤ c.b ∧ c.b < wide ∧ c.b < 6) ∧ c.n = 0)) := by simp only [Cel.okB, decide_eq_true_eq]

end Go.Proofs.YtkgopbffgahhcaaDoor
