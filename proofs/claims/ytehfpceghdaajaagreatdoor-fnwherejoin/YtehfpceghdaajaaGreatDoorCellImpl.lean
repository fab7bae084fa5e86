/-
  The contracts of the program's own reckonerOf and what stands on it.
-/
import Derived.Test.YtehfpceghdaajaaGreatDoorCellSpec
import Derived.Test.YtehfpceghdaajaaGreatDoorIs
namespace Go.Proofs.YtehfpceghdaajaaGreatDoor
open Go.RowKit

theorem cellEq (k a b n k' a' b' n' : Int) (w : World) :
    (binOp .eql 28 (.agg #[.int .i64 k, .int .i64 a, .int .i64 b, .int .i64 n]) (.agg #[.int .i64 k', .int .i64 a', .int .i64 b', .int .i64 n'])).run Tryz.prog w = .ok (.bool (k == k' && (a == a' && (b == b' && n == n')))) w := by
  have hs : Tryz.prog.stoodInHeld 28 = false := by kernel_rfl
  rw [run_eql_struct, run_equalIn_agg (P := Tryz.prog) w _ _ _ _ (by kernel_rfl) hs]
  simp only [Program.fieldsOf, Tryz.underlying28]
  by_cases h1 : k = k' <;> by_cases h2 : a = a' <;> by_cases h3 : b = b' <;> by_cases h4 : n = n' <;> simp [go_sem, h1, h2, h3, h4, Tryz.underlying3]




set_option maxRecDepth 100000 in
set_option maxHeartbeats 1000000 in
theorem reck_col (a : Int) (w : World) :
    Calls Tryz.prog 84 #[.agg #[.int .i64 1, .int .i64 a, .int .i64 0, .int .i64 0]] w fun e w' => e = .returned (.tuple #[.iface 145 (.agg #[.int .i64 a]), .nilIface]) ∧ Below w.heap.size w w' := by
  have h0 : ∀ w : World, (binOp .eql 28 (.agg #[.int .i64 1, .int .i64 a, .int .i64 0, .int .i64 0]) (.agg #[.int .i64 1, .int .i64 a, .int .i64 0, .int .i64 0])).run Tryz.prog w = .ok (.bool true) w := fun w => by rw [cellEq]; simp
  go_enter Tryz.func84, Tryz.ntmps84
  go_wp2
  go_ret2
  exact ⟨rfl, bel_alloc _⟩

set_option maxRecDepth 100000 in
set_option maxHeartbeats 1000000 in
theorem reck_num (n : Int) (w : World) :
    Calls Tryz.prog 84 #[.agg #[.int .i64 2, .int .i64 0, .int .i64 0, .int .i64 n]] w fun e w' => e = .returned (.tuple #[.iface 147 (.agg #[.int .i64 n]), .nilIface]) ∧ Below w.heap.size w w' := by
  have h0 : ∀ w : World, (binOp .eql 28 (.agg #[.int .i64 2, .int .i64 0, .int .i64 0, .int .i64 n]) (.agg #[.int .i64 1, .int .i64 0, .int .i64 0, .int .i64 0])).run Tryz.prog w = .ok (.bool false) w := fun w => by rw [cellEq]; simp
  have h1 : ∀ w : World, (binOp .eql 28 (.agg #[.int .i64 2, .int .i64 0, .int .i64 0, .int .i64 n]) (.agg #[.int .i64 2, .int .i64 0, .int .i64 0, .int .i64 n])).run Tryz.prog w = .ok (.bool true) w := fun w => by rw [cellEq]; simp
  go_enter Tryz.func84, Tryz.ntmps84
  go_wp2
  go_ret2
  exact ⟨rfl, bel_alloc _⟩

set_option maxRecDepth 100000 in
set_option maxHeartbeats 1000000 in
theorem reck_two (a b : Int) (w : World) :
    Calls Tryz.prog 84 #[.agg #[.int .i64 3, .int .i64 a, .int .i64 b, .int .i64 0]] w fun e w' => e = .returned (.tuple #[.iface 149 (.agg #[.int .i64 a, .int .i64 b]), .nilIface]) ∧ Below w.heap.size w w' := by
  have h0 : ∀ w : World, (binOp .eql 28 (.agg #[.int .i64 3, .int .i64 a, .int .i64 b, .int .i64 0]) (.agg #[.int .i64 1, .int .i64 a, .int .i64 0, .int .i64 0])).run Tryz.prog w = .ok (.bool false) w := fun w => by rw [cellEq]; simp
  have h1 : ∀ w : World, (binOp .eql 28 (.agg #[.int .i64 3, .int .i64 a, .int .i64 b, .int .i64 0]) (.agg #[.int .i64 2, .int .i64 0, .int .i64 0, .int .i64 0])).run Tryz.prog w = .ok (.bool false) w := fun w => by rw [cellEq]; simp
  have h2 : ∀ w : World, (binOp .eql 28 (.agg #[.int .i64 3, .int .i64 a, .int .i64 b, .int .i64 0]) (.agg #[.int .i64 3, .int .i64 a, .int .i64 b, .int .i64 0])).run Tryz.prog w = .ok (.bool true) w := fun w => by rw [cellEq]; simp
  go_enter Tryz.func84, Tryz.ntmps84
  go_wp2
  go_ret2
  exact ⟨rfl, bel_alloc _⟩

/-- What has a kind. -/
def Cel.kindB (c : Cel) : Bool := decide ((c.k = 1 ∧ c.b = 0 ∧ c.n = 0) ∨ (c.k = 2 ∧ c.a = 0 ∧ c.b = 0) ∨ (c.k = 3 ∧ c.n = 0))

set_option maxRecDepth 100000 in
set_option maxHeartbeats 1000000 in
theorem reck_none (c : Cel) (w : World) (p : Addr) (hs : Sent w p) (hk : c.kindB = false) :
    Calls Tryz.prog 84 #[.agg #[.int .i64 c.k, .int .i64 c.a, .int .i64 c.b, .int .i64 c.n]] w fun e w' => e = .returned (.tuple #[.nilIface, .iface 159 (.pointer (some p))]) ∧ Below w.heap.size w w' := by
  obtain ⟨k, a, b, n⟩ := c
  simp only [Cel.kindB, decide_eq_false_iff_not] at hk
  simp only
  have h0 : ∀ w : World, (binOp .eql 28 (.agg #[.int .i64 k, .int .i64 a, .int .i64 b, .int .i64 n]) (.agg #[.int .i64 1, .int .i64 a, .int .i64 0, .int .i64 0])).run Tryz.prog w = .ok (.bool false) w := fun w => by
    rw [cellEq]; congr 2; rw [Bool.eq_false_iff]; simp; omega
  have h1 : ∀ w : World, (binOp .eql 28 (.agg #[.int .i64 k, .int .i64 a, .int .i64 b, .int .i64 n]) (.agg #[.int .i64 2, .int .i64 0, .int .i64 0, .int .i64 n])).run Tryz.prog w = .ok (.bool false) w := fun w => by
    rw [cellEq]; congr 2; rw [Bool.eq_false_iff]; simp; omega
  have h2 : ∀ w : World, (binOp .eql 28 (.agg #[.int .i64 k, .int .i64 a, .int .i64 b, .int .i64 n]) (.agg #[.int .i64 3, .int .i64 a, .int .i64 b, .int .i64 0])).run Tryz.prog w = .ok (.bool false) w := fun w => by
    rw [cellEq]; congr 2; rw [Bool.eq_false_iff]; simp; omega
  have hg := (hs.below (bel_alloc (.cells #[.int .i64 k, .int .i64 a, .int .i64 b, .int .i64 n] 28))).2
  clear hs hk
  go_enter Tryz.func84, Tryz.ntmps84
  go_wp2
  go_quiet (fail)
  go_wp2
  go_ret2
  exact ⟨rfl, below_drewN (bel_alloc _) _⟩

theorem colFor_any (a wide : Int) (w : World) :
    Calls Tryz.prog 134 #[.agg #[.int .i64 a], .int .i64 wide] w fun e w' => e = .returned (.bool (colB a wide)) ∧ Below w.heap.size w w' := by
  by_cases h1 : 0 ≤ a
  · by_cases h2 : wide ≤ 6
    · by_cases h3 : a < wide
      · go_enter Tryz.func134, Tryz.ntmps134
        go_wp2
        go_ret
        exact ⟨ret_bool (by simp [colB]; omega), bel_alloc _⟩
      · go_enter Tryz.func134, Tryz.ntmps134
        go_wp2
        go_ret
        exact ⟨ret_bool (by simp [colB]; omega), bel_alloc _⟩
    · by_cases h3 : a < 6
      · go_enter Tryz.func134, Tryz.ntmps134
        go_wp2
        go_ret
        exact ⟨ret_bool (by simp [colB]; omega), bel_alloc _⟩
      · go_enter Tryz.func134, Tryz.ntmps134
        go_wp2
        go_ret
        exact ⟨ret_bool (by simp [colB]; omega), bel_alloc _⟩
  · go_enter Tryz.func134, Tryz.ntmps134
    go_wp2
    go_ret
    exact ⟨ret_bool (by simp [colB]; omega), bel_alloc _⟩

theorem numFor_any (n wide : Int) (w : World) :
    Calls Tryz.prog 137 #[.agg #[.int .i64 n], .int .i64 wide] w fun e w' => e = .returned (.bool (cellB n)) ∧ Below w.heap.size w w' := by
  go_enter Tryz.func137, Tryz.ntmps137
  go_wp2_with fail
  refine (cellFits_any _ _).mono ?_
  rintro e w2 ⟨rfl, rfl⟩
  go_wp2
  go_ret
  exact ⟨rfl, bel_alloc _⟩

theorem pairCells {w w2 : World} {v0 v1 : Value} {t : TypeId} (h : Below (w.alloc (.cells #[v0, v1] t)).heap.size (w.alloc (.cells #[v0, v1] t)) w2) :
    w2.cell? ⟨w.heap.size, 0, none⟩ = some v0 ∧ w2.cell? ⟨w.heap.size, 1, none⟩ = some v1 := by
  have hl : w.heap.size < (w.alloc (.cells #[v0, v1] t)).heap.size := by rw [alloc_size]; omega
  refine ⟨(h.cell (p := ⟨w.heap.size, 0, none⟩) hl).trans ?_, (h.cell (p := ⟨w.heap.size, 1, none⟩) hl).trans ?_⟩ <;> simp [go_sem]

theorem twoFor_any (a b wide : Int) (w : World) :
    Calls Tryz.prog 140 #[.agg #[.int .i64 a, .int .i64 b], .int .i64 wide] w fun e w' => e = .returned (.bool (colB a wide && colB b wide)) ∧ Below w.heap.size w w' := by
  cases ha : colB a wide
  · go_enter Tryz.func140, Tryz.ntmps140
    go_wp2_with fail
    refine (colFor_any _ _ _).mono ?_
    rintro e w2 ⟨rfl, hb2⟩
    have HB : Hid (Below w.heap.size w w2) := bel_then (bel_alloc _) hb2
    clear hb2
    go_wp2
    go_ret
    exact ⟨rfl, HB.out⟩
  · go_enter Tryz.func140, Tryz.ntmps140
    go_wp2_with fail
    refine (colFor_any _ _ _).mono ?_
    rintro e w2 ⟨rfl, hb2⟩
    have HB : Hid (Below w.heap.size w w2) := bel_then (bel_alloc _) hb2
    obtain ⟨c0, c1⟩ := pairCells hb2
    clear hb2
    go_wp2_with fail
    refine (colFor_any _ _ _).mono ?_
    rintro e w3 ⟨rfl, hb3⟩
    have HB2 : Hid (Below w.heap.size w w3) := bel_then HB.out hb3
    clear hb3
    go_wp2
    go_ret
    exact ⟨rfl, HB2.out⟩

theorem invCol (v : Value) (w : World) : (Go.method 296 145 v "loop.example/milldam/impl.okFor").run Tryz.prog w = .ok (134, v) w := by kernel_rfl
theorem invNum (v : Value) (w : World) : (Go.method 296 147 v "loop.example/milldam/impl.okFor").run Tryz.prog w = .ok (137, v) w := by kernel_rfl
theorem invTwo (v : Value) (w : World) : (Go.method 296 149 v "loop.example/milldam/impl.okFor").run Tryz.prog w = .ok (140, v) w := by kernel_rfl

end Go.Proofs.YtehfpceghdaajaaGreatDoor
