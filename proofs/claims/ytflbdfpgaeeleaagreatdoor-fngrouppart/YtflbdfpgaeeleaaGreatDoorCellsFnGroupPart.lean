/-
  Texts of this claim put behind one another: CellMath, CellSpec, CellBox, CellImpl, CellReck, TestSpec, TestSpec2, TestImpl, WhereMath, WhereImpl, WhereSpec, WhereFacts.
-/
import Derived.Test.YtflbdfpgaeeleaaGreatDoorTextMath
import Derived.Test.YtflbdfpgaeeleaaGreatDoorRowOk
import Derived.Test.YtflbdfpgaeeleaaGreatDoorIs
import Derived.Deep.RegionWith
import Derived.Test.YtflbdfpgaeeleaaGreatDoorPutMath
import Derived.Test.YtflbdfpgaeeleaaGreatDoorStep
import Derived.Test.YtflbdfpgaeeleaaGreatDoorZOk
import Derived.Test.YtflbdfpgaeeleaaGreatDoorPutWalk
import Derived.Test.YtflbdfpgaeeleaaGreatDoorZNeg
import Derived.Test.YtflbdfpgaeeleaaGreatDoorZVals

/-
  What is reckoned of a row, as numbers: when a place, a cell, a test is ok, and what it comes to. No program in it.
-/
namespace Go.Proofs.YtflbdfpgaeeleaaGreatDoor
open Go.RowKit

/-- A place in rows so wide. -/
def colB (n wide : Int) : Bool := decide (0 ≤ n ∧ n < wide ∧ n < 6)

/-- What is reckoned: its kind, its two places, its number. -/
structure Cel where
  k : Int
  a : Int
  b : Int
  n : Int

def Cel.okB (c : Cel) (wide : Int) : Bool :=
  decide ((c.k = 1 ∧ (0 ≤ c.a ∧ c.a < wide ∧ c.a < 6) ∧ c.b = 0 ∧ c.n = 0) ∨ (c.k = 2 ∧ c.a = 0 ∧ c.b = 0 ∧ -1000000000 ≤ c.n ∧ c.n ≤ 1000000000) ∨
    (c.k = 3 ∧ (0 ≤ c.a ∧ c.a < wide ∧ c.a < 6) ∧ (0 ≤ c.b ∧ c.b < wide ∧ c.b < 6) ∧ c.n = 0))

/-- What it comes to, where it is ok of that row. -/
def Cel.num (c : Cel) (r : List Int) : Int := if c.k = 1 then r.getD c.a.toNat 0 else if c.k = 2 then c.n else r.getD c.a.toNat 0 + r.getD c.b.toNat 0
/-- It can be reckoned of that row. -/
def Cel.toldB (c : Cel) (r : List Int) : Bool := rowOkB r && c.okB r.length && cellB (c.num r)
def Cel.valI (c : Cel) (r : List Int) : Int := if c.toldB r then c.num r else 0

/-- A test. -/
structure Tst where
  k : Int
  no : Bool
  l : Cel
  r : Cel

def Tst.okB (t : Tst) (wide : Int) : Bool := decide (t.k = 1 ∨ t.k = 2) && t.l.okB wide && t.r.okB wide
def Tst.toldB (t : Tst) (r : List Int) : Bool := decide (t.k = 1 ∨ t.k = 2) && t.l.toldB r && t.r.toldB r
def Tst.holdsB (t : Tst) (r : List Int) : Bool := (if t.k = 1 then decide (t.l.num r < t.r.num r) else decide (t.l.num r = t.r.num r)) != t.no
def Tst.valB (t : Tst) (r : List Int) : Bool := t.toldB r && t.holdsB r

theorem cellB_iff {n : Int} : cellB n = true ↔ -1000000000 ≤ n ∧ n ≤ 1000000000 := by simp [cellB]
theorem row_cell {r : List Int} (h : rowOkB r = true) {j : Nat} (hj : j < r.length) : -1000000000 ≤ r.getD j 0 ∧ r.getD j 0 ≤ 1000000000 := by
  simp only [rowOkB, Bool.and_eq_true, List.all_eq_true] at h
  have := h.2 r[j] (List.getElem_mem hj)
  rw [cellB_iff] at this
  simpa [List.getD, hj] using this

end Go.Proofs.YtflbdfpgaeeleaaGreatDoor

/-
  The contracts of the document's own l3Col, CellOk, CellOf, TestOk, TestOf: they answer Cel.okB, Cel.valI, Tst.okB, Tst.valB.
-/
namespace Go.Proofs.YtflbdfpgaeeleaaGreatDoor
open Go.RowKit

theorem bel_alloc {w : World} (o : Obj) : Below w.heap.size w (w.alloc o) := (Below.refl _ _).alloc (Nat.le_refl _) _
theorem bel_then {w a b : World} (h : Below w.heap.size w a) (k : Below a.heap.size a b) : Below w.heap.size w b := h.trans (k.mono h.size)
theorem alloc_size (w : World) (o : Obj) : (w.alloc o).heap.size = w.heap.size + 1 := World.size_alloc w o
/-- The four cells of what a call was handed stay. -/
theorem cells4 {w w2 : World} {v0 v1 v2 v3 : Value} {t : TypeId} (h : Below (w.alloc (.cells #[v0, v1, v2, v3] t)).heap.size (w.alloc (.cells #[v0, v1, v2, v3] t)) w2) :
    w2.cell? ⟨w.heap.size, 0, none⟩ = some v0 ∧ w2.cell? ⟨w.heap.size, 1, none⟩ = some v1 ∧ w2.cell? ⟨w.heap.size, 2, none⟩ = some v2 ∧ w2.cell? ⟨w.heap.size, 3, none⟩ = some v3 := by
  have hl : w.heap.size < (w.alloc (.cells #[v0, v1, v2, v3] t)).heap.size := by rw [alloc_size]; omega
  refine ⟨(h.cell (p := ⟨w.heap.size, 0, none⟩) hl).trans ?_, (h.cell (p := ⟨w.heap.size, 1, none⟩) hl).trans ?_, (h.cell (p := ⟨w.heap.size, 2, none⟩) hl).trans ?_, (h.cell (p := ⟨w.heap.size, 3, none⟩) hl).trans ?_⟩ <;> simp [go_sem]

theorem l3Col_any (n wide : Int) (w : World) : Calls Tryz.prog 58 #[.int .i64 n, .int .i64 wide] w fun e w' => e = .returned (.bool (colB n wide)) ∧ w' = w := by
  by_cases h1 : 0 ≤ n
  · by_cases h2 : n < wide
    · by_cases h3 : n < 6
      · go_enter Tryz.func58, Tryz.ntmps58
        go_wp2
        go_ret
        exact ⟨ret_bool (by simp [colB]; omega), rfl⟩
      · go_enter Tryz.func58, Tryz.ntmps58
        go_wp2
        go_ret
        exact ⟨ret_bool (by simp [colB]; omega), rfl⟩
    · go_enter Tryz.func58, Tryz.ntmps58
      go_wp2
      go_ret
      exact ⟨ret_bool (by simp [colB]; omega), rfl⟩
  · go_enter Tryz.func58, Tryz.ntmps58
    go_wp2
    go_ret
    exact ⟨ret_bool (by simp [colB]; omega), rfl⟩

theorem colB_iff {n wide : Int} : colB n wide = true ↔ 0 ≤ n ∧ n < wide ∧ n < 6 := by simp [colB]
theorem colB_no {n wide : Int} : colB n wide = false ↔ ¬ (0 ≤ n ∧ n < wide ∧ n < 6) := by simp [colB]
theorem ok_yes {c : Cel} {wide : Int} (h : (c.k = 1 ∧ (0 ≤ c.a ∧ c.a < wide ∧ c.a < 6) ∧ c.b = 0 ∧ c.n = 0) ∨ (c.k = 2 ∧ c.a = 0 ∧ c.b = 0 ∧ -1000000000 ≤ c.n ∧ c.n ≤ 1000000000) ∨
    (c.k = 3 ∧ (0 ≤ c.a ∧ c.a < wide ∧ c.a < 6) ∧ (0 ≤ c.b ∧ c.b < wide ∧ c.b < 6) ∧ c.n = 0)) : c.okB wide = true := decide_eq_true h
theorem ok_no {c : Cel} {wide : Int} (h : ¬ ((c.k = 1 ∧ (0 ≤ c.a ∧ c.a < wide ∧ c.a < 6) ∧ c.b = 0 ∧ c.n = 0) ∨ (c.k = 2 ∧ c.a = 0 ∧ c.b = 0 ∧ -1000000000 ≤ c.n ∧ c.n ≤ 1000000000) ∨
    (c.k = 3 ∧ (0 ≤ c.a ∧ c.a < wide ∧ c.a < 6) ∧ (0 ≤ c.b ∧ c.b < wide ∧ c.b < 6) ∧ c.n = 0))) : c.okB wide = false := decide_eq_false h

theorem ok_iff {c : Cel} {wide : Int} : c.okB wide = true ↔ ((c.k = 1 ∧ (0 ≤ c.a ∧ c.a < wide ∧ c.a < 6) ∧ c.b = 0 ∧ c.n = 0) ∨ (c.k = 2 ∧ c.a = 0 ∧ c.b = 0 ∧ -1000000000 ≤ c.n ∧ c.n ≤ 1000000000) ∨
    (c.k = 3 ∧ (0 ≤ c.a ∧ c.a < wide ∧ c.a < 6) ∧ (0 ≤ c.b ∧ c.b < wide ∧ c.b < 6) ∧ c.n = 0)) := by simp only [Cel.okB, decide_eq_true_eq]

end Go.Proofs.YtflbdfpgaeeleaaGreatDoor

/-
  A cell, a test, in a block of its own: it stays through what a call does.
-/
namespace Go.Proofs.YtflbdfpgaeeleaaGreatDoor
open Go.RowKit

def Box4 (w : World) (g : Nat) (c : Cel) : Prop :=
  g < w.heap.size ∧ w.cell? ⟨g, 0, none⟩ = some (.int .i64 c.k) ∧ w.cell? ⟨g, 1, none⟩ = some (.int .i64 c.a) ∧ w.cell? ⟨g, 2, none⟩ = some (.int .i64 c.b) ∧ w.cell? ⟨g, 3, none⟩ = some (.int .i64 c.n)
theorem Box4.below {w w' : World} {g : Nat} {c : Cel} (h : Box4 w g c) (hb : Below w.heap.size w w') : Box4 w' g c :=
  ⟨Nat.lt_of_lt_of_le h.1 hb.size, (hb.cell (p := ⟨g, 0, none⟩) h.1).trans h.2.1, (hb.cell (p := ⟨g, 1, none⟩) h.1).trans h.2.2.1, (hb.cell (p := ⟨g, 2, none⟩) h.1).trans h.2.2.2.1, (hb.cell (p := ⟨g, 3, none⟩) h.1).trans h.2.2.2.2⟩
theorem Box4.start (w : World) (c : Cel) (t : TypeId) : Box4 (w.alloc (.cells #[.int .i64 c.k, .int .i64 c.a, .int .i64 c.b, .int .i64 c.n] t)) w.heap.size c := by
  refine ⟨by rw [alloc_size]; omega, ?_, ?_, ?_, ?_⟩ <;> simp [go_sem]

def Box10 (w : World) (g : Nat) (t : Tst) : Prop :=
  g < w.heap.size ∧ w.cell? ⟨g, 0, none⟩ = some (.int .i64 t.k) ∧ w.cell? ⟨g, 1, none⟩ = some (.bool t.no) ∧
  (w.cell? ⟨g, 2, none⟩ = some (.int .i64 t.l.k) ∧ w.cell? ⟨g, 3, none⟩ = some (.int .i64 t.l.a) ∧ w.cell? ⟨g, 4, none⟩ = some (.int .i64 t.l.b) ∧ w.cell? ⟨g, 5, none⟩ = some (.int .i64 t.l.n)) ∧
  (w.cell? ⟨g, 6, none⟩ = some (.int .i64 t.r.k) ∧ w.cell? ⟨g, 7, none⟩ = some (.int .i64 t.r.a) ∧ w.cell? ⟨g, 8, none⟩ = some (.int .i64 t.r.b) ∧ w.cell? ⟨g, 9, none⟩ = some (.int .i64 t.r.n))
theorem Box10.below {w w' : World} {g : Nat} {t : Tst} (h : Box10 w g t) (hb : Below w.heap.size w w') : Box10 w' g t := by
  obtain ⟨hl, c0, c1, ⟨c2, c3, c4, c5⟩, c6, c7, c8, c9⟩ := h
  have k : ∀ o, w'.cell? ⟨g, o, none⟩ = w.cell? ⟨g, o, none⟩ := fun o => hb.cell (p := ⟨g, o, none⟩) hl
  exact ⟨Nat.lt_of_lt_of_le hl hb.size, (k 0).trans c0, (k 1).trans c1, ⟨(k 2).trans c2, (k 3).trans c3, (k 4).trans c4, (k 5).trans c5⟩, (k 6).trans c6, (k 7).trans c7, (k 8).trans c8, (k 9).trans c9⟩
theorem Box10.start (w : World) (t : Tst) (u : TypeId) : Box10 (w.alloc (.cells #[.int .i64 t.k, .bool t.no, .int .i64 t.l.k, .int .i64 t.l.a, .int .i64 t.l.b, .int .i64 t.l.n, .int .i64 t.r.k, .int .i64 t.r.a, .int .i64 t.r.b, .int .i64 t.r.n] u)) w.heap.size t := by
  refine ⟨by rw [alloc_size]; omega, ?_, ?_, ⟨?_, ?_, ?_, ?_⟩, ?_, ?_, ?_, ?_⟩ <;> simp [go_sem]

theorem alloc_at (w : World) (o : Obj) : (w.alloc o).heap[w.heap.size]? = some o := by show (w.heap.push o)[w.heap.size]? = some o; simp
theorem zero_cells {w : World} {b : Nat} {v0 v1 v2 v3 : Value} {t : TypeId} (h : w.heap[b]? = some (.cells #[v0, v1, v2, v3] t)) :
    w.cell? ⟨b, 0, none⟩ = some v0 ∧ w.cell? ⟨b, 1, none⟩ = some v1 ∧ w.cell? ⟨b, 2, none⟩ = some v2 ∧ w.cell? ⟨b, 3, none⟩ = some v3 ∧
    w.frozen? ⟨b, 0, none⟩ = false ∧ w.frozen? ⟨b, 1, none⟩ = false ∧ w.frozen? ⟨b, 2, none⟩ = false ∧ w.frozen? ⟨b, 3, none⟩ = false := by
  simp [World.cell?, World.frozen?, h]
theorem ten_cells {w : World} {b : Nat} {v0 v1 v2 v3 v4 v5 v6 v7 v8 v9 : Value} {t : TypeId} (h : w.heap[b]? = some (.cells #[v0, v1, v2, v3, v4, v5, v6, v7, v8, v9] t)) :
    (w.cell? ⟨b, 0, none⟩ = some v0 ∧ w.cell? ⟨b, 1, none⟩ = some v1 ∧ w.cell? ⟨b, 2, none⟩ = some v2 ∧ w.cell? ⟨b, 3, none⟩ = some v3 ∧ w.cell? ⟨b, 4, none⟩ = some v4 ∧ w.cell? ⟨b, 5, none⟩ = some v5 ∧ w.cell? ⟨b, 6, none⟩ = some v6 ∧ w.cell? ⟨b, 7, none⟩ = some v7 ∧ w.cell? ⟨b, 8, none⟩ = some v8 ∧ w.cell? ⟨b, 9, none⟩ = some v9) ∧
    (w.frozen? ⟨b, 0, none⟩ = false ∧ w.frozen? ⟨b, 1, none⟩ = false ∧ w.frozen? ⟨b, 2, none⟩ = false ∧ w.frozen? ⟨b, 3, none⟩ = false ∧ w.frozen? ⟨b, 4, none⟩ = false ∧ w.frozen? ⟨b, 5, none⟩ = false ∧ w.frozen? ⟨b, 6, none⟩ = false ∧ w.frozen? ⟨b, 7, none⟩ = false ∧ w.frozen? ⟨b, 8, none⟩ = false ∧ w.frozen? ⟨b, 9, none⟩ = false) := by
  simp [World.cell?, World.frozen?, h]
theorem at_below {w w1 : World} {b : Nat} {o : Obj} (h : w.heap[b]? = some o) (hb : Below w.heap.size w w1) : w1.heap[b]? = some o := (hb.block b (Array.getElem?_eq_some_iff.1 h).1).trans h

end Go.Proofs.YtflbdfpgaeeleaaGreatDoor

/-
  The contracts of the program's own reckonerOf and what stands on it.
-/
namespace Go.Proofs.YtflbdfpgaeeleaaGreatDoor
open Go.RowKit

theorem cellEq (k a b n k' a' b' n' : Int) (w : World) :
    (binOp .eql 31 (.agg #[.int .i64 k, .int .i64 a, .int .i64 b, .int .i64 n]) (.agg #[.int .i64 k', .int .i64 a', .int .i64 b', .int .i64 n'])).run Tryz.prog w = .ok (.bool (k == k' && (a == a' && (b == b' && n == n')))) w := by
  have hs : Tryz.prog.stoodInHeld 31 = false := by kernel_rfl
  rw [run_eql_struct, run_equalIn_agg (P := Tryz.prog) w _ _ _ _ (by kernel_rfl) hs]
  simp only [Program.fieldsOf, Tryz.underlying31]
  by_cases h1 : k = k' <;> by_cases h2 : a = a' <;> by_cases h3 : b = b' <;> by_cases h4 : n = n' <;> simp [go_sem, h1, h2, h3, h4, Tryz.underlying3]




set_option maxRecDepth 100000 in
set_option maxHeartbeats 1000000 in
theorem reck_col (a : Int) (w : World) :
    Calls Tryz.prog 100 #[.agg #[.int .i64 1, .int .i64 a, .int .i64 0, .int .i64 0]] w fun e w' => e = .returned (.tuple #[.iface 167 (.agg #[.int .i64 a]), .nilIface]) ∧ Below w.heap.size w w' := by
  have h0 : ∀ w : World, (binOp .eql 31 (.agg #[.int .i64 1, .int .i64 a, .int .i64 0, .int .i64 0]) (.agg #[.int .i64 1, .int .i64 a, .int .i64 0, .int .i64 0])).run Tryz.prog w = .ok (.bool true) w := fun w => by rw [cellEq]; simp
  go_enter Tryz.func100, Tryz.ntmps100
  go_wp2
  go_ret2
  exact ⟨rfl, bel_alloc _⟩

set_option maxRecDepth 100000 in
set_option maxHeartbeats 1000000 in
theorem reck_num (n : Int) (w : World) :
    Calls Tryz.prog 100 #[.agg #[.int .i64 2, .int .i64 0, .int .i64 0, .int .i64 n]] w fun e w' => e = .returned (.tuple #[.iface 169 (.agg #[.int .i64 n]), .nilIface]) ∧ Below w.heap.size w w' := by
  have h0 : ∀ w : World, (binOp .eql 31 (.agg #[.int .i64 2, .int .i64 0, .int .i64 0, .int .i64 n]) (.agg #[.int .i64 1, .int .i64 0, .int .i64 0, .int .i64 0])).run Tryz.prog w = .ok (.bool false) w := fun w => by rw [cellEq]; simp
  have h1 : ∀ w : World, (binOp .eql 31 (.agg #[.int .i64 2, .int .i64 0, .int .i64 0, .int .i64 n]) (.agg #[.int .i64 2, .int .i64 0, .int .i64 0, .int .i64 n])).run Tryz.prog w = .ok (.bool true) w := fun w => by rw [cellEq]; simp
  go_enter Tryz.func100, Tryz.ntmps100
  go_wp2
  go_ret2
  exact ⟨rfl, bel_alloc _⟩

set_option maxRecDepth 100000 in
set_option maxHeartbeats 1000000 in
theorem reck_two (a b : Int) (w : World) :
    Calls Tryz.prog 100 #[.agg #[.int .i64 3, .int .i64 a, .int .i64 b, .int .i64 0]] w fun e w' => e = .returned (.tuple #[.iface 171 (.agg #[.int .i64 a, .int .i64 b]), .nilIface]) ∧ Below w.heap.size w w' := by
  have h0 : ∀ w : World, (binOp .eql 31 (.agg #[.int .i64 3, .int .i64 a, .int .i64 b, .int .i64 0]) (.agg #[.int .i64 1, .int .i64 a, .int .i64 0, .int .i64 0])).run Tryz.prog w = .ok (.bool false) w := fun w => by rw [cellEq]; simp
  have h1 : ∀ w : World, (binOp .eql 31 (.agg #[.int .i64 3, .int .i64 a, .int .i64 b, .int .i64 0]) (.agg #[.int .i64 2, .int .i64 0, .int .i64 0, .int .i64 0])).run Tryz.prog w = .ok (.bool false) w := fun w => by rw [cellEq]; simp
  have h2 : ∀ w : World, (binOp .eql 31 (.agg #[.int .i64 3, .int .i64 a, .int .i64 b, .int .i64 0]) (.agg #[.int .i64 3, .int .i64 a, .int .i64 b, .int .i64 0])).run Tryz.prog w = .ok (.bool true) w := fun w => by rw [cellEq]; simp
  go_enter Tryz.func100, Tryz.ntmps100
  go_wp2
  go_ret2
  exact ⟨rfl, bel_alloc _⟩

/-- What has a kind. -/
def Cel.kindB (c : Cel) : Bool := decide ((c.k = 1 ∧ c.b = 0 ∧ c.n = 0) ∨ (c.k = 2 ∧ c.a = 0 ∧ c.b = 0) ∨ (c.k = 3 ∧ c.n = 0))

set_option maxRecDepth 100000 in
set_option maxHeartbeats 1000000 in
theorem reck_none (c : Cel) (w : World) (p : Addr) (hs : Sent w p) (hk : c.kindB = false) :
    Calls Tryz.prog 100 #[.agg #[.int .i64 c.k, .int .i64 c.a, .int .i64 c.b, .int .i64 c.n]] w fun e w' => e = .returned (.tuple #[.nilIface, .iface 184 (.pointer (some p))]) ∧ Below w.heap.size w w' := by
  obtain ⟨k, a, b, n⟩ := c
  simp only [Cel.kindB, decide_eq_false_iff_not] at hk
  simp only
  have h0 : ∀ w : World, (binOp .eql 31 (.agg #[.int .i64 k, .int .i64 a, .int .i64 b, .int .i64 n]) (.agg #[.int .i64 1, .int .i64 a, .int .i64 0, .int .i64 0])).run Tryz.prog w = .ok (.bool false) w := fun w => by
    rw [cellEq]; congr 2; rw [Bool.eq_false_iff]; simp; omega
  have h1 : ∀ w : World, (binOp .eql 31 (.agg #[.int .i64 k, .int .i64 a, .int .i64 b, .int .i64 n]) (.agg #[.int .i64 2, .int .i64 0, .int .i64 0, .int .i64 n])).run Tryz.prog w = .ok (.bool false) w := fun w => by
    rw [cellEq]; congr 2; rw [Bool.eq_false_iff]; simp; omega
  have h2 : ∀ w : World, (binOp .eql 31 (.agg #[.int .i64 k, .int .i64 a, .int .i64 b, .int .i64 n]) (.agg #[.int .i64 3, .int .i64 a, .int .i64 b, .int .i64 0])).run Tryz.prog w = .ok (.bool false) w := fun w => by
    rw [cellEq]; congr 2; rw [Bool.eq_false_iff]; simp; omega
  have hg := (hs.below (bel_alloc (.cells #[.int .i64 k, .int .i64 a, .int .i64 b, .int .i64 n] 31))).2
  clear hs hk
  go_enter Tryz.func100, Tryz.ntmps100
  go_wp2
  go_quiet (fail)
  go_wp2
  go_ret2
  exact ⟨rfl, below_drewN (bel_alloc _) _⟩

theorem colFor_any (a wide : Int) (w : World) :
    Calls Tryz.prog 154 #[.agg #[.int .i64 a], .int .i64 wide] w fun e w' => e = .returned (.bool (colB a wide)) ∧ Below w.heap.size w w' := by
  by_cases h1 : 0 ≤ a
  · by_cases h2 : wide ≤ 6
    · by_cases h3 : a < wide
      · go_enter Tryz.func154, Tryz.ntmps154
        go_wp2
        go_ret
        exact ⟨ret_bool (by simp [colB]; omega), bel_alloc _⟩
      · go_enter Tryz.func154, Tryz.ntmps154
        go_wp2
        go_ret
        exact ⟨ret_bool (by simp [colB]; omega), bel_alloc _⟩
    · by_cases h3 : a < 6
      · go_enter Tryz.func154, Tryz.ntmps154
        go_wp2
        go_ret
        exact ⟨ret_bool (by simp [colB]; omega), bel_alloc _⟩
      · go_enter Tryz.func154, Tryz.ntmps154
        go_wp2
        go_ret
        exact ⟨ret_bool (by simp [colB]; omega), bel_alloc _⟩
  · go_enter Tryz.func154, Tryz.ntmps154
    go_wp2
    go_ret
    exact ⟨ret_bool (by simp [colB]; omega), bel_alloc _⟩

theorem numFor_any (n wide : Int) (w : World) :
    Calls Tryz.prog 157 #[.agg #[.int .i64 n], .int .i64 wide] w fun e w' => e = .returned (.bool (cellB n)) ∧ Below w.heap.size w w' := by
  go_enter Tryz.func157, Tryz.ntmps157
  go_wp2_with fail
  refine (cellFits_any _ _).mono ?_
  rintro e w2 ⟨rfl, rfl⟩
  go_wp2
  go_ret
  exact ⟨rfl, bel_alloc _⟩

theorem pairCells {w w2 : World} {v0 v1 : Value} {t : TypeId} (h : Below (w.alloc (.cells #[v0, v1] t)).heap.size (w.alloc (.cells #[v0, v1] t)) w2) :
    w2.cell? ⟨w.heap.size, 0, none⟩ = some v0 ∧ w2.cell? ⟨w.heap.size, 1, none⟩ = some v1 := by
  have hl : w.heap.size < (w.alloc (.cells #[v0, v1] t)).heap.size := by rw [alloc_size]; omega
  refine ⟨(h.cell (p := ⟨w.heap.size, 0, none⟩) hl).trans ?_, (h.cell (p := ⟨w.heap.size, 1, none⟩) hl).trans ?_⟩ <;> simp [go_sem]

theorem twoFor_any (a b wide : Int) (w : World) :
    Calls Tryz.prog 160 #[.agg #[.int .i64 a, .int .i64 b], .int .i64 wide] w fun e w' => e = .returned (.bool (colB a wide && colB b wide)) ∧ Below w.heap.size w w' := by
  cases ha : colB a wide
  · go_enter Tryz.func160, Tryz.ntmps160
    go_wp2_with fail
    refine (colFor_any _ _ _).mono ?_
    rintro e w2 ⟨rfl, hb2⟩
    have HB : Hid (Below w.heap.size w w2) := bel_then (bel_alloc _) hb2
    clear hb2
    go_wp2
    go_ret
    exact ⟨rfl, HB.out⟩
  · go_enter Tryz.func160, Tryz.ntmps160
    go_wp2_with fail
    refine (colFor_any _ _ _).mono ?_
    rintro e w2 ⟨rfl, hb2⟩
    have HB : Hid (Below w.heap.size w w2) := bel_then (bel_alloc _) hb2
    obtain ⟨c0, c1⟩ := pairCells hb2
    clear hb2
    go_wp2_with fail
    refine (colFor_any _ _ _).mono ?_
    rintro e w3 ⟨rfl, hb3⟩
    have HB2 : Hid (Below w.heap.size w w3) := bel_then HB.out hb3
    clear hb3
    go_wp2
    go_ret
    exact ⟨rfl, HB2.out⟩

theorem invCol (v : Value) (w : World) : (Go.method 318 167 v "loop.example/milldam/impl.okFor").run Tryz.prog w = .ok (154, v) w := by kernel_rfl
theorem invNum (v : Value) (w : World) : (Go.method 318 169 v "loop.example/milldam/impl.okFor").run Tryz.prog w = .ok (157, v) w := by kernel_rfl
theorem invTwo (v : Value) (w : World) : (Go.method 318 171 v "loop.example/milldam/impl.okFor").run Tryz.prog w = .ok (160, v) w := by kernel_rfl

end Go.Proofs.YtflbdfpgaeeleaaGreatDoor

/-
  The contracts of the program's own reckon and CellOf: they answer Cel.valI and Cel.toldB.
-/
namespace Go.Proofs.YtflbdfpgaeeleaaGreatDoor
open Go.RowKit
set_option linter.unusedVariables false

set_option maxRecDepth 100000 in
set_option maxHeartbeats 1000000 in
theorem colOf_any (j : Nat) (g off len cap : Nat) (x : Int) (w : World) (hj : j < len) (hlim : len ≤ 140737488355328) (hg : g < w.heap.size) (hc : w.cell? ⟨g, off + j, none⟩ = some (.int .i64 x)) :
    Calls Tryz.prog 153 #[.agg #[.int .i64 (j : Int)], .slice (some ⟨g, off, none⟩) len cap] w fun e w' => e = .returned (.tuple #[.int .i64 x, .nilIface]) ∧ Below w.heap.size w w' := by
  have hc1 := ((bel_alloc (w := w) (.cells #[.int .i64 (j : Int)] 167)).cell (p := ⟨g, off + j, none⟩) hg).trans hc
  go_enter Tryz.func153, Tryz.ntmps153
  go_wp2
  go_ret2
  exact ⟨rfl, bel_alloc _⟩

set_option maxRecDepth 100000 in
set_option maxHeartbeats 1000000 in
theorem numOf_any (n : Int) (v : Value) (w : World) :
    Calls Tryz.prog 156 #[.agg #[.int .i64 n], v] w fun e w' => e = .returned (.tuple #[.int .i64 n, .nilIface]) ∧ Below w.heap.size w w' := by
  go_enter Tryz.func156, Tryz.ntmps156
  go_wp2
  go_ret2
  exact ⟨rfl, bel_alloc _⟩

set_option maxRecDepth 100000 in
set_option maxHeartbeats 1000000 in
theorem twoOf_yes (ja jb : Nat) (g off len cap : Nat) (x y : Int) (w : World) (p : Addr) (hs : Sent w p) (hja : ja < len) (hjb : jb < len) (hlim : len ≤ 140737488355328) (hg : g < w.heap.size) (hc : w.cell? ⟨g, off + ja, none⟩ = some (.int .i64 x)) (hd : w.cell? ⟨g, off + jb, none⟩ = some (.int .i64 y))
    (hwr : IntKind.i64.wrap (x + y) = x + y) (hf : cellB (x + y) = true) :
    Calls Tryz.prog 159 #[.agg #[.int .i64 (ja : Int), .int .i64 (jb : Int)], .slice (some ⟨g, off, none⟩) len cap] w fun e w' => e = .returned (.tuple #[.int .i64 (x + y), .nilIface]) ∧ Below w.heap.size w w' := by
  have hc1 := ((bel_alloc (w := w) (.cells #[.int .i64 (ja : Int), .int .i64 (jb : Int)] 171)).cell (p := ⟨g, off + ja, none⟩) hg).trans hc
  have hd1 := ((bel_alloc (w := w) (.cells #[.int .i64 (ja : Int), .int .i64 (jb : Int)] 171)).cell (p := ⟨g, off + jb, none⟩) hg).trans hd
  clear hc hd
  go_enter Tryz.func159, Tryz.ntmps159
  go_wp2_with fail
  go_quiet (fail)
  go_wp2_with fail
  refine (cellFits_any _ _).mono ?_
  rintro e w3 ⟨rfl, rfl⟩
  go_wp2
  go_ret2
  exact ⟨rfl, below_drewN (bel_alloc _) _⟩

set_option maxRecDepth 100000 in
set_option maxHeartbeats 1000000 in
theorem twoOf_no (ja jb : Nat) (g off len cap : Nat) (x y : Int) (w : World) (p : Addr) (hs : Sent w p) (hja : ja < len) (hjb : jb < len) (hlim : len ≤ 140737488355328) (hg : g < w.heap.size) (hc : w.cell? ⟨g, off + ja, none⟩ = some (.int .i64 x)) (hd : w.cell? ⟨g, off + jb, none⟩ = some (.int .i64 y))
    (hwr : IntKind.i64.wrap (x + y) = x + y) (hf : cellB (x + y) = false) :
    Calls Tryz.prog 159 #[.agg #[.int .i64 (ja : Int), .int .i64 (jb : Int)], .slice (some ⟨g, off, none⟩) len cap] w fun e w' => e = .returned (.tuple #[.int .i64 0, .iface 184 (.pointer (some p))]) ∧ Below w.heap.size w w' := by
  have hc1 := ((bel_alloc (w := w) (.cells #[.int .i64 (ja : Int), .int .i64 (jb : Int)] 171)).cell (p := ⟨g, off + ja, none⟩) hg).trans hc
  have hd1 := ((bel_alloc (w := w) (.cells #[.int .i64 (ja : Int), .int .i64 (jb : Int)] 171)).cell (p := ⟨g, off + jb, none⟩) hg).trans hd
  have hg2 := (hs.below (bel_alloc (w := w) (.cells #[.int .i64 (ja : Int), .int .i64 (jb : Int)] 171))).2
  clear hc hd
  go_enter Tryz.func159, Tryz.ntmps159
  go_wp2_with fail
  go_quiet (fail)
  go_wp2_with fail
  refine (cellFits_any _ _).mono ?_
  rintro e w3 ⟨rfl, rfl⟩
  go_wp2
  go_quiet (fail)
  go_wp2
  go_ret2
  exact ⟨rfl, below_drewN (below_drewN (bel_alloc _) _) _⟩
theorem invOf_column (v : Value) (w : World) : (Go.method 318 167 v "loop.example/milldam/impl.of").run Tryz.prog w = .ok (153, v) w := by kernel_rfl
theorem invOf_number (v : Value) (w : World) : (Go.method 318 169 v "loop.example/milldam/impl.of").run Tryz.prog w = .ok (156, v) w := by kernel_rfl
theorem invOf_twoColumns (v : Value) (w : World) : (Go.method 318 171 v "loop.example/milldam/impl.of").run Tryz.prog w = .ok (159, v) w := by kernel_rfl

set_option maxRecDepth 100000 in
set_option maxHeartbeats 1000000 in
theorem reckon_none (c : Cel) (s0 : Option Addr) (len cap : Nat) (xs : List Int) (w : World) (p : Addr) (hs : Sent w p) (hx : IntsAt w (.slice s0 len cap) xs) (hk : c.kindB = false) :
    Calls Tryz.prog 86 #[.agg #[.int .i64 c.k, .int .i64 c.a, .int .i64 c.b, .int .i64 c.n], .slice s0 len cap] w fun e w' => e = .returned (.tuple #[.int .i64 0, .iface 184 (.pointer (some p))]) ∧ Below w.heap.size w w' := by
  go_enter Tryz.func86, Tryz.ntmps86
  go_wp2_with fail
  refine (reck_none c _ p (hs.below (bel_alloc _)) hk).mono ?_
  rintro e w2 ⟨rfl, hb2⟩
  have HB : Hid (Below w.heap.size w w2) := bel_then (bel_alloc _) hb2
  have hg := (hs.below HB.out).2
  have HX : Hid (IntsAt w2 (.slice s0 len cap) xs) := hx.below HB.out
  have HS : Hid (Sent w2 p) := hs.below HB.out
  clear hb2 hs hx
  go_wp2
  go_ret2
  exact ⟨rfl, HB.out⟩

set_option maxRecDepth 100000 in
set_option maxHeartbeats 1000000 in
theorem reckon_col_row (a : Int) (s0 : Option Addr) (len cap : Nat) (xs : List Int) (w : World) (p : Addr) (hs : Sent w p) (hx : IntsAt w (.slice s0 len cap) xs) (hr : rowOkB xs = false) :
    Calls Tryz.prog 86 #[.agg #[.int .i64 1, .int .i64 a, .int .i64 0, .int .i64 0], .slice s0 len cap] w fun e w' => e = .returned (.tuple #[.int .i64 0, .iface 184 (.pointer (some p))]) ∧ Below w.heap.size w w' := by
  go_enter Tryz.func86, Tryz.ntmps86
  go_wp2_with fail
  refine (reck_col _ _).mono ?_
  rintro e w2 ⟨rfl, hb2⟩
  have HB : Hid (Below w.heap.size w w2) := bel_then (bel_alloc _) hb2
  have hg := (hs.below HB.out).2
  have HX : Hid (IntsAt w2 (.slice s0 len cap) xs) := hx.below HB.out
  have HS : Hid (Sent w2 p) := hs.below HB.out
  clear hb2 hs hx
  go_wp2_with fail
  refine (implRowOk_any _ xs _ HX.out).mono ?_
  rintro e w3 ⟨rfl, rfl⟩
  go_wp2
  go_quiet (fail)
  go_wp2
  go_ret2
  exact ⟨rfl, below_drewN HB.out _⟩

set_option maxRecDepth 100000 in
set_option maxHeartbeats 1000000 in
theorem reckon_col_for (a : Int) (s0 : Option Addr) (len cap : Nat) (xs : List Int) (w : World) (p : Addr) (hs : Sent w p) (hx : IntsAt w (.slice s0 len cap) xs) (hr : rowOkB xs = true) (hf : colB a len = false) :
    Calls Tryz.prog 86 #[.agg #[.int .i64 1, .int .i64 a, .int .i64 0, .int .i64 0], .slice s0 len cap] w fun e w' => e = .returned (.tuple #[.int .i64 0, .iface 184 (.pointer (some p))]) ∧ Below w.heap.size w w' := by
  have hm := invCol
  go_enter Tryz.func86, Tryz.ntmps86
  go_wp2_with fail
  refine (reck_col _ _).mono ?_
  rintro e w2 ⟨rfl, hb2⟩
  have HB : Hid (Below w.heap.size w w2) := bel_then (bel_alloc _) hb2
  have hg := (hs.below HB.out).2
  have HX : Hid (IntsAt w2 (.slice s0 len cap) xs) := hx.below HB.out
  have HS : Hid (Sent w2 p) := hs.below HB.out
  clear hb2 hs hx
  go_wp2_with fail
  refine (implRowOk_any _ xs _ HX.out).mono ?_
  rintro e w3 ⟨rfl, rfl⟩
  go_wp2_with fail
  refine (colFor_any _ _ _).mono ?_
  rintro e w4 ⟨rfl, hb4⟩
  have HB2 : Hid (Below w.heap.size w w4) := bel_then HB.out hb4
  have HX2 : Hid (IntsAt w4 (.slice s0 len cap) xs) := HX.out.below hb4
  have hg2 := (HS.out.below hb4).2
  clear hb4 hg
  rw [hf]
  go_wp2
  go_quiet (fail)
  go_wp2
  go_ret2
  exact ⟨rfl, below_drewN HB2.out _⟩

set_option maxRecDepth 100000 in
set_option maxHeartbeats 1000000 in
theorem reckon_num_row (n : Int) (s0 : Option Addr) (len cap : Nat) (xs : List Int) (w : World) (p : Addr) (hs : Sent w p) (hx : IntsAt w (.slice s0 len cap) xs) (hr : rowOkB xs = false) :
    Calls Tryz.prog 86 #[.agg #[.int .i64 2, .int .i64 0, .int .i64 0, .int .i64 n], .slice s0 len cap] w fun e w' => e = .returned (.tuple #[.int .i64 0, .iface 184 (.pointer (some p))]) ∧ Below w.heap.size w w' := by
  go_enter Tryz.func86, Tryz.ntmps86
  go_wp2_with fail
  refine (reck_num _ _).mono ?_
  rintro e w2 ⟨rfl, hb2⟩
  have HB : Hid (Below w.heap.size w w2) := bel_then (bel_alloc _) hb2
  have hg := (hs.below HB.out).2
  have HX : Hid (IntsAt w2 (.slice s0 len cap) xs) := hx.below HB.out
  have HS : Hid (Sent w2 p) := hs.below HB.out
  clear hb2 hs hx
  go_wp2_with fail
  refine (implRowOk_any _ xs _ HX.out).mono ?_
  rintro e w3 ⟨rfl, rfl⟩
  go_wp2
  go_quiet (fail)
  go_wp2
  go_ret2
  exact ⟨rfl, below_drewN HB.out _⟩

set_option maxRecDepth 100000 in
set_option maxHeartbeats 1000000 in
theorem reckon_num_for (n : Int) (s0 : Option Addr) (len cap : Nat) (xs : List Int) (w : World) (p : Addr) (hs : Sent w p) (hx : IntsAt w (.slice s0 len cap) xs) (hr : rowOkB xs = true) (hf : cellB n = false) :
    Calls Tryz.prog 86 #[.agg #[.int .i64 2, .int .i64 0, .int .i64 0, .int .i64 n], .slice s0 len cap] w fun e w' => e = .returned (.tuple #[.int .i64 0, .iface 184 (.pointer (some p))]) ∧ Below w.heap.size w w' := by
  have hm := invNum
  go_enter Tryz.func86, Tryz.ntmps86
  go_wp2_with fail
  refine (reck_num _ _).mono ?_
  rintro e w2 ⟨rfl, hb2⟩
  have HB : Hid (Below w.heap.size w w2) := bel_then (bel_alloc _) hb2
  have hg := (hs.below HB.out).2
  have HX : Hid (IntsAt w2 (.slice s0 len cap) xs) := hx.below HB.out
  have HS : Hid (Sent w2 p) := hs.below HB.out
  clear hb2 hs hx
  go_wp2_with fail
  refine (implRowOk_any _ xs _ HX.out).mono ?_
  rintro e w3 ⟨rfl, rfl⟩
  go_wp2_with fail
  refine (numFor_any _ _ _).mono ?_
  rintro e w4 ⟨rfl, hb4⟩
  have HB2 : Hid (Below w.heap.size w w4) := bel_then HB.out hb4
  have HX2 : Hid (IntsAt w4 (.slice s0 len cap) xs) := HX.out.below hb4
  have hg2 := (HS.out.below hb4).2
  clear hb4 hg
  rw [hf]
  go_wp2
  go_quiet (fail)
  go_wp2
  go_ret2
  exact ⟨rfl, below_drewN HB2.out _⟩

set_option maxRecDepth 100000 in
set_option maxHeartbeats 1000000 in
theorem reckon_num_of (n : Int) (s0 : Option Addr) (len cap : Nat) (xs : List Int) (w : World) (p : Addr) (hs : Sent w p) (hx : IntsAt w (.slice s0 len cap) xs) (hr : rowOkB xs = true) (hf : cellB n = true) :
    Calls Tryz.prog 86 #[.agg #[.int .i64 2, .int .i64 0, .int .i64 0, .int .i64 n], .slice s0 len cap] w fun e w' => e = .returned (.tuple #[.int .i64 n, .nilIface]) ∧ Below w.heap.size w w' := by
  have hm := invNum
  have ho := invOf_number
  go_enter Tryz.func86, Tryz.ntmps86
  go_wp2_with fail
  refine (reck_num _ _).mono ?_
  rintro e w2 ⟨rfl, hb2⟩
  have HB : Hid (Below w.heap.size w w2) := bel_then (bel_alloc _) hb2
  have hg := (hs.below HB.out).2
  have HX : Hid (IntsAt w2 (.slice s0 len cap) xs) := hx.below HB.out
  have HS : Hid (Sent w2 p) := hs.below HB.out
  clear hb2 hs hx
  go_wp2_with fail
  refine (implRowOk_any _ xs _ HX.out).mono ?_
  rintro e w3 ⟨rfl, rfl⟩
  go_wp2_with fail
  refine (numFor_any _ _ _).mono ?_
  rintro e w4 ⟨rfl, hb4⟩
  have HB2 : Hid (Below w.heap.size w w4) := bel_then HB.out hb4
  have HX2 : Hid (IntsAt w4 (.slice s0 len cap) xs) := HX.out.below hb4
  clear hb4 hg
  rw [hf]
  go_wp2_with fail
  refine (numOf_any _ _ _).mono ?_
  rintro e w5 ⟨rfl, hb5⟩
  have HB3 : Hid (Below w.heap.size w w5) := bel_then HB2.out hb5
  clear hb5
  go_wp2
  go_ret2
  exact ⟨rfl, HB3.out⟩

set_option maxRecDepth 100000 in
set_option maxHeartbeats 1000000 in
theorem reckon_two_row (a b : Int) (s0 : Option Addr) (len cap : Nat) (xs : List Int) (w : World) (p : Addr) (hs : Sent w p) (hx : IntsAt w (.slice s0 len cap) xs) (hr : rowOkB xs = false) :
    Calls Tryz.prog 86 #[.agg #[.int .i64 3, .int .i64 a, .int .i64 b, .int .i64 0], .slice s0 len cap] w fun e w' => e = .returned (.tuple #[.int .i64 0, .iface 184 (.pointer (some p))]) ∧ Below w.heap.size w w' := by
  go_enter Tryz.func86, Tryz.ntmps86
  go_wp2_with fail
  refine (reck_two _ _ _).mono ?_
  rintro e w2 ⟨rfl, hb2⟩
  have HB : Hid (Below w.heap.size w w2) := bel_then (bel_alloc _) hb2
  have hg := (hs.below HB.out).2
  have HX : Hid (IntsAt w2 (.slice s0 len cap) xs) := hx.below HB.out
  have HS : Hid (Sent w2 p) := hs.below HB.out
  clear hb2 hs hx
  go_wp2_with fail
  refine (implRowOk_any _ xs _ HX.out).mono ?_
  rintro e w3 ⟨rfl, rfl⟩
  go_wp2
  go_quiet (fail)
  go_wp2
  go_ret2
  exact ⟨rfl, below_drewN HB.out _⟩

set_option maxRecDepth 100000 in
set_option maxHeartbeats 1000000 in
theorem reckon_two_for (a b : Int) (s0 : Option Addr) (len cap : Nat) (xs : List Int) (w : World) (p : Addr) (hs : Sent w p) (hx : IntsAt w (.slice s0 len cap) xs) (hr : rowOkB xs = true) (hf : (colB a len && colB b len) = false) :
    Calls Tryz.prog 86 #[.agg #[.int .i64 3, .int .i64 a, .int .i64 b, .int .i64 0], .slice s0 len cap] w fun e w' => e = .returned (.tuple #[.int .i64 0, .iface 184 (.pointer (some p))]) ∧ Below w.heap.size w w' := by
  have hm := invTwo
  go_enter Tryz.func86, Tryz.ntmps86
  go_wp2_with fail
  refine (reck_two _ _ _).mono ?_
  rintro e w2 ⟨rfl, hb2⟩
  have HB : Hid (Below w.heap.size w w2) := bel_then (bel_alloc _) hb2
  have hg := (hs.below HB.out).2
  have HX : Hid (IntsAt w2 (.slice s0 len cap) xs) := hx.below HB.out
  have HS : Hid (Sent w2 p) := hs.below HB.out
  clear hb2 hs hx
  go_wp2_with fail
  refine (implRowOk_any _ xs _ HX.out).mono ?_
  rintro e w3 ⟨rfl, rfl⟩
  go_wp2_with fail
  refine (twoFor_any _ _ _ _).mono ?_
  rintro e w4 ⟨rfl, hb4⟩
  have HB2 : Hid (Below w.heap.size w w4) := bel_then HB.out hb4
  have HX2 : Hid (IntsAt w4 (.slice s0 len cap) xs) := HX.out.below hb4
  have hg2 := (HS.out.below hb4).2
  clear hb4 hg
  rw [hf]
  go_wp2
  go_quiet (fail)
  go_wp2
  go_ret2
  exact ⟨rfl, below_drewN HB2.out _⟩

set_option maxRecDepth 100000 in
set_option maxHeartbeats 1000000 in
theorem reckon_col_of (j : Nat) (x : Int) (g off len cap : Nat) (xs : List Int) (w : World) (p : Addr) (hs : Sent w p) (hx : IntsAt w (.slice (some ⟨g, off, none⟩) len cap) xs) (hlim : len ≤ 140737488355328) (hgw : g < w.heap.size) (hc : w.cell? ⟨g, off + j, none⟩ = some (.int .i64 x)) (hj : j < len) (hf : colB j len = true) (hr : rowOkB xs = true) :
    Calls Tryz.prog 86 #[.agg #[.int .i64 1, .int .i64 (j : Int), .int .i64 0, .int .i64 0], .slice (some ⟨g, off, none⟩) len cap] w fun e w' => e = .returned (.tuple #[.int .i64 x, .nilIface]) ∧ Below w.heap.size w w' := by
  have hm := invCol
  have ho := invOf_column
  go_enter Tryz.func86, Tryz.ntmps86
  go_wp2_with fail
  refine (reck_col _ _).mono ?_
  rintro e w2 ⟨rfl, hb2⟩
  have HB : Hid (Below w.heap.size w w2) := bel_then (bel_alloc _) hb2
  have hg := (hs.below HB.out).2
  have HX : Hid (IntsAt w2 (.slice (some ⟨g, off, none⟩) len cap) xs) := hx.below HB.out
  have HS : Hid (Sent w2 p) := hs.below HB.out
  clear hb2 hs hx
  go_wp2_with fail
  refine (implRowOk_any _ xs _ HX.out).mono ?_
  rintro e w3 ⟨rfl, rfl⟩
  go_wp2_with fail
  refine (colFor_any _ _ _).mono ?_
  rintro e w4 ⟨rfl, hb4⟩
  have HB2 : Hid (Below w.heap.size w w4) := bel_then HB.out hb4
  have hc4 := (HB2.out.cell (p := ⟨g, off + j, none⟩) hgw).trans hc
  have hg4 : g < w4.heap.size := Nat.lt_of_lt_of_le hgw HB2.out.size
  clear hb4 hg hc
  rw [hf]
  go_wp2_with fail
  refine (colOf_any j g off len cap x _ hj hlim hg4 hc4).mono ?_
  rintro e w5 ⟨rfl, hb5⟩
  have HB3 : Hid (Below w.heap.size w w5) := bel_then HB2.out hb5
  clear hb5 hc4
  go_wp2
  go_ret2
  exact ⟨rfl, HB3.out⟩

set_option maxRecDepth 100000 in
set_option maxHeartbeats 1000000 in
theorem reckon_two_yes (ja jb : Nat) (x y : Int) (g off len cap : Nat) (xs : List Int) (w : World) (p : Addr) (hs : Sent w p) (hx : IntsAt w (.slice (some ⟨g, off, none⟩) len cap) xs) (hlim : len ≤ 140737488355328) (hgw : g < w.heap.size) (hc : w.cell? ⟨g, off + ja, none⟩ = some (.int .i64 x)) (hd : w.cell? ⟨g, off + jb, none⟩ = some (.int .i64 y)) (hja : ja < len) (hjb : jb < len) (hf : (colB ja len && colB jb len) = true) (hwr : IntKind.i64.wrap (x + y) = x + y) (hcb : cellB (x + y) = true) (hr : rowOkB xs = true) :
    Calls Tryz.prog 86 #[.agg #[.int .i64 3, .int .i64 (ja : Int), .int .i64 (jb : Int), .int .i64 0], .slice (some ⟨g, off, none⟩) len cap] w fun e w' => e = .returned (.tuple #[.int .i64 (x + y), .nilIface]) ∧ Below w.heap.size w w' := by
  have hm := invTwo
  have ho := invOf_twoColumns
  go_enter Tryz.func86, Tryz.ntmps86
  go_wp2_with fail
  refine (reck_two _ _ _).mono ?_
  rintro e w2 ⟨rfl, hb2⟩
  have HB : Hid (Below w.heap.size w w2) := bel_then (bel_alloc _) hb2
  have hg := (hs.below HB.out).2
  have HX : Hid (IntsAt w2 (.slice (some ⟨g, off, none⟩) len cap) xs) := hx.below HB.out
  have HS : Hid (Sent w2 p) := hs.below HB.out
  clear hb2 hs hx
  go_wp2_with fail
  refine (implRowOk_any _ xs _ HX.out).mono ?_
  rintro e w3 ⟨rfl, rfl⟩
  go_wp2_with fail
  refine (twoFor_any _ _ _ _).mono ?_
  rintro e w4 ⟨rfl, hb4⟩
  have HB2 : Hid (Below w.heap.size w w4) := bel_then HB.out hb4
  have hc4 := (HB2.out.cell (p := ⟨g, off + ja, none⟩) hgw).trans hc
  have hd4 := (HB2.out.cell (p := ⟨g, off + jb, none⟩) hgw).trans hd
  have hg4 : g < w4.heap.size := Nat.lt_of_lt_of_le hgw HB2.out.size
  have hs4 : Hid (Sent w4 p) := HS.out.below hb4
  clear hb4 hg hc hd
  rw [hf]
  go_wp2_with fail
  refine (twoOf_yes ja jb g off len cap x y _ p hs4.out hja hjb hlim hg4 hc4 hd4 hwr hcb).mono ?_
  rintro e w5 ⟨rfl, hb5⟩
  have HB3 : Hid (Below w.heap.size w w5) := bel_then HB2.out hb5
  clear hb5 hc4 hd4
  go_wp2
  go_ret2
  exact ⟨rfl, HB3.out⟩

set_option maxRecDepth 100000 in
set_option maxHeartbeats 1000000 in
theorem reckon_two_no (ja jb : Nat) (x y : Int) (g off len cap : Nat) (xs : List Int) (w : World) (p : Addr) (hs : Sent w p) (hx : IntsAt w (.slice (some ⟨g, off, none⟩) len cap) xs) (hlim : len ≤ 140737488355328) (hgw : g < w.heap.size) (hc : w.cell? ⟨g, off + ja, none⟩ = some (.int .i64 x)) (hd : w.cell? ⟨g, off + jb, none⟩ = some (.int .i64 y)) (hja : ja < len) (hjb : jb < len) (hf : (colB ja len && colB jb len) = true) (hwr : IntKind.i64.wrap (x + y) = x + y) (hcb : cellB (x + y) = false) (hr : rowOkB xs = true) :
    Calls Tryz.prog 86 #[.agg #[.int .i64 3, .int .i64 (ja : Int), .int .i64 (jb : Int), .int .i64 0], .slice (some ⟨g, off, none⟩) len cap] w fun e w' => e = .returned (.tuple #[.int .i64 0, .iface 184 (.pointer (some p))]) ∧ Below w.heap.size w w' := by
  have hm := invTwo
  have ho := invOf_twoColumns
  go_enter Tryz.func86, Tryz.ntmps86
  go_wp2_with fail
  refine (reck_two _ _ _).mono ?_
  rintro e w2 ⟨rfl, hb2⟩
  have HB : Hid (Below w.heap.size w w2) := bel_then (bel_alloc _) hb2
  have hg := (hs.below HB.out).2
  have HX : Hid (IntsAt w2 (.slice (some ⟨g, off, none⟩) len cap) xs) := hx.below HB.out
  have HS : Hid (Sent w2 p) := hs.below HB.out
  clear hb2 hs hx
  go_wp2_with fail
  refine (implRowOk_any _ xs _ HX.out).mono ?_
  rintro e w3 ⟨rfl, rfl⟩
  go_wp2_with fail
  refine (twoFor_any _ _ _ _).mono ?_
  rintro e w4 ⟨rfl, hb4⟩
  have HB2 : Hid (Below w.heap.size w w4) := bel_then HB.out hb4
  have hc4 := (HB2.out.cell (p := ⟨g, off + ja, none⟩) hgw).trans hc
  have hd4 := (HB2.out.cell (p := ⟨g, off + jb, none⟩) hgw).trans hd
  have hg4 : g < w4.heap.size := Nat.lt_of_lt_of_le hgw HB2.out.size
  have hs4 : Hid (Sent w4 p) := HS.out.below hb4
  clear hb4 hg hc hd
  rw [hf]
  go_wp2_with fail
  refine (twoOf_no ja jb g off len cap x y _ p hs4.out hja hjb hlim hg4 hc4 hd4 hwr hcb).mono ?_
  rintro e w5 ⟨rfl, hb5⟩
  have HB3 : Hid (Below w.heap.size w w5) := bel_then HB2.out hb5
  clear hb5 hc4 hd4
  go_wp2
  go_ret2
  exact ⟨rfl, HB3.out⟩

/-- How what is reckoned ends: the number and no error, or 0 and the one error. -/
def RkEnd (c : Cel) (xs : List Int) (p : Addr) (e : Ending) : Prop :=
  (c.toldB xs = true ∧ e = .returned (.tuple #[.int .i64 (c.num xs), .nilIface])) ∨ (c.toldB xs = false ∧ e = .returned (.tuple #[.int .i64 0, .iface 184 (.pointer (some p))]))

theorem kind_of_ok {c : Cel} {wide : Int} (h : c.okB wide = true) : c.kindB = true := by
  rw [ok_iff] at h
  simp only [Cel.kindB, decide_eq_true_eq]
  omega

theorem wrap_sum {x y : Int} (hx : -1000000000 ≤ x ∧ x ≤ 1000000000) (hy : -1000000000 ≤ y ∧ y ≤ 1000000000) : IntKind.i64.wrap (x + y) = x + y := by unfold IntKind.wrap; simp [IntKind.bits, IntKind.signed]; omega

theorem reckon_any (c : Cel) (v : Value) (xs : List Int) (w : World) (p : Addr) (hs : Sent w p) (hx : IntsAt w v xs) :
    Calls Tryz.prog 86 #[.agg #[.int .i64 c.k, .int .i64 c.a, .int .i64 c.b, .int .i64 c.n], v] w fun e w' => RkEnd c xs p e ∧ Below w.heap.size w w' := by
  obtain ⟨s0, len, cap, rfl, hlen⟩ : ∃ s0 len cap, v = .slice s0 len cap ∧ len = xs.length := by
    obtain ⟨_, s0, cap, hv, _⟩ := hx
    exact ⟨s0, _, cap, hv, rfl⟩
  have no : c.toldB xs = false → ∀ {e : Ending} {w' : World}, (e = .returned (.tuple #[.int .i64 0, .iface 184 (.pointer (some p))]) ∧ Below w.heap.size w w') → RkEnd c xs p e ∧ Below w.heap.size w w' := fun h _ _ hh => ⟨.inr ⟨h, hh.1⟩, hh.2⟩
  have yes : c.toldB xs = true → ∀ {e : Ending} {w' : World}, (e = .returned (.tuple #[.int .i64 (c.num xs), .nilIface]) ∧ Below w.heap.size w w') → RkEnd c xs p e ∧ Below w.heap.size w w' := fun h _ _ hh => ⟨.inl ⟨h, hh.1⟩, hh.2⟩
  cases hk : c.kindB
  · have h1 : c.toldB xs = false := by
      cases ho : c.okB xs.length
      · simp [Cel.toldB, ho]
      · rw [kind_of_ok ho] at hk; cases hk
    exact (reckon_none c s0 len cap xs w p hs hx hk).mono fun e w' h => no h1 h
  · obtain ⟨k, a, b, n⟩ := c
    simp only [Cel.kindB, decide_eq_true_eq] at hk
    cases hr : rowOkB xs
    · have h1 : Cel.toldB ⟨k, a, b, n⟩ xs = false := by simp [Cel.toldB, hr]
      rcases hk with ⟨rfl, rfl, rfl⟩ | ⟨rfl, rfl, rfl⟩ | ⟨rfl, rfl⟩
      · exact (reckon_col_row a s0 len cap xs w p hs hx hr).mono fun e w' h => no h1 h
      · exact (reckon_num_row n s0 len cap xs w p hs hx hr).mono fun e w' h => no h1 h
      · exact (reckon_two_row a b s0 len cap xs w p hs hx hr).mono fun e w' h => no h1 h
    · obtain ⟨g, off, cap2, hpos, hlim, hv, hbw, hc⟩ := (hx.cases).resolve_left (by rintro ⟨a0, cap0, rfl, _⟩; simp [rowOkB] at hr)
      simp only [Value.slice.injEq] at hv
      obtain ⟨rfl, -, rfl⟩ := hv
      rcases hk with ⟨rfl, rfl, rfl⟩ | ⟨rfl, rfl, rfl⟩ | ⟨rfl, rfl⟩
      · cases hf : colB a len
        · have h0 : Cel.okB ⟨1, a, 0, 0⟩ xs.length = false := ok_no (by rw [colB_no, hlen] at hf; simp only; omega)
          exact (reckon_col_for a _ len cap xs w p hs hx hr hf).mono fun e w' h => no (by simp [Cel.toldB, h0]) h
        · have hf2 := colB_iff.1 hf
          obtain ⟨j, rfl⟩ : ∃ j : Nat, a = j := ⟨a.toNat, by omega⟩
          have hj : j < xs.length := by omega
          have h0 : Cel.okB ⟨1, j, 0, 0⟩ xs.length = true := ok_yes (.inl ⟨rfl, ⟨by simp only; omega, by simp only; omega, by simp only; omega⟩, rfl, rfl⟩)
          have hu : Cel.num ⟨1, j, 0, 0⟩ xs = xs.getD j 0 := by simp [Cel.num]
          have h1 : Cel.toldB ⟨1, j, 0, 0⟩ xs = true := by unfold Cel.toldB; rw [hr, h0, hu, cellB_iff.2 (row_cell hr hj)]; rfl
          refine (reckon_col_of j (xs.getD j 0) g off len cap xs w p hs hx (by omega) hbw (hc j hj) (by omega) hf hr).mono fun e w' h => yes h1 ?_
          rw [hu]; exact h
      · cases hf : cellB n
        · have h0 : Cel.okB ⟨2, 0, 0, n⟩ xs.length = false := ok_no (by simp [cellB] at hf; simp only; omega)
          exact (reckon_num_for n _ len cap xs w p hs hx hr hf).mono fun e w' h => no (by simp [Cel.toldB, h0]) h
        · have hf2 := cellB_iff.1 hf
          have h0 : Cel.okB ⟨2, 0, 0, n⟩ xs.length = true := ok_yes (.inr (.inl ⟨rfl, rfl, rfl, hf2⟩))
          have hu : Cel.num ⟨2, 0, 0, n⟩ xs = n := by simp [Cel.num]
          have h1 : Cel.toldB ⟨2, 0, 0, n⟩ xs = true := by unfold Cel.toldB; rw [hr, h0, hu, hf]; rfl
          refine (reckon_num_of n _ len cap xs w p hs hx hr hf).mono fun e w' h => yes h1 ?_
          rw [hu]; exact h
      · cases hf : (colB a len && colB b len)
        · have h0 : Cel.okB ⟨3, a, b, 0⟩ xs.length = false := ok_no (by
            rw [Bool.and_eq_false_iff, colB_no, colB_no, hlen] at hf
            simp only
            omega)
          exact (reckon_two_for a b _ len cap xs w p hs hx hr hf).mono fun e w' h => no (by simp [Cel.toldB, h0]) h
        · have hf2 := hf
          rw [Bool.and_eq_true, colB_iff, colB_iff] at hf2
          obtain ⟨ja, rfl⟩ : ∃ j : Nat, a = j := ⟨a.toNat, by omega⟩
          obtain ⟨jb, rfl⟩ : ∃ j : Nat, b = j := ⟨b.toNat, by omega⟩
          have hja : ja < xs.length := by omega
          have hjb : jb < xs.length := by omega
          have h0 : Cel.okB ⟨3, ja, jb, 0⟩ xs.length = true := ok_yes (.inr (.inr ⟨rfl, ⟨by simp only; omega, by simp only; omega, by simp only; omega⟩, ⟨by simp only; omega, by simp only; omega, by simp only; omega⟩, rfl⟩))
          have hu : Cel.num ⟨3, ja, jb, 0⟩ xs = xs.getD ja 0 + xs.getD jb 0 := by simp [Cel.num]
          have ra := row_cell hr hja
          have rb := row_cell hr hjb
          have hwr : IntKind.i64.wrap (xs.getD ja 0 + xs.getD jb 0) = xs.getD ja 0 + xs.getD jb 0 := wrap_sum ra rb
          cases hcb : cellB (xs.getD ja 0 + xs.getD jb 0)
          · have h1 : Cel.toldB ⟨3, ja, jb, 0⟩ xs = false := by unfold Cel.toldB; rw [hu, hcb, Bool.and_false]
            exact (reckon_two_no ja jb _ _ g off len cap xs w p hs hx (by omega) hbw (hc ja hja) (hc jb hjb) (by omega) (by omega) hf hwr hcb hr).mono fun e w' h => no h1 h
          · have h1 : Cel.toldB ⟨3, ja, jb, 0⟩ xs = true := by unfold Cel.toldB; rw [hr, h0, hu, hcb]; rfl
            refine (reckon_two_yes ja jb _ _ g off len cap xs w p hs hx (by omega) hbw (hc ja hja) (hc jb hjb) (by omega) (by omega) hf hwr hcb hr).mono fun e w' h => yes h1 ?_
            rw [hu]; exact h


end Go.Proofs.YtflbdfpgaeeleaaGreatDoor

/-
  The contracts of the document's own TestOk and TestOf: they answer Tst.okB, Tst.valB and Tst.toldB.
-/
namespace Go.Proofs.YtflbdfpgaeeleaaGreatDoor
open Go.RowKit
set_option linter.unusedVariables false

end Go.Proofs.YtflbdfpgaeeleaaGreatDoor

/-
  The contract of the document's own TestOf: it answers Tst.valB and Tst.toldB.
-/
namespace Go.Proofs.YtflbdfpgaeeleaaGreatDoor
open Go.RowKit
set_option linter.unusedVariables false

theorem told_ok {c : Cel} {xs : List Int} (h : c.toldB xs = true) : rowOkB xs = true ∧ c.okB xs.length = true := by
  unfold Cel.toldB at h
  simp only [Bool.and_eq_true] at h
  exact h.1

end Go.Proofs.YtflbdfpgaeeleaaGreatDoor

/-
  The contracts of the program's own relationOf, TestOk, ask and TestOf.
-/
namespace Go.Proofs.YtflbdfpgaeeleaaGreatDoor
open Go.RowKit
set_option linter.unusedVariables false

set_option maxRecDepth 100000 in
set_option maxHeartbeats 1000000 in
theorem rel_less (w : World) : Calls Tryz.prog 85 #[.int .i64 1] w fun e w' => e = .returned (.tuple #[.iface 144 (.agg #[]), .nilIface]) ∧ Below w.heap.size w w' := by
  go_enter Tryz.func85, Tryz.ntmps85
  go_wp2
  go_ret2
  exact ⟨rfl, Below.refl _ _⟩

set_option maxRecDepth 100000 in
set_option maxHeartbeats 1000000 in
theorem rel_same (w : World) : Calls Tryz.prog 85 #[.int .i64 2] w fun e w' => e = .returned (.tuple #[.iface 145 (.agg #[]), .nilIface]) ∧ Below w.heap.size w w' := by
  go_enter Tryz.func85, Tryz.ntmps85
  go_wp2
  go_ret2
  exact ⟨rfl, Below.refl _ _⟩

set_option maxRecDepth 100000 in
set_option maxHeartbeats 1000000 in
theorem rel_none (k : Int) (w : World) (p : Addr) (hs : Sent w p) (h1 : (k == 1) = false) (h2 : (k == 2) = false) : Calls Tryz.prog 85 #[.int .i64 k] w fun e w' => e = .returned (.tuple #[.nilIface, .iface 184 (.pointer (some p))]) ∧ Below w.heap.size w w' := by
  have hg := hs.2
  clear hs
  go_enter Tryz.func85, Tryz.ntmps85
  go_wp2
  go_quiet (fail)
  go_wp2
  go_ret2
  exact ⟨rfl, below_drewN (Below.refl _ _) _⟩
theorem RkEnd.yes {c : Cel} {xs : List Int} {p : Addr} {e : Ending} (h : RkEnd c xs p e) (ht : c.toldB xs = true) : e = .returned (.tuple #[.int .i64 (c.num xs), .nilIface]) := by
  rcases h with ⟨_, he⟩ | ⟨hf, _⟩
  · exact he
  · rw [hf] at ht; cases ht
theorem RkEnd.no {c : Cel} {xs : List Int} {p : Addr} {e : Ending} (h : RkEnd c xs p e) (ht : c.toldB xs = false) : e = .returned (.tuple #[.int .i64 0, .iface 184 (.pointer (some p))]) := by
  rcases h with ⟨hf, _⟩ | ⟨_, he⟩
  · rw [hf] at ht; cases ht
  · exact he

theorem lessHolds (a b : Int) (w : World) : Calls Tryz.prog 137 #[.agg #[], .int .i64 a, .int .i64 b] w fun e w' => e = .returned (.bool (decide (a < b))) ∧ Below w.heap.size w w' := by
  go_enter Tryz.func137, Tryz.ntmps137
  go_wp2
  go_ret
  exact ⟨rfl, bel_alloc _⟩
theorem sameHolds (a b : Int) (w : World) : Calls Tryz.prog 139 #[.agg #[], .int .i64 a, .int .i64 b] w fun e w' => e = .returned (.bool (a == b)) ∧ Below w.heap.size w w' := by
  go_enter Tryz.func139, Tryz.ntmps139
  go_wp2
  go_ret
  exact ⟨rfl, bel_alloc _⟩
theorem invLess (v : Value) (w : World) : (Go.method 318 144 v "loop.example/milldam/impl.holds").run Tryz.prog w = .ok (137, v) w := by kernel_rfl
theorem invSame (v : Value) (w : World) : (Go.method 318 145 v "loop.example/milldam/impl.holds").run Tryz.prog w = .ok (139, v) w := by kernel_rfl

set_option maxRecDepth 100000 in
set_option maxHeartbeats 1000000 in
theorem ask_none (k : Int) (no : Bool) (l r : Cel) (v : Value) (xs : List Int) (w : World) (p : Addr) (hs : Sent w p) (hx : IntsAt w v xs) (h1 : (k == 1) = false) (h2 : (k == 2) = false) :
    Calls Tryz.prog 62 #[.agg #[.int .i64 k, .bool no, .int .i64 l.k, .int .i64 l.a, .int .i64 l.b, .int .i64 l.n, .int .i64 r.k, .int .i64 r.a, .int .i64 r.b, .int .i64 r.n], v] w fun e w' => e = .returned (.tuple #[.bool false, .iface 184 (.pointer (some p))]) ∧ Below w.heap.size w w' := by
  go_enter Tryz.func62, Tryz.ntmps62
  go_wp2_with fail
  refine (rel_none k _ p (hs.below (bel_alloc _)) h1 h2).mono ?_
  rintro e w1 ⟨rfl, hb1⟩
  have B1 : Hid (Below w.heap.size w w1) := bel_then (bel_alloc _) hb1
  have X1 := (Box10.start w ⟨k, no, l, r⟩ _).below hb1
  obtain ⟨_, c0, c1, ⟨c2, c3, c4, c5⟩, c6, c7, c8, c9⟩ := id X1
  have HX1 : Hid (Box10 w1 w.heap.size ⟨k, no, l, r⟩) := X1
  simp only at c0 c1 c2 c3 c4 c5 c6 c7 c8 c9
  clear hb1 X1
  go_wp2
  go_ret2
  exact ⟨rfl, B1.out⟩

set_option maxRecDepth 100000 in
set_option maxHeartbeats 1000000 in
theorem ask_1l (no : Bool) (l r : Cel) (v : Value) (xs : List Int) (w : World) (p : Addr) (hs : Sent w p) (hx : IntsAt w v xs) (hl : l.toldB xs = false) :
    Calls Tryz.prog 62 #[.agg #[.int .i64 1, .bool no, .int .i64 l.k, .int .i64 l.a, .int .i64 l.b, .int .i64 l.n, .int .i64 r.k, .int .i64 r.a, .int .i64 r.b, .int .i64 r.n], v] w fun e w' => e = .returned (.tuple #[.bool false, .iface 184 (.pointer (some p))]) ∧ Below w.heap.size w w' := by
  go_enter Tryz.func62, Tryz.ntmps62
  go_wp2_with fail
  refine (rel_less _).mono ?_
  rintro e w1 ⟨rfl, hb1⟩
  have B1 : Hid (Below w.heap.size w w1) := bel_then (bel_alloc _) hb1
  have X1 := (Box10.start w ⟨1, no, l, r⟩ _).below hb1
  obtain ⟨_, c0, c1, ⟨c2, c3, c4, c5⟩, c6, c7, c8, c9⟩ := id X1
  have HX1 : Hid (Box10 w1 w.heap.size ⟨1, no, l, r⟩) := X1
  simp only at c0 c1 c2 c3 c4 c5 c6 c7 c8 c9
  clear hb1 X1
  go_wp2_with fail
  refine (reckon_any l _ xs _ p (hs.below B1.out) (hx.below B1.out)).mono ?_
  rintro e w3 ⟨he3, hb3⟩
  have B3 : Hid (Below w.heap.size w w3) := bel_then B1.out hb3
  have X3 := HX1.out.below hb3
  clear c0 c1 c2 c3 c4 c5 c6 c7 c8 c9
  obtain ⟨_, c0, c1, ⟨c2, c3, c4, c5⟩, c6, c7, c8, c9⟩ := id X3
  have HX3 : Hid (Box10 w3 w.heap.size ⟨1, no, l, r⟩) := X3
  simp only at c0 c1 c2 c3 c4 c5 c6 c7 c8 c9
  clear hb3 X3
  obtain rfl := he3.no hl
  clear he3
  go_wp2
  go_ret2
  exact ⟨rfl, B3.out⟩

set_option maxRecDepth 100000 in
set_option maxHeartbeats 1000000 in
theorem ask_1r (no : Bool) (l r : Cel) (v : Value) (xs : List Int) (w : World) (p : Addr) (hs : Sent w p) (hx : IntsAt w v xs) (hl : l.toldB xs = true) (hr : r.toldB xs = false) :
    Calls Tryz.prog 62 #[.agg #[.int .i64 1, .bool no, .int .i64 l.k, .int .i64 l.a, .int .i64 l.b, .int .i64 l.n, .int .i64 r.k, .int .i64 r.a, .int .i64 r.b, .int .i64 r.n], v] w fun e w' => e = .returned (.tuple #[.bool false, .iface 184 (.pointer (some p))]) ∧ Below w.heap.size w w' := by
  go_enter Tryz.func62, Tryz.ntmps62
  go_wp2_with fail
  refine (rel_less _).mono ?_
  rintro e w1 ⟨rfl, hb1⟩
  have B1 : Hid (Below w.heap.size w w1) := bel_then (bel_alloc _) hb1
  have X1 := (Box10.start w ⟨1, no, l, r⟩ _).below hb1
  obtain ⟨_, c0, c1, ⟨c2, c3, c4, c5⟩, c6, c7, c8, c9⟩ := id X1
  have HX1 : Hid (Box10 w1 w.heap.size ⟨1, no, l, r⟩) := X1
  simp only at c0 c1 c2 c3 c4 c5 c6 c7 c8 c9
  clear hb1 X1
  go_wp2_with fail
  refine (reckon_any l _ xs _ p (hs.below B1.out) (hx.below B1.out)).mono ?_
  rintro e w3 ⟨he3, hb3⟩
  have B3 : Hid (Below w.heap.size w w3) := bel_then B1.out hb3
  have X3 := HX1.out.below hb3
  clear c0 c1 c2 c3 c4 c5 c6 c7 c8 c9
  obtain ⟨_, c0, c1, ⟨c2, c3, c4, c5⟩, c6, c7, c8, c9⟩ := id X3
  have HX3 : Hid (Box10 w3 w.heap.size ⟨1, no, l, r⟩) := X3
  simp only at c0 c1 c2 c3 c4 c5 c6 c7 c8 c9
  clear hb3 X3
  obtain rfl := he3.yes hl
  clear he3
  obtain ⟨x, HXV⟩ : ∃ x, Hid (x = l.num xs) := ⟨_, Eq.refl _⟩
  rw [← HXV.out]
  go_wp2_with fail
  refine (reckon_any r _ xs _ p (hs.below B3.out) (hx.below B3.out)).mono ?_
  rintro e w4 ⟨he4, hb4⟩
  have B4 : Hid (Below w.heap.size w w4) := bel_then B3.out hb4
  have X4 := HX3.out.below hb4
  clear c0 c1 c2 c3 c4 c5 c6 c7 c8 c9
  obtain ⟨hlt4, c0, c1, ⟨c2, c3, c4, c5⟩, c6, c7, c8, c9⟩ := id X4
  have HX4 : Hid (Box10 w4 w.heap.size ⟨1, no, l, r⟩) := X4
  simp only at c0 c1 c2 c3 c4 c5 c6 c7 c8 c9
  clear hb4 X4
  obtain rfl := he4.no hr
  clear he4
  go_wp2
  go_ret2
  exact ⟨rfl, B4.out⟩

set_option maxRecDepth 100000 in
set_option maxHeartbeats 1000000 in
theorem ask_1y (no : Bool) (l r : Cel) (v : Value) (xs : List Int) (w : World) (p : Addr) (hs : Sent w p) (hx : IntsAt w v xs) (hl : l.toldB xs = true) (hr : r.toldB xs = true) :
    Calls Tryz.prog 62 #[.agg #[.int .i64 1, .bool no, .int .i64 l.k, .int .i64 l.a, .int .i64 l.b, .int .i64 l.n, .int .i64 r.k, .int .i64 r.a, .int .i64 r.b, .int .i64 r.n], v] w fun e w' => e = .returned (.tuple #[.bool (decide (l.num xs < r.num xs) != no), .nilIface]) ∧ Below w.heap.size w w' := by
  have hm := invLess
  go_enter Tryz.func62, Tryz.ntmps62
  go_wp2_with fail
  refine (rel_less _).mono ?_
  rintro e w1 ⟨rfl, hb1⟩
  have B1 : Hid (Below w.heap.size w w1) := bel_then (bel_alloc _) hb1
  have X1 := (Box10.start w ⟨1, no, l, r⟩ _).below hb1
  obtain ⟨_, c0, c1, ⟨c2, c3, c4, c5⟩, c6, c7, c8, c9⟩ := id X1
  have HX1 : Hid (Box10 w1 w.heap.size ⟨1, no, l, r⟩) := X1
  simp only at c0 c1 c2 c3 c4 c5 c6 c7 c8 c9
  clear hb1 X1
  go_wp2_with fail
  refine (reckon_any l _ xs _ p (hs.below B1.out) (hx.below B1.out)).mono ?_
  rintro e w3 ⟨he3, hb3⟩
  have B3 : Hid (Below w.heap.size w w3) := bel_then B1.out hb3
  have X3 := HX1.out.below hb3
  clear c0 c1 c2 c3 c4 c5 c6 c7 c8 c9
  obtain ⟨_, c0, c1, ⟨c2, c3, c4, c5⟩, c6, c7, c8, c9⟩ := id X3
  have HX3 : Hid (Box10 w3 w.heap.size ⟨1, no, l, r⟩) := X3
  simp only at c0 c1 c2 c3 c4 c5 c6 c7 c8 c9
  clear hb3 X3
  obtain rfl := he3.yes hl
  clear he3
  obtain ⟨x, HXV⟩ : ∃ x, Hid (x = l.num xs) := ⟨_, Eq.refl _⟩
  rw [← HXV.out]
  go_wp2_with fail
  refine (reckon_any r _ xs _ p (hs.below B3.out) (hx.below B3.out)).mono ?_
  rintro e w4 ⟨he4, hb4⟩
  have B4 : Hid (Below w.heap.size w w4) := bel_then B3.out hb4
  have X4 := HX3.out.below hb4
  clear c0 c1 c2 c3 c4 c5 c6 c7 c8 c9
  obtain ⟨hlt4, c0, c1, ⟨c2, c3, c4, c5⟩, c6, c7, c8, c9⟩ := id X4
  have HX4 : Hid (Box10 w4 w.heap.size ⟨1, no, l, r⟩) := X4
  simp only at c0 c1 c2 c3 c4 c5 c6 c7 c8 c9
  clear hb4 X4
  obtain rfl := he4.yes hr
  clear he4
  obtain ⟨y, HYV⟩ : ∃ y, Hid (y = r.num xs) := ⟨_, Eq.refl _⟩
  rw [← HYV.out]
  go_wp2_with fail
  go_region_with (go_at_call 137; refine (lessHolds _ _ _).mono ?_; rintro e w5 ⟨rfl, hb5⟩; have d1 : w5.cell? ⟨w.heap.size, 1, none⟩ = some (.bool no) := (hb5.cell (p := ⟨w.heap.size, 1, none⟩) hlt4).trans c1; have B5 : Hid (Below w.heap.size w w5) := bel_then (by first | exact B4.out | exact B4.out.drew | exact below_drewN B4.out _) hb5; clear hb5)
  all_goals (try go_wp2)
  all_goals (go_ret2; exact ⟨by rw [← HXV.out, ← HYV.out]; rfl, by first | exact B5.out | exact B5.out.drew | exact below_drewN B5.out _⟩)

set_option maxRecDepth 100000 in
set_option maxHeartbeats 1000000 in
theorem ask_2l (no : Bool) (l r : Cel) (v : Value) (xs : List Int) (w : World) (p : Addr) (hs : Sent w p) (hx : IntsAt w v xs) (hl : l.toldB xs = false) :
    Calls Tryz.prog 62 #[.agg #[.int .i64 2, .bool no, .int .i64 l.k, .int .i64 l.a, .int .i64 l.b, .int .i64 l.n, .int .i64 r.k, .int .i64 r.a, .int .i64 r.b, .int .i64 r.n], v] w fun e w' => e = .returned (.tuple #[.bool false, .iface 184 (.pointer (some p))]) ∧ Below w.heap.size w w' := by
  go_enter Tryz.func62, Tryz.ntmps62
  go_wp2_with fail
  refine (rel_same _).mono ?_
  rintro e w1 ⟨rfl, hb1⟩
  have B1 : Hid (Below w.heap.size w w1) := bel_then (bel_alloc _) hb1
  have X1 := (Box10.start w ⟨2, no, l, r⟩ _).below hb1
  obtain ⟨_, c0, c1, ⟨c2, c3, c4, c5⟩, c6, c7, c8, c9⟩ := id X1
  have HX1 : Hid (Box10 w1 w.heap.size ⟨2, no, l, r⟩) := X1
  simp only at c0 c1 c2 c3 c4 c5 c6 c7 c8 c9
  clear hb1 X1
  go_wp2_with fail
  refine (reckon_any l _ xs _ p (hs.below B1.out) (hx.below B1.out)).mono ?_
  rintro e w3 ⟨he3, hb3⟩
  have B3 : Hid (Below w.heap.size w w3) := bel_then B1.out hb3
  have X3 := HX1.out.below hb3
  clear c0 c1 c2 c3 c4 c5 c6 c7 c8 c9
  obtain ⟨_, c0, c1, ⟨c2, c3, c4, c5⟩, c6, c7, c8, c9⟩ := id X3
  have HX3 : Hid (Box10 w3 w.heap.size ⟨2, no, l, r⟩) := X3
  simp only at c0 c1 c2 c3 c4 c5 c6 c7 c8 c9
  clear hb3 X3
  obtain rfl := he3.no hl
  clear he3
  go_wp2
  go_ret2
  exact ⟨rfl, B3.out⟩

set_option maxRecDepth 100000 in
set_option maxHeartbeats 1000000 in
theorem ask_2r (no : Bool) (l r : Cel) (v : Value) (xs : List Int) (w : World) (p : Addr) (hs : Sent w p) (hx : IntsAt w v xs) (hl : l.toldB xs = true) (hr : r.toldB xs = false) :
    Calls Tryz.prog 62 #[.agg #[.int .i64 2, .bool no, .int .i64 l.k, .int .i64 l.a, .int .i64 l.b, .int .i64 l.n, .int .i64 r.k, .int .i64 r.a, .int .i64 r.b, .int .i64 r.n], v] w fun e w' => e = .returned (.tuple #[.bool false, .iface 184 (.pointer (some p))]) ∧ Below w.heap.size w w' := by
  go_enter Tryz.func62, Tryz.ntmps62
  go_wp2_with fail
  refine (rel_same _).mono ?_
  rintro e w1 ⟨rfl, hb1⟩
  have B1 : Hid (Below w.heap.size w w1) := bel_then (bel_alloc _) hb1
  have X1 := (Box10.start w ⟨2, no, l, r⟩ _).below hb1
  obtain ⟨_, c0, c1, ⟨c2, c3, c4, c5⟩, c6, c7, c8, c9⟩ := id X1
  have HX1 : Hid (Box10 w1 w.heap.size ⟨2, no, l, r⟩) := X1
  simp only at c0 c1 c2 c3 c4 c5 c6 c7 c8 c9
  clear hb1 X1
  go_wp2_with fail
  refine (reckon_any l _ xs _ p (hs.below B1.out) (hx.below B1.out)).mono ?_
  rintro e w3 ⟨he3, hb3⟩
  have B3 : Hid (Below w.heap.size w w3) := bel_then B1.out hb3
  have X3 := HX1.out.below hb3
  clear c0 c1 c2 c3 c4 c5 c6 c7 c8 c9
  obtain ⟨_, c0, c1, ⟨c2, c3, c4, c5⟩, c6, c7, c8, c9⟩ := id X3
  have HX3 : Hid (Box10 w3 w.heap.size ⟨2, no, l, r⟩) := X3
  simp only at c0 c1 c2 c3 c4 c5 c6 c7 c8 c9
  clear hb3 X3
  obtain rfl := he3.yes hl
  clear he3
  obtain ⟨x, HXV⟩ : ∃ x, Hid (x = l.num xs) := ⟨_, Eq.refl _⟩
  rw [← HXV.out]
  go_wp2_with fail
  refine (reckon_any r _ xs _ p (hs.below B3.out) (hx.below B3.out)).mono ?_
  rintro e w4 ⟨he4, hb4⟩
  have B4 : Hid (Below w.heap.size w w4) := bel_then B3.out hb4
  have X4 := HX3.out.below hb4
  clear c0 c1 c2 c3 c4 c5 c6 c7 c8 c9
  obtain ⟨hlt4, c0, c1, ⟨c2, c3, c4, c5⟩, c6, c7, c8, c9⟩ := id X4
  have HX4 : Hid (Box10 w4 w.heap.size ⟨2, no, l, r⟩) := X4
  simp only at c0 c1 c2 c3 c4 c5 c6 c7 c8 c9
  clear hb4 X4
  obtain rfl := he4.no hr
  clear he4
  go_wp2
  go_ret2
  exact ⟨rfl, B4.out⟩

set_option maxRecDepth 100000 in
set_option maxHeartbeats 1000000 in
theorem ask_2y (no : Bool) (l r : Cel) (v : Value) (xs : List Int) (w : World) (p : Addr) (hs : Sent w p) (hx : IntsAt w v xs) (hl : l.toldB xs = true) (hr : r.toldB xs = true) :
    Calls Tryz.prog 62 #[.agg #[.int .i64 2, .bool no, .int .i64 l.k, .int .i64 l.a, .int .i64 l.b, .int .i64 l.n, .int .i64 r.k, .int .i64 r.a, .int .i64 r.b, .int .i64 r.n], v] w fun e w' => e = .returned (.tuple #[.bool ((l.num xs == r.num xs) != no), .nilIface]) ∧ Below w.heap.size w w' := by
  have hm := invSame
  go_enter Tryz.func62, Tryz.ntmps62
  go_wp2_with fail
  refine (rel_same _).mono ?_
  rintro e w1 ⟨rfl, hb1⟩
  have B1 : Hid (Below w.heap.size w w1) := bel_then (bel_alloc _) hb1
  have X1 := (Box10.start w ⟨2, no, l, r⟩ _).below hb1
  obtain ⟨_, c0, c1, ⟨c2, c3, c4, c5⟩, c6, c7, c8, c9⟩ := id X1
  have HX1 : Hid (Box10 w1 w.heap.size ⟨2, no, l, r⟩) := X1
  simp only at c0 c1 c2 c3 c4 c5 c6 c7 c8 c9
  clear hb1 X1
  go_wp2_with fail
  refine (reckon_any l _ xs _ p (hs.below B1.out) (hx.below B1.out)).mono ?_
  rintro e w3 ⟨he3, hb3⟩
  have B3 : Hid (Below w.heap.size w w3) := bel_then B1.out hb3
  have X3 := HX1.out.below hb3
  clear c0 c1 c2 c3 c4 c5 c6 c7 c8 c9
  obtain ⟨_, c0, c1, ⟨c2, c3, c4, c5⟩, c6, c7, c8, c9⟩ := id X3
  have HX3 : Hid (Box10 w3 w.heap.size ⟨2, no, l, r⟩) := X3
  simp only at c0 c1 c2 c3 c4 c5 c6 c7 c8 c9
  clear hb3 X3
  obtain rfl := he3.yes hl
  clear he3
  obtain ⟨x, HXV⟩ : ∃ x, Hid (x = l.num xs) := ⟨_, Eq.refl _⟩
  rw [← HXV.out]
  go_wp2_with fail
  refine (reckon_any r _ xs _ p (hs.below B3.out) (hx.below B3.out)).mono ?_
  rintro e w4 ⟨he4, hb4⟩
  have B4 : Hid (Below w.heap.size w w4) := bel_then B3.out hb4
  have X4 := HX3.out.below hb4
  clear c0 c1 c2 c3 c4 c5 c6 c7 c8 c9
  obtain ⟨hlt4, c0, c1, ⟨c2, c3, c4, c5⟩, c6, c7, c8, c9⟩ := id X4
  have HX4 : Hid (Box10 w4 w.heap.size ⟨2, no, l, r⟩) := X4
  simp only at c0 c1 c2 c3 c4 c5 c6 c7 c8 c9
  clear hb4 X4
  obtain rfl := he4.yes hr
  clear he4
  obtain ⟨y, HYV⟩ : ∃ y, Hid (y = r.num xs) := ⟨_, Eq.refl _⟩
  rw [← HYV.out]
  go_wp2_with fail
  go_region_with (go_at_call 139; refine (sameHolds _ _ _).mono ?_; rintro e w5 ⟨rfl, hb5⟩; have d1 : w5.cell? ⟨w.heap.size, 1, none⟩ = some (.bool no) := (hb5.cell (p := ⟨w.heap.size, 1, none⟩) hlt4).trans c1; have B5 : Hid (Below w.heap.size w w5) := bel_then (by first | exact B4.out | exact B4.out.drew | exact below_drewN B4.out _) hb5; clear hb5)
  all_goals (try go_wp2)
  all_goals (go_ret2; exact ⟨by rw [← HXV.out, ← HYV.out]; rfl, by first | exact B5.out | exact B5.out.drew | exact below_drewN B5.out _⟩)

def AskEnd (t : Tst) (xs : List Int) (p : Addr) (e : Ending) : Prop :=
  (t.toldB xs = true ∧ e = .returned (.tuple #[.bool (t.holdsB xs), .nilIface])) ∨ (t.toldB xs = false ∧ e = .returned (.tuple #[.bool false, .iface 184 (.pointer (some p))]))

theorem ask_any (t : Tst) (v : Value) (xs : List Int) (w : World) (p : Addr) (hs : Sent w p) (hx : IntsAt w v xs) :
    Calls Tryz.prog 62 #[.agg #[.int .i64 t.k, .bool t.no, .int .i64 t.l.k, .int .i64 t.l.a, .int .i64 t.l.b, .int .i64 t.l.n, .int .i64 t.r.k, .int .i64 t.r.a, .int .i64 t.r.b, .int .i64 t.r.n], v] w fun e w' => AskEnd t xs p e ∧ Below w.heap.size w w' := by
  obtain ⟨k, no, l, r⟩ := t
  simp only
  by_cases hk : k = 1 ∨ k = 2
  · cases hl : l.toldB xs
    · have hf : Tst.toldB ⟨k, no, l, r⟩ xs = false := by simp [Tst.toldB, hl]
      rcases hk with rfl | rfl
      · exact (ask_1l no l r v xs w p hs hx hl).mono fun e w' h => ⟨.inr ⟨hf, h.1⟩, h.2⟩
      · exact (ask_2l no l r v xs w p hs hx hl).mono fun e w' h => ⟨.inr ⟨hf, h.1⟩, h.2⟩
    · cases hr : r.toldB xs
      · have hf : Tst.toldB ⟨k, no, l, r⟩ xs = false := by simp [Tst.toldB, hr]
        rcases hk with rfl | rfl
        · exact (ask_1r no l r v xs w p hs hx hl hr).mono fun e w' h => ⟨.inr ⟨hf, h.1⟩, h.2⟩
        · exact (ask_2r no l r v xs w p hs hx hl hr).mono fun e w' h => ⟨.inr ⟨hf, h.1⟩, h.2⟩
      · have ht : Tst.toldB ⟨k, no, l, r⟩ xs = true := by simp [Tst.toldB, hk, hl, hr]
        rcases hk with rfl | rfl
        · exact (ask_1y no l r v xs w p hs hx hl hr).mono fun e w' h => ⟨.inl ⟨ht, by simpa [Tst.holdsB] using h.1⟩, h.2⟩
        · have hb : (l.num xs == r.num xs) = decide (l.num xs = r.num xs) := by by_cases h : l.num xs = r.num xs <;> simp [h]
          exact (ask_2y no l r v xs w p hs hx hl hr).mono fun e w' h => ⟨.inl ⟨ht, by rw [hb] at h; simpa [Tst.holdsB] using h.1⟩, h.2⟩
  · have hf : Tst.toldB ⟨k, no, l, r⟩ xs = false := by simp only [Tst.toldB, decide_eq_false hk, Bool.false_and]
    refine (ask_none k no l r v xs w p hs hx ?_ ?_).mono fun e w' h => ⟨.inr ⟨hf, h.1⟩, h.2⟩
    · simpa using fun h => hk (.inl h)
    · simpa using fun h => hk (.inr h)

set_option maxRecDepth 100000 in
set_option maxHeartbeats 1000000 in
theorem implTestOf_any (t : Tst) (v : Value) (xs : List Int) (w : World) (p : Addr) (hs : Sent w p) (hx : IntsAt w v xs) :
    Calls Tryz.prog 37 #[.agg #[.int .i64 t.k, .bool t.no, .int .i64 t.l.k, .int .i64 t.l.a, .int .i64 t.l.b, .int .i64 t.l.n, .int .i64 t.r.k, .int .i64 t.r.a, .int .i64 t.r.b, .int .i64 t.r.n], v] w fun e w' => e = .returned (.tuple #[.bool (t.valB xs), .bool (t.toldB xs)]) ∧ Below w.heap.size w w' := by
  obtain ⟨b, HR⟩ : ∃ b, Hid (b = t.valB xs) := ⟨_, Eq.refl _⟩
  obtain ⟨d, HT⟩ : ∃ d, Hid (d = t.toldB xs) := ⟨_, Eq.refl _⟩
  rw [← HR.out, ← HT.out]
  go_enter Tryz.func37, Tryz.ntmps37
  go_wp2_with fail
  refine (ask_any t v xs _ p (hs.below (bel_alloc _)) (hx.below (bel_alloc _))).mono ?_
  rintro e w2 ⟨he, hb2⟩
  have HB : Hid (Below w.heap.size w w2) := bel_then (bel_alloc _) hb2
  have hg := (hs.below HB.out).2
  clear hb2 hs hx
  rcases he with ⟨h1, rfl⟩ | ⟨h1, rfl⟩
  · have h2 : t.valB xs = t.holdsB xs := by rw [Tst.valB, h1, Bool.true_and]
    rw [← HT.out] at h1
    rw [← HR.out] at h2
    rw [← h2]
    subst h1
    clear h2
    go_wp2_with fail
    refine (is_nil p _).mono ?_
    rintro e w3 ⟨rfl, rfl⟩
    go_wp2
    go_ret2
    exact ⟨rfl, HB.out⟩
  · have h2 : t.valB xs = false := by rw [Tst.valB, h1, Bool.false_and]
    rw [← HT.out] at h1
    rw [← HR.out] at h2
    subst h1 h2
    go_wp2_with fail
    refine (is_same p _).mono ?_
    rintro e w3 ⟨rfl, rfl⟩
    go_wp2
    go_ret2
    exact ⟨rfl, HB.out⟩

end Go.Proofs.YtflbdfpgaeeleaaGreatDoor

/-
  Plain facts on items of which something is so: those of which a test is so, in their order; put one by one into a list they come out so.
-/
namespace Go.Proofs.YtflbdfpgaeeleaaGreatDoor

def whereZ (t : Tst) (zs : List It) : List It := zs.filter fun p => t.valB p.1
def whereOk (t : Tst) (zs : List It) : Bool := zOkB zs && zs.all fun p => t.toldB p.1
def whereOut (t : Tst) (zs : List It) : List It := if whereOk t zs then whereZ t zs else []

theorem whereZ_len (t : Tst) (zs : List It) : (whereZ t zs).length ≤ zs.length := List.length_filter_le _ _
theorem whereZ_take {t : Tst} {zs : List It} {k : Nat} (hk : k < zs.length) : whereZ t (zs.take (k + 1)) = whereZ t (zs.take k) ++ (if t.valB (zs.getD k ([], 0)).1 then [((zs.getD k ([], 0)).1, (zs.getD k ([], 0)).2)] else []) := by
  unfold whereZ
  rw [List.take_succ_eq_append_getElem hk, List.filter_append]
  congr 1
  simp [List.getD, hk]
  split <;> simp_all
theorem told_take {t : Tst} {zs : List It} {k : Nat} (hk : k < zs.length) (h : (zs.take k).all (fun p => t.toldB p.1) = true) (hx : t.toldB (zs.getD k ([], 0)).1 = true) : (zs.take (k + 1)).all (fun p => t.toldB p.1) = true := by
  rw [List.take_succ_eq_append_getElem hk, List.all_append, h]
  simp [List.getD, hk] at hx ⊢
  exact hx
theorem where_no {t : Tst} {zs : List It} {k : Nat} (hk : k < zs.length) (hx : t.toldB (zs.getD k ([], 0)).1 = false) : whereOk t zs = false := by
  unfold whereOk
  have : (zs.all fun p => t.toldB p.1) = false := by
    rw [List.all_eq_false]
    refine ⟨zs[k], by simp, ?_⟩
    simp [List.getD, hk] at hx
    simp [hx]
  rw [this, Bool.and_false]
theorem putZ_last {zs : List It} {r : List Int} {y : Int} (h : ∀ p ∈ zs, ordL p.1 r = -1) (hy : y ≠ 0) : putZ zs r y = zs ++ [(r, y)] := by
  rw [putZ_new (k := zs.length) hy (fun j hj => h _ (by simp [List.getD, hj])) (Nat.le_refl _) (fun hc => by omega)]
  simp
theorem srt_ahead {zs : List It} (h : Srt zs) {k : Nat} (hk : k < zs.length) : ∀ p ∈ zs.take k, ordL p.1 (zs.getD k ([], 0)).1 = -1 := by
  intro p hp
  obtain ⟨j, hj, rfl⟩ := List.mem_iff_getElem.1 hp
  rw [List.length_take] at hj
  rw [List.getElem_take]
  have := List.pairwise_iff_getElem.1 h j k (by omega) hk (by omega)
  simpa [List.getD, hk] using this
theorem where_put {t : Tst} {zs : List It} (hok : zOkB zs = true) {k : Nat} (hk : k < zs.length) (hx : t.valB (zs.getD k ([], 0)).1 = true) : putZ (whereZ t (zs.take k)) (zs.getD k ([], 0)).1 (zs.getD k ([], 0)).2 = whereZ t (zs.take (k + 1)) := by
  rw [whereZ_take hk, if_pos hx]
  refine putZ_last (fun p hp => srt_ahead (zOk_srt hok) hk p (List.mem_filter.1 hp).1) (zOk_nz hok _ ?_)
  simp [List.getD, hk]
theorem whereZ_mem {t : Tst} {zs : List It} {p : It} (h : p ∈ whereZ t zs) : p ∈ zs := (List.mem_filter.1 h).1
end Go.Proofs.YtflbdfpgaeeleaaGreatDoor

/-
  The contract of impl.WhereOf: the items of which a test is so, in memory of their own; none, and false, of items that are not right or of which it can not be told. Condition: the error of chapter 3 reads as it was laid.
-/
namespace Go.Proofs.YtflbdfpgaeeleaaGreatDoor
set_option maxRecDepth 100000
open Go.RowKit

theorem box_cells {w : World} {g : Nat} {t : Tst} (h : Box10 w g t) : (w.cell? ⟨g, 0, none⟩ = some (.int .i64 t.k) ∧ w.cell? ⟨g, 1, none⟩ = some (.bool t.no) ∧ w.cell? ⟨g, 2, none⟩ = some (.int .i64 t.l.k) ∧ w.cell? ⟨g, 3, none⟩ = some (.int .i64 t.l.a) ∧ w.cell? ⟨g, 4, none⟩ = some (.int .i64 t.l.b)) ∧ (w.cell? ⟨g, 5, none⟩ = some (.int .i64 t.l.n) ∧ w.cell? ⟨g, 6, none⟩ = some (.int .i64 t.r.k) ∧ w.cell? ⟨g, 7, none⟩ = some (.int .i64 t.r.a) ∧ w.cell? ⟨g, 8, none⟩ = some (.int .i64 t.r.b) ∧ w.cell? ⟨g, 9, none⟩ = some (.int .i64 t.r.n)) := by
  obtain ⟨_, c0, c1, ⟨c2, c3, c4, c5⟩, c6, c7, c8, c9⟩ := h
  exact ⟨⟨c0, c1, c2, c3, c4⟩, c5, c6, c7, c8, c9⟩

set_option maxHeartbeats 4000000 in
theorem implWhere_any (v : Value) (zs : List It) (t : Tst) (w : World) (p : Addr) (hs : Sent w p) (h : ItemsAt w v zs) :
    Calls Tryz.prog 9 #[v, .agg #[.int .i64 t.k, .bool t.no, .int .i64 t.l.k, .int .i64 t.l.a, .int .i64 t.l.b, .int .i64 t.l.n, .int .i64 t.r.k, .int .i64 t.r.a, .int .i64 t.r.b, .int .i64 t.r.n]] w fun e w' => ∃ v', e = .returned (.tuple #[v', .bool (whereOk t zs)]) ∧ OwnZ w' w.heap.size w'.heap.size v' (whereOut t zs) ∧ Below w.heap.size w w' := by
  obtain ⟨i0, hi, hz0, hz1, hz2⟩ := info_parts infoItem
  cases hok : zOkB zs with
  | false =>
    have e0 : whereOk t zs = false := by simp [whereOk, hok]
    have e1 : whereOut t zs = [] := by simp [whereOut, e0]
    rw [e0, e1]
    go_enter Tryz.func9, Tryz.ntmps9
    go_wp2_with fail
    refine (implZOk_any v zs _ (h.below (bel_alloc _))).mono ?_
    rw [hok]
    rintro e w1 ⟨rfl, hb1⟩
    have HK : Hid (Below w.heap.size w w1) := bel_then (bel_alloc _) hb1
    clear h hb1 e0 e1
    go_wp2
    go_ret2
    exact ⟨_, rfl, nil_ownZ _ _, HK.out⟩
  | true =>
    have h100 := zOk_le hok
    have hrow : ∀ k, k < zs.length → (zs.getD k ([], 0)).1.length ≤ 8796093022208 := fun k hk => by have := rowOk_le (zOk_row hok hk).1; omega
    have HOK : Hid (zOkB zs = true) := hok
    go_enter Tryz.func9, Tryz.ntmps9
    go_wp2_with fail
    refine (implZOk_any v zs _ (h.below (bel_alloc _))).mono ?_
    rw [hok]
    rintro e w1 ⟨rfl, hb1⟩
    have HB1 : Hid (Below w.heap.size w w1) := bel_then (bel_alloc _) hb1
    have X1 : Hid (Box10 w1 w.heap.size t) := (Box10.start w t _).below hb1
    have HS : Hid (Sent w1 p) := hs.below HB1.out
    have h1 := h.below HB1.out
    clear h hb1 hok hs
    rcases h1.cases with ⟨a, cap, rfl, rfl⟩ | ⟨b, off, cap, hpos, hlim, rfl, hbw, hc⟩
    · clear h1 hrow
      go_wp2
      refine wp_loop_rounds 1 ?_
      rw [rounds_succ]
      go_wp2
      go_ret2
      refine ⟨_, rfl, ?_, HB1.out⟩
      have e1 : whereOut t [] = [] := by simp [whereOut, whereZ]
      rw [e1]
      exact nil_ownZ _ _
    · clear h1
      have hsz1 := HB1.out.size
      have hg1 : w.heap.size < w1.heap.size := X1.out.1
      obtain ⟨n, hn⟩ : ∃ n, n = zs.length := ⟨_, rfl⟩
      have HN : Hid (n = zs.length) := hn
      rw [← hn] at hpos hlim hc hrow h100 ⊢
      clear hn
      go_wp2
      go_loopw [6, 16] (fun s i wr => ∃ (k : Nat), k ≤ n ∧ i = .int .i64 k ∧ Hid (OwnZ wr w1.heap.size wr.heap.size s (whereZ t (zs.take k))) ∧ Hid (Below w1.heap.size w1 wr) ∧ Hid ((zs.take k).all (fun p => t.toldB p.1) = true)) (fun _ i _ => n - (intOf i).toNat)
      case atStart => exact ⟨0, Nat.zero_le _, rfl, nil_ownZ _ _, Below.refl _ _, by show _ = true; simp⟩
      case round =>
        obtain ⟨k, hk, rfl, HZ, HW, HA⟩ := hrel
        by_cases hlt : k < n
        · have HB := HW.out
          have hlt' : k < zs.length := by rw [← HN.out]; exact hlt
          obtain ⟨rv, hrv0, hwt0, hix0⟩ := hc k hlt
          have hrv := (HB.cell (p := ⟨b, off + k * 2, none⟩) hbw).trans hrv0
          have hwt := (HB.cell (p := ⟨b, off + k * 2 + 1, none⟩) hbw).trans hwt0
          have hix := hix0.below HB
          have hbr : b < wr.heap.size := Nat.lt_of_lt_of_le hbw HB.size
          have hgr : w.heap.size < wr.heap.size := Nat.lt_of_lt_of_le hg1 HB.size
          have hxl := hrow k hlt
          have hpl : (whereZ t (zs.take k)).length ≤ 100 := by have := whereZ_len t (zs.take k); rw [List.length_take] at this; omega
          have HT : Hid _ := whereZ_take (t := t) hlt'
          have hno := where_no (t := t) hlt'
          have hyes := told_take hlt' HA.out
          obtain ⟨⟨c0, c1, c2, c3, c4⟩, c5, c6, c7, c8, c9⟩ := box_cells (X1.out.below HB)
          clear hrv0 hwt0 hix0 hc hrow
          obtain ⟨q, HP⟩ : ∃ q, Hid (q = zs.getD k ([], 0)) := ⟨_, rfl⟩
          rw [← HP.out] at hix hwt hxl HT hno hyes
          obtain ⟨x, y⟩ := q
          obtain ⟨ra, rn, rc, rfl⟩ := hix.shape
          simp only at hix hwt hxl HT hno hyes
          go_wp2_with fail
          refine (implTestOf_any t _ x _ p ((HS.out.below HB).below (below_alloc _)) (hix.alloc _)).mono ?_
          rintro e w2 ⟨rfl, hb2⟩
          clear c0 c1 c2 c3 c4 c5 c6 c7 c8 c9 hrv hwt
          have hk2 : Below wr.heap.size wr w2 := below_then (below_alloc _) hb2
          have hw2 : w2.heap[wr.heap.size]? = some (.cells #[.slice ra rn rc, .int .i64 y] 36) := at_below (alloc_at _ _) hb2
          have d0 : w2.cell? ⟨wr.heap.size, 0, none⟩ = some (.slice ra rn rc) := by simp [World.cell?, hw2]
          have d1 : w2.cell? ⟨wr.heap.size, 1, none⟩ = some (.int .i64 y) := by simp [World.cell?, hw2]
          have hbr2 : wr.heap.size < w2.heap.size := (Array.getElem?_eq_some_iff.1 hw2).1
          have hix2 : IntsAt w2 (.slice ra rn rc) x := hix.below hk2
          clear hb2 hw2 hix
          cases htold : t.toldB x with
          | false =>
            have HE0 : Hid _ := hno htold
            have HE1 : Hid (whereOut t zs = []) := by show _ = _; simp [whereOut, HE0.out]
            have HK : Hid (Below w.heap.size w w2) := HB1.out.trans ((HB.mono hsz1).trans (hk2.mono (by omega)))
            clear HZ HT hno hyes HW HA htold hk2 HB hix2 d0 d1
            go_wp2
            go_ret2
            rw [HE0.out, HE1.out]
            exact ⟨_, rfl, nil_ownZ _ _, HK.out⟩
          | true =>
            have HA2 : Hid _ := hyes htold
            clear hyes hno htold
            cases hval : t.valB x with
            | true =>
              have HTT : Hid (whereZ t (zs.take (k + 1)) = whereZ t (zs.take k) ++ [(x, y)]) := by show _ = _; have := HT.out; rw [hval] at this; exact this
              have hszw := HB.size
              have hszk := hk2.size
              have Z2 : OwnZ w2.drew w1.heap.size wr.heap.size u6 (whereZ t (zs.take k)) := (HZ.out.keep' hk2).keep' (Below.drew (Below.refl _ _))
              have hixd : IntsAt w2.drew (.slice ra rn rc) x := hix2.below (Below.drew (Below.refl _ _))
              have d1d : w2.drew.cell? ⟨wr.heap.size, 1, none⟩ = some (.int .i64 y) := d1
              have HKd : Hid (Below w1.heap.size w1 w2.drew) := (HB.trans (hk2.mono hszw)).drew
              clear HT HZ HW HA hix2 hval hk2 HB
              go_wp2
              go_region_law (first
                | (go_simp; go_at_call 38; (refine (cloneInts_any _ x _ hixd hxl).mono ?_; rintro e w3 ⟨rv3, rfl, O3, hk3⟩; obtain ⟨ra3, rn3, rc3, rfl⟩ := O3.ints.shape; have d13 := cell_is (p := ⟨wr.heap.size, 1, none⟩) hk3 hbr2 d1d; have hsz3 : w2.heap.size ≤ w3.heap.size := hk3.size; obtain ⟨ps, hpsl, hspW, hprW, hfin⟩ := (Z2.keep' hk3).ready y O3 (by (show _ ≤ w2.drew.heap.size); (show _ ≤ w2.heap.size); omega) (by (show _ ≤ w2.heap.size); omega) (by omega) (by omega); have hpl2 : ps.length ≤ 1048576 := (by omega)))
                | ((refine step_append_pairs rfl (.tmp 30) (.tmp 37) 23 rfl w1.heap.size 36 i0 Tryz.underlying23 hi hz0 hz1 hz2 u6 ps (by simp [Act.eval]) hspW ⟨w3.heap.size, 0, none⟩ 1 1 [(.slice ra3 rn3 rc3, y)] (by simp [Act.eval]) rfl (news_lit _ _ _ _) (fun p hp => by simp at hp; subst hp; exact ⟨_, _, _, rfl⟩) (by simp; omega) (by simp; omega) ?_; intro v4 w4 hown4 hg4)))
              all_goals
                obtain ⟨Z4, B4⟩ := hfin v4 w4 hown4 hg4
                have HK : Hid (Below w1.heap.size w1 w4) := HKd.out.trans ((hk3.mono (by (show _ ≤ w2.heap.size); omega)).trans B4)
                clear hfin hown4 hg4 hspW hprW B4 hk3 HKd Z2 hixd O3
                go_wp2
                go_roundw
                case rel => exact ⟨k + 1, by omega, by go_num, by show OwnZ _ _ _ _ _; rw [HTT.out]; exact Z4, HK.out, HA2.out⟩
                case measure => simp [intOf]; omega
            | false =>
              have HTT : Hid (whereZ t (zs.take (k + 1)) = whereZ t (zs.take k)) := by show _ = _; have := HT.out; rw [hval] at this; simpa using this
              have HZ2 : Hid (OwnZ w2 w1.heap.size w2.heap.size u6 (whereZ t (zs.take k))) := (HZ.out.keep' hk2).wide (Nat.le_refl _) hk2.size (Nat.le_refl _)
              have HK : Hid (Below w1.heap.size w1 w2) := HB.trans (hk2.mono HB.size)
              clear HT HZ HB HW HA hix2 hk2
              go_wp2
              go_roundw
              case rel => exact ⟨k + 1, by omega, by go_num, by show OwnZ _ _ _ _ _; rw [HTT.out]; exact HZ2.out, HK.out, HA2.out⟩
              case measure => simp [intOf]; omega
        · have e : k = n := by omega
          subst e
          clear hc hrow
          go_wp2
          go_ret2
          have hT := HA.out
          have hZ := HZ.out
          rw [HN.out, List.take_length] at hT hZ
          have e0 : whereOk t zs = true := by simp only [whereOk, HOK.out, hT, Bool.and_self]
          have e1 : whereOut t zs = whereZ t zs := by simp [whereOut, e0]
          rw [e0, e1]
          exact ⟨_, rfl, hZ.wide hsz1 (Nat.le_refl _) (Nat.le_refl _), HB1.out.trans (HW.out.mono hsz1)⟩

end Go.Proofs.YtflbdfpgaeeleaaGreatDoor

/-
  The contract of spec.WhereOf: the items of which a test is so, put one by one into a list; none, and false, of items that are not right or of which it can not be told.
-/
namespace Go.Proofs.YtflbdfpgaeeleaaGreatDoor
set_option maxRecDepth 100000
open Go.RowKit

theorem where_in {t : Tst} {zs : List It} (hok : zOkB zs = true) (k : Nat) : ∀ j, j < (whereZ t (zs.take k)).length → -4611686018427387904 ≤ ((whereZ t (zs.take k)).getD j ([], 0)).2 ∧ ((whereZ t (zs.take k)).getD j ([], 0)).2 ≤ 4611686018427387903 := by
  intro j hj
  have gm : ∀ (l : List It) (j : Nat), j < l.length → l.getD j ([], 0) ∈ l := fun l j h => by simp [List.getD, h]
  obtain ⟨i, hi, e⟩ := mem_getD (d := ([], 0)) (List.mem_of_mem_take (whereZ_mem (gm _ j hj)))
  have := (wB_in (zOk_row hok hi).2).2
  rw [e] at this
  omega
end Go.Proofs.YtflbdfpgaeeleaaGreatDoor

/-
  Plain facts on items of which something is so, and the contracts of WhereOf at a told answer.
-/
namespace Go.Proofs.YtflbdfpgaeeleaaGreatDoor
set_option maxRecDepth 100000
open Go.RowKit

theorem zOk_mkW {zs : List It} (hl : zs.length ≤ 100) (hp : ∀ p ∈ zs, rowOkB p.1 = true ∧ wB p.2 = true) (hs : Srt zs) : zOkB zs = true := by
  refine zOk_all hl fun j hj => ?_
  unfold Srt at hs
  rw [List.pairwise_iff_getElem] at hs
  have h1 := hp _ (getZ_mem hj)
  unfold stepB
  rw [h1.1, h1.2]
  by_cases h0 : j = 0
  · simp [h0]
  · have := hs (j - 1) j (by omega) hj (by omega)
    have hjl : j - 1 < zs.length := by omega
    have h2 : rowLessB (zs.getD (j - 1) ([], 0)).1 (zs.getD j ([], 0)).1 = true := less_of (by simpa [List.getD, hj, hjl] using this)
    rw [h2]
    simp
theorem zOk_filterW {zs : List It} (f : It → Bool) (h : zOkB zs = true) : zOkB (zs.filter f) = true :=
  zOk_mkW (by have := zOk_le h; have := List.length_filter_le f zs; omega) (fun p hp => by
    obtain ⟨j, hj, e⟩ := mem_getD (d := ([], 0)) (List.mem_filter.1 hp).1
    rw [← e]
    exact zOk_row h hj) (List.Pairwise.sublist List.filter_sublist (zOk_srt h))
theorem getZ_where (f : List Int → Bool) (q : List Int) : ∀ zs : List It, getZ (zs.filter fun p => f p.1) q = if f q then getZ zs q else 0
  | [] => by simp [getZ_nil]
  | p :: zs => by
    have ih := getZ_where f q zs
    rw [List.filter_cons]
    by_cases hp : f p.1 = true
    · rw [if_pos hp, getZ_cons, getZ_cons, ih]
      by_cases e : p.1 = q
      · rw [if_pos e, if_pos e, if_pos (by rw [← e]; exact hp)]
      · rw [if_neg e, if_neg e]
    · rw [if_neg hp, ih, getZ_cons]
      by_cases e : p.1 = q
      · rw [if_pos e, if_neg (by rw [← e]; exact hp), if_neg (by rw [← e]; exact hp)]
      · rw [if_neg e]
theorem getZ_in_row {zs : List It} {q : List Int} (h : getZ zs q ≠ 0) : ∃ p ∈ zs, p.1 = q := by
  apply Classical.byContradiction
  intro hc
  exact h (getZ_zero fun p hp e => hc ⟨p, hp, e⟩)
theorem getZ_self : ∀ {zs : List It}, Srt zs → ∀ p ∈ zs, getZ zs p.1 = p.2
  | [], _, p, hp => by simp at hp
  | x :: zs, h, p, hp => by
    rw [getZ_cons]
    rcases List.mem_cons.1 hp with rfl | hp
    · simp
    · rw [if_neg (ordL_ne ((Srt.cons.1 h).1 p hp))]
      exact getZ_self (Srt.cons.1 h).2 p hp

theorem where_true {t : Tst} {zs : List It} (h : whereOk t zs = true) : zOkB zs = true ∧ (∀ p ∈ zs, t.toldB p.1 = true) ∧ whereOut t zs = whereZ t zs := by
  have h0 := h
  unfold whereOk at h
  rw [Bool.and_eq_true, List.all_eq_true] at h
  exact ⟨h.1, h.2, by unfold whereOut; rw [h0]; rfl⟩
theorem where_mk {t : Tst} {zs : List It} (h : zOkB zs = true) (ht : ∀ p ∈ zs, t.toldB p.1 = true) : whereOk t zs = true ∧ whereOut t zs = whereZ t zs := by
  have : whereOk t zs = true := by unfold whereOk; rw [h, Bool.true_and, List.all_eq_true]; exact ht
  exact ⟨this, by unfold whereOut; rw [this]; rfl⟩
theorem where_false {t : Tst} {zs : List It} (h : whereOk t zs = false) : whereOut t zs = [] := by unfold whereOut; rw [h]; rfl
theorem whereZ_ok {t : Tst} {zs : List It} (h : zOkB zs = true) : zOkB (whereZ t zs) = true := zOk_filterW _ h
theorem told_not (t : Tst) (r : List Int) : Tst.toldB { t with no := !t.no } r = t.toldB r := rfl
theorem val_not {t : Tst} {r : List Int} (h : t.toldB r = true) : Tst.valB { t with no := !t.no } r = !t.valB r := by
  unfold Tst.valB
  rw [told_not, h, Bool.true_and, Bool.true_and]
  unfold Tst.holdsB
  cases t.no <;> simp
/-- Those of which it is so and those of which it is not are all. -/
theorem where_parts {t : Tst} {zs : List It} (h : whereOk t zs = true) : addZ (whereZ t zs) (whereZ { t with no := !t.no } zs) = zs := by
  obtain ⟨hz, ht, _⟩ := where_true h
  have s1 := zOk_srt (whereZ_ok (t := t) hz)
  have s2 := zOk_srt (whereZ_ok (t := { t with no := !t.no }) hz)
  refine canon (srt_add s1) (nz_add (zOk_nz (whereZ_ok hz))) (zOk_srt hz) (zOk_nz hz) fun q => ?_
  rw [getZ_add s1 s2]
  unfold whereZ
  rw [getZ_where, getZ_where]
  by_cases hq : getZ zs q = 0
  · rw [hq]; simp
  · obtain ⟨p, hp, rfl⟩ := getZ_in_row hq
    rw [val_not (ht p hp)]
    cases t.valB p.1 <;> simp
theorem where_twice (t : Tst) (zs : List It) : whereZ t (whereZ t zs) = whereZ t zs := by
  unfold whereZ
  rw [List.filter_filter]
  congr 1
  funext p
  simp
theorem where_swap (t u : Tst) (zs : List It) : whereZ t (whereZ u zs) = whereZ u (whereZ t zs) := by
  unfold whereZ
  rw [List.filter_filter, List.filter_filter]
  congr 1
  funext p
  exact Bool.and_comm _ _
theorem where_again {t : Tst} {zs : List It} (h : whereOk t zs = true) : whereOk t (whereZ t zs) = true ∧ whereOut t (whereZ t zs) = whereZ t zs := by
  obtain ⟨hz, ht, _⟩ := where_true h
  have := where_mk (whereZ_ok (t := t) hz) (fun p hp => ht p (whereZ_mem hp))
  exact ⟨this.1, this.2.trans (where_twice t zs)⟩
theorem where_row {t : Tst} {zs : List It} (h : whereOk t zs = true) {j : Nat} (hj : j < (whereZ t zs).length) : t.valB ((whereZ t zs).getD j ([], 0)).1 = true ∧ t.toldB ((whereZ t zs).getD j ([], 0)).1 = true ∧ getZ zs ((whereZ t zs).getD j ([], 0)).1 = ((whereZ t zs).getD j ([], 0)).2 := by
  obtain ⟨hz, ht, _⟩ := where_true h
  have hm : (whereZ t zs).getD j ([], 0) ∈ whereZ t zs := getZ_mem hj
  have h1 := List.mem_filter.1 hm
  exact ⟨h1.2, ht _ h1.1, getZ_self (zOk_srt hz) _ h1.1⟩

theorem TailZ.atW {w : World} {a : Option Addr} {n cap : Nat} {zs : List It} (h : TailZ w (.slice a n cap) zs) {k : Nat} (hk : k < zs.length) :
    ∃ b off xa xn xc, a = some ⟨b, off, none⟩ ∧ b < w.heap.size ∧ w.cell? ⟨b, off + k * 2, none⟩ = some (.slice xa xn xc) ∧ w.cell? ⟨b, off + k * 2 + 1, none⟩ = some (.int .i64 (zs.getD k ([], 0)).2) ∧ IntsAt w (.slice xa xn xc) (zs.getD k ([], 0)).1 := by
  obtain ⟨_, a', c', e, _, hc⟩ := h.items
  obtain ⟨b, off, rfl, hb, hcell⟩ := hc (fun e => by rw [e] at hk; simp at hk)
  obtain ⟨rv, c0, c1, c2⟩ := hcell k hk
  obtain ⟨xa, xn, xc, rfl⟩ := c2.shape
  simp at e
  exact ⟨b, off, xa, xn, xc, e.1, hb, c0, c1, c2⟩

theorem where_val {v : Value} {a os : List It} {t : Tst} {c : Bool} {w : World} {p : Addr} (hc : whereOk t a = c) (ho : whereOut t a = os) (hs : Sent w p) (h : TailZ w v a) :
    Calls Tryz.prog 9 #[v, .agg #[.int .i64 t.k, .bool t.no, .int .i64 t.l.k, .int .i64 t.l.a, .int .i64 t.l.b, .int .i64 t.l.n, .int .i64 t.r.k, .int .i64 t.r.a, .int .i64 t.r.b, .int .i64 t.r.n]] w fun e w' => ∃ v', e = .returned (.tuple #[v', .bool c]) ∧ TailZ w' v' os ∧ Below w.heap.size w w' := by
  subst hc ho
  refine (implWhere_any v a t w p hs h.items).mono ?_
  rintro e w' ⟨v', he, hz, hb⟩
  exact ⟨v', he, hz.tail, hb⟩

end Go.Proofs.YtflbdfpgaeeleaaGreatDoor
