/-
  A cell, a test, in a block of its own: it stays through what a call does.
-/
import Derived.Test.YtehfpceghdaajaaGreatDoorCellSpec
namespace Go.Proofs.YtehfpceghdaajaaGreatDoor
open Go.RowKit

def Box4 (w : World) (g : Nat) (c : Cel) : Prop :=
  g < w.heap.size ∧ w.cell? ⟨g, 0, none⟩ = some (.int .i64 c.k) ∧ w.cell? ⟨g, 1, none⟩ = some (.int .i64 c.a) ∧ w.cell? ⟨g, 2, none⟩ = some (.int .i64 c.b) ∧ w.cell? ⟨g, 3, none⟩ = some (.int .i64 c.n)
theorem Box4.below {w w' : World} {g : Nat} {c : Cel} (h : Box4 w g c) (hb : Below w.heap.size w w') : Box4 w' g c :=
  ⟨Nat.lt_of_lt_of_le h.1 hb.size, (hb.cell (p := ⟨g, 0, none⟩) h.1).trans h.2.1, (hb.cell (p := ⟨g, 1, none⟩) h.1).trans h.2.2.1, (hb.cell (p := ⟨g, 2, none⟩) h.1).trans h.2.2.2.1, (hb.cell (p := ⟨g, 3, none⟩) h.1).trans h.2.2.2.2⟩
theorem Box4.start (w : World) (c : Cel) (t : TypeId) : Box4 (w.alloc (.cells #[.int .i64 c.k, .int .i64 c.a, .int .i64 c.b, .int .i64 c.n] t)) w.heap.size c := by
  refine ⟨by rw [alloc_size]; omega, ?_, ?_, ?_, ?_⟩ <;> simp [go_sem]

def Box10 (w : World) (g : Nat) (t : Tst) : Prop :=
  g < w.heap.size ∧ w.cell? ⟨g, 0, none⟩ = some (.int .i64 t.k) ∧ w.cell? ⟨g, 1, none⟩ = some (.bool t.no) ∧
  (w.cell? ⟨g, 2, none⟩ = some (.int .i64 t.l.k) ∧ w.cell? ⟨g, 3, none⟩ = some (.int .i64 t.l.a) ∧ w.cell? ⟨g, 4, none⟩ = some (.int .i64 t.l.b) ∧ w.cell? ⟨g, 5, none⟩ = some (.int .i64 t.l.n)) ∧
  (w.cell? ⟨g, 6, none⟩ = some (.int .i64 t.r.k) ∧ w.cell? ⟨g, 7, none⟩ = some (.int .i64 t.r.a) ∧ w.cell? ⟨g, 8, none⟩ = some (.int .i64 t.r.b) ∧ w.cell? ⟨g, 9, none⟩ = some (.int .i64 t.r.n))
theorem Box10.below {w w' : World} {g : Nat} {t : Tst} (h : Box10 w g t) (hb : Below w.heap.size w w') : Box10 w' g t := by
  obtain ⟨hl, c0, c1, ⟨c2, c3, c4, c5⟩, c6, c7, c8, c9⟩ := h
  have k : ∀ o, w'.cell? ⟨g, o, none⟩ = w.cell? ⟨g, o, none⟩ := fun o => hb.cell (p := ⟨g, o, none⟩) hl
  exact ⟨Nat.lt_of_lt_of_le hl hb.size, (k 0).trans c0, (k 1).trans c1, ⟨(k 2).trans c2, (k 3).trans c3, (k 4).trans c4, (k 5).trans c5⟩, (k 6).trans c6, (k 7).trans c7, (k 8).trans c8, (k 9).trans c9⟩
theorem Box10.start (w : World) (t : Tst) (u : TypeId) : Box10 (w.alloc (.cells #[.int .i64 t.k, .bool t.no, .int .i64 t.l.k, .int .i64 t.l.a, .int .i64 t.l.b, .int .i64 t.l.n, .int .i64 t.r.k, .int .i64 t.r.a, .int .i64 t.r.b, .int .i64 t.r.n] u)) w.heap.size t := by
  refine ⟨by rw [alloc_size]; omega, ?_, ?_, ⟨?_, ?_, ?_, ?_⟩, ?_, ?_, ?_, ?_⟩ <;> simp [go_sem]

theorem alloc_at (w : World) (o : Obj) : (w.alloc o).heap[w.heap.size]? = some o := by show (w.heap.push o)[w.heap.size]? = some o; simp
theorem zero_cells {w : World} {b : Nat} {v0 v1 v2 v3 : Value} {t : TypeId} (h : w.heap[b]? = some (.cells #[v0, v1, v2, v3] t)) :
    w.cell? ⟨b, 0, none⟩ = some v0 ∧ w.cell? ⟨b, 1, none⟩ = some v1 ∧ w.cell? ⟨b, 2, none⟩ = some v2 ∧ w.cell? ⟨b, 3, none⟩ = some v3 ∧
    w.frozen? ⟨b, 0, none⟩ = false ∧ w.frozen? ⟨b, 1, none⟩ = false ∧ w.frozen? ⟨b, 2, none⟩ = false ∧ w.frozen? ⟨b, 3, none⟩ = false := by
  simp [World.cell?, World.frozen?, h]
theorem ten_cells {w : World} {b : Nat} {v0 v1 v2 v3 v4 v5 v6 v7 v8 v9 : Value} {t : TypeId} (h : w.heap[b]? = some (.cells #[v0, v1, v2, v3, v4, v5, v6, v7, v8, v9] t)) :
    (w.cell? ⟨b, 0, none⟩ = some v0 ∧ w.cell? ⟨b, 1, none⟩ = some v1 ∧ w.cell? ⟨b, 2, none⟩ = some v2 ∧ w.cell? ⟨b, 3, none⟩ = some v3 ∧ w.cell? ⟨b, 4, none⟩ = some v4 ∧ w.cell? ⟨b, 5, none⟩ = some v5 ∧ w.cell? ⟨b, 6, none⟩ = some v6 ∧ w.cell? ⟨b, 7, none⟩ = some v7 ∧ w.cell? ⟨b, 8, none⟩ = some v8 ∧ w.cell? ⟨b, 9, none⟩ = some v9) ∧
    (w.frozen? ⟨b, 0, none⟩ = false ∧ w.frozen? ⟨b, 1, none⟩ = false ∧ w.frozen? ⟨b, 2, none⟩ = false ∧ w.frozen? ⟨b, 3, none⟩ = false ∧ w.frozen? ⟨b, 4, none⟩ = false ∧ w.frozen? ⟨b, 5, none⟩ = false ∧ w.frozen? ⟨b, 6, none⟩ = false ∧ w.frozen? ⟨b, 7, none⟩ = false ∧ w.frozen? ⟨b, 8, none⟩ = false ∧ w.frozen? ⟨b, 9, none⟩ = false) := by
  simp [World.cell?, World.frozen?, h]
theorem at_below {w w1 : World} {b : Nat} {o : Obj} (h : w.heap[b]? = some o) (hb : Below w.heap.size w w1) : w1.heap[b]? = some o := (hb.block b (Array.getElem?_eq_some_iff.1 h).1).trans h

end Go.Proofs.YtehfpceghdaajaaGreatDoor
