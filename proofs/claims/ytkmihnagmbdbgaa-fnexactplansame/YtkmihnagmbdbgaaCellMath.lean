/-
  What is reckoned of a row, as numbers: when a place, a cell, a test is ok, and what it comes to. No program in it.
-/
import Derived.Test.YtkmihnagmbdbgaaTextMath
namespace Go.Proofs.Ytkmihnagmbdbgaa
open Go.RowKit

/-- A place in rows so wide. -/
def colB (n wide : Int) : Bool := decide (0 ≤ n ∧ n < wide ∧ n < 6)

/-- What is reckoned: its kind, its two places, its number. -/
structure Cel where
  k : Int
  a : Int
  b : Int
  n : Int

def Cel.okB (c : Cel) (wide : Int) : Bool :=
  decide ((c.k = 1 ∧ (0 ≤ c.a ∧ c.a < wide ∧ c.a < 6) ∧ c.b = 0 ∧ c.n = 0) ∨ (c.k = 2 ∧ c.a = 0 ∧ c.b = 0 ∧ -1000000000 ≤ c.n ∧ c.n ≤ 1000000000) ∨
    (c.k = 3 ∧ (0 ≤ c.a ∧ c.a < wide ∧ c.a < 6) ∧ (0 ≤ c.b ∧ c.b < wide ∧ c.b < 6) ∧ c.n = 0))

/-- What it comes to, where it is ok of that row. -/
def Cel.num (c : Cel) (r : List Int) : Int := if c.k = 1 then r.getD c.a.toNat 0 else if c.k = 2 then c.n else r.getD c.a.toNat 0 + r.getD c.b.toNat 0
/-- It can be reckoned of that row. -/
def Cel.toldB (c : Cel) (r : List Int) : Bool := rowOkB r && c.okB r.length && cellB (c.num r)
def Cel.valI (c : Cel) (r : List Int) : Int := if c.toldB r then c.num r else 0

/-- A test. -/
structure Tst where
  k : Int
  no : Bool
  l : Cel
  r : Cel

def Tst.okB (t : Tst) (wide : Int) : Bool := decide (t.k = 1 ∨ t.k = 2) && t.l.okB wide && t.r.okB wide
def Tst.toldB (t : Tst) (r : List Int) : Bool := decide (t.k = 1 ∨ t.k = 2) && t.l.toldB r && t.r.toldB r
def Tst.holdsB (t : Tst) (r : List Int) : Bool := (if t.k = 1 then decide (t.l.num r < t.r.num r) else decide (t.l.num r = t.r.num r)) != t.no
def Tst.valB (t : Tst) (r : List Int) : Bool := t.toldB r && t.holdsB r

theorem cellB_iff {n : Int} : cellB n = true ↔ -1000000000 ≤ n ∧ n ≤ 1000000000 := by simp [cellB]
theorem row_cell {r : List Int} (h : rowOkB r = true) {j : Nat} (hj : j < r.length) : -1000000000 ≤ r.getD j 0 ∧ r.getD j 0 ≤ 1000000000 := by
  simp only [rowOkB, Bool.and_eq_true, List.all_eq_true] at h
  have := h.2 r[j] (List.getElem_mem hj)
  rw [cellB_iff] at this
  simpa [List.getD, hj] using this

end Go.Proofs.Ytkmihnagmbdbgaa
