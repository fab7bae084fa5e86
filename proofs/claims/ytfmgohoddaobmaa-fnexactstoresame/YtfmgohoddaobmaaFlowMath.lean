/-
  Flows as trees: what a part has of its own (a plan, two lists of runs), and its kids; how much it holds; when two are one. No program in it.
-/
import Derived.Test.YtfmgohoddaobmaaRunsI

namespace Go.Proofs.Ytfmgohoddaobmaa.Fw
open Go.RowKit
set_option linter.unusedVariables false
variable {D : Nat}

/-- What a part of a flow has of its own. -/
structure FN (D : Nat) where
  p : Pl (D + 1)
  l : Rn
  r : Rn
/-- Flows that are not deeper than so. -/
def Fl (D : Nat) : Nat → Type
  | 0 => Empty
  | n + 1 => FN D × List (Fl D n)
def Fl.nd {D n : Nat} (p : Fl D (n + 1)) : FN D := Prod.fst (α := FN D) (β := List (Fl D n)) p
def Fl.kids {D n : Nat} (p : Fl D (n + 1)) : List (Fl D n) := Prod.snd (α := FN D) (β := List (Fl D n)) p
def Fl.mk {D n : Nat} (d : FN D) (l : List (Fl D n)) : Fl D (n + 1) := Prod.mk d l
theorem Fl.nd_mk {D n : Nat} (d : FN D) (l : List (Fl D n)) : (Fl.mk d l).nd = d := rfl
theorem Fl.kids_mk {D n : Nat} (d : FN D) (l : List (Fl D n)) : (Fl.mk d l).kids = l := rfl
theorem Fl.ext {n : Nat} {p q : Fl D (n + 1)} (h1 : p.nd = q.nd) (h2 : p.kids = q.kids) : p = q := by
  have : ∀ (x y : FN D × List (Fl D n)), x.1 = y.1 → x.2 = y.2 → x = y := fun x y e1 e2 => by
    obtain ⟨a, b⟩ := x
    obtain ⟨c, d⟩ := y
    simp only at e1 e2
    rw [e1, e2]
  exact this p q h1 h2
def FN.sz (x : FN D) : Nat := Pl.sz (D + 1) x.p + (x.l.length + runsLen x.l) + (x.r.length + runsLen x.r)
/-- How much a flow holds. -/
def Fl.sz : (n : Nat) → Fl D n → Nat
  | 0, _ => 0
  | n + 1, p => p.nd.sz + (p.kids.length + (p.kids.map (Fl.sz n)).sum)
theorem Fl.sz_succ {n : Nat} (p : Fl D (n + 1)) : Fl.sz (n + 1) p = p.nd.sz + (p.kids.length + (p.kids.map (Fl.sz n)).sum) := rfl
def kidsSz (n : Nat) (l : List (Fl D n)) : Nat := (l.map (Fl.sz n)).sum
theorem kidsSz_take {n : Nat} {l : List (Fl D n)} {k : Nat} (hk : k < l.length) : kidsSz n (l.take (k + 1)) = kidsSz n (l.take k) + Fl.sz n l[k] := by
  unfold kidsSz
  rw [List.take_succ_eq_append_getElem hk, List.map_append, List.sum_append]
  simp only [List.map_cons, List.map_nil, List.sum_cons, List.sum_nil, Nat.add_zero]
theorem kidsSz_all {n : Nat} (l : List (Fl D n)) : kidsSz n (l.take l.length) = kidsSz n l := by rw [List.take_length]
theorem kidsSz_le {n : Nat} (l : List (Fl D n)) (k : Nat) : kidsSz n (l.take k) ≤ kidsSz n l := by
  unfold kidsSz
  conv => rhs; rw [← List.take_append_drop k l, List.map_append, List.sum_append]
  omega
theorem kidsSz_at {n : Nat} {l : List (Fl D n)} {k : Nat} (hk : k < l.length) : Fl.sz n l[k] ≤ kidsSz n l := by
  have h1 := kidsSz_take hk
  have h2 := kidsSz_le l (k + 1)
  omega
def FN.eqB (x y : FN D) : Bool := Pl.same (D + 1) x.p y.p && rsB x.l y.l && rsB x.r y.r
theorem FN.eqB_iff {x y : FN D} : x.eqB y = true ↔ x = y := by
  obtain ⟨p, l, r⟩ := x
  obtain ⟨p', l', r'⟩ := y
  simp only [FN.eqB, Bool.and_eq_true, Pl.same_iff, rsB, decide_eq_true_iff, FN.mk.injEq, and_assoc]
/-- Two flows are one. -/
def Fl.same : (n : Nat) → Fl D n → Fl D n → Bool
  | 0, _, _ => true
  | n + 1, p, q => p.nd.eqB q.nd && all2 (Fl.same n) p.kids q.kids
theorem Fl.same_succ {n : Nat} (p q : Fl D (n + 1)) : Fl.same (n + 1) p q = (p.nd.eqB q.nd && all2 (Fl.same n) p.kids q.kids) := rfl
theorem Fl.same_iff : ∀ (n : Nat) (p q : Fl D n), Fl.same n p q = true ↔ p = q
  | 0, p, _ => by cases p
  | n + 1, p, q => by
    rw [Fl.same_succ, Bool.and_eq_true, FN.eqB_iff, all2_iff (Fl.same_iff n)]
    exact ⟨fun h => Fl.ext h.1 h.2, fun h => by rw [h]; exact ⟨rfl, rfl⟩⟩
theorem Fl.same_self (n : Nat) (p : Fl D n) : Fl.same n p p = true := (Fl.same_iff n p p).2 rfl
theorem same_ne {n : Nat} {p q : Fl D n} (h : p ≠ q) : Fl.same n p q = false := by
  rw [Bool.eq_false_iff, Ne, Fl.same_iff]
  exact h
theorem no_kids (l : List (Fl D 0)) : l = [] := by
  cases l with
  | nil => rfl
  | cons x _ => cases x

end Go.Proofs.Ytfmgohoddaobmaa.Fw
