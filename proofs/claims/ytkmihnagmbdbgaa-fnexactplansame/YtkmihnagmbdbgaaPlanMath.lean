/-
  Plans as trees: what a part has of its own, and its kids, not deeper than so; how much it holds; when two are one. No program in it.
-/
import Derived.Test.YtkmihnagmbdbgaaTestEq
namespace Go.Proofs.Ytkmihnagmbdbgaa
open Go.RowKit
set_option linter.unusedVariables false

/-- What a part has of its own. -/
structure Nd where
  k : Int
  n : Int
  t : Tst
  cs : List Cel
  a : Int
  b : Int
  ks : List Int
  g : Int
  c : Int

/-- Plans that are not deeper than so. -/
def Pl : Nat → Type
  | 0 => Empty
  | n + 1 => Nd × List (Pl n)
def Pl.nd {n : Nat} (p : Pl (n + 1)) : Nd := Prod.fst (α := Nd) (β := List (Pl n)) p
def Pl.kids {n : Nat} (p : Pl (n + 1)) : List (Pl n) := Prod.snd (α := Nd) (β := List (Pl n)) p
def Pl.mk {n : Nat} (d : Nd) (l : List (Pl n)) : Pl (n + 1) := Prod.mk d l
theorem Pl.nd_mk {n : Nat} (d : Nd) (l : List (Pl n)) : (Pl.mk d l).nd = d := rfl
theorem Pl.kids_mk {n : Nat} (d : Nd) (l : List (Pl n)) : (Pl.mk d l).kids = l := rfl
theorem Pl.ext {n : Nat} {p q : Pl (n + 1)} (h1 : p.nd = q.nd) (h2 : p.kids = q.kids) : p = q := by
  have : ∀ (x y : Nd × List (Pl n)), x.1 = y.1 → x.2 = y.2 → x = y := fun x y e1 e2 => by
    obtain ⟨a, b⟩ := x
    obtain ⟨c, d⟩ := y
    simp only at e1 e2
    rw [e1, e2]
  exact this p q h1 h2

def all2 {α : Type} (f : α → α → Bool) : List α → List α → Bool
  | [], [] => true
  | x :: xs, y :: ys => f x y && all2 f xs ys
  | _, _ => false
theorem all2_iff {α : Type} {f : α → α → Bool} (h : ∀ x y, f x y = true ↔ x = y) : ∀ xs ys : List α, all2 f xs ys = true ↔ xs = ys
  | [], [] => by simp [all2]
  | [], _ :: _ => by simp [all2]
  | _ :: _, [] => by simp [all2]
  | x :: xs, y :: ys => by simp [all2, h, all2_iff h xs ys]

/-- How much a plan holds: its cells, its keys, its kids and what they hold. -/
def Pl.sz : (n : Nat) → Pl n → Nat
  | 0, _ => 0
  | n + 1, p => p.nd.cs.length + p.nd.ks.length + (p.kids.length + (p.kids.map (Pl.sz n)).sum)
theorem Pl.sz_succ {n : Nat} (p : Pl (n + 1)) : Pl.sz (n + 1) p = p.nd.cs.length + p.nd.ks.length + (p.kids.length + (p.kids.map (Pl.sz n)).sum) := rfl
def kidsSz (n : Nat) (l : List (Pl n)) : Nat := (l.map (Pl.sz n)).sum
theorem kidsSz_take {n : Nat} {l : List (Pl n)} {k : Nat} (hk : k < l.length) : kidsSz n (l.take (k + 1)) = kidsSz n (l.take k) + Pl.sz n l[k] := by
  unfold kidsSz
  rw [List.take_succ_eq_append_getElem hk, List.map_append, List.sum_append]
  simp only [List.map_cons, List.map_nil, List.sum_cons, List.sum_nil, Nat.add_zero]
theorem kidsSz_all {n : Nat} (l : List (Pl n)) : kidsSz n (l.take l.length) = kidsSz n l := by rw [List.take_length]
theorem kidsSz_le {n : Nat} (l : List (Pl n)) (k : Nat) : kidsSz n (l.take k) ≤ kidsSz n l := by
  unfold kidsSz
  conv => rhs; rw [← List.take_append_drop k l, List.map_append, List.sum_append]
  omega
theorem kidsSz_at {n : Nat} {l : List (Pl n)} {k : Nat} (hk : k < l.length) : Pl.sz n l[k] ≤ kidsSz n l := by
  have h1 := kidsSz_take hk
  have h2 := kidsSz_le l (k + 1)
  omega

def Nd.eqB (x y : Nd) : Bool :=
  x.k == y.k && x.n == y.n && x.t.eqB y.t && all2 Cel.eqB x.cs y.cs && x.a == y.a && x.b == y.b && x.ks == y.ks && x.g == y.g && x.c == y.c
theorem Nd.eqB_iff {x y : Nd} : x.eqB y = true ↔ x = y := by
  obtain ⟨k, n, t, cs, a, b, ks, g, c⟩ := x
  obtain ⟨k', n', t', cs', a', b', ks', g', c'⟩ := y
  simp only [Nd.eqB, Bool.and_eq_true, beq_iff_eq, Tst.eqB_iff, all2_iff (fun _ _ => Cel.eqB_iff), Nd.mk.injEq, and_assoc]
/-- Two plans are one. -/
def Pl.same : (n : Nat) → Pl n → Pl n → Bool
  | 0, _, _ => true
  | n + 1, p, q => p.nd.eqB q.nd && all2 (Pl.same n) p.kids q.kids
theorem Pl.same_succ {n : Nat} (p q : Pl (n + 1)) : Pl.same (n + 1) p q = (p.nd.eqB q.nd && all2 (Pl.same n) p.kids q.kids) := rfl
theorem Pl.same_iff : ∀ (n : Nat) (p q : Pl n), Pl.same n p q = true ↔ p = q
  | 0, p, _ => by cases p
  | n + 1, p, q => by
    rw [Pl.same_succ, Bool.and_eq_true, Nd.eqB_iff, all2_iff (Pl.same_iff n)]
    exact ⟨fun h => Pl.ext h.1 h.2, fun h => by rw [h]; exact ⟨rfl, rfl⟩⟩
theorem Pl.same_self (n : Nat) (p : Pl n) : Pl.same n p p = true := (Pl.same_iff n p p).2 rfl

end Go.Proofs.Ytkmihnagmbdbgaa
