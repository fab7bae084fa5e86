/-
  Flows in memory: a part lies in twenty-two cells: its plan in nineteen, its runs in slices, its kids in a slice; and all that in a later memory.
-/
import Derived.Test.YtfmgohoddaobmaaFlowMath
namespace Go.Proofs.Ytfmgohoddaobmaa.Fw
set_option maxRecDepth 100000
open Go.RowKit
set_option linter.unusedVariables false
variable {D : Nat}

/-- The cells of a part of a flow. -/
def FFields (w : World) (b o : Nat) (x : FN D) (vc vk vd vl vr vf : Value) : Prop :=
  Fields w b o x.p.nd vc vk vd ∧ w.cell? ⟨b, o + 19, none⟩ = some vl ∧ w.cell? ⟨b, o + 20, none⟩ = some vr ∧ w.cell? ⟨b, o + 21, none⟩ = some vf
theorem FFields.same {w w' : World} {b o : Nat} {x : FN D} {vc vk vd vl vr vf : Value} (h : FFields w b o x vc vk vd vl vr vf) (k : ∀ o, w'.cell? ⟨b, o, none⟩ = w.cell? ⟨b, o, none⟩) : FFields w' b o x vc vk vd vl vr vf :=
  ⟨h.1.same k, (k _).trans h.2.1, (k _).trans h.2.2.1, (k _).trans h.2.2.2⟩
theorem FFields.below {w w' : World} {b o : Nat} {x : FN D} {vc vk vd vl vr vf : Value} (h : FFields w b o x vc vk vd vl vr vf) (hb : Below w.heap.size w w') (hl : b < w.heap.size) : FFields w' b o x vc vk vd vl vr vf :=
  h.same fun o => hb.cell (p := ⟨b, o, none⟩) hl
theorem FFields.range {w : World} {b o : Nat} {x : FN D} {vc vk vd vl vr vf : Value} (h : FFields w b o x vc vk vd vl vr vf) : w.rangeAt b o [.int .i64 x.p.nd.k, .int .i64 x.p.nd.n, .int .i64 x.p.nd.t.k, .bool x.p.nd.t.no, .int .i64 x.p.nd.t.l.k, .int .i64 x.p.nd.t.l.a, .int .i64 x.p.nd.t.l.b, .int .i64 x.p.nd.t.l.n, .int .i64 x.p.nd.t.r.k, .int .i64 x.p.nd.t.r.a, .int .i64 x.p.nd.t.r.b, .int .i64 x.p.nd.t.r.n, vc, .int .i64 x.p.nd.a, .int .i64 x.p.nd.b, vk, .int .i64 x.p.nd.g, .int .i64 x.p.nd.c, vd, vl, vr, vf] := by
  obtain ⟨⟨c0, c1, c2, c3, c4, c5, c6, c7, c8, c9, c10, c11, c12, c13, c14, c15, c16, c17, c18⟩, c19, c20, c21⟩ := h
  intro j v hv
  match j, hv with
  | 0, hv => simp at hv; subst hv; exact c0
  | 1, hv => simp at hv; subst hv; exact c1
  | 2, hv => simp at hv; subst hv; exact c2
  | 3, hv => simp at hv; subst hv; exact c3
  | 4, hv => simp at hv; subst hv; exact c4
  | 5, hv => simp at hv; subst hv; exact c5
  | 6, hv => simp at hv; subst hv; exact c6
  | 7, hv => simp at hv; subst hv; exact c7
  | 8, hv => simp at hv; subst hv; exact c8
  | 9, hv => simp at hv; subst hv; exact c9
  | 10, hv => simp at hv; subst hv; exact c10
  | 11, hv => simp at hv; subst hv; exact c11
  | 12, hv => simp at hv; subst hv; exact c12
  | 13, hv => simp at hv; subst hv; exact c13
  | 14, hv => simp at hv; subst hv; exact c14
  | 15, hv => simp at hv; subst hv; exact c15
  | 16, hv => simp at hv; subst hv; exact c16
  | 17, hv => simp at hv; subst hv; exact c17
  | 18, hv => simp at hv; subst hv; exact c18
  | 19, hv => simp at hv; subst hv; exact c19
  | 20, hv => simp at hv; subst hv; exact c20
  | 21, hv => simp at hv; subst hv; exact c21
  | n + 22, hv => simp at hv
theorem ffields_range {w : World} {b o : Nat} {x : FN D} {vc vk vd vl vr vf : Value} (h : w.rangeAt b o [.int .i64 x.p.nd.k, .int .i64 x.p.nd.n, .int .i64 x.p.nd.t.k, .bool x.p.nd.t.no, .int .i64 x.p.nd.t.l.k, .int .i64 x.p.nd.t.l.a, .int .i64 x.p.nd.t.l.b, .int .i64 x.p.nd.t.l.n, .int .i64 x.p.nd.t.r.k, .int .i64 x.p.nd.t.r.a, .int .i64 x.p.nd.t.r.b, .int .i64 x.p.nd.t.r.n, vc, .int .i64 x.p.nd.a, .int .i64 x.p.nd.b, vk, .int .i64 x.p.nd.g, .int .i64 x.p.nd.c, vd, vl, vr, vf]) : FFields w b o x vc vk vd vl vr vf :=
  ⟨⟨h 0 _ rfl, h 1 _ rfl, h 2 _ rfl, h 3 _ rfl, h 4 _ rfl, h 5 _ rfl, h 6 _ rfl, h 7 _ rfl, h 8 _ rfl, h 9 _ rfl, h 10 _ rfl, h 11 _ rfl, h 12 _ rfl, h 13 _ rfl, h 14 _ rfl, h 15 _ rfl, h 16 _ rfl, h 17 _ rfl, h 18 _ rfl⟩, h 19 _ rfl, h 20 _ rfl, h 21 _ rfl⟩
theorem one22 (x : FN D) (vc vk vd vl vr vf : Value) (h1 : vc.oneCell' = true) (h2 : vk.oneCell' = true) (h3 : vd.oneCell' = true) (h4 : vl.oneCell' = true) (h5 : vr.oneCell' = true) (h6 : vf.oneCell' = true) : (#[.int .i64 x.p.nd.k, .int .i64 x.p.nd.n, .int .i64 x.p.nd.t.k, .bool x.p.nd.t.no, .int .i64 x.p.nd.t.l.k, .int .i64 x.p.nd.t.l.a, .int .i64 x.p.nd.t.l.b, .int .i64 x.p.nd.t.l.n, .int .i64 x.p.nd.t.r.k, .int .i64 x.p.nd.t.r.a, .int .i64 x.p.nd.t.r.b, .int .i64 x.p.nd.t.r.n, vc, .int .i64 x.p.nd.a, .int .i64 x.p.nd.b, vk, .int .i64 x.p.nd.g, .int .i64 x.p.nd.c, vd, vl, vr, vf] : Array Value).all (·.oneCell') = true :=
  all_oneCell_toArray (cs := [.int .i64 x.p.nd.k, .int .i64 x.p.nd.n, .int .i64 x.p.nd.t.k, .bool x.p.nd.t.no, .int .i64 x.p.nd.t.l.k, .int .i64 x.p.nd.t.l.a, .int .i64 x.p.nd.t.l.b, .int .i64 x.p.nd.t.l.n, .int .i64 x.p.nd.t.r.k, .int .i64 x.p.nd.t.r.a, .int .i64 x.p.nd.t.r.b, .int .i64 x.p.nd.t.r.n, vc, .int .i64 x.p.nd.a, .int .i64 x.p.nd.b, vk, .int .i64 x.p.nd.g, .int .i64 x.p.nd.c, vd, vl, vr, vf]) fun v hv => by
    simp only [List.mem_cons, List.not_mem_nil, or_false] at hv
    rcases hv with rfl | rfl | rfl | rfl | rfl | rfl | rfl | rfl | rfl | rfl | rfl | rfl | rfl | rfl | rfl | rfl | rfl | rfl | rfl | rfl | rfl | rfl <;> first | rfl | assumption
/-- A slice of kids, each of which lies as N says. -/
def FKidsV {α : Type} (N : World → Nat → Nat → α → Prop) (w : World) (v : Value) (l : List α) : Prop :=
  l.length ≤ 9223372036854775807 ∧ ∃ (a : Option Addr) (cap : Nat), v = .slice a l.length cap ∧ (a = none → cap = 0) ∧
    (l ≠ [] → ∃ b off, a = some ⟨b, off, none⟩ ∧ b < w.heap.size ∧ ∀ j (hj : j < l.length), N w b (off + j * 22) l[j])
/-- What hangs on a part of a flow. -/
def FParts {α : Type} (N : World → Nat → Nat → α → Prop) (w : World) (x : FN D) (l : List α) (vc vk vd vl vr vf : Value) : Prop :=
  PlanV (D + 1) w x.p vc vk vd ∧ RawRuns w vl x.l ∧ RawRuns w vr x.r ∧ FKidsV N w vf l
/-- A part and all that hangs on it lies at this place. -/
def FNodeAt : (n : Nat) → World → Nat → Nat → Fl D n → Prop
  | 0 => fun _ _ _ _ => False
  | n + 1 => fun w b o p => b < w.heap.size ∧ ∃ vc vk vd vl vr vf, FFields w b o p.nd vc vk vd vl vr vf ∧ FParts (FNodeAt n) w p.nd p.kids vc vk vd vl vr vf
/-- What hangs on a flow. -/
def FlowV : (n : Nat) → World → Fl D n → Value → Value → Value → Value → Value → Value → Prop
  | 0 => fun _ _ _ _ _ _ _ _ => False
  | n + 1 => fun w p vc vk vd vl vr vf => FParts (FNodeAt n) w p.nd p.kids vc vk vd vl vr vf
theorem FKidsV.below {α : Type} {N : World → Nat → Nat → α → Prop} {w w' : World} {v : Value} {l : List α} (h : FKidsV N w v l) (hb : Below w.heap.size w w') (hN : ∀ b o x, N w b o x → N w' b o x) : FKidsV N w' v l := by
  obtain ⟨hl, a, cap, rfl, hn, hc⟩ := h
  refine ⟨hl, a, cap, rfl, hn, fun hne => ?_⟩
  obtain ⟨b, off, rfl, hbl, hk⟩ := hc hne
  exact ⟨b, off, rfl, Nat.lt_of_lt_of_le hbl hb.size, fun j hj => hN _ _ _ (hk j hj)⟩
theorem FParts.below {α : Type} {N : World → Nat → Nat → α → Prop} {w w' : World} {x : FN D} {l : List α} {vc vk vd vl vr vf : Value} (h : FParts N w x l vc vk vd vl vr vf) (hb : Below w.heap.size w w') (hN : ∀ b o x, N w b o x → N w' b o x) : FParts N w' x l vc vk vd vl vr vf :=
  ⟨h.1.below hb, h.2.1.below hb, h.2.2.1.below hb, h.2.2.2.below hb hN⟩
theorem FNodeAt.below : ∀ (n : Nat) {w w' : World} {b o : Nat} {p : Fl D n}, FNodeAt n w b o p → Below w.heap.size w w' → FNodeAt n w' b o p
  | 0, _, _, _, _, _, h, _ => h.elim
  | n + 1, w, w', b, o, p, h, hb => by
    obtain ⟨hl, vc, vk, vd, vl, vr, vf, hf, hp⟩ := h
    exact ⟨Nat.lt_of_lt_of_le hl hb.size, vc, vk, vd, vl, vr, vf, hf.below hb hl, hp.below hb fun b o x hx => FNodeAt.below n hx hb⟩
theorem FlowV.below {n : Nat} {w w' : World} {p : Fl D n} {vc vk vd vl vr vf : Value} (h : FlowV n w p vc vk vd vl vr vf) (hb : Below w.heap.size w w') : FlowV n w' p vc vk vd vl vr vf := by
  cases n with
  | zero => exact h.elim
  | succ n => exact FParts.below (N := FNodeAt n) h hb fun b o x hx => FNodeAt.below n hx hb
theorem ffields_of {w : World} {b o : Nat} {n : Nat} {p : Fl D (n + 1)} (h : FNodeAt (n + 1) w b o p) : ∃ vc vk vd vl vr vf, FFields w b o p.nd vc vk vd vl vr vf ∧ FlowV (n + 1) w p vc vk vd vl vr vf := by
  obtain ⟨_, vc, vk, vd, vl, vr, vf, h1, h2⟩ := h
  exact ⟨vc, vk, vd, vl, vr, vf, h1, h2⟩

end Go.Proofs.Ytfmgohoddaobmaa.Fw
