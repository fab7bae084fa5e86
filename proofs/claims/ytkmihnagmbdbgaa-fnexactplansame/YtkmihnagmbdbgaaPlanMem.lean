/-
  Plans in memory: a part lies in nineteen cells; its cells, its keys and its kids in slices; and all that in a later memory.
-/
import Derived.Test.YtkmihnagmbdbgaaPlanMath
import Derived.Deep.MidRow
namespace Go.Proofs.Ytkmihnagmbdbgaa
open Go.RowKit
set_option linter.unusedVariables false

theorem bel_alloc {w : World} (o : Obj) : Below w.heap.size w (w.alloc o) := (Below.refl _ _).alloc (Nat.le_refl _) _
theorem bel_then {w a b : World} (h : Below w.heap.size w a) (k : Below a.heap.size a b) : Below w.heap.size w b := h.trans (k.mono h.size)

theorem IntsAt.raw {w : World} {v : Value} {xs : List Int} (h : IntsAt w v xs) : RawInts w v xs := ⟨by have := h.1; omega, h.2⟩

def Cel.zero : Cel := ⟨0, 0, 0, 0⟩
/-- Four cells. -/
def Cell4 (w : World) (b o : Nat) (c : Cel) : Prop :=
  w.cell? ⟨b, o, none⟩ = some (.int .i64 c.k) ∧ w.cell? ⟨b, o + 1, none⟩ = some (.int .i64 c.a) ∧ w.cell? ⟨b, o + 2, none⟩ = some (.int .i64 c.b) ∧ w.cell? ⟨b, o + 3, none⟩ = some (.int .i64 c.n)
theorem Cell4.below {w w' : World} {b o : Nat} {c : Cel} (h : Cell4 w b o c) (hb : Below w.heap.size w w') (hl : b < w.heap.size) : Cell4 w' b o c :=
  ⟨(hb.cell (p := ⟨b, o, none⟩) hl).trans h.1, (hb.cell (p := ⟨b, o + 1, none⟩) hl).trans h.2.1, (hb.cell (p := ⟨b, o + 2, none⟩) hl).trans h.2.2.1, (hb.cell (p := ⟨b, o + 3, none⟩) hl).trans h.2.2.2⟩
/-- A slice of cells. -/
def RawCels (w : World) (v : Value) (cs : List Cel) : Prop :=
  cs.length ≤ 9223372036854775807 ∧ ∃ (a : Option Addr) (cap : Nat), v = .slice a cs.length cap ∧ (a = none → cap = 0) ∧
    (cs ≠ [] → ∃ b off, a = some ⟨b, off, none⟩ ∧ b < w.heap.size ∧ ∀ j, j < cs.length → Cell4 w b (off + j * 4) (cs.getD j Cel.zero))
theorem RawCels.below {w w' : World} {v : Value} {cs : List Cel} (h : RawCels w v cs) (hb : Below w.heap.size w w') : RawCels w' v cs := by
  obtain ⟨hl, a, cap, rfl, hn, hc⟩ := h
  refine ⟨hl, a, cap, rfl, hn, fun hne => ?_⟩
  obtain ⟨b, off, rfl, hbl, hcell⟩ := hc hne
  exact ⟨b, off, rfl, Nat.lt_of_lt_of_le hbl hb.size, fun j hj => (hcell j hj).below hb hbl⟩

/-- The nineteen cells of a part. -/
def Fields (w : World) (b o : Nat) (d : Nd) (vc vk vd : Value) : Prop :=
  w.cell? ⟨b, o, none⟩ = some (.int .i64 d.k) ∧ w.cell? ⟨b, o + 1, none⟩ = some (.int .i64 d.n) ∧ w.cell? ⟨b, o + 2, none⟩ = some (.int .i64 d.t.k) ∧ w.cell? ⟨b, o + 3, none⟩ = some (.bool d.t.no) ∧ w.cell? ⟨b, o + 4, none⟩ = some (.int .i64 d.t.l.k) ∧ w.cell? ⟨b, o + 5, none⟩ = some (.int .i64 d.t.l.a) ∧ w.cell? ⟨b, o + 6, none⟩ = some (.int .i64 d.t.l.b) ∧ w.cell? ⟨b, o + 7, none⟩ = some (.int .i64 d.t.l.n) ∧ w.cell? ⟨b, o + 8, none⟩ = some (.int .i64 d.t.r.k) ∧ w.cell? ⟨b, o + 9, none⟩ = some (.int .i64 d.t.r.a) ∧ w.cell? ⟨b, o + 10, none⟩ = some (.int .i64 d.t.r.b) ∧ w.cell? ⟨b, o + 11, none⟩ = some (.int .i64 d.t.r.n) ∧ w.cell? ⟨b, o + 12, none⟩ = some (vc) ∧ w.cell? ⟨b, o + 13, none⟩ = some (.int .i64 d.a) ∧ w.cell? ⟨b, o + 14, none⟩ = some (.int .i64 d.b) ∧ w.cell? ⟨b, o + 15, none⟩ = some (vk) ∧ w.cell? ⟨b, o + 16, none⟩ = some (.int .i64 d.g) ∧ w.cell? ⟨b, o + 17, none⟩ = some (.int .i64 d.c) ∧ w.cell? ⟨b, o + 18, none⟩ = some (vd)
theorem Fields.below {w w' : World} {b o : Nat} {d : Nd} {vc vk vd : Value} (h : Fields w b o d vc vk vd) (hb : Below w.heap.size w w') (hl : b < w.heap.size) : Fields w' b o d vc vk vd := by
  obtain ⟨c0, c1, c2, c3, c4, c5, c6, c7, c8, c9, c10, c11, c12, c13, c14, c15, c16, c17, c18⟩ := h
  have k : ∀ o, w'.cell? ⟨b, o, none⟩ = w.cell? ⟨b, o, none⟩ := fun o => hb.cell (p := ⟨b, o, none⟩) hl
  exact ⟨(k _).trans c0, (k _).trans c1, (k _).trans c2, (k _).trans c3, (k _).trans c4, (k _).trans c5, (k _).trans c6, (k _).trans c7, (k _).trans c8, (k _).trans c9, (k _).trans c10, (k _).trans c11, (k _).trans c12, (k _).trans c13, (k _).trans c14, (k _).trans c15, (k _).trans c16, (k _).trans c17, (k _).trans c18⟩
theorem Fields.range {w : World} {b o : Nat} {d : Nd} {vc vk vd : Value} (h : Fields w b o d vc vk vd) : w.rangeAt b o [.int .i64 d.k, .int .i64 d.n, .int .i64 d.t.k, .bool d.t.no, .int .i64 d.t.l.k, .int .i64 d.t.l.a, .int .i64 d.t.l.b, .int .i64 d.t.l.n, .int .i64 d.t.r.k, .int .i64 d.t.r.a, .int .i64 d.t.r.b, .int .i64 d.t.r.n, vc, .int .i64 d.a, .int .i64 d.b, vk, .int .i64 d.g, .int .i64 d.c, vd] := by
  obtain ⟨c0, c1, c2, c3, c4, c5, c6, c7, c8, c9, c10, c11, c12, c13, c14, c15, c16, c17, c18⟩ := h
  intro j v hv
  match j, hv with
  | 0, hv => simp at hv; subst hv; exact c0
  | 1, hv => simp at hv; subst hv; exact c1
  | 2, hv => simp at hv; subst hv; exact c2
  | 3, hv => simp at hv; subst hv; exact c3
  | 4, hv => simp at hv; subst hv; exact c4
  | 5, hv => simp at hv; subst hv; exact c5
  | 6, hv => simp at hv; subst hv; exact c6
  | 7, hv => simp at hv; subst hv; exact c7
  | 8, hv => simp at hv; subst hv; exact c8
  | 9, hv => simp at hv; subst hv; exact c9
  | 10, hv => simp at hv; subst hv; exact c10
  | 11, hv => simp at hv; subst hv; exact c11
  | 12, hv => simp at hv; subst hv; exact c12
  | 13, hv => simp at hv; subst hv; exact c13
  | 14, hv => simp at hv; subst hv; exact c14
  | 15, hv => simp at hv; subst hv; exact c15
  | 16, hv => simp at hv; subst hv; exact c16
  | 17, hv => simp at hv; subst hv; exact c17
  | 18, hv => simp at hv; subst hv; exact c18
  | n + 19, hv => simp at hv
theorem Fields.loadL {w : World} {b o : Nat} {d : Nd} {vc vk vd : Value} (h : Fields w b o d vc vk vd) :
    (Instr.loadAt 30 (.pointer (some ⟨b, o, none⟩))).run Try.prog w = .ok (.agg #[.int .i64 d.k, .int .i64 d.n, .int .i64 d.t.k, .bool d.t.no, .int .i64 d.t.l.k, .int .i64 d.t.l.a, .int .i64 d.t.l.b, .int .i64 d.t.l.n, .int .i64 d.t.r.k, .int .i64 d.t.r.a, .int .i64 d.t.r.b, .int .i64 d.t.r.n, vc, .int .i64 d.a, .int .i64 d.b, vk, .int .i64 d.g, .int .i64 d.c, vd]) w :=
  run_loadAt_mid (P := Try.prog) w b o _ [.int .i64 d.k, .int .i64 d.n, .int .i64 d.t.k, .bool d.t.no, .int .i64 d.t.l.k, .int .i64 d.t.l.a, .int .i64 d.t.l.b, .int .i64 d.t.l.n, .int .i64 d.t.r.k, .int .i64 d.t.r.a, .int .i64 d.t.r.b, .int .i64 d.t.r.n, vc, .int .i64 d.a, .int .i64 d.b, vk, .int .i64 d.g, .int .i64 d.c, vd] _ h.range Try.underlying30 rfl (by kernel_rfl)
theorem Fields.loadI {w : World} {b o : Nat} {d : Nd} {vc vk vd : Value} (h : Fields w b o d vc vk vd) :
    (Instr.loadAt 39 (.pointer (some ⟨b, o, none⟩))).run Try.prog w = .ok (.agg #[.int .i64 d.k, .int .i64 d.n, .int .i64 d.t.k, .bool d.t.no, .int .i64 d.t.l.k, .int .i64 d.t.l.a, .int .i64 d.t.l.b, .int .i64 d.t.l.n, .int .i64 d.t.r.k, .int .i64 d.t.r.a, .int .i64 d.t.r.b, .int .i64 d.t.r.n, vc, .int .i64 d.a, .int .i64 d.b, vk, .int .i64 d.g, .int .i64 d.c, vd]) w :=
  run_loadAt_mid (P := Try.prog) w b o _ [.int .i64 d.k, .int .i64 d.n, .int .i64 d.t.k, .bool d.t.no, .int .i64 d.t.l.k, .int .i64 d.t.l.a, .int .i64 d.t.l.b, .int .i64 d.t.l.n, .int .i64 d.t.r.k, .int .i64 d.t.r.a, .int .i64 d.t.r.b, .int .i64 d.t.r.n, vc, .int .i64 d.a, .int .i64 d.b, vk, .int .i64 d.g, .int .i64 d.c, vd] _ h.range Try.underlying39 rfl (by kernel_rfl)
/-- A slice of kids, each of which lies as N says. -/
def KidsV {α : Type} (N : World → Nat → Nat → α → Prop) (w : World) (v : Value) (l : List α) : Prop :=
  l.length ≤ 9223372036854775807 ∧ ∃ (a : Option Addr) (cap : Nat), v = .slice a l.length cap ∧ (a = none → cap = 0) ∧
    (l ≠ [] → ∃ b off, a = some ⟨b, off, none⟩ ∧ b < w.heap.size ∧ ∀ j (hj : j < l.length), N w b (off + j * 19) l[j])
/-- What hangs on a part: its cells, its keys, its kids. -/
def PartsAt {α : Type} (N : World → Nat → Nat → α → Prop) (w : World) (d : Nd) (l : List α) (vc vk vd : Value) : Prop :=
  RawCels w vc d.cs ∧ RawInts w vk d.ks ∧ KidsV N w vd l
/-- A part and all that hangs on it lies at this place. -/
def NodeAt : (n : Nat) → World → Nat → Nat → Pl n → Prop
  | 0 => fun _ _ _ _ => False
  | n + 1 => fun w b o p => b < w.heap.size ∧ ∃ vc vk vd, Fields w b o p.nd vc vk vd ∧ PartsAt (NodeAt n) w p.nd p.kids vc vk vd
/-- What hangs on a plan. -/
def PlanV : (n : Nat) → World → Pl n → Value → Value → Value → Prop
  | 0 => fun _ _ _ _ _ => False
  | n + 1 => fun w p vc vk vd => PartsAt (NodeAt n) w p.nd p.kids vc vk vd

theorem KidsV.below {α : Type} {N : World → Nat → Nat → α → Prop} {w w' : World} {v : Value} {l : List α} (h : KidsV N w v l) (hb : Below w.heap.size w w') (hN : ∀ b o x, N w b o x → N w' b o x) : KidsV N w' v l := by
  obtain ⟨hl, a, cap, rfl, hn, hc⟩ := h
  refine ⟨hl, a, cap, rfl, hn, fun hne => ?_⟩
  obtain ⟨b, off, rfl, hbl, hk⟩ := hc hne
  exact ⟨b, off, rfl, Nat.lt_of_lt_of_le hbl hb.size, fun j hj => hN _ _ _ (hk j hj)⟩
theorem PartsAt.below {α : Type} {N : World → Nat → Nat → α → Prop} {w w' : World} {d : Nd} {l : List α} {vc vk vd : Value} (h : PartsAt N w d l vc vk vd) (hb : Below w.heap.size w w') (hN : ∀ b o x, N w b o x → N w' b o x) : PartsAt N w' d l vc vk vd :=
  ⟨h.1.below hb, h.2.1.below hb, h.2.2.below hb hN⟩
theorem NodeAt.below : ∀ (n : Nat) {w w' : World} {b o : Nat} {p : Pl n}, NodeAt n w b o p → Below w.heap.size w w' → NodeAt n w' b o p
  | 0, _, _, _, _, _, h, _ => h.elim
  | n + 1, w, w', b, o, p, h, hb => by
    obtain ⟨hl, vc, vk, vd, hf, hp⟩ := h
    exact ⟨Nat.lt_of_lt_of_le hl hb.size, vc, vk, vd, hf.below hb hl, hp.below hb fun b o x hx => NodeAt.below n hx hb⟩
theorem PlanV.below {n : Nat} {w w' : World} {p : Pl n} {vc vk vd : Value} (h : PlanV n w p vc vk vd) (hb : Below w.heap.size w w') : PlanV n w' p vc vk vd := by
  cases n with
  | zero => exact h.elim
  | succ n => exact PartsAt.below (N := NodeAt n) h hb fun b o x hx => NodeAt.below n hx hb

end Go.Proofs.Ytkmihnagmbdbgaa
