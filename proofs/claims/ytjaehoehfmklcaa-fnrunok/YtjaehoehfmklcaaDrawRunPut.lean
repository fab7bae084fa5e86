/-
  What is drawn for the laws of runs: spec.DrawRunPut.
-/
import Derived.Test.YtjaehoehfmklcaaDrawRun
namespace Go.Proofs.Ytjaehoehfmklcaa
set_option maxRecDepth 100000
set_option linter.unusedVariables false
open Go.RowKit

/-- Drawn runs in the box b, the result's box ahead of the reader g. -/
def Dn (w wx : World) (g Q b : Nat) (v : Value) (s : Rn) : Prop := BoxAt wx b v ∧ BoxAt wx w.heap.size (.slice none 0 0) ∧ DrawnR wx g v s ∧ Rd wx g Q ∧ Below w.heap.size w wx ∧ g < b ∧ w.heap.size < g
theorem Dn.drawn {w wx wy : World} {g Q Q' b : Nat} {v : Value} {s : Rn} (h : Dn w wx g Q b v s) (hg : wx.grownBy wy (some g)) (hr : Rd wy g Q') : Dn w wy g Q' b v s := by
  obtain ⟨h1, h2, h3, h4, h5, h6, h7⟩ := h
  exact ⟨h1.grown hg (fun e => by simp at e; omega), h2.grown hg (fun e => by simp at e; omega), h3.next hg, hr, h5.grown hg h5.size (fun k e => by simp at e; omega), h6, h7⟩
theorem Dn.below {w wx wy : World} {g Q b : Nat} {v : Value} {s : Rn} (h : Dn w wx g Q b v s) (hb : Below wx.heap.size wx wy) : Dn w wy g Q b v s :=
  h.drawn ⟨hb.os, hb.tape, hb.output, hb.size, fun k hk _ => hb.block k hk⟩ (h.2.2.2.1.below hb)
theorem Dn.fin {w wx : World} {g Q b : Nat} {v : Value} {s : Rn} (h : Dn w wx g Q b v s) : RunsAt (wx.setCell ⟨w.heap.size, 0, none⟩ v) v s ∧ Below w.heap.size w (wx.setCell ⟨w.heap.size, 0, none⟩ v) :=
  ⟨runs_put h.2.2.1 (by have := h.2.2.2.2.2.2; omega), h.2.2.2.2.1.setCell (Nat.le_refl _) _⟩
/-- Items that lie in blocks from B on. -/
def Fr (B : Nat) (w : World) (u : Value) (z : List It) : Prop := ∀ w'', Only 0 B w w'' → TailZ w'' u z
theorem Fr.now {B : Nat} {w : World} {u : Value} {z : List It} (h : Fr B w u z) : TailZ w u z := h w (Only.refl _ _ _)
theorem only_of_below {B : Nat} {w w' : World} (h : Below w.heap.size w w') : Only 0 B w w' := ⟨h.os, h.tape, h.output, h.size, fun k hk _ => h.block k hk⟩
theorem Fr.below {B : Nat} {w w' : World} {u : Value} {z : List It} (h : Fr B w u z) (hb : Below w.heap.size w w') : Fr B w' u z := fun w'' hw => h w'' ((only_of_below hb).trans hw)
theorem Fr.put {B b : Nat} {w : World} {u x : Value} {z : List It} (h : Fr B w u z) (hb : b < B) : Fr B (w.setCell ⟨b, 0, none⟩ x) u z := fun w'' hw => h w'' ((Only.setCell (Only.refl 0 B w) (Nat.zero_le _) hb x).trans hw)
theorem OwnZ.fr {w : World} {lo hi B : Nat} {u : Value} {z : List It} (h : OwnZ w lo hi u z) (hB : B ≤ lo) : Fr B w u z := fun _ hw => (h.only hw (.inr hB)).tail
/-- Runs that lie in blocks from B on. -/
def FrR (B : Nat) (w : World) (u : Value) (z : Rn) : Prop := ∀ w'', Only 0 B w w'' → RunsAt w'' u z
theorem FrR.now {B : Nat} {w : World} {u : Value} {z : Rn} (h : FrR B w u z) : RunsAt w u z := h w (Only.refl _ _ _)
theorem FrR.below {B : Nat} {w w' : World} {u : Value} {z : Rn} (h : FrR B w u z) (hb : Below w.heap.size w w') : FrR B w' u z := fun w'' hw => h w'' ((only_of_below hb).trans hw)
theorem FrR.put {B b : Nat} {w : World} {u x : Value} {z : Rn} (h : FrR B w u z) (hb : b < B) : FrR B (w.setCell ⟨b, 0, none⟩ x) u z := fun w'' hw => h w'' ((Only.setCell (Only.refl 0 B w) (Nat.zero_le _) hb x).trans hw)
theorem OwnR.fr {w : World} {lo hi B : Nat} {u : Value} {z : Rn} (h : OwnR w lo hi u z) (hB : B ≤ lo) : FrR B w u z := fun _ hw => (h.only hw (.inr hB)).runs
theorem only_wide {a b : Nat} {w w' : World} (h : Only 0 a w w') (hab : a ≤ b) : Only 0 b w w' := ⟨h.os, h.tape, h.output, h.size, fun k hk hr => h.block k hk (by omega)⟩
theorem Dn.finD {w wx : World} {g Q b : Nat} {v u : Value} {s : Rn} {z : List It} (h : Dn w wx g Q b v s) (hz : Drawn wx g u z) : Fr w.heap.size (wx.setCell ⟨w.heap.size, 0, none⟩ v) u z :=
  fun w'' hw => hz _ ((Only.setCell (Only.refl 0 (g + 1) wx) (Nat.zero_le _) (by show w.heap.size < _; have := h.2.2.2.2.2.2; omega) v).trans (only_wide hw (by have := h.2.2.2.2.2.2; omega)))
theorem Dn.finZ {w wx : World} {g Q b lo hi : Nat} {v u : Value} {s : Rn} {z : List It} (h : Dn w wx g Q b v s) (hz : OwnZ wx lo hi u z) (hlo : w.heap.size < lo) : Fr w.heap.size (wx.setCell ⟨w.heap.size, 0, none⟩ v) u z :=
  (hz.only (Only.of_grown (lo := w.heap.size) (hi := w.heap.size + 1) (set_grown _ _ _) (fun k e => by simp at e; omega)) (.inr hlo)).fr (by omega)


end Go.Proofs.Ytjaehoehfmklcaa
