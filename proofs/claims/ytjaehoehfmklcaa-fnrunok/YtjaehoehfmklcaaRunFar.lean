/-
  Boxes (a block of one cell that holds a spine) beside runs: a store into a box leaves the runs as they are, by the blocks' types; what merging comes to (mergeTo).
-/
import Derived.Test.YtjaehoehfmklcaaRunLastSpec
namespace Go.Proofs.Ytjaehoehfmklcaa
set_option maxRecDepth 100000
open Go.RowKit

/-- Block b is a box that holds v. -/
def BoxAt (w : World) (b : Nat) (v : Value) : Prop := w.heap[b]? = some (.cells #[v] 38)
theorem BoxAt.lt {w : World} {b : Nat} {v : Value} (h : BoxAt w b v) : b < w.heap.size := (Array.getElem?_eq_some_iff.1 h).1
theorem BoxAt.cell {w : World} {b : Nat} {v : Value} (h : BoxAt w b v) : w.cell? ⟨b, 0, none⟩ = some v := by
  unfold BoxAt at h
  simp [World.cell?, h]
theorem BoxAt.frozen {w : World} {b : Nat} {v : Value} (h : BoxAt w b v) : w.frozen? ⟨b, 0, none⟩ = false := by
  unfold BoxAt at h
  simp [World.frozen?, h]
theorem BoxAt.keep {w w' : World} {b B : Nat} {v : Value} (h : BoxAt w b v) (hb : Below B w w') (hl : b < B) : BoxAt w' b v := (hb.block b hl).trans h
theorem BoxAt.below {w w' : World} {b : Nat} {v : Value} (h : BoxAt w b v) (hb : Below w.heap.size w w') : BoxAt w' b v := h.keep hb h.lt
theorem boxAt_new (w : World) (v : Value) : BoxAt (w.alloc (.cells #[v] 38)) w.heap.size v := alloc_last _ _
theorem BoxAt.put {w : World} {b : Nat} {v : Value} (h : BoxAt w b v) (u : Value) : BoxAt (w.setCell ⟨b, 0, none⟩ u) b u := by
  unfold BoxAt at h ⊢
  simp [World.setCell, Array.getElem?_modify, h]
theorem BoxAt.other {w : World} {b c : Nat} {v : Value} (h : BoxAt w b v) (u : Value) (hne : b ≠ c) : BoxAt (w.setCell ⟨c, 0, none⟩ u) b v := (Below.heap_setCell _ _ _ _ hne).trans h
theorem set_grown (w : World) (b : Nat) (u : Value) : w.grownBy (w.setCell ⟨b, 0, none⟩ u) (some b) :=
  ⟨rfl, rfl, rfl, by simp [World.setCell], fun k _ hk => Below.heap_setCell _ _ _ _ (fun e => hk (by rw [e]))⟩
theorem row_ne_box {w : World} {lo n size b : Nat} {e : TypeId} {v u : Value} {xs : List Value} (h : w.ownsRow lo e size v n xs) (hb : BoxAt w b u) (he : (38 == e) = false) : v.ownBlock = none ∨ v.ownBlock ≠ some b := by
  rcases h.2 with ⟨rfl, _⟩ | ⟨g, cap, cur, rfl, _, hg, _⟩
  · exact .inl rfl
  · refine .inr fun e' => ?_
    simp [Value.ownBlock] at e'
    subst e'
    unfold BoxAt at hb
    rw [hb] at hg
    simp at hg
    obtain ⟨_, rfl, _⟩ := hg
    simp at he
theorem OwnZ.farBox {w w' : World} {lo hi b : Nat} {v u : Value} {zs : List It} (h : OwnZ w lo hi v zs) (hb : BoxAt w b u) (hg : w.grownBy w' (some b)) : OwnZ w' lo hi v zs := by
  obtain ⟨ps, he, hs, hr, ha⟩ := h
  exact ⟨ps, he, hs.kept hg (row_ne_box hs.1 hb (by decide)), fun j hj => (hr j hj).keptB hg (row_ne_box (hr j hj).1 hb (by decide)), ha⟩
theorem OwnR.far {w w' : World} {lo hi b : Nat} {v u : Value} {zss : Rn} (h : OwnR w lo hi v zss) (hb : BoxAt w b u) (hg : w.grownBy w' (some b)) : OwnR w' lo hi v zss := by
  obtain ⟨ps, h1, h2, h3, h4, h5⟩ := h
  exact ⟨ps, h1.kept hg (row_ne_box h1 hb (by decide)), h2, h3, Nat.le_trans h4 hg.size, h5.imp fun _ _ _ _ _ _ _ k4 k5 => ⟨k5.farBox hb hg, k4⟩⟩
theorem OwnR.put {w : World} {lo hi b : Nat} {v u u' : Value} {zss : Rn} (h : OwnR w lo hi v zss) (hb : BoxAt w b u) : OwnR (w.setCell ⟨b, 0, none⟩ u') lo hi v zss := h.far hb (set_grown _ _ _)

/-- The last two are merged as long as there is fuel and the runs are right. -/
def mergeTo : Nat → Rn → Int → Rn × Int
  | 0, x, f => (x, f)
  | t + 1, x, f => if x.length ≤ 1 then (x, f) else if f < lastMany x ∨ runOkB (lastR x) = false then (x, f) else mergeTo t (lastR x) (f - lastMany x)
theorem mergeTo_one (t : Nat) {x : Rn} (f : Int) (h : x.length ≤ 1) : mergeTo t x f = (x, f) := by
  cases t with
  | zero => rfl
  | succ t => simp [mergeTo, h]
theorem mergeTo_stop (t : Nat) {x : Rn} {f : Int} (h : ¬ x.length ≤ 1) (h2 : f < lastMany x ∨ runOkB (lastR x) = false) : mergeTo (t + 1) x f = (x, f) := by
  simp only [mergeTo, h, if_false]
  rw [if_pos h2]
theorem mergeTo_go (t : Nat) {x : Rn} {f : Int} (h : ¬ x.length ≤ 1) (h1 : ¬ f < lastMany x) (h2 : runOkB (lastR x) = true) : mergeTo (t + 1) x f = mergeTo t (lastR x) (f - lastMany x) := by
  simp only [mergeTo, h, if_false]
  rw [if_neg (by rw [h2]; simp; omega)]
theorem lastR_len {x : Rn} (h : 2 ≤ x.length) : (lastR x).length < x.length := by
  unfold lastR
  rw [List.length_append, List.length_take]
  split <;> simp <;> omega
theorem ok_light {x : Rn} (h : runOkB x = true) {j : Nat} (hj : j < x.length) : Light 500 (x.getD j []) := (light_ok (each_ok h hj)).mono (by omega)
theorem ok_len100 {x : Rn} (h : runOkB x = true) {j : Nat} (hj : j < x.length) : (x.getD j []).length ≤ 100 := zOk_le (each_ok h hj)
theorem ok_mild {x : Rn} (h : runOkB x = true) : ∀ j, j < x.length → Mild (x.getD j []) := fun _ hj => zOk_mild (each_ok h hj)
theorem many_le {x : Rn} (h : runOkB x = true) (h2 : 2 ≤ x.length) : lastMany x ≤ 200 := by
  unfold lastMany
  have h1 := ok_len100 h (j := x.length - 2) (by omega)
  have h3 := ok_len100 h (j := x.length - 1) (by omega)
  omega
/-- How long the slice in a box is. -/
def lenAt (w : World) (b : Nat) : Nat := match w.cell? ⟨b, 0, none⟩ with
  | some (.slice _ n _) => n
  | _ => 0
theorem lenAt_box {w : World} {b n c : Nat} {a : Option Addr} (h : BoxAt w b (.slice a n c)) : lenAt w b = n := by
  unfold lenAt
  rw [h.cell]

/-- What RunMerge answers. -/
def mrgOut (z : Rn) (f : Int) : Rn := if runOkB z = true ∧ 0 ≤ f then (mergeTo z.length z f).1 else []
def mrgLeft (z : Rn) (f : Int) : Int := if runOkB z = true ∧ 0 ≤ f then (mergeTo z.length z f).2 else 0

end Go.Proofs.Ytjaehoehfmklcaa
