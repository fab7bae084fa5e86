/-
  The contracts of impl.together and impl.ZAdd: both together, in memory of their own, if that is right.
-/
import Derived.Test.YtflbdfpgaeeleaaDoorDelete
import Derived.Test.YtflbdfpgaeeleaaDoorAddSpec
import Derived.Test.YtflbdfpgaeeleaaDoorCopy
namespace Go.Proofs.YtflbdfpgaeeleaaDoor
set_option maxRecDepth 100000
open Go.RowKit

/-- Items in memory, their capacity told; their rows may lie wherever they do. -/
def TailZ (w : World) (v : Value) (zs : List It) : Prop := ∃ l : List Rw, zs = its l ∧ Tail w v (prs l) ∧ RowsIn w l
theorem TailZ.below {w w' : World} {v : Value} {zs : List It} (h : TailZ w v zs) (hb : Below w.heap.size w w') : TailZ w' v zs := by
  obtain ⟨l, e, t, r⟩ := h
  exact ⟨l, e, t.below hb, r.below hb⟩
theorem TailZ.items {w : World} {v : Value} {zs : List It} (h : TailZ w v zs) : ItemsAt w v zs := by
  obtain ⟨l, rfl, t, r⟩ := h
  exact t.1.itemsOf r
theorem OwnZ.tail {w : World} {lo hi : Nat} {v : Value} {zs : List It} (h : OwnZ w lo hi v zs) : TailZ w v zs := by
  obtain ⟨l, hl, S, R, _⟩ := h.opened
  have hr : RowsIn w l := fun x hx => (R x hx).ints
  refine ⟨l, hl, ⟨S.pairs hr.shape, ?_⟩, hr⟩
  rcases S.1.2 with ⟨rfl, h0⟩ | ⟨g, cap, cur, rfl, _, _, hnc, hcm, _⟩
  · exact ⟨none, 0, by rw [h0], by omega, by omega⟩
  · exact ⟨_, cap, rfl, hnc, by have := hcm; simp only [maxLen] at this; omega⟩
theorem its_filter (l : List Rw) : its (l.filter nzR) = (its l).filter fun p => decide (p.2 ≠ 0) := by
  unfold its nzR
  rw [List.filter_map]
  rfl
theorem low_of {l : List Rw} (h : Mild (its l)) : Low l := fun x hx => by
  have := h.2.2 x.2 (List.mem_map.2 ⟨x, hx, rfl⟩)
  omega

end Go.Proofs.YtflbdfpgaeeleaaDoor
