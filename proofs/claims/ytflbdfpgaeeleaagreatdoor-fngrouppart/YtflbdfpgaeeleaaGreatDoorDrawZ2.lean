/-
  What is drawn off a code: two lists of items; one; one and a row.
-/
import Derived.Test.YtflbdfpgaeeleaaGreatDoorDrawZ
namespace Go.Proofs.YtflbdfpgaeeleaaGreatDoor
set_option maxRecDepth 100000
open Go.RowKit

theorem open_below {w w1 : World} (h : Below w.heap.size w w1) {w' : World} (hg : w1.grownBy w' (some w.heap.size)) : Below w.heap.size w w' := h.grown hg h.size (fun k e => by simp at e; omega)
theorem TailZ.shape {w : World} {v : Value} {zs : List It} (h : TailZ w v zs) : ∃ a cap, v = .slice a zs.length cap := by
  obtain ⟨l, rfl, ⟨_, a, c, rfl, _⟩, _⟩ := h
  exact ⟨a, c, by rw [prs_length, its_length]⟩

end Go.Proofs.YtflbdfpgaeeleaaGreatDoor
