/-
  The contracts of laws.toIntS (a copy in new memory) and laws.eqIntS (equal as lists), at every int slice of at most 2^20 (the copy), of any length (the comparison).
-/
import Derived.Test.YtjaehoehfmklcaaBase
namespace Go.Proofs.Ytjaehoehfmklcaa
open Go.RowKit

/-- What stands in the copy behind k rounds. -/
def copyTo (xs : List Int) (k : Nat) : List Value := (xs.take k).map (Value.int .i64) ++ List.replicate (xs.length - k) (.int .i64 0)

theorem copyTo_zero (xs : List Int) : copyTo xs 0 = List.replicate xs.length (.int .i64 0) := by simp [copyTo]
theorem copyTo_all (xs : List Int) : copyTo xs xs.length = xs.map (Value.int .i64) := by simp [copyTo]
theorem copyTo_set (xs : List Int) (k : Nat) (hk : k < xs.length) : (copyTo xs k).set k (.int .i64 (xs.getD k 0)) = copyTo xs (k + 1) := by
  unfold copyTo
  rw [List.set_append_right _ _ (by simp; omega)]
  have h1 : k - ((xs.take k).map (Value.int .i64)).length = 0 := by simp; omega
  rw [h1]
  obtain ⟨m, hm⟩ : ∃ m, xs.length - k = m + 1 := ⟨xs.length - k - 1, by omega⟩
  have hm' : xs.length - (k + 1) = m := by omega
  have h2 : xs.getD k 0 = xs[k] := by simp [List.getD, hk]
  rw [hm, hm', List.replicate_succ, List.set_cons_zero, List.take_succ_eq_append_getElem hk, h2, List.map_append, List.append_assoc]
  rfl
theorem copyTo_length (xs : List Int) (k : Nat) (hk : k ≤ xs.length) : (copyTo xs k).length = xs.length := by
  simp [copyTo]; omega

theorem rel_copy {w wr : World} {n : Nat} {xs : List Int} {k : Nat} (hk : k < xs.length)
    (hown : wr.ownsRow w.heap.size 3 1 (.slice (some ⟨w.heap.size, 0, none⟩) n n) n (copyTo xs k)) (hb : Below w.heap.size w wr) :
    (wr.setCell ⟨w.heap.size, k, none⟩ (.int .i64 (xs.getD k 0))).ownsRow w.heap.size 3 1 (.slice (some ⟨w.heap.size, 0, none⟩) n n) n (copyTo xs (k + 1)) ∧
      Below w.heap.size w (wr.setCell ⟨w.heap.size, k, none⟩ (.int .i64 (xs.getD k 0))) := by
  have h := (hown.stored k (.int .i64 (xs.getD k 0))).1
  rw [copyTo_set xs k hk] at h
  exact ⟨h, hb.setCell (Nat.le_refl _) _⟩

/-- The two lists are one. -/
def sameB (xs ys : List Int) : Bool := decide (xs = ys)

theorem sameB_of (xs ys : List Int) (hl : xs.length = ys.length) (h : ∀ j, j < xs.length → xs.getD j 0 = ys.getD j 0) : sameB xs ys = true := by
  unfold sameB
  rw [decide_eq_true_iff]
  apply List.ext_getElem hl
  intro j h1 h2
  have := h j h1
  simpa [List.getD, h1, h2] using this
theorem sameB_len (xs ys : List Int) (hl : xs.length ≠ ys.length) : sameB xs ys = false := by
  unfold sameB
  rw [decide_eq_false_iff_not]
  intro h; exact hl (by rw [h])
theorem sameB_at (xs ys : List Int) (j : Nat) (h : xs.getD j 0 ≠ ys.getD j 0) : sameB xs ys = false := by
  unfold sameB
  rw [decide_eq_false_iff_not]
  intro e; exact h (by rw [e])
theorem sameB_refl (xs : List Int) : sameB xs xs = true := by simp [sameB]

end Go.Proofs.Ytjaehoehfmklcaa
