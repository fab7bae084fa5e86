/-
  The contracts of spec.ZSame and impl.ZSame (with slices.EqualFunc and impl.sameItem): both answer whether the lists are one, at all items.
-/
import Derived.Test.YtjbfgfgldchfnaaGreatDoorItems
namespace Go.Proofs.YtjbfgfgldchfnaaGreatDoor
open Go.RowKit

theorem specRowSame_val {v v2 : Value} {xs ys : List Int} {c : Bool} (hr : rowSameB xs ys = c) {w : World} (h : IntsAt w v xs) (h2 : IntsAt w v2 ys) : Calls Tryz.prog 65 #[v, v2] w fun e w' => e = .returned (.bool c) ∧ Drew w w' := hr ▸ specRowSame_q v v2 xs ys w h h2

theorem pair_same {p q : It} (h1 : p.2 = q.2) (h2 : rowSameB p.1 q.1 = true) : p = q := by
  rw [same_iff] at h2
  exact Prod.ext (of_decide_eq_true h2) h1
theorem pair_other {p q : It} (h2 : rowSameB p.1 q.1 = false) : p ≠ q := by
  intro e
  subst e
  rw [same_self] at h2
  simp at h2

def zsB (zs ys : List It) : Bool := decide (zs = ys)
theorem zsB_refl (zs : List It) : zsB zs zs = true := by simp [zsB]
theorem zsB_of (xs ys : List It) (hl : xs.length = ys.length) (h : ∀ j, j < xs.length → xs.getD j ([], 0) = ys.getD j ([], 0)) : zsB xs ys = true := by
  unfold zsB
  rw [decide_eq_true_iff]
  apply List.ext_getElem hl
  intro j h1 h2
  have := h j h1
  simpa [List.getD, h1, h2] using this
theorem zsB_len (xs ys : List It) (hl : xs.length ≠ ys.length) : zsB xs ys = false := by
  unfold zsB
  rw [decide_eq_false_iff_not]
  intro h; exact hl (by rw [h])
theorem zsB_at (xs ys : List It) (j : Nat) (h : xs.getD j ([], 0) ≠ ys.getD j ([], 0)) : zsB xs ys = false := by
  unfold zsB
  rw [decide_eq_false_iff_not]
  intro e; exact h (by rw [e])

end Go.Proofs.YtjbfgfgldchfnaaGreatDoor
