/-
  The contracts of spec.l1Copy, spec.RowJoin and impl.RowJoin: each answers the one list behind the other, in memory of its own, at int slices of together at most 2^43 elements.
-/
import Derived.Test.YtflbdfpgaeeleaaGreatDoorOwn
namespace Go.Proofs.YtflbdfpgaeeleaaGreatDoor
open Go.RowKit

set_option maxHeartbeats 1000000 in
theorem l1Copy_any (v : Value) (xs : List Int) (w : World) (h : IntsAt w v xs) (hlim : xs.length ≤ 8796093022208) :
    Calls Tryz.prog 60 #[v] w fun e w' => ∃ v', e = .returned v' ∧ Own w' w.heap.size w'.heap.size v' xs ∧ Below w.heap.size w w' := by
  obtain ⟨i0, hi, hz0, hz1, hz2⟩ := info_parts infoInt
  have hx1 : IntsAt (w.alloc (.cells #[] 3)) v xs := h.below ((Below.refl _ _).alloc (Nat.le_refl _) _)
  have ho1 : (w.alloc (.cells #[] 3)).ownsRow w.heap.size 3 1 (.slice (some ⟨w.heap.size, 0, none⟩) 0 0) 0 [] := World.ownsRow_lit w #[] 0 (Nat.le_refl _) (by unfold maxLen; omega) rfl
  clear h
  go_enter Tryz.func60, Tryz.ntmps60
  go_wp2_with (at_builtin; refine wpList_append_ints rfl _ _ 24 rfl w.heap.size 3 i0 Tryz.underlying24 hi hz0 hz1 hz2 (.slice (some ⟨w.heap.size, 0, none⟩) 0 0) 0 [] rfl ho1 v xs rfl hx1 (by omega) (by simp) ?_; intro v' w1 hown1 hgrow1 _)
  have hb1 : Below w.heap.size w w1 := ((Below.refl _ _).alloc (Nat.le_refl _) _).grown hgrow1 (by simp) (by simp [Value.ownBlock])
  have ho2 := own_new (xs := xs) (by simpa using hown1) (by omega)
  clear hown1 hgrow1 hx1 ho1
  go_wp2
  go_ret
  exact ⟨_, rfl, ho2, hb1⟩

end Go.Proofs.YtflbdfpgaeeleaaGreatDoor
