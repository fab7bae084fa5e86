/-
  The contracts of impl.DeltaOnce and spec.DeltaOnce: by how much what is there once is turned, in memory of its own; none, and false, if that can not be told.
-/
import Derived.Test.YtjbfgfgldchfnaaGreatDoorZAdd
import Derived.Test.YtjbfgfgldchfnaaGreatDoorMinus
namespace Go.Proofs.YtjbfgfgldchfnaaGreatDoor
set_option maxRecDepth 100000
open Go.RowKit

/-- One without another one. -/
def minusZ (a b : List It) : List It := addZ a (negZ b)
def onceZ (z d : List It) : List It := minusZ (posZ (addZ z d)) (posZ z)
def onceOk (z d : List It) : Bool := addOk z d && zOkB (onceZ z d)
def onceOut (z d : List It) : List It := if onceOk z d then onceZ z d else []
theorem add_tells {a b : List It} (h : addOk a b = true) : zOkB a = true ∧ zOkB b = true ∧ zOkB (addZ a b) = true ∧ addOut a b = addZ a b := by
  have h0 := h
  unfold addOk at h0
  simp only [Bool.and_eq_true] at h0
  exact ⟨h0.1.1, h0.1.2, h0.2, by unfold addOut; rw [h]; rfl⟩
theorem once_not {z d : List It} (h : addOk z d = false) : onceOk z d = false ∧ onceOut z d = [] := by
  have : onceOk z d = false := by unfold onceOk; rw [h]; rfl
  exact ⟨this, by unfold onceOut; rw [this]; rfl⟩
theorem minus_ok {a b : List It} (ha : zOkB a = true) (hb : zOkB b = true) : addOk a (negZ b) = zOkB (minusZ a b) ∧ addOut a (negZ b) = if zOkB (minusZ a b) then minusZ a b else [] := by
  have e : addOk a (negZ b) = zOkB (minusZ a b) := by unfold addOk minusZ; rw [ha, zOk_neg, hb]; rfl
  exact ⟨e, by unfold addOut; rw [e]; rfl⟩

set_option maxHeartbeats 2000000 in
theorem without_any (v u : Value) (a b : List It) (w : World) (h : TailZ w v a) (h2 : ItemsAt w u b) (ha : zOkB a = true) (hb : zOkB b = true) :
    Calls Tryz.prog 29 #[v, u] w fun e w' => ∃ v', e = .returned (.tuple #[v', .bool (zOkB (minusZ a b))]) ∧ OwnZ w' w.heap.size w'.heap.size v' (if zOkB (minusZ a b) then minusZ a b else []) ∧ Below w.heap.size w w' := by
  obtain ⟨e0, e1⟩ := minus_ok ha hb
  rw [← e0]
  rw [e0, ← e1]
  obtain ⟨os, HO⟩ : ∃ os, Hid (os = addOut a (negZ b)) := ⟨_, rfl⟩
  obtain ⟨c, HC⟩ : ∃ c, Hid (c = addOk a (negZ b)) := ⟨_, rfl⟩
  rw [← e0, ← HO.out, ← HC.out]
  clear e0 e1
  go_enter Tryz.func29, Tryz.ntmps29
  go_wp2_with fail
  refine (implZNeg_any u b _ h2).mono ?_
  rw [hb]
  rintro e w1 ⟨v1, rfl, Z1, hb1⟩
  have s1 := hb1.size
  simp only [if_true] at Z1
  clear h2
  go_wp2_with fail
  refine (implZAdd_any v v1 a (negZ b) _ (h.below hb1) Z1.tail).mono ?_
  rw [← HO.out, ← HC.out]
  rintro e w2 ⟨v2, rfl, Z2, hb2⟩
  have HK : Hid (Below w.heap.size w w2) := below_then hb1 hb2
  have R : Hid (OwnZ w2 w.heap.size w2.heap.size v2 os) := Z2.wide s1 (Nat.le_refl _) (Nat.le_refl _)
  clear h Z1 Z2 hb1 hb2
  go_wp2
  go_ret2
  exact ⟨_, rfl, R.out, HK.out⟩

end Go.Proofs.YtjbfgfgldchfnaaGreatDoor
