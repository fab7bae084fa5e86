/-
  The contracts of impl.DeltaOnce and spec.DeltaOnce: by how much what is there once is turned, in memory of its own; none, and false, if that can not be told.
-/
import Derived.Test.YtfgpdakkbhfiaaaGreatDoorZAdd
import Derived.Test.YtfgpdakkbhfiaaaGreatDoorMinus
namespace Go.Proofs.YtfgpdakkbhfiaaaGreatDoor
set_option maxRecDepth 100000
open Go.RowKit

/-- One without another one. -/
def minusZ (a b : List It) : List It := addZ a (negZ b)
def onceZ (z d : List It) : List It := minusZ (posZ (addZ z d)) (posZ z)
def onceOk (z d : List It) : Bool := addOk z d && zOkB (onceZ z d)
def onceOut (z d : List It) : List It := if onceOk z d then onceZ z d else []
theorem add_tells {a b : List It} (h : addOk a b = true) : zOkB a = true ∧ zOkB b = true ∧ zOkB (addZ a b) = true ∧ addOut a b = addZ a b := by
  have h0 := h
  unfold addOk at h0
  simp only [Bool.and_eq_true] at h0
  exact ⟨h0.1.1, h0.1.2, h0.2, by unfold addOut; rw [h]; rfl⟩
theorem once_not {z d : List It} (h : addOk z d = false) : onceOk z d = false ∧ onceOut z d = [] := by
  have : onceOk z d = false := by unfold onceOk; rw [h]; rfl
  exact ⟨this, by unfold onceOut; rw [this]; rfl⟩
theorem minus_ok {a b : List It} (ha : zOkB a = true) (hb : zOkB b = true) : addOk a (negZ b) = zOkB (minusZ a b) ∧ addOut a (negZ b) = if zOkB (minusZ a b) then minusZ a b else [] := by
  have e : addOk a (negZ b) = zOkB (minusZ a b) := by unfold addOk minusZ; rw [ha, zOk_neg, hb]; rfl
  exact ⟨e, by unfold addOut; rw [e]; rfl⟩

set_option maxHeartbeats 2000000 in
theorem without_any (v u : Value) (a b : List It) (w : World) (h : TailZ w v a) (h2 : ItemsAt w u b) (ha : zOkB a = true) (hb : zOkB b = true) :
    Calls Tryz.prog 29 #[v, u] w fun e w' => ∃ v', e = .returned (.tuple #[v', .bool (zOkB (minusZ a b))]) ∧ OwnZ w' w.heap.size w'.heap.size v' (if zOkB (minusZ a b) then minusZ a b else []) ∧ Below w.heap.size w w' := by
  obtain ⟨e0, e1⟩ := minus_ok ha hb
  rw [← e0]
  rw [e0, ← e1]
  obtain ⟨os, HO⟩ : ∃ os, Hid (os = addOut a (negZ b)) := ⟨_, rfl⟩
  obtain ⟨c, HC⟩ : ∃ c, Hid (c = addOk a (negZ b)) := ⟨_, rfl⟩
  rw [← e0, ← HO.out, ← HC.out]
  clear e0 e1
  go_enter Tryz.func29, Tryz.ntmps29
  go_wp2_with fail
  refine (implZNeg_any u b _ h2).mono ?_
  rw [hb]
  rintro e w1 ⟨v1, rfl, Z1, hb1⟩
  have s1 := hb1.size
  simp only [if_true] at Z1
  clear h2
  go_wp2_with fail
  refine (implZAdd_any v v1 a (negZ b) _ (h.below hb1) Z1.tail).mono ?_
  rw [← HO.out, ← HC.out]
  rintro e w2 ⟨v2, rfl, Z2, hb2⟩
  have HK : Hid (Below w.heap.size w w2) := below_then hb1 hb2
  have R : Hid (OwnZ w2 w.heap.size w2.heap.size v2 os) := Z2.wide s1 (Nat.le_refl _) (Nat.le_refl _)
  clear h Z1 Z2 hb1 hb2
  go_wp2
  go_ret2
  exact ⟨_, rfl, R.out, HK.out⟩

set_option maxHeartbeats 2000000 in
theorem implOnce_any (v u : Value) (z d : List It) (w : World) (h : TailZ w v z) (h2 : TailZ w u d) :
    Calls Tryz.prog 16 #[v, u] w fun e w' => ∃ v', e = .returned (.tuple #[v', .bool (onceOk z d)]) ∧ OwnZ w' w.heap.size w'.heap.size v' (onceOut z d) ∧ Below w.heap.size w w' := by
  cases hok : addOk z d with
  | false =>
    obtain ⟨e0, e1⟩ := once_not hok
    rw [e0, e1]
    go_enter Tryz.func16, Tryz.ntmps16
    go_wp2_with fail
    refine (implZAdd_any v u z d _ h h2).mono ?_
    rw [hok]
    rintro e w1 ⟨v1, rfl, Z1, hb1⟩
    have HK : Hid (Below w.heap.size w w1) := hb1
    clear h h2 hb1 e0 e1 Z1
    go_wp2
    go_ret2
    exact ⟨_, rfl, nil_ownZ _ _, HK.out⟩
  | true =>
    obtain ⟨hz, hd, ha, hout⟩ := add_tells hok
    have e0 : onceOk z d = zOkB (onceZ z d) := by unfold onceOk; rw [hok]; rfl
    have e1 : onceOut z d = if zOkB (onceZ z d) then onceZ z d else [] := by unfold onceOut; rw [e0]
    rw [e0, e1]
    unfold onceZ
    obtain ⟨os, HO⟩ : ∃ os, Hid (os = if zOkB (minusZ (posZ (addZ z d)) (posZ z)) then minusZ (posZ (addZ z d)) (posZ z) else []) := ⟨_, rfl⟩
    obtain ⟨c, HC⟩ : ∃ c, Hid (c = zOkB (minusZ (posZ (addZ z d)) (posZ z))) := ⟨_, rfl⟩
    rw [← HO.out, ← HC.out]
    clear e0 e1
    have hp1 := zOk_posD ha
    have hp2 := zOk_posD hz
    go_enter Tryz.func16, Tryz.ntmps16
    go_wp2_with fail
    refine (implZAdd_any v u z d _ h h2).mono ?_
    rw [hok, hout]
    rintro e w1 ⟨v1, rfl, Z1, hb1⟩
    go_wp2_with fail
    refine (implZPos_any v1 (addZ z d) _ Z1.items).mono ?_
    rw [ha]
    simp only [if_true]
    rintro e w2 ⟨v2, rfl, Z2, hb2⟩
    have hk2 := below_then hb1 hb2
    go_wp2_with fail
    refine (implZPos_any v z _ (h.items.below hk2)).mono ?_
    rw [hz]
    simp only [if_true]
    rintro e w3 ⟨v3, rfl, Z3, hb3⟩
    have hk3 := below_then hk2 hb3
    have s3 := hk3.size
    have Y2 := Z2.keep' hb3
    clear h h2 Z1 Z2 hb1 hb2 hb3 hk2
    go_wp2_with fail
    refine (without_any v2 v3 (posZ (addZ z d)) (posZ z) _ Y2.tail Z3.items hp1 hp2).mono ?_
    rw [← HO.out, ← HC.out]
    rintro e w4 ⟨v4, rfl, Z4, hb4⟩
    have HK : Hid (Below w.heap.size w w4) := below_then hk3 hb4
    have R : Hid (OwnZ w4 w.heap.size w4.heap.size v4 os) := Z4.wide s3 (Nat.le_refl _) (Nat.le_refl _)
    clear Y2 Z3 Z4 hb4 hk3
    go_wp2
    go_ret2
    exact ⟨_, rfl, R.out, HK.out⟩

set_option maxHeartbeats 2000000 in
theorem specOnce_any (v u : Value) (z d : List It) (w : World) (h : ItemsAt w v z) (h2 : ItemsAt w u d) :
    Calls Tryz.prog 17 #[v, u] w fun e w' => ∃ v', e = .returned (.tuple #[v', .bool (onceOk z d)]) ∧ OwnZ w' w.heap.size w'.heap.size v' (onceOut z d) ∧ Below w.heap.size w w' := by
  cases hok : addOk z d with
  | false =>
    obtain ⟨e0, e1⟩ := once_not hok
    rw [e0, e1]
    go_enter Tryz.func17, Tryz.ntmps17
    go_wp2_with fail
    refine (specZAdd_any v u z d _ h h2).mono ?_
    rw [hok]
    rintro e w1 ⟨v1, rfl, Z1, hb1⟩
    have HK : Hid (Below w.heap.size w w1) := hb1
    clear h h2 hb1 e0 e1 Z1
    go_wp2
    go_ret2
    exact ⟨_, rfl, (lit_ownZ w1).wide HK.out.size (Nat.le_refl _) (Nat.le_refl _), below_then HK.out (below_alloc _)⟩
  | true =>
    obtain ⟨hz, hd, ha, hout⟩ := add_tells hok
    have e0 : onceOk z d = zOkB (onceZ z d) := by unfold onceOk; rw [hok]; rfl
    have e1 : onceOut z d = if zOkB (onceZ z d) then onceZ z d else [] := by unfold onceOut; rw [e0]
    rw [e0, e1]
    unfold onceZ minusZ
    obtain ⟨os, HO⟩ : ∃ os, Hid (os = if zOkB (addZ (posZ (addZ z d)) (negZ (posZ z))) then addZ (posZ (addZ z d)) (negZ (posZ z)) else []) := ⟨_, rfl⟩
    obtain ⟨c, HC⟩ : ∃ c, Hid (c = zOkB (addZ (posZ (addZ z d)) (negZ (posZ z)))) := ⟨_, rfl⟩
    rw [← HO.out, ← HC.out]
    clear e0 e1
    have hp1 := zOk_posD ha
    have hp2 := zOk_posD hz
    go_enter Tryz.func17, Tryz.ntmps17
    go_wp2_with fail
    refine (specZAdd_any v u z d _ h h2).mono ?_
    rw [hok, hout]
    rintro e w1 ⟨v1, rfl, Z1, hb1⟩
    go_wp2_with fail
    refine (l2Pos_any v1 (addZ z d) _ Z1.items (zOk_le ha) (zOk_mild ha).2.1).mono ?_
    rintro e w2 ⟨v2, rfl, Z2, hb2⟩
    have hk2 := below_then hb1 hb2
    go_wp2_with fail
    refine (l2Pos_any v z _ (h.below hk2) (zOk_le hz) (zOk_mild hz).2.1).mono ?_
    rintro e w3 ⟨v3, rfl, Z3, hb3⟩
    have hk3 := below_then hk2 hb3
    have s3 := hk3.size
    have Y2 := Z2.keep' hb3
    clear h h2 Z1 Z2 hb1 hb2 hb3 hk2
    go_wp2_with fail
    refine (l6Minus_any v2 v3 (posZ (addZ z d)) (posZ z) _ Y2.items Z3.items (zOk_mild hp1) (zOk_mild hp2)).mono ?_
    rintro e w4 ⟨v4, rfl, Z4, hb4⟩
    have hk4 := below_then hk3 hb4
    clear Y2 Z3 hk3
    go_wp2_with fail
    refine (l2Told_any v4 (addZ (posZ (addZ z d)) (negZ (posZ z))) _ _ _ Z4 hb4.size).mono ?_
    rw [← HO.out, ← HC.out]
    rintro e w5 ⟨v5, rfl, Z5, hb5⟩
    have HK : Hid (Below w.heap.size w w5) := below_then hk4 hb5
    have R : Hid (OwnZ w5 w.heap.size w5.heap.size v5 os) := Z5.wide s3 (Nat.le_refl _) (Nat.le_refl _)
    clear Z4 Z5 hb4 hb5 hk4
    go_wp2
    go_ret2
    exact ⟨_, rfl, R.out, HK.out⟩

end Go.Proofs.YtfgpdakkbhfiaaaGreatDoor
