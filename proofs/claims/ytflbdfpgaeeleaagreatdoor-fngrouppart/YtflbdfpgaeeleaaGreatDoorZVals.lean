/-
  The contracts of the functions of items, each at a told answer.
-/
import Derived.Test.YtflbdfpgaeeleaaGreatDoorDrawZ2
import Derived.Test.YtflbdfpgaeeleaaGreatDoorZFacts
import Derived.Test.YtflbdfpgaeeleaaGreatDoorZPos
import Derived.Test.YtflbdfpgaeeleaaGreatDoorZSame
namespace Go.Proofs.YtflbdfpgaeeleaaGreatDoor
set_option maxRecDepth 100000
open Go.RowKit

theorem add_val {v v2 : Value} {a b os : List It} {c : Bool} {w : World} (hc : addOk a b = c) (ho : addOut a b = os) (h : TailZ w v a) (h2 : TailZ w v2 b) :
    Calls Tryz.prog 11 #[v, v2] w fun e w' => ∃ v', e = .returned (.tuple #[v', .bool c]) ∧ TailZ w' v' os ∧ Below w.heap.size w w' := by
  subst hc ho
  refine (implZAdd_any v v2 a b w h h2).mono ?_
  rintro e w' ⟨v', he, hz, hb⟩
  exact ⟨v', he, hz.tail, hb⟩
theorem zsame_val {v v2 : Value} {a b : List It} {c : Bool} {w : World} (hc : zsB a b = c) (h : TailZ w v a) (h2 : TailZ w v2 b) :
    Calls Tryz.prog 8 #[v, v2] w fun e w' => e = .returned (.bool c) ∧ Below w.heap.size w w' := by
  subst hc
  exact implZSame_any v v2 a b w h.items h2.items
theorem okI_val {v : Value} {a : List It} {c : Bool} {w : World} (hc : zOkB a = c) (h : TailZ w v a) :
    Calls Tryz.prog 17 #[v] w fun e w' => e = .returned (.bool c) ∧ Below w.heap.size w w' := by
  subst hc
  exact implZOk_any v a w h.items
theorem okS_val {v : Value} {a : List It} {c : Bool} {w : World} (hc : zOkB a = c) (h : TailZ w v a) :
    Calls Tryz.prog 25 #[v] w fun e w' => e = .returned (.bool c) ∧ Below w.heap.size w w' := by
  subst hc
  exact (specZOk_any v a w h.items).mono fun _ _ ⟨h1, h2⟩ => ⟨h1, h2.below⟩
theorem pos_val {v : Value} {a os : List It} {w : World} (ho : (if zOkB a then posZ a else []) = os) (h : TailZ w v a) :
    Calls Tryz.prog 10 #[v] w fun e w' => ∃ v', e = .returned v' ∧ TailZ w' v' os ∧ Below w.heap.size w w' := by
  subst ho
  refine (implZPos_any v a w h.items).mono ?_
  rintro e w' ⟨v', he, hz, hb⟩
  exact ⟨v', he, hz.tail, hb⟩

theorem tailZ_nil (w : World) : TailZ w (.slice none 0 0) [] := (nil_ownZ w 0).tail
theorem TailZ.empty {w : World} {v : Value} (h : TailZ w v []) : ∃ a c, v = .slice a 0 c := h.shape
theorem add_no_l {a : List It} (b : List It) (h : zOkB a = false) : addOk a b = false ∧ addOut a b = [] := by
  have e : addOk a b = false := by simp [addOk, h]
  exact ⟨e, by simp [addOut, e]⟩
theorem add_no_r (a : List It) {b : List It} (h : zOkB b = false) : addOk a b = false ∧ addOut a b = [] := by
  have e : addOk a b = false := by simp [addOk, h]
  exact ⟨e, by simp [addOut, e]⟩
theorem add_is {a b s : List It} (ha : zOkB a = true) (hb : zOkB b = true) (hs : addZ a b = s) {c : Bool} (hc : zOkB s = c) : addOk a b = c ∧ addOut a b = if c then s else [] := by
  subst hs hc
  have e : addOk a b = zOkB (addZ a b) := by simp [addOk, ha, hb]
  exact ⟨e, by simp [addOut, e]⟩
theorem add_yes {a b s : List It} (ha : zOkB a = true) (hb : zOkB b = true) (hs : addZ a b = s) (hc : zOkB s = true) : addOk a b = true ∧ addOut a b = s := by
  have := add_is ha hb hs hc
  exact ⟨this.1, by simpa using this.2⟩
theorem add_not {a b s : List It} (ha : zOkB a = true) (hb : zOkB b = true) (hs : addZ a b = s) (hc : zOkB s = false) : addOk a b = false ∧ addOut a b = [] := by
  have := add_is ha hb hs hc
  exact ⟨this.1, by simpa using this.2⟩
theorem addOk_true {a b : List It} (h : addOk a b = true) : zOkB a = true ∧ zOkB b = true ∧ zOkB (addZ a b) = true ∧ addOut a b = addZ a b := by
  have h0 := h
  unfold addOk at h
  rw [Bool.and_eq_true, Bool.and_eq_true] at h
  exact ⟨h.1.1, h.1.2, h.2, by simp [addOut, h0]⟩
theorem get_ok {a : List It} (h : zOkB a = true) (r : List Int) : (if zOkB a then getZ a r else 0) = getZ a r := by simp [h]
theorem getZ_in {a : List It} (h : zOkB a = true) (r : List Int) : -10000 ≤ getZ a r ∧ getZ a r ≤ 10000 := by
  by_cases hex : ∃ j, j < a.length ∧ (a.getD j ([], 0)).1 = r
  · obtain ⟨j, hj, e⟩ := hex
    have h1 : getZ a r = (a.getD j ([], 0)).2 := by
      refine getZ_at hj (fun i hi e2 => ?_) e
      have := zOk_ord h hi hj
      rw [e2, e, ordL_self] at this
      omega
    rw [h1]
    exact (wB_in (zOk_row h hj).2).2
  · rw [getZ_none fun j hj e => hex ⟨j, hj, e⟩]
    omega

end Go.Proofs.YtflbdfpgaeeleaaGreatDoor
