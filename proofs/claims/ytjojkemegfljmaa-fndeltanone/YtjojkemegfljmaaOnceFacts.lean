/-
  Plain facts on by how much what is there once is turned; the contracts at a told answer.
-/
import Derived.Test.YtjojkemegfljmaaDeltaOnce
import Derived.Test.YtjojkemegfljmaaZVals
namespace Go.Proofs.Ytjojkemegfljmaa
open Go.RowKit
set_option linter.unusedVariables false

theorem once_true {z d : List It} (h : onceOk z d = true) : addOk z d = true ∧ zOkB (onceZ z d) = true ∧ onceOut z d = onceZ z d := by
  have h0 := h
  unfold onceOk at h0
  rw [Bool.and_eq_true] at h0
  exact ⟨h0.1, h0.2, by unfold onceOut; rw [h]; rfl⟩
theorem once_false {z d : List It} (h : onceOk z d = false) : onceOut z d = [] := by unfold onceOut; rw [h]; rfl
theorem srt_minus {a b : List It} (ha : Srt a) : Srt (minusZ a b) := srt_add ha
theorem getZ_minus {a b : List It} (ha : Srt a) (hb : Srt b) (q : List Int) : getZ (minusZ a b) q = getZ a q - getZ b q := by
  unfold minusZ
  rw [getZ_add ha (srt_neg hb), getZ_neg]; omega
/-- What was, and by how much it is turned, is what is then. -/
theorem add_minus {a b : List It} (ha : Srt a) (hna : Nz a) (hb : Srt b) (hnb : Nz b) : addZ b (minusZ a b) = a := by
  refine canon (srt_add hb) (nz_add hnb) ha hna fun q => ?_
  rw [getZ_add hb (srt_minus ha), getZ_minus ha hb]; omega
theorem getZ_once {z d : List It} (hz : Srt z) (hd : Srt d) (q : List Int) : getZ (onceZ z d) q = (if 0 < getZ z q + getZ d q then 1 else 0) - (if 0 < getZ z q then 1 else 0) := by
  unfold onceZ
  rw [getZ_minus (srt_posD (srt_add hz)) (srt_posD hz), getZ_posD (srt_add hz), getZ_posD hz, getZ_add hz hd]
theorem once_row {z d : List It} (hz : Srt z) (hd : Srt d) {p : It} (hp : p ∈ onceZ z d) : (p.2 = 1 ∨ p.2 = -1) ∧ getZ d p.1 ≠ 0 := by
  have hs : Srt (onceZ z d) := srt_minus (srt_posD (srt_add hz))
  have hn : Nz (onceZ z d) := nz_add (nz_posD _)
  have h1 := getZ_once hz hd p.1
  rw [getZ_selfD hs p hp] at h1
  have h2 := hn p hp
  by_cases c1 : 0 < getZ z p.1 + getZ d p.1
  · rw [if_pos c1] at h1
    by_cases c2 : 0 < getZ z p.1
    · rw [if_pos c2] at h1; omega
    · rw [if_neg c2] at h1; omega
  · rw [if_neg c1] at h1
    by_cases c2 : 0 < getZ z p.1
    · rw [if_pos c2] at h1; omega
    · rw [if_neg c2] at h1; omega
theorem once_len {z d : List It} (hz : Srt z) (hd : Srt d) : (onceZ z d).length ≤ d.length :=
  len_subD (srt_minus (srt_posD (srt_add hz))) fun p hp => getZ_hereD (once_row hz hd hp).2
theorem once_sum {z d : List It} (hz : Srt z) (hd : Srt d) : addZ (posZ z) (onceZ z d) = posZ (addZ z d) :=
  add_minus (srt_posD (srt_add hz)) (nz_posD _) (srt_posD hz) (nz_posD _)
/-- From nothing on it is turned by all that is there once. -/
theorem once_none {d : List It} (hd : Srt d) (hn : Nz d) : onceZ [] d = posZ d := by
  refine canon (srt_minus (srt_posD (srt_add Srt.nil))) (nz_add (nz_posD _)) (srt_posD hd) (nz_posD _) fun q => ?_
  rw [getZ_once Srt.nil hd, getZ_posD hd, getZ_nil]
  simp

theorem once_val {v v2 : Value} {a b os : List It} {c : Bool} {w : World} (hc : onceOk a b = c) (ho : onceOut a b = os) (h : TailZ w v a) (h2 : TailZ w v2 b) :
    Calls Try.prog 21 #[v, v2] w fun e w' => ∃ v', e = .returned (.tuple #[v', .bool c]) ∧ TailZ w' v' os ∧ Below w.heap.size w w' := by
  subst hc ho
  refine (implOnce_any v v2 a b w h h2).mono ?_
  rintro e w' ⟨v', he, hz, hb⟩
  exact ⟨v', he, hz.tail, hb⟩
theorem specOnce_val {v v2 : Value} {a b os : List It} {c : Bool} {w : World} (hc : onceOk a b = c) (ho : onceOut a b = os) (h : TailZ w v a) (h2 : TailZ w v2 b) :
    Calls Try.prog 22 #[v, v2] w fun e w' => ∃ v', e = .returned (.tuple #[v', .bool c]) ∧ TailZ w' v' os ∧ Below w.heap.size w w' := by
  subst hc ho
  refine (specOnce_any v v2 a b w h.items h2.items).mono ?_
  rintro e w' ⟨v', he, hz, hb⟩
  exact ⟨v', he, hz.tail, hb⟩

end Go.Proofs.Ytjojkemegfljmaa
