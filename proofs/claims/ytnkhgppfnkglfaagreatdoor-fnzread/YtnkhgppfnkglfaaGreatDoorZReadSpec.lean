/-
  The contracts of spec.l12Find (at a star), spec.l2One and spec.ZRead: at every text of at most 2^20 bytes spec.ZRead answers what readZ reads: the items in memory of their own, or nothing.
-/
import Derived.Test.YtnkhgppfnkglfaaGreatDoorCutS
import Derived.Test.YtnkhgppfnkglfaaGreatDoorRead
import Derived.Test.YtnkhgppfnkglfaaGreatDoorZOk
namespace Go.Proofs.YtnkhgppfnkglfaaGreatDoor
set_option maxRecDepth 100000
open Go.RowKit

theorem starAt_none : ∀ {l : List UInt8}, (∀ c ∈ l, c ≠ 42) → starAt l = none
  | [], _ => rfl
  | c :: l, h => by
    have ih := starAt_none (l := l) fun d hd => h d (by simp [hd])
    simp [starAt, h c (by simp), ih]
def findStar (l : List UInt8) : Int := match starAt l with
  | some q => q.1.length
  | none => -1
theorem find_at {l : List UInt8} {k : Nat} (hk : k < l.length) (h : ∀ j (hj : j < k), l[j]'(by omega) ≠ 42) (he : l[k] = 42) : starAt l = some (l.take k, l.drop (k + 1)) := by
  have e : l = l.take k ++ 42 :: l.drop (k + 1) := by
    conv => lhs; rw [← List.take_append_drop k l, List.drop_eq_getElem_cons hk, he]
  conv => lhs; rw [e]
  refine starAt_at fun c hc => ?_
  obtain ⟨j, hj, rfl⟩ := List.getElem_of_mem hc
  rw [List.length_take] at hj
  rw [List.getElem_take]
  exact h j (by omega)

/-- The answer of l2One: an item that is read, its row of the call's own; or nothing. -/
def OneEnd (w w' : World) (o : Option It) (e : Ending) : Prop :=
  (∃ (p : It) (v : Value), o = some p ∧ e = .returned (.tuple #[.agg #[v, .int .i64 p.2], .bool true]) ∧ Own w' w.heap.size w'.heap.size v p.1) ∨
  (o = none ∧ ∃ (a : Option Addr) (m c : Nat) (n : Int), e = .returned (.tuple #[.agg #[.slice a m c, .int .i64 n], .bool false]))

theorem Own.isSlice {w : World} {lo hi : Nat} {v : Value} {xs : List Int} (h : Own w lo hi v xs) : ∃ a m c, v = .slice a m c := by
  by_cases hne : v = .slice none 0 0
  · exact ⟨_, _, _, hne⟩
  · obtain ⟨g, cap, hv, _⟩ := h.shape' hne
    exact ⟨_, _, _, hv⟩

theorem numTup_cases (o : Option Int) : ∃ (n : Int) (c : Bool), numTup o = .tuple #[.int .i64 n, .bool c] ∧ (c = true → o = some n) ∧ (c = false → o = none) := by
  cases o with
  | none => exact ⟨0, false, rfl, fun h => by simp at h, fun _ => rfl⟩
  | some x => exact ⟨x, true, rfl, fun _ => rfl, fun h => by simp at h⟩

end Go.Proofs.YtnkhgppfnkglfaaGreatDoor
