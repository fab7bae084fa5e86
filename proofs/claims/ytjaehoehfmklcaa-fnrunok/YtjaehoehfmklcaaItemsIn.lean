/-
  What a frame tells of items that came in: a slice of pairs read as data is a list of rows and weights, of whatever lengths.
-/
import Derived.Test.YtjaehoehfmklcaaItemsLaw
import Derived.Deep.SlicePairs
import Derived.OpenShut
import Derived.ProofKit
namespace Go.Proofs.Ytjaehoehfmklcaa
open Go.RowKit Go.ChangeShapes Go.WideShapes Go.ChangeAt

def WfItems (zs : List It) : Prop := ∀ j, j < zs.length → WfInts (zs.getD j ([], 0)).1 ∧ -9223372036854775808 ≤ (zs.getD j ([], 0)).2 ∧ (zs.getD j ([], 0)).2 ≤ 9223372036854775807

theorem raw_ints {H : Type} {enc : TypeId × Value → H} {w : World} {base : Nat} {spare : Nat → Bool} {held : Bool} {fuel : Nat} {v : Value} {x : DataW H × List MemPlace}
    (h : DataW.trod enc Try.prog w base spare held fuel 29 [v] = some x) : ∃ xs, RawInts w v xs ∧ WfInts xs := by
  rcases open_ints Try.underlying29 Try.underlying3 (by kernel_rfl) h with ⟨hcs, _⟩ | ⟨a, len, cap, zs, hcs, _, hl, hm, hz, _, hcell, hwz⟩
  · simp at hcs
    subst hcs
    exact ⟨[], ⟨by simp, none, 0, rfl, fun _ => rfl, fun h => absurd rfl h⟩, fun x hx => by simp at hx⟩
  · simp at hcs
    subst hcs
    have hmax : cap ≤ 9223372036854775807 := by have := hm; simp only [maxLen] at this; omega
    have hzl : len ≤ zs.length := by rw [hz]; split <;> omega
    have hlen : (zs.take len).length = len := by rw [List.length_take]; omega
    refine ⟨zs.take len, ⟨by omega, some a, cap, by rw [hlen], fun h => by simp at h, fun hne => ?_⟩, fun x hx => ?_⟩
    · have h0 : 0 < len := by
        rcases Nat.eq_zero_or_pos len with h | h
        · subst h; simp at hne
        · exact h
      obtain ⟨b, off, spot⟩ := a
      have hc0 := hcell 0 (by omega)
      have hspot : spot = none := by simpa [Addr.add] using World.cell?_spot hc0
      subst hspot
      refine ⟨b, off, rfl, lt_of_cell hc0, fun j hj => ?_⟩
      rw [hlen] at hj
      have := hcell j (by omega)
      rw [Addr.add_lit] at this
      simpa [List.getD, hj] using this
    · exact wf_i64 (hwz x (List.mem_of_mem_take hx))

end Go.Proofs.Ytjaehoehfmklcaa
