/-
  What a frame tells of items that came in: a slice of pairs read as data is a list of rows and weights, of whatever lengths.
-/
import Derived.Test.YtfmgohoddaobmaaItemsLaw
import Derived.Deep.SlicePairs
import Derived.OpenShut
import Derived.ProofKit
namespace Go.Proofs.Ytfmgohoddaobmaa
open Go.RowKit Go.ChangeShapes Go.WideShapes Go.ChangeAt

def WfItems (zs : List It) : Prop := ∀ j, j < zs.length → WfInts (zs.getD j ([], 0)).1 ∧ -9223372036854775808 ≤ (zs.getD j ([], 0)).2 ∧ (zs.getD j ([], 0)).2 ≤ 9223372036854775807

theorem raw_ints {H : Type} {enc : TypeId × Value → H} {w : World} {base : Nat} {spare : Nat → Bool} {held : Bool} {fuel : Nat} {v : Value} {x : DataW H × List MemPlace}
    (h : DataW.trod enc Try.prog w base spare held fuel 27 [v] = some x) : ∃ xs, RawInts w v xs ∧ WfInts xs := by
  rcases open_ints Try.underlying27 Try.underlying3 (by kernel_rfl) h with ⟨hcs, _⟩ | ⟨a, len, cap, zs, hcs, _, hl, hm, hz, _, hcell, hwz⟩
  · simp at hcs
    subst hcs
    exact ⟨[], ⟨by simp, none, 0, rfl, fun _ => rfl, fun h => absurd rfl h⟩, fun x hx => by simp at hx⟩
  · simp at hcs
    subst hcs
    have hmax : cap ≤ 9223372036854775807 := by have := hm; simp only [maxLen] at this; omega
    have hzl : len ≤ zs.length := by rw [hz]; split <;> omega
    have hlen : (zs.take len).length = len := by rw [List.length_take]; omega
    refine ⟨zs.take len, ⟨by omega, some a, cap, by rw [hlen], fun h => by simp at h, fun hne => ?_⟩, fun x hx => ?_⟩
    · have h0 : 0 < len := by
        rcases Nat.eq_zero_or_pos len with h | h
        · subst h; simp at hne
        · exact h
      obtain ⟨b, off, spot⟩ := a
      have hc0 := hcell 0 (by omega)
      have hspot : spot = none := by simpa [Addr.add] using World.cell?_spot hc0
      subst hspot
      refine ⟨b, off, rfl, lt_of_cell hc0, fun j hj => ?_⟩
      rw [hlen] at hj
      have := hcell j (by omega)
      rw [Addr.add_lit] at this
      simpa [List.getD, hj] using this
    · exact wf_i64 (hwz x (List.mem_of_mem_take hx))

theorem raw_items {H : Type} {enc : TypeId × Value → H} {w : World} {base : Nat} {spare : Nat → Bool} {held : Bool} {fuel : Nat} {v : Value} {x : DataW H × List MemPlace}
    (h : DataW.trod enc Try.prog w base spare held fuel 108 [v] = some x) : ∃ zs, RawItems w v zs ∧ WfItems zs := by
  rcases Go.Deep.open_slice_pairs Try.underlying108 Try.underlying130 (by kernel_rfl) rfl rfl (by kernel_rfl) (by kernel_rfl) h with ⟨hcs, _⟩ | ⟨a, len, cap, m, n, V0, V1, D0, D1, P0, P1, hcs, _, hl, hm, hmm, _, hx⟩
  · simp at hcs
    subst hcs
    exact ⟨[], ⟨by simp, none, 0, rfl, fun _ => rfl, fun h => absurd rfl h⟩, fun j hj => by simp at hj⟩
  · simp at hcs
    subst hcs
    have hmax : cap ≤ 9223372036854775807 := by have := hm; simp only [maxLen] at this; omega
    have hlm : len ≤ m := by rw [hmm]; split <;> omega
    have each : ∀ j, j < len → ∃ q : It, RawInts w (V0 j) q.1 ∧ WfInts q.1 ∧ V1 j = .int .i64 q.2 ∧ -9223372036854775808 ≤ q.2 ∧ q.2 ≤ 9223372036854775807 := by
      intro j hj
      obtain ⟨_, _, h0, h1⟩ := hx j (by omega)
      obtain ⟨xs, hr, hw⟩ := raw_ints h0
      obtain ⟨y, hy, _, hyw⟩ := DataW.trod_int Try.underlying3 h1
      simp at hy
      exact ⟨(xs, y), hr, hw, hy, wf_i64 hyw⟩
    obtain ⟨q, hq⟩ := Go.Deep.choose_lt each
    have hzl : ((List.range len).map q).length = len := by simp
    have hg : ∀ j, j < len → ((List.range len).map q).getD j ([], 0) = q j := fun j hj => by simp [List.getD, hj]
    refine ⟨(List.range len).map q, ⟨by omega, some a, cap, by rw [hzl], fun h => by simp at h, fun hne => ?_⟩, fun j hj => ?_⟩
    · have h0 : 0 < len := by
        rcases Nat.eq_zero_or_pos len with h | h
        · subst h; simp at hne
        · exact h
      obtain ⟨b, off, spot⟩ := a
      have hc0 := (hx 0 (by omega)).1
      have hspot : spot = none := by simpa [Addr.add] using World.cell?_spot hc0
      subst hspot
      refine ⟨b, off, rfl, lt_of_cell hc0, fun j hj => ?_⟩
      rw [hzl] at hj
      obtain ⟨e0, e1, _, _⟩ := hx j (by omega)
      obtain ⟨g0, g1, g2, g3⟩ := hq j hj
      rw [Addr.add_lit] at e0 e1
      rw [hg j hj]
      exact ⟨V0 j, e0, by rw [Nat.add_assoc, e1, g2], g0⟩
    · rw [hzl] at hj
      obtain ⟨g0, g1, g2, g3⟩ := hq j hj
      rw [hg j hj]
      exact ⟨g1, g3⟩

end Go.Proofs.Ytfmgohoddaobmaa
