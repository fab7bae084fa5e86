/-
  The contract of impl.copyItems: the items in memory of their own, each row in a new block.
-/
import Derived.Test.YtflbdfpgaeeleaaDoorClone
namespace Go.Proofs.YtflbdfpgaeeleaaDoor
open Go.RowKit

/-- Items of which the first k rows are the call's own; the others are rows of the memory w0. -/
def PartZ (w0 w : World) (lo hi : Nat) (v : Value) (zs : List It) (k : Nat) : Prop :=
  ∃ ps : List (Value × Int), ps.map (·.2) = zs.map (·.2) ∧ Spine w lo hi v ps ∧ (∀ j, j < k → j < ps.length → Own w lo hi (ps.getD j (vn, 0)).1 (zs.getD j ([], 0)).1) ∧
    (∀ i j b, i < j → j < k → j < ps.length → (ps.getD i (vn, 0)).1.ownBlock = some b → (ps.getD j (vn, 0)).1.ownBlock ≠ some b) ∧ (∀ j, k ≤ j → j < ps.length → IntsAt w0 (ps.getD j (vn, 0)).1 (zs.getD j ([], 0)).1)

theorem PartZ.own {w0 w : World} {lo hi : Nat} {v : Value} {zs : List It} (h : PartZ w0 w lo hi v zs zs.length) : OwnZ w lo hi v zs := by
  obtain ⟨ps, he, hs, hr, ha, _⟩ := h
  have hl := snd_len he
  exact ⟨ps, he, hs, fun j hj => hr j (by omega) hj, fun i j b hij hj => ha i j b hij (by omega) hj⟩
theorem PartZ.keep {w0 w w' : World} {lo hi : Nat} {v : Value} {zs : List It} {k : Nat} (h : PartZ w0 w lo hi v zs k) (hb : Below hi w w') : PartZ w0 w' lo hi v zs k := by
  obtain ⟨ps, he, hs, hr, ha, hi⟩ := h
  exact ⟨ps, he, hs.keep hb, fun j hj hj' => (hr j hj hj').keep hb, ha, hi⟩
theorem PartZ.hi_le {w0 w : World} {lo hi : Nat} {v : Value} {zs : List It} {k : Nat} (h : PartZ w0 w lo hi v zs k) : hi ≤ w.heap.size := by
  obtain ⟨ps, he, hs, _⟩ := h
  exact hs.2.2.2
theorem PartZ.row {w0 w : World} {lo hi : Nat} {g n cap : Nat} {zs : List It} {k : Nat} (h : PartZ w0 w lo hi (.slice (some ⟨g, 0, none⟩) n cap) zs k) (hk : k < zs.length) : ∃ rv, w.cell? ⟨g, k * 2, none⟩ = some rv ∧ IntsAt w0 rv (zs.getD k ([], 0)).1 := by
  obtain ⟨ps, he, hs, _, _, hi⟩ := h
  have hl := snd_len he
  exact ⟨_, hs.cell0 (by omega), hi k (Nat.le_refl _) (by omega)⟩
theorem PartZ.frozenAt {w0 w : World} {lo hi : Nat} {g n cap : Nat} {zs : List It} {k : Nat} (h : PartZ w0 w lo hi (.slice (some ⟨g, 0, none⟩) n cap) zs k) (j : Nat) : w.frozen? ⟨g, j, none⟩ = false := by
  obtain ⟨ps, he, hs, _⟩ := h
  exact hs.frozenAt j

theorem PartZ.step {w0 w : World} {lo hi hi' : Nat} {g n cap : Nat} {zs : List It} {k : Nat} (h : PartZ w0 w lo hi (.slice (some ⟨g, 0, none⟩) n cap) zs k) (hk : k < zs.length) {rv : Value} (hrow : Own w lo hi' rv (zs.getD k ([], 0)).1)
    (h1 : hi ≤ hi') (h2 : hi' ≤ w.heap.size) (hf : ∀ b, rv.ownBlock = some b → hi ≤ b) :
    PartZ w0 (w.setCell ⟨g, k * 2, none⟩ rv) lo hi' (.slice (some ⟨g, 0, none⟩) n cap) zs (k + 1) := by
  obtain ⟨ps, he, hs, hr, ha, hi0⟩ := h
  have hl := snd_len he
  have hk' : k < ps.length := by omega
  have s1 := hs.stored0 hk' rv
  have hg := s1.2
  have hne : ∀ {lo' hi' : Nat} {v : Value} {us : List Int}, Own w lo' hi' v us → v.ownBlock = none ∨ v.ownBlock ≠ some g := fun h => row_ne_spine hs h
  refine ⟨ps.set k (rv, (ps.getD k (vn, 0)).2), ?_, s1.1.wide (Nat.le_refl _) h1 (Nat.le_trans h2 hg.size), fun j hj hj' => ?_, fun i j b hij hj hj' hb => ?_, fun j hj hj' => ?_⟩
  · rw [List.map_set, ← he]
    apply List.ext_getElem?
    intro j
    by_cases hjk : j = k
    · subst hjk
      rw [List.getElem?_set_self (by simpa using hk'), List.getElem?_map, List.getElem?_eq_getElem hk']
      simp [List.getD, hk']
    · rw [List.getElem?_set_ne (by omega)]
  · have hjl : j < ps.length := by simpa using hj'
    by_cases hjk : j = k
    · subst hjk
      rw [getD_set_self hk']
      exact hrow.keptB hg (hne hrow)
    · rw [getD_set_ne hjk]
      have := hr j (by omega) hjl
      exact (this.keptB hg (hne this)).wide (Nat.le_refl _) h1 (Nat.le_trans h2 hg.size)
  · have hjl : j < ps.length := by simpa using hj'
    rw [getD_set_ne (by omega)] at hb
    by_cases hjk : j = k
    · subst hjk
      rw [getD_set_self hk']
      intro hb'
      have h3 := hf b hb'
      have h4 := (hr i (by omega) (by omega)).2.1 b hb
      omega
    · rw [getD_set_ne hjk]
      exact ha i j b hij (by omega) hjl hb
  · have hjl : j < ps.length := by simpa using hj'
    rw [getD_set_ne (by omega)]
    exact hi0 j (by omega) hjl

end Go.Proofs.YtflbdfpgaeeleaaDoor
