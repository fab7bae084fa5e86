/-
  Drawn items: their text can be told, and how long it is at most.
-/
import Derived.Test.YtkgopbffgahhcaaGreatDoorDrawZ
import Derived.Test.YtkgopbffgahhcaaGreatDoorZTextMath
namespace Go.Proofs.YtkgopbffgahhcaaGreatDoor

theorem GoodZ.wfz {zs : List It} (h : GoodZ zs) : WfZ zs := fun p hp => by
  obtain ⟨_, h2, h3, h4⟩ := h.2 p hp
  exact ⟨h2.wf, by omega, by omega⟩
theorem rows_seven : ∀ {zs : List It}, (∀ p ∈ zs, p.1.length ≤ 7) → rowsLen zs ≤ 7 * zs.length
  | [], _ => by simp [rowsLen]
  | p :: zs, h => by
    have h2 : rowsLen (p :: zs) = p.1.length + rowsLen zs := by simp [rowsLen]
    have h3 := h p (by simp)
    have h4 := rows_seven (zs := zs) fun q hq => h q (by simp [hq])
    rw [h2, List.length_cons]
    omega
theorem GoodZ.room {zs : List It} (h : GoodZ zs) : zs.length + rowsLen zs ≤ 1048576 := by
  have h1 := h.1
  have h2 := rows_seven fun p hp => (h.2 p hp).1
  omega
theorem GoodZ.text {zs : List It} (h : GoodZ zs) : (zTx zs).length ≤ 40000 := by
  have h0 := h.1
  have h1 := zTx_le zs h.wfz
  have h2 := rows_seven fun p hp => (h.2 p hp).1
  omega

end Go.Proofs.YtkgopbffgahhcaaGreatDoor
