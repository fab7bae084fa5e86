/-
  The contracts of impl.RunGet (a cursor in each run) and spec.RunGet: how often a row is in all runs together.
-/
import Derived.Test.YtegnoebpnpdogabRunOkSpec
import Derived.Test.YtegnoebpnpdogabSearch
namespace Go.Proofs.Ytegnoebpnpdogab
set_option maxRecDepth 100000
open Go.RowKit

theorem ItemsAt.each {w : World} {b off n cap : Nat} {zs : List It} (h : ItemsAt w (.slice (some ⟨b, off, none⟩) n cap) zs) : ∀ j, j < zs.length → ∃ rv, w.cell? ⟨b, off + j * 2, none⟩ = some rv ∧ w.cell? ⟨b, off + j * 2 + 1, none⟩ = some (.int .i64 (zs.getD j ([], 0)).2) ∧ IntsAt w rv (zs.getD j ([], 0)).1 := by
  obtain ⟨_, a, c, he, _, hc⟩ := h
  simp only [Value.slice.injEq] at he
  intro j hj
  obtain ⟨b', off', ha, _, hcell⟩ := hc (fun e => by subst e; simp at hj)
  rw [ha] at he
  obtain ⟨e1, _, _⟩ := he
  simp only [Option.some.injEq, Addr.mk.injEq] at e1
  obtain ⟨rfl, rfl, _⟩ := e1
  exact hcell j hj

def getR (zss : Rn) (r : List Int) : Int := if runOkB zss then getZ (sumR zss) r else 0
theorem getR_step {zss : Rn} {k : Nat} (h : ∀ j, j < zss.length → zOkB (zss.getD j []) = true) (hk : k < zss.length) (r : List Int) : getZ (sumR (zss.take (k + 1))) r = getZ (sumR (zss.take k)) r + getZ (zss.getD k []) r := by
  rw [sumR_take hk, getZ_add (light_sum h k (by omega)).1 (zOk_srt (h k hk))]

end Go.Proofs.Ytegnoebpnpdogab
