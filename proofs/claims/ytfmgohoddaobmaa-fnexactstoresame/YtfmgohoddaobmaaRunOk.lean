/-
  The contracts of impl.runsTogether, impl.RunOk, impl.RunAll, of spec.l7Sum, spec.RunOk, spec.RunAll: both sides answer runOkB and sumR, at all runs.
-/
import Derived.Test.YtfmgohoddaobmaaRunsMem
import Derived.Test.YtfmgohoddaobmaaRunsMath
namespace Go.Proofs.Ytfmgohoddaobmaa
set_option maxRecDepth 100000
open Go.RowKit

theorem ret2 {v : Value} {a b : Bool} (h : a = b) : Ending.returned (.tuple #[v, .bool a]) = .returned (.tuple #[v, .bool b]) := by rw [h]
def togOut (zss : Rn) : List It := if runOkB zss then sumR zss else []

theorem RunsAt.take {w : World} {a : Option Addr} {n cap : Nat} {zss : Rn} (h : RunsAt w (.slice a n cap) zss) {k : Nat} (hk : k ≤ n) : RunsAt w (.slice a k cap) (zss.take k) := by
  obtain ⟨hl, a', cap', he, hn, hc1, hc2, hc⟩ := h
  simp only [Value.slice.injEq] at he
  obtain ⟨rfl, rfl, rfl⟩ := he
  have hlt : (zss.take k).length = k := by rw [List.length_take]; omega
  refine ⟨by omega, a, cap, by rw [hlt], hn, by omega, hc2, fun hne => ?_⟩
  have hk0 : 0 < k := by
    rcases Nat.eq_zero_or_pos k with h | h
    · subst h; simp at hne
    · exact h
  obtain ⟨b, off, rfl, hb, hcell⟩ := hc (fun e => by subst e; simp at hk; omega)
  refine ⟨b, off, rfl, hb, fun j hj => ?_⟩
  rw [hlt] at hj
  obtain ⟨rv, h1, h2⟩ := hcell j (by omega)
  refine ⟨rv, h1, ?_⟩
  have : (zss.take k).getD j [] = zss.getD j [] := by simp [List.getD, hj]
  rw [this]
  exact h2

theorem OwnZ.shapeN {w : World} {lo hi : Nat} {v : Value} {zs : List It} (h : OwnZ w lo hi v zs) : ∃ a n c, v = .slice a n c := by
  obtain ⟨a, c, e⟩ := h.shape
  exact ⟨a, _, c, e⟩
theorem RunsAt.shapeN {w : World} {v : Value} {zss : Rn} (h : RunsAt w v zss) : ∃ a n c, v = .slice a n c := by
  obtain ⟨a, c, e⟩ := h.shape
  exact ⟨a, _, c, e⟩

end Go.Proofs.Ytfmgohoddaobmaa
