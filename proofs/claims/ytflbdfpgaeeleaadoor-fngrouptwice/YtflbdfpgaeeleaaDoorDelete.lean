/-
  The contracts of slices.IndexFunc and slices.DeleteFunc at items and the closure that asks for a weight of 0: pairs of the call's own, without those.
-/
import Derived.Test.YtflbdfpgaeeleaaDoorMerge
import Derived.Laws.IdiomCopy
namespace Go.Proofs.YtflbdfpgaeeleaaDoor
set_option maxRecDepth 100000
open Go.RowKit
attribute [local go_sem ↓] Go.wp_at_zero Go.wp_at_succ

/-- The first place with a weight of 0. -/
def zAt (ps : List (Value × Int)) : Option Nat := ps.findIdx? fun p => decide (p.2 = 0)

theorem shape_getD {ps : List (Value × Int)} (hs : ∀ p ∈ ps, ∃ a n c, p.1 = Value.slice a n c) {k : Nat} (hk : k < ps.length) : ∃ a n c, (ps.getD k (vn, 0)).1 = Value.slice a n c := hs _ (by simp [List.getD, hk])

theorem run_clear_pairs (w : World) (ty : TypeId) (g a m c : Nat) (hm : 0 < m) (hc : ∀ j, j < m * 2 → (w.cell? ⟨g, a + j, none⟩).isSome = true) (hf : ∀ j, j < m * 2 → w.frozen? ⟨g, a + j, none⟩ = false) :
    (Builtin.clear_ #[23] ty #[.slice (some ⟨g, a, none⟩) m c]).run Tryd.prog w = .ok (.tuple #[]) (w.setCells g a (Builtin.zeroCells #[.slice none 0 0, .int .i64 0] m).toList) := by
  obtain ⟨i0, hi0, hz0, hz1, hz2⟩ := info_parts infoItem
  have hl : (Builtin.zeroCells #[Value.slice none 0 0, .int .i64 0] m).toList.length = m * 2 := by simp [Builtin.zeroCells]
  have h1 : ∀ u ∈ (Builtin.zeroCells #[Value.slice none 0 0, .int .i64 0] m).toList, u.oneCell' = true := by
    intro u hu
    simp [Builtin.zeroCells] at hu
    obtain ⟨j, _, rfl⟩ := hu
    rcases Nat.mod_two_eq_zero_or_one j with e | e <;> rw [e] <;> rfl
  have hst := run_storeCells_cells (P := Tryd.prog) g a (Builtin.zeroCells #[.slice none 0 0, .int .i64 0] m).toList 0 w (by rw [hl]; simpa using hc) (by rw [hl]; simpa using hf) h1
  simp only [Nat.add_zero] at hst
  have hv : ∀ w, (zeroValue 31).run Tryd.prog w = .ok (.agg #[.slice none 0 0, .int .i64 0]) w := fun w => by simp [zeroValue, typeInfo, hi0, hz0]
  obtain ⟨k, rfl⟩ : ∃ k, m = k + 1 := ⟨m - 1, by omega⟩
  simp [Builtin.clear_, run_underlying Tryd.underlying23, hv, hst, Value.cells]

theorem setCell_grown (w : World) (g o : Nat) (v : Value) : w.grownBy (w.setCell ⟨g, o, none⟩ v) (some g) :=
  ⟨rfl, rfl, rfl, by simp, fun k _ hk => Below.heap_setCell w ⟨g, o, none⟩ v k (fun e => hk (congrArg some e))⟩
theorem setCells_grown (g : Nat) : ∀ (vs : List Value) (o : Nat) (w : World), w.grownBy (w.setCells g o vs) (some g)
  | [], _, w => grown_refl _ _
  | v :: vs, o, w => by
    have h1 := setCell_grown w g o v
    have h2 := setCells_grown g vs (o + 1) (w.setCell ⟨g, o, none⟩ v)
    exact grown_trans h1 h2

theorem Spine.beyond {lo hi g n cap : Nat} {ps : List (Value × Int)} : ∀ (vs : List Value) {w : World} (o : Nat), Spine w lo hi (.slice (some ⟨g, 0, none⟩) n cap) ps → ps.length * 2 ≤ o → Spine (w.setCells g o vs) lo hi (.slice (some ⟨g, 0, none⟩) n cap) ps
  | [], _, _, h, _ => h
  | u :: vs, w, o, h, ho => by
    have hn : n = ps.length := by
      rcases h.1.2 with ⟨e, _⟩ | ⟨_, _, _, e, _⟩ <;> simp at e
      exact e.2.1
    subst hn
    have hst := h.1.stored o u
    rw [List.set_eq_of_length_le (by rw [cells2_length]; omega)] at hst
    exact Spine.beyond vs (o + 1) ⟨hst.1, h.2.1, h.2.2.1, Nat.le_trans h.2.2.2 hst.2.size⟩ (by omega)

def nzR (x : Rw) : Bool := decide (x.2.2 ≠ 0)
theorem nz_all {l : List Rw} (h : ∀ j, j < (prs l).length → ((prs l).getD j (vn, 0)).2 ≠ 0) : l.filter nzR = l := by
  rw [List.filter_eq_self]
  intro x hx
  obtain ⟨j, hj, rfl⟩ := List.getElem_of_mem hx
  have := h j (by rw [prs_length]; exact hj)
  simp [prs, List.getD, hj] at this
  simp [nzR, this]
theorem nz_start {l : List Rw} {k : Nat} (hk : k < l.length) (h0 : ((prs l).getD k (vn, 0)).2 = 0) (h : ∀ j, j < k → ((prs l).getD j (vn, 0)).2 ≠ 0) : (prs l).take k = prs ((l.take (k + 1)).filter nzR) := by
  have e1 : (l.take k).filter nzR = l.take k := by
    refine nz_all fun j hj => ?_
    rw [prs_length, List.length_take] at hj
    have := h j (by omega)
    rw [prs_take]
    simpa [List.getD, List.getElem?_take, show j < k by omega] using this
  have e2 : nzR l[k] = false := by
    simp [prs, List.getD, hk] at h0
    simp [nzR, h0]
  rw [List.take_succ_eq_append_getElem hk, List.filter_append, e1, ← prs_take]
  simp [prs, e2]
theorem nz_take {l : List Rw} {b : Nat} (hb : b < l.length) : (l.take (b + 1)).filter nzR = (l.take b).filter nzR ++ (if ((prs l).getD b (vn, 0)).2 = 0 then [] else [l[b]]) := by
  rw [List.take_succ_eq_append_getElem hb, List.filter_append]
  have e : ((prs l).getD b (vn, 0)).2 = l[b].2.2 := by simp [prs, List.getD, hb]
  rw [e]
  by_cases h : l[b].2.2 = 0 <;> simp [nzR, h]

theorem getD_drop {α : Type} {l m : List α} {b : Nat} {d : α} (h : l.drop b = m.drop b) : l.getD b d = m.getD b d := by
  have h1 : (l.drop b)[0]? = (m.drop b)[0]? := by rw [h]
  simp only [List.getElem?_drop, Nat.add_zero] at h1
  simp [List.getD, h1]
theorem drop_more {α : Type} {l m : List α} {b : Nat} (h : l.drop b = m.drop b) : l.drop (b + 1) = m.drop (b + 1) := by
  rw [← List.drop_drop, ← List.drop_drop, h]

end Go.Proofs.YtflbdfpgaeeleaaDoor
