/-
  Items (a row and a weight) in memory: a slice of such pairs as a list, and that list in a later memory; the contracts of ZOk on both sides: both answer zOkB, at all items.
-/
import Derived.Test.YtfmgohoddaobmaaRowOk
import Derived.Test.YtfmgohoddaobmaaOrderFacts
namespace Go.Proofs.Ytfmgohoddaobmaa
open Go.RowKit

theorem below_alloc {w : World} (o : Obj) : Below w.heap.size w (w.alloc o) := (Below.refl _ _).alloc (Nat.le_refl _) _
theorem below_then {w a b : World} (h : Below w.heap.size w a) (k : Below a.heap.size a b) : Below w.heap.size w b := h.trans (k.mono h.size)
theorem IntsAt.alloc {w : World} {v : Value} {xs : List Int} (h : IntsAt w v xs) (o : Obj) : IntsAt (w.alloc o) v xs := h.below (below_alloc o)
theorem IntsAt.drewN {w : World} {v : Value} {xs : List Int} (h : IntsAt w v xs) (n : Nat) : IntsAt (w.drewN n) v xs := h.below (below_drewN (Below.refl _ _) _)
theorem IntsAt.shape {w : World} {v : Value} {xs : List Int} (h : IntsAt w v xs) : ∃ a n cap, v = .slice a n cap := by
  obtain ⟨_, a, cap, rfl, _⟩ := h
  exact ⟨_, _, _, rfl⟩

abbrev It := List Int × Int

/-- The value v is a slice of items whose elements, in the memory w, are zs. -/
def ItemsAt (w : World) (v : Value) (zs : List It) : Prop :=
  zs.length ≤ 140737488355328 ∧ ∃ (a : Option Addr) (cap : Nat), v = .slice a zs.length cap ∧ (a = none → cap = 0) ∧
    (zs ≠ [] → ∃ b off, a = some ⟨b, off, none⟩ ∧ b < w.heap.size ∧ ∀ j, j < zs.length → ∃ rv, w.cell? ⟨b, off + j * 2, none⟩ = some rv ∧ w.cell? ⟨b, off + j * 2 + 1, none⟩ = some (.int .i64 (zs.getD j ([], 0)).2) ∧ IntsAt w rv (zs.getD j ([], 0)).1)

theorem ItemsAt.below {w w' : World} {v : Value} {zs : List It} (h : ItemsAt w v zs) (hb : Below w.heap.size w w') : ItemsAt w' v zs := by
  obtain ⟨hl, a, cap, rfl, hn, hc⟩ := h
  refine ⟨hl, a, cap, rfl, hn, fun hne => ?_⟩
  obtain ⟨b, off, rfl, hbl, hcell⟩ := hc hne
  refine ⟨b, off, rfl, Nat.lt_of_lt_of_le hbl hb.size, fun j hj => ?_⟩
  obtain ⟨rv, h1, h2, h3⟩ := hcell j hj
  exact ⟨rv, (hb.cell (p := ⟨b, off + j * 2, none⟩) hbl).trans h1, (hb.cell (p := ⟨b, off + j * 2 + 1, none⟩) hbl).trans h2, h3.below hb⟩

theorem ItemsAt.cases {w : World} {v : Value} {zs : List It} (h : ItemsAt w v zs) :
    (∃ a cap, zs = [] ∧ v = .slice a 0 cap) ∨
    (∃ b off cap, 0 < zs.length ∧ zs.length ≤ 140737488355328 ∧ v = .slice (some ⟨b, off, none⟩) zs.length cap ∧ b < w.heap.size ∧ ∀ j, j < zs.length → ∃ rv, w.cell? ⟨b, off + j * 2, none⟩ = some rv ∧ w.cell? ⟨b, off + j * 2 + 1, none⟩ = some (.int .i64 (zs.getD j ([], 0)).2) ∧ IntsAt w rv (zs.getD j ([], 0)).1) := by
  obtain ⟨hl, a, cap, rfl, _, hc⟩ := h
  by_cases hx : zs = []
  · subst hx
    exact .inl ⟨a, cap, rfl, rfl⟩
  · obtain ⟨b, off, rfl, hbl, hcell⟩ := hc hx
    exact .inr ⟨b, off, cap, List.length_pos_iff.2 hx, hl, rfl, hbl, hcell⟩

/-- A weight that is right. -/
def wB (n : Int) : Bool := decide (n ≠ 0 ∧ -10000 ≤ n ∧ n ≤ 10000)
/-- What is asked at place k. -/
def stepB (zs : List It) (k : Nat) : Bool := rowOkB (zs.getD k ([], 0)).1 && wB (zs.getD k ([], 0)).2 && (decide (k = 0) || rowLessB (zs.getD (k - 1) ([], 0)).1 (zs.getD k ([], 0)).1)
/-- Items that are right. -/
def zOkB (zs : List It) : Bool := decide (zs.length ≤ 100) && (List.range zs.length).all (stepB zs)

theorem zOk_len {zs : List It} (h : ¬ zs.length ≤ 100) : zOkB zs = false := by simp [zOkB, h]
theorem zOk_miss {zs : List It} {k : Nat} (hk : k < zs.length) (h : stepB zs k = false) : zOkB zs = false := by
  have : (List.range zs.length).all (stepB zs) = false := by
    rw [List.all_eq_false]
    exact ⟨k, List.mem_range.2 hk, by simp [h]⟩
  simp [zOkB, this]
theorem zOk_all {zs : List It} (hl : zs.length ≤ 100) (h : ∀ j, j < zs.length → stepB zs j = true) : zOkB zs = true := by
  have : (List.range zs.length).all (stepB zs) = true := by
    rw [List.all_eq_true]
    exact fun k hk => h k (List.mem_range.1 hk)
  simp [zOkB, this, hl]

theorem wB_yes {n : Int} (h0 : n ≠ 0) (h1 : -10000 ≤ n) (h2 : n ≤ 10000) : wB n = true := by simp [wB, h0, h1, h2]
theorem wB_no {n : Int} (h : ¬ (n ≠ 0 ∧ -10000 ≤ n ∧ n ≤ 10000)) : wB n = false := by simp only [wB, h, decide_false]

def rowsLen (zs : List It) : Nat := (zs.map (·.1.length)).sum

end Go.Proofs.Ytfmgohoddaobmaa
