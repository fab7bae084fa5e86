/-
  The contracts of the laws' helpers on items: laws.szItemS (how much it is), laws.toItemS (a copy in new memory), laws.eqItemS (equal as lists).
-/
import Derived.Test.YtjaehoehfmklcaaOwnZ
import Derived.Test.YtjaehoehfmklcaaInts
import Derived.Deep.RegionWith
namespace Go.Proofs.Ytjaehoehfmklcaa
open Go.RowKit

/-- How many cells the rows have together. -/
theorem rowsLen_take {zs : List It} {k : Nat} (hk : k < zs.length) : rowsLen (zs.take (k + 1)) = rowsLen (zs.take k) + (zs.getD k ([], 0)).1.length := by
  unfold rowsLen
  rw [List.take_succ_eq_append_getElem hk, List.map_append, List.sum_append]
  simp [List.getD, hk]
theorem rowsLen_at {zs : List It} {k : Nat} (hk : k < zs.length) : (zs.getD k ([], 0)).1.length ≤ rowsLen zs := by
  have h1 := rowsLen_take hk
  have h2 : rowsLen zs = rowsLen (zs.take (k + 1)) + rowsLen (zs.drop (k + 1)) := by
    unfold rowsLen
    rw [← List.sum_append, ← List.map_append, List.take_append_drop]
  omega

/-- As IntsAt, of whatever length a slice may have. -/
def RawInts (w : World) (v : Value) (xs : List Int) : Prop :=
  xs.length ≤ 9223372036854775807 ∧ ∃ (a : Option Addr) (cap : Nat), v = .slice a xs.length cap ∧ (a = none → cap = 0) ∧
    (xs ≠ [] → ∃ b off, a = some ⟨b, off, none⟩ ∧ b < w.heap.size ∧ ∀ j, j < xs.length → w.cell? ⟨b, off + j, none⟩ = some (.int .i64 (xs.getD j 0)))
theorem RawInts.ints {w : World} {v : Value} {xs : List Int} (h : RawInts w v xs) (hl : xs.length ≤ 140737488355328) : IntsAt w v xs := ⟨hl, h.2⟩
theorem RawInts.below {w w' : World} {v : Value} {xs : List Int} (h : RawInts w v xs) (hb : Below w.heap.size w w') : RawInts w' v xs := by
  obtain ⟨hl, a, cap, rfl, hn, hc⟩ := h
  refine ⟨hl, a, cap, rfl, hn, fun hne => ?_⟩
  obtain ⟨b, off, rfl, hbl, hcell⟩ := hc hne
  exact ⟨b, off, rfl, Nat.lt_of_lt_of_le hbl hb.size, fun j hj => (hb.cell (p := ⟨b, off + j, none⟩) hbl).trans (hcell j hj)⟩
/-- As ItemsAt, of whatever lengths slices may have. -/
def RawItems (w : World) (v : Value) (zs : List It) : Prop :=
  zs.length ≤ 9223372036854775807 ∧ ∃ (a : Option Addr) (cap : Nat), v = .slice a zs.length cap ∧ (a = none → cap = 0) ∧
    (zs ≠ [] → ∃ b off, a = some ⟨b, off, none⟩ ∧ b < w.heap.size ∧ ∀ j, j < zs.length → ∃ rv, w.cell? ⟨b, off + j * 2, none⟩ = some rv ∧ w.cell? ⟨b, off + j * 2 + 1, none⟩ = some (.int .i64 (zs.getD j ([], 0)).2) ∧ RawInts w rv (zs.getD j ([], 0)).1)
theorem RawItems.below {w w' : World} {v : Value} {zs : List It} (h : RawItems w v zs) (hb : Below w.heap.size w w') : RawItems w' v zs := by
  obtain ⟨hl, a, cap, rfl, hn, hc⟩ := h
  refine ⟨hl, a, cap, rfl, hn, fun hne => ?_⟩
  obtain ⟨b, off, rfl, hbl, hcell⟩ := hc hne
  refine ⟨b, off, rfl, Nat.lt_of_lt_of_le hbl hb.size, fun j hj => ?_⟩
  obtain ⟨rv, h1, h2, h3⟩ := hcell j hj
  exact ⟨rv, (hb.cell (p := ⟨b, off + j * 2, none⟩) hbl).trans h1, (hb.cell (p := ⟨b, off + j * 2 + 1, none⟩) hbl).trans h2, h3.below hb⟩
theorem RawItems.items {w : World} {v : Value} {zs : List It} (h : RawItems w v zs) (hl : zs.length + rowsLen zs ≤ 1048576) : ItemsAt w v zs := by
  obtain ⟨_, a, cap, rfl, hn, hc⟩ := h
  refine ⟨by omega, a, cap, rfl, hn, fun hne => ?_⟩
  obtain ⟨b, off, rfl, hb, hcell⟩ := hc hne
  refine ⟨b, off, rfl, hb, fun j hj => ?_⟩
  obtain ⟨rv, h1, h2, h3⟩ := hcell j hj
  exact ⟨rv, h1, h2, h3.ints (by have := rowsLen_at hj; omega)⟩

theorem Own.one {w : World} {g n : Nat} {xs : List Int} (h : w.ownsRow g 3 1 (.slice (some ⟨g, 0, none⟩) n n) n (xs.map (Value.int .i64))) (hl : xs.length ≤ 140737488355328) : Own w g (g + 1) (.slice (some ⟨g, 0, none⟩) n n) xs := by
  have hn : n = xs.length := by simpa using h.1.symm
  subst hn
  refine ⟨h, fun k hk => ?_, hl, ?_⟩
  · simp [Value.ownBlock] at hk; omega
  · exact (h.lt g rfl).2

/-- What stands in the copy behind k rounds. -/
def zTo (zs : List It) (k : Nat) : List It := zs.take k ++ List.replicate (zs.length - k) ([], 0)
theorem zTo_all (zs : List It) : zTo zs zs.length = zs := by simp [zTo]
theorem zTo_length (zs : List It) (k : Nat) (hk : k ≤ zs.length) : (zTo zs k).length = zs.length := by simp [zTo]; omega
theorem zTo_set (zs : List It) (k : Nat) (hk : k < zs.length) : (zTo zs k).set k (zs.getD k ([], 0)) = zTo zs (k + 1) := by
  unfold zTo
  rw [List.set_append_right _ _ (by simp; omega)]
  have h1 : k - (zs.take k).length = 0 := by simp; omega
  rw [h1]
  obtain ⟨m, hm⟩ : ∃ m, zs.length - k = m + 1 := ⟨zs.length - k - 1, by omega⟩
  have hm' : zs.length - (k + 1) = m := by omega
  have h2 : zs.getD k ([], 0) = zs[k] := by simp [List.getD, hk]
  rw [hm, hm', List.replicate_succ, List.set_cons_zero, List.take_succ_eq_append_getElem hk, h2, List.append_assoc]
  rfl

theorem zeros_own {w : World} {lo : Nat} {v : Value} {n : Nat} (h : w.ownsRow lo 31 2 v n (cells2 (List.replicate n (vn, 0)))) (hl : n ≤ 140737488355328) : OwnZ w lo w.heap.size v (List.replicate n ([], 0)) := by
  refine ⟨List.replicate n (vn, 0), by simp, spine_new h (by simpa using hl), fun j hj => ?_, fun i j k _ hj hk => ?_⟩
  · have e1 : ((List.replicate n (vn, (0 : Int))).getD j (vn, 0)).1 = vn := by
      have hj' : j < n := by simpa using hj
      simp [List.getD, hj']
    have e2 : ((List.replicate n (([] : List Int), (0 : Int))).getD j ([], 0)).1 = [] := by
      have hj' : j < n := by simpa using hj
      simp [List.getD, hj']
    rw [e1, e2]
    exact ⟨World.ownsRow_nil _ _ _ _, fun k hk => by simp [vn, Value.ownBlock] at hk, by simp, Nat.le_refl _⟩
  · have e1 : ((List.replicate n (vn, (0 : Int))).getD i (vn, 0)).1 = vn := by
      simp only [List.getD, List.getElem?_replicate]
      split <;> rfl
    rw [e1] at hk
    simp [vn, Value.ownBlock] at hk

theorem cells2_zeros (n : Nat) : cells2 (List.replicate n (vn, 0)) = (madeCells #[.slice none 0 0, .int .i64 0] (n * 2)).toList := by
  apply List.ext_getElem?
  intro j
  by_cases hj : j < n * 2
  · have h1 : (madeCells #[Value.slice none 0 0, .int .i64 0] (n * 2)).toList[j]? = some (if j % 2 = 0 then .slice none 0 0 else .int .i64 0) := by
      rcases Nat.mod_two_eq_zero_or_one j with h | h <;> simp [madeCells, hj, h]
    rw [h1]
    obtain ⟨q, r, hq, hr⟩ : ∃ q r, j = q * 2 + r ∧ r < 2 := ⟨j / 2, j % 2, by omega, by omega⟩
    have hqn : q < (List.replicate n (vn, (0 : Int))).length := by simp; omega
    rcases Nat.lt_succ_iff_lt_or_eq.1 hr with h | h
    · obtain rfl : r = 0 := by omega
      subst hq
      rw [Nat.add_zero, cells2_get0 _ _ hqn, if_pos (by omega)]
      simp [List.getD, show q < n by omega, vn]
    · subst h hq
      rw [cells2_get1 _ _ hqn, if_neg (by omega)]
      simp [List.getD, show q < n by omega]
  · rw [List.getElem?_eq_none (by rw [cells2_length]; simp; omega), List.getElem?_eq_none (by simp [madeCells]; omega)]

/-- Two items are one. -/
def itB (p q : It) : Bool := sameB p.1 q.1 && decide (p.2 = q.2)

def zSameB (zs ys : List It) : Bool := decide (zs = ys)
theorem zSameB_refl (zs : List It) : zSameB zs zs = true := by simp [zSameB]
theorem itB_eq {p q : It} (h : itB p q = true) : p = q := by
  unfold itB sameB at h
  simp at h
  exact Prod.ext h.1 h.2
theorem itB_ne {p q : It} (h : itB p q = false) : p ≠ q := by
  intro e
  subst e
  simp [itB, sameB] at h
theorem zSameB_of (xs ys : List It) (hl : xs.length = ys.length) (h : ∀ j, j < xs.length → xs.getD j ([], 0) = ys.getD j ([], 0)) : zSameB xs ys = true := by
  unfold zSameB
  rw [decide_eq_true_iff]
  apply List.ext_getElem hl
  intro j h1 h2
  have := h j h1
  simpa [List.getD, h1, h2] using this
theorem zSameB_len (xs ys : List It) (hl : xs.length ≠ ys.length) : zSameB xs ys = false := by
  unfold zSameB
  rw [decide_eq_false_iff_not]
  intro h; exact hl (by rw [h])
theorem zSameB_at (xs ys : List It) (j : Nat) (h : xs.getD j ([], 0) ≠ ys.getD j ([], 0)) : zSameB xs ys = false := by
  unfold zSameB
  rw [decide_eq_false_iff_not]
  intro e; exact h (by rw [e])

end Go.Proofs.Ytjaehoehfmklcaa
