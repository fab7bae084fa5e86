/-
  The contracts of spec.ZGet and impl.ZGet (with slices.BinarySearchFunc and impl.compareItems): the weight of a row, or 0; 0 of items that are not right.
-/
import Derived.Test.YtjaehoehfmklcaaStep
import Derived.Test.YtjaehoehfmklcaaZOk
import Derived.Test.YtjaehoehfmklcaaZSame
import Derived.Laws.BitsLemmas
namespace Go.Proofs.Ytjaehoehfmklcaa
open Go.RowKit

/-- The weight of the first item with that row, or 0. -/
def getZ (zs : List It) (r : List Int) : Int := ((zs.find? fun p => decide (p.1 = r)).map (·.2)).getD 0

theorem getZ_at {zs : List It} {r : List Int} {k : Nat} (hk : k < zs.length) (h : ∀ j, j < k → (zs.getD j ([], 0)).1 ≠ r) (he : (zs.getD k ([], 0)).1 = r) : getZ zs r = (zs.getD k ([], 0)).2 := by
  induction zs generalizing k with
  | nil => simp at hk
  | cons p zs ih =>
    cases k with
    | zero =>
      simp at he
      simp [getZ, he]
    | succ k =>
      have h0 := h 0 (by omega)
      simp at h0
      have := ih (k := k) (by simpa using hk) (fun j hj => by simpa using h (j + 1) (by omega)) (by simpa using he)
      simp only [getZ, List.find?_cons, h0, decide_false] at this ⊢
      simpa using this
theorem getZ_none {zs : List It} {r : List Int} (h : ∀ j, j < zs.length → (zs.getD j ([], 0)).1 ≠ r) : getZ zs r = 0 := by
  have : zs.find? (fun p => decide (p.1 = r)) = none := by
    rw [List.find?_eq_none]
    intro p hp
    obtain ⟨j, hj, rfl⟩ := mem_getD (d := ([], 0)) hp
    simpa using h j hj
  simp [getZ, this]

theorem zOk_step {zs : List It} (h : zOkB zs = true) {k : Nat} (hk : k + 1 < zs.length) : ordL (zs.getD k ([], 0)).1 (zs.getD (k + 1) ([], 0)).1 = -1 := by
  unfold zOkB at h
  rw [Bool.and_eq_true, List.all_eq_true] at h
  have := h.2 (k + 1) (List.mem_range.2 hk)
  unfold stepB at this
  rw [Bool.and_eq_true] at this
  have h2 := this.2
  simp at h2
  unfold rowLessB at h2
  have h3 := of_decide_eq_true h2
  rcases ordL_cases (zs.getD k ([], 0)).1 (zs.getD (k + 1) ([], 0)).1 with c | c | c <;> simp only [List.getD] at * <;> omega
theorem zOk_lt {zs : List It} (h : zOkB zs = true) : ∀ (d i : Nat), i + d + 1 < zs.length → ordL (zs.getD i ([], 0)).1 (zs.getD (i + d + 1) ([], 0)).1 = -1
  | 0, i, hi => zOk_step h hi
  | d + 1, i, hi => ordL_trans _ _ _ (zOk_lt h d i (by omega)) (by have := zOk_step h (k := i + d + 1) (by omega); exact this)
theorem zOk_ord {zs : List It} (h : zOkB zs = true) {i j : Nat} (hij : i < j) (hj : j < zs.length) : ordL (zs.getD i ([], 0)).1 (zs.getD j ([], 0)).1 = -1 := by
  have := zOk_lt h (j - i - 1) i (by omega)
  rwa [show i + (j - i - 1) + 1 = j by omega] at this

theorem ordL_eq {xs ys : List Int} : ordL xs ys = 0 ↔ xs = ys := by
  constructor
  · intro h
    rcases ordL_cases xs ys with c | c | c
    · omega
    · exact c.2.2
    · omega
  · rintro rfl; exact ordL_self _

theorem row_eq {x r : List Int} (hs : rowSameB x r = true) : x = r := by
  rw [same_iff] at hs
  exact of_decide_eq_true hs

set_option maxHeartbeats 2000000 in
theorem compareItems_any (a : Option Addr) (n cap : Nat) (y : Int) (xs : List Int) (a2 : Option Addr) (n2 cap2 : Nat) (y2 : Int) (xs2 : List Int) (w : World) (h : IntsAt w (.slice a n cap) xs) (h2 : IntsAt w (.slice a2 n2 cap2) xs2) :
    Calls Try.prog 33 #[.agg #[.slice a n cap, .int .i64 y], .agg #[.slice a2 n2 cap2, .int .i64 y2]] w fun e w' => e = .returned (.int .i64 (ordL xs xs2)) ∧ Below w.heap.size w w' := by
  have ha := (h.alloc (.cells #[.slice a n cap, .int .i64 y] 31)).alloc (.cells #[.slice a2 n2 cap2, .int .i64 y2] 31)
  have ha2 := (h2.alloc (.cells #[.slice a n cap, .int .i64 y] 31)).alloc (.cells #[.slice a2 n2 cap2, .int .i64 y2] 31)
  clear h h2
  go_enter Try.func33, Try.ntmps33
  go_wp2_with fail
  refine (compareRows_q _ _ xs xs2 _ ha ha2).mono ?_
  rintro e w1 ⟨rfl, hd1⟩
  have HK : Hid (Below w.heap.size w w1) := below_then (below_then (below_alloc _) (below_alloc _)) hd1.below
  clear ha ha2 hd1
  go_wp2
  go_ret
  exact ⟨rfl, HK.out⟩

end Go.Proofs.Ytjaehoehfmklcaa
