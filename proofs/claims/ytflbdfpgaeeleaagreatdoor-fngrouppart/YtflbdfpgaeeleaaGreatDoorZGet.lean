/-
  The contracts of spec.ZGet and impl.ZGet (with slices.BinarySearchFunc and impl.compareItems): the weight of a row, or 0; 0 of items that are not right.
-/
import Derived.Test.YtflbdfpgaeeleaaGreatDoorStep
import Derived.Test.YtflbdfpgaeeleaaGreatDoorZOk
import Derived.Test.YtflbdfpgaeeleaaGreatDoorZSame
import Derived.Laws.BitsLemmas
namespace Go.Proofs.YtflbdfpgaeeleaaGreatDoor
open Go.RowKit

/-- The weight of the first item with that row, or 0. -/
def getZ (zs : List It) (r : List Int) : Int := ((zs.find? fun p => decide (p.1 = r)).map (·.2)).getD 0

theorem getZ_at {zs : List It} {r : List Int} {k : Nat} (hk : k < zs.length) (h : ∀ j, j < k → (zs.getD j ([], 0)).1 ≠ r) (he : (zs.getD k ([], 0)).1 = r) : getZ zs r = (zs.getD k ([], 0)).2 := by
  induction zs generalizing k with
  | nil => simp at hk
  | cons p zs ih =>
    cases k with
    | zero =>
      simp at he
      simp [getZ, he]
    | succ k =>
      have h0 := h 0 (by omega)
      simp at h0
      have := ih (k := k) (by simpa using hk) (fun j hj => by simpa using h (j + 1) (by omega)) (by simpa using he)
      simp only [getZ, List.find?_cons, h0, decide_false] at this ⊢
      simpa using this
theorem getZ_none {zs : List It} {r : List Int} (h : ∀ j, j < zs.length → (zs.getD j ([], 0)).1 ≠ r) : getZ zs r = 0 := by
  have : zs.find? (fun p => decide (p.1 = r)) = none := by
    rw [List.find?_eq_none]
    intro p hp
    obtain ⟨j, hj, rfl⟩ := mem_getD (d := ([], 0)) hp
    simpa using h j hj
  simp [getZ, this]

theorem zOk_step {zs : List It} (h : zOkB zs = true) {k : Nat} (hk : k + 1 < zs.length) : ordL (zs.getD k ([], 0)).1 (zs.getD (k + 1) ([], 0)).1 = -1 := by
  unfold zOkB at h
  rw [Bool.and_eq_true, List.all_eq_true] at h
  have := h.2 (k + 1) (List.mem_range.2 hk)
  unfold stepB at this
  rw [Bool.and_eq_true] at this
  have h2 := this.2
  simp at h2
  unfold rowLessB at h2
  have h3 := of_decide_eq_true h2
  rcases ordL_cases (zs.getD k ([], 0)).1 (zs.getD (k + 1) ([], 0)).1 with c | c | c <;> simp only [List.getD] at * <;> omega
theorem zOk_lt {zs : List It} (h : zOkB zs = true) : ∀ (d i : Nat), i + d + 1 < zs.length → ordL (zs.getD i ([], 0)).1 (zs.getD (i + d + 1) ([], 0)).1 = -1
  | 0, i, hi => zOk_step h hi
  | d + 1, i, hi => ordL_trans _ _ _ (zOk_lt h d i (by omega)) (by have := zOk_step h (k := i + d + 1) (by omega); exact this)
theorem zOk_ord {zs : List It} (h : zOkB zs = true) {i j : Nat} (hij : i < j) (hj : j < zs.length) : ordL (zs.getD i ([], 0)).1 (zs.getD j ([], 0)).1 = -1 := by
  have := zOk_lt h (j - i - 1) i (by omega)
  rwa [show i + (j - i - 1) + 1 = j by omega] at this

theorem ordL_eq {xs ys : List Int} : ordL xs ys = 0 ↔ xs = ys := by
  constructor
  · intro h
    rcases ordL_cases xs ys with c | c | c
    · omega
    · exact c.2.2
    · omega
  · rintro rfl; exact ordL_self _

theorem row_eq {x r : List Int} (hs : rowSameB x r = true) : x = r := by
  rw [same_iff] at hs
  exact of_decide_eq_true hs

set_option maxHeartbeats 4000000 in
theorem specZGet_any (v : Value) (zs : List It) (rv : Value) (r : List Int) (w : World) (h : ItemsAt w v zs) (hr : IntsAt w rv r) :
    Calls Tryz.prog 32 #[v, rv] w fun e w' => e = .returned (.int .i64 (if zOkB zs then getZ zs r else 0)) ∧ Below w.heap.size w w' := by
  have hI := h
  rcases h.cases with ⟨a, cap, rfl, rfl⟩ | ⟨b, off, cap, hpos, hlim, rfl, hbw, hc⟩
  · clear h hI hr
    go_enter Tryz.func32, Tryz.ntmps32
    go_wp2
    refine wp_loop_rounds 1 ?_
    rw [rounds_succ]
    go_wp2
    go_ret
    exact ⟨by simp [getZ], Below.refl _ _⟩
  · clear h
    obtain ⟨n, hn⟩ : ∃ n, n = zs.length := ⟨_, rfl⟩
    have HN : Hid (n = zs.length) := hn
    rw [← hn] at hpos hlim hI hc ⊢
    clear hn
    have HI : Hid (ItemsAt w (.slice (some ⟨b, off, none⟩) n cap) zs) := hI
    clear hI
    cases hok : zOkB zs with
    | false =>
      clear hc hr
      go_enter Tryz.func32, Tryz.ntmps32
      go_wp2
      refine wp_loop_rounds 1 ?_
      rw [rounds_succ]
      go_wp2_with fail
      refine (specZOk_any _ zs _ HI.out).mono ?_
      rw [hok]
      rintro e w1 ⟨rfl, hd1⟩
      have HK : Hid (Below w.heap.size w w1) := hd1.below
      clear hd1
      go_wp2
      go_ret
      exact ⟨rfl, HK.out⟩
    | true =>
      go_enter Tryz.func32, Tryz.ntmps32
      go_wp2
      go_loopw [5] (fun i wr => ∃ (k : Nat), k ≤ n ∧ i = .int .i64 k ∧ Hid (∀ j, j < k → (zs.getD j ([], 0)).1 ≠ r) ∧ Hid (Below w.heap.size w wr)) (fun i _ => n - (intOf i).toNat)
      case atStart => exact ⟨0, Nat.zero_le _, rfl, fun j hj => by omega, Below.refl _ _⟩
      case round =>
        obtain ⟨k, hk, rfl, HS, HW⟩ := hrel
        by_cases hlt : k < n
        · have hlt' : k < zs.length := by rw [← HN.out]; exact hlt
          go_wp2_with fail
          refine (specZOk_any _ zs _ (HI.out.below HW.out)).mono ?_
          rw [hok]
          rintro e w5 ⟨rfl, hd5⟩
          have HB := below_then HW.out hd5.below
          obtain ⟨xv, hrv0, hwt0, hix0⟩ := hc k hlt
          have hrv := (HB.cell (p := ⟨b, off + k * 2, none⟩) hbw).trans hrv0
          have hix := hix0.below HB
          have hr5 := hr.below HB
          clear hrv0 hix0 hd5 HW
          obtain ⟨x, HX⟩ : ∃ x, Hid (x = (zs.getD k ([], 0)).1) := ⟨_, rfl⟩
          obtain ⟨y, HY⟩ : ∃ y, Hid (y = (zs.getD k ([], 0)).2) := ⟨_, rfl⟩
          rw [← HX.out] at hix
          rw [← HY.out] at hwt0
          cases hs : rowSameB x r with
          | false =>
            go_wp2_with fail
            refine (specRowSame_val hs hix hr5).mono ?_
            rintro e w6 ⟨rfl, hd6⟩
            have HK : Hid (Below w.heap.size w w6) := below_then HB hd6.below
            clear hix hr5 hd6 HB hc hr
            go_wp2
            go_roundw
            case rel => exact ⟨k + 1, by omega, by go_num, fun j hj => by
              rcases Nat.lt_succ_iff_lt_or_eq.1 hj with h | h
              · exact HS.out j h
              · rw [h, ← HX.out]; intro e; subst e; rw [same_self] at hs; simp at hs, HK.out⟩
            case measure => simp [intOf]; omega
          | true =>
            go_wp2_with fail
            refine (specRowSame_val hs hix hr5).mono ?_
            rintro e w6 ⟨rfl, hd6⟩
            have HK : Hid (Below w.heap.size w w6) := below_then HB hd6.below
            have hwt := (HK.out.cell (p := ⟨b, off + k * 2 + 1, none⟩) hbw).trans hwt0
            have hxr : Hid (x = r) := row_eq hs
            clear hix hr5 hd6 HB hc hr hwt0
            go_wp2
            go_ret
            exact ⟨ret_int (by rw [getZ_at hlt' HS.out (by rw [← HX.out]; exact hxr.out), HY.out]), HK.out⟩
        · have e : k = n := by omega
          subst e
          clear hc hr
          go_wp2
          go_ret
          exact ⟨ret_int (by rw [getZ_none (by rw [← HN.out]; exact HS.out)]), HW.out⟩

set_option maxHeartbeats 2000000 in
theorem compareItems_any (a : Option Addr) (n cap : Nat) (y : Int) (xs : List Int) (a2 : Option Addr) (n2 cap2 : Nat) (y2 : Int) (xs2 : List Int) (w : World) (h : IntsAt w (.slice a n cap) xs) (h2 : IntsAt w (.slice a2 n2 cap2) xs2) :
    Calls Tryz.prog 24 #[.agg #[.slice a n cap, .int .i64 y], .agg #[.slice a2 n2 cap2, .int .i64 y2]] w fun e w' => e = .returned (.int .i64 (ordL xs xs2)) ∧ Below w.heap.size w w' := by
  have ha := (h.alloc (.cells #[.slice a n cap, .int .i64 y] 36)).alloc (.cells #[.slice a2 n2 cap2, .int .i64 y2] 36)
  have ha2 := (h2.alloc (.cells #[.slice a n cap, .int .i64 y] 36)).alloc (.cells #[.slice a2 n2 cap2, .int .i64 y2] 36)
  clear h h2
  go_enter Tryz.func24, Tryz.ntmps24
  go_wp2_with fail
  refine (compareRows_q _ _ xs xs2 _ ha ha2).mono ?_
  rintro e w1 ⟨rfl, hd1⟩
  have HK : Hid (Below w.heap.size w w1) := below_then (below_then (below_alloc _) (below_alloc _)) hd1.below
  clear ha ha2 hd1
  go_wp2
  go_ret
  exact ⟨rfl, HK.out⟩

end Go.Proofs.YtflbdfpgaeeleaaGreatDoor
