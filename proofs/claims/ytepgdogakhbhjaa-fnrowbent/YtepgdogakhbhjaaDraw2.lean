/-
  The draws of one row and of two rows: spec.l1Two, DrawRowOk, DrawRowLess, DrawRowJoin.
-/
import Derived.Test.YtepgdogakhbhjaaDraw
namespace Go.Proofs.Ytepgdogakhbhjaa
open Go.RowKit

theorem Own.front {w : World} {lo hi g cap m : Nat} {xs : List Int} (h : Own w lo hi (.slice (some ⟨g, 0, none⟩) xs.length cap) xs) (hm : m ≤ xs.length) : IntsAt w (.slice (some ⟨g, 0, none⟩) m cap) (xs.take m) := by
  have hlen : (xs.take m).length = m := by simp; omega
  refine ⟨by have := h.2.2.1; omega, _, _, by rw [hlen], fun h => by simp at h, fun hne => ⟨g, 0, rfl, ?_, fun j hj => ?_⟩⟩
  · exact (h.1.lt g rfl).2
  · rw [hlen] at hj
    rw [Nat.zero_add, h.1.cellAt j (by omega)]
    have hj2 : j < xs.length := by omega
    simp [List.getD, hj, hj2]

theorem l12Open_below {w w1 : World} (h : Below w.heap.size w w1) {w' : World} (hg : w1.grownBy w' (some w.heap.size)) : Below w.heap.size w w' := h.grown hg h.size (fun k hk => by simp at hk; omega)

set_option maxHeartbeats 2000000 in
theorem l1Two_any (a : Option Addr) (len cap : Nat) (zs : List Int) (w : World) (h : IsRow .u8 w a len cap zs) :
    Calls Try.prog 17 #[.slice a len cap] w fun e w' =>
      ∃ v v2, e = .returned (.tuple #[v, v2]) ∧ ∃ xs ys : List Int, xs.length ≤ 7 ∧ ys.length ≤ 7 ∧ IntsAt w' v xs ∧ IntsAt w' v2 ys ∧ Below w.heap.size w w' := by
  go_enter Try.func17, Try.ntmps17
  go_wp2_with fail
  refine (l12Open_any a len cap zs _ h).mono ?_
  rintro e w1 ⟨rfl, hrd1, hb1⟩
  have hgl := hrd1.lt
  clear h
  go_wp2_with fail
  refine (l1Bent_any _ _ _ (by omega) hrd1).mono ?_
  rintro e w2 ⟨v, rfl, xs, hxl, ho2, hrd2, hg2⟩
  have hk2 := l12Open_below hb1 hg2
  have hs2 := hg2.size
  clear hrd1 hg2 hb1
  go_wp2_with fail
  refine (pick_any _ _ 4 _ (by omega) (by omega) (by omega) hrd2).mono ?_
  rintro e w3 ⟨r, hr0, hr4, rfl, hrd3, hg3⟩
  have hk3 := l12Open_below hk2 hg3
  have ho3 := ho2.kept hg3 (fun k hk => by simp at hk; omega)
  clear hrd2 hg3 hk2 ho2
  by_cases hz : r = 0
  · subst hz
    go_wp2_with fail
    refine (l1Copy_any v xs _ ho3.ints (by omega)).mono ?_
    rintro e w4 ⟨v2, rfl, ho4, hb4⟩
    have hx4 := ho3.ints.below hb4
    have hy4 := ho4.ints
    have hk4 : Below w.heap.size w w4 := hk3.trans (hb4.mono hk3.size)
    clear hrd3 ho3 ho4 hb4 hk3
    go_wp2
    go_ret2
    exact ⟨_, _, rfl, xs, xs, hxl, hxl, hx4, hy4, hk4⟩
  · have hrz : (r == 0) = false := by simp [hz]
    have hs3 := ho3.2.2.2
    clear hz
    go_wp2_with fail
    refine (l1Bent_any _ _ _ (by omega) hrd3).mono ?_
    rintro e w4 ⟨v2, rfl, ys, hyl, ho4, hrd4, hg4⟩
    have hk4 := l12Open_below hk3 hg4
    have hx4 := ho3.kept hg4 (fun k hk => by simp at hk; omega)
    have hs4 := hg4.size
    clear hrd3 hg4 hk3 ho3
    go_wp2_with fail
    refine (pick_any _ _ 4 _ (by omega) (by omega) (by omega) hrd4).mono ?_
    rintro e w5 ⟨q, hq0, hq4, rfl, hrd5, hg5⟩
    have hk5 := l12Open_below hk4 hg5
    have ho5 := hx4.kept hg5 (fun k hk => by simp at hk; omega)
    have hp5 := ho4.kept hg5 (fun k hk => by simp at hk; omega)
    clear hrd4 hg5 hk4 hx4 ho4 hrd5
    by_cases hn : 1 < xs.length
    · obtain ⟨go, cp, hv, -, -, hcp, hcm⟩ := ho5.shape (by omega)
      unfold maxLen at hcm
      subst hv
      have hf5 := ho5.front (m := xs.length - 1) (by omega)
      have hx5 := ho5.ints
      have hy5 := hp5.ints
      have hb5 : ∀ n, Below w5.heap.size w5 (w5.drewN n) := fun n => below_drewN (Below.refl _ _) n
      have hlen : (xs.take (xs.length - 1)).length ≤ 7 := by simp; omega
      obtain ⟨ts, HT⟩ : ∃ ts, Hid (ts = xs.take (xs.length - 1)) := ⟨_, rfl⟩
      rw [← HT.out] at hf5 hlen
      clear ho5 hp5
      obtain ⟨n, HN⟩ : ∃ n, Hid (n = xs.length) := ⟨_, rfl⟩
      have hn7 : n ≤ 7 := by rw [HN.out]; exact hxl
      rw [← HN.out] at hn hcp hx5 hf5 ⊢
      have hnn : (1 : Int) < (n : Int) := by omega
      by_cases hqz : q = 0
      · subst hqz
        go_wp2
        go_quiet (fail)
        go_wp2
        go_ret2
        exact ⟨_, _, rfl, xs, ts, hxl, hlen, hx5.below (hb5 _), hf5.below (hb5 _), hk5.trans ((hb5 _).mono hk5.size)⟩
      · have hqf : (q == 0) = false := by simp [hqz]
        clear hqz
        go_wp2
        go_ret2
        exact ⟨_, _, rfl, xs, ys, hxl, hyl, hx5, hy5, hk5⟩
    · have hx5 := ho5.ints
      have hy5 := hp5.ints
      clear ho5 hp5
      obtain ⟨a1, cp, hv⟩ : ∃ a1 cp, v = .slice a1 xs.length cp := by
        obtain ⟨_, a1, cp, hv, _⟩ := hx5
        exact ⟨a1, cp, hv⟩
      subst hv
      have hnn : ¬ (1 : Int) < (xs.length : Int) := by omega
      by_cases hqz : q = 0
      · subst hqz
        go_wp2
        go_ret2
        exact ⟨_, _, rfl, xs, ys, hxl, hyl, hx5, hy5, hk5⟩
      · have hqf : (q == 0) = false := by simp [hqz]
        clear hqz
        go_wp2
        go_ret2
        exact ⟨_, _, rfl, xs, ys, hxl, hyl, hx5, hy5, hk5⟩

theorem drawOk_any (a : Option Addr) (len cap : Nat) (zs : List Int) (w : World) (h : IsRow .u8 w a len cap zs) :
    Calls Try.prog 7 #[.slice a len cap] w fun e w' =>
      ∃ v, e = .returned v ∧ ∃ xs : List Int, xs.length ≤ 7 ∧ Own w' w.heap.size w'.heap.size v xs ∧ Below w.heap.size w w' := by
  go_enter Try.func7, Try.ntmps7
  go_wp2_with fail
  refine (l12Open_any a len cap zs _ h).mono ?_
  rintro e w1 ⟨rfl, hrd1, hb1⟩
  clear h
  go_wp2_with fail
  refine (l1Bent_any _ _ _ (by omega) hrd1).mono ?_
  rintro e w2 ⟨v, rfl, xs, hxl, ho2, hrd2, hg2⟩
  have hk2 := l12Open_below hb1 hg2
  have ho3 := ho2.wide hb1.size (Nat.le_refl _) (Nat.le_refl _)
  clear hrd1 hg2 hb1 hrd2 ho2
  go_wp2
  go_ret
  exact ⟨_, rfl, xs, hxl, ho3, hk2⟩

theorem drawLess_any (a : Option Addr) (len cap : Nat) (zs : List Int) (w : World) (h : IsRow .u8 w a len cap zs) :
    Calls Try.prog 6 #[.slice a len cap] w fun e w' =>
      ∃ v v2, e = .returned (.tuple #[v, v2]) ∧ ∃ xs ys : List Int, xs.length ≤ 7 ∧ ys.length ≤ 7 ∧ IntsAt w' v xs ∧ IntsAt w' v2 ys ∧ Below w.heap.size w w' := by
  go_enter Try.func6, Try.ntmps6
  go_wp2_with fail
  refine (l1Two_any a len cap zs _ h).mono ?_
  rintro e w1 ⟨v, v2, rfl, xs, ys, hxl, hyl, hx, hy, hb⟩
  clear h
  go_wp2
  go_ret2
  exact ⟨_, _, rfl, xs, ys, hxl, hyl, hx, hy, hb⟩

theorem drawJoin_any (a : Option Addr) (len cap : Nat) (zs : List Int) (w : World) (h : IsRow .u8 w a len cap zs) :
    Calls Try.prog 16 #[.slice a len cap] w fun e w' =>
      ∃ v v2, e = .returned (.tuple #[v, v2]) ∧ ∃ xs ys : List Int, xs.length ≤ 7 ∧ ys.length ≤ 7 ∧ IntsAt w' v xs ∧ IntsAt w' v2 ys ∧ Below w.heap.size w w' := by
  go_enter Try.func16, Try.ntmps16
  go_wp2_with fail
  refine (l1Two_any a len cap zs _ h).mono ?_
  rintro e w1 ⟨v, v2, rfl, xs, ys, hxl, hyl, hx, hy, hb⟩
  clear h
  go_wp2
  go_ret2
  exact ⟨_, _, rfl, xs, ys, hxl, hyl, hx, hy, hb⟩

end Go.Proofs.Ytepgdogakhbhjaa
