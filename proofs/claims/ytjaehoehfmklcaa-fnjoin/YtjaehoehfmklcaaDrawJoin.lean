/-
  What is drawn for the laws of joins: DrawJoinOf.
-/
import Derived.Test.YtjaehoehfmklcaaDrawZ2
namespace Go.Proofs.Ytjaehoehfmklcaa
open Go.RowKit
set_option linter.unusedVariables false

theorem good_fewJ {zs : List It} (hl : (zs.length : Int) ≤ 7) (h : GoodB 200 zs) : GoodZ zs := ⟨by omega, h.up (by omega)⟩
theorem quot19 {q : Int} (h0 : 0 ≤ q) (h1 : q < 20) : 0 ≤ q.tdiv 19 ∧ q.tdiv 19 ≤ 1 := by
  rw [Int.tdiv_eq_ediv_of_nonneg h0]; omega
set_option maxRecDepth 100000 in
set_option maxHeartbeats 2000000 in
theorem l5Wide_any (g P : Nat) (w : World) (hP : P ≤ 1099511600000) (h : Rd w g P) :
    Calls Try.prog 20 #[.pointer (some ⟨g, 0, none⟩)] w fun e w' =>
      ∃ v, ∃ wd : Int, e = .returned (.tuple #[v, .int .i64 wd]) ∧ (1 ≤ wd ∧ wd ≤ 3) ∧ ∃ zs : List It, GoodZ zs ∧ Drawn w' g v zs ∧ Rd w' g (P + 600) ∧ w.grownBy w' (some g) := by
  go_enter Try.func20, Try.ntmps20
  go_wp2_with fail
  refine (pick_any g P 3 _ (by omega) (by omega) (by omega) h).mono ?_
  rintro e w1 ⟨n, hn0, hn3, rfl, hrd1, hg1⟩
  clear h
  go_wp2_with fail
  refine (pick_any g _ 20 _ (by omega) (by omega) (by omega) hrd1).mono ?_
  rintro e w2 ⟨q, hq0, hq5, rfl, hrd2, hg2⟩
  have hG2 := grown_trans hg1 hg2
  have hgl : g < w2.heap.size := hrd2.lt
  clear hrd1 hg1 hg2
  by_cases hq : q = 0
  · subst hq
    go_wp2_with fail
    refine (l2Bent_any _ _ _ (by omega) hrd2).mono ?_
    rintro e w3 ⟨v3, rfl, zs, hgz, hd3, hrd3, hg3⟩
    have HG : Hid (w.grownBy w3 (some g)) := grown_trans hG2 hg3
    have HR : Hid (Rd w3 g (P + 600)) := hrd3.le (by omega)
    have HD : Hid (Drawn w3 g v3 zs) := hd3
    have HGZ : Hid (GoodZ zs) := hgz
    clear hd3 hrd3 hg3 hG2 hrd2 hgz
    go_wp2
    go_ret2
    exact ⟨_, _, rfl, ⟨by omega, by omega⟩, zs, HGZ.out, HD.out, HR.out, HG.out⟩
  · have hqf : (q == 0) = false := by simp [hq]
    have hne : ¬ q = 0 := hq
    clear hq
    go_wp2_with fail
    refine (l2Z_any _ _ (1 + n) 7 _ (by omega) (by omega) (by omega) (by omega) (by omega) hrd2).mono ?_
    rintro e w3 ⟨v3, rfl, zs, hlen, hgz, hz3, hrd3, hg3⟩
    have HG : Hid (w.grownBy w3 (some g)) := grown_trans hG2 hg3
    have HR : Hid (Rd w3 g (P + 600)) := hrd3.le (by omega)
    have HD : Hid (Drawn w3 g v3 zs) := hz3.drawn hgl
    have HGZ : Hid (GoodZ zs) := good_fewJ hlen hgz
    clear hz3 hrd3 hg3 hG2 hrd2 hgz hlen
    go_wp2
    go_ret2
    exact ⟨_, _, rfl, ⟨by omega, by omega⟩, zs, HGZ.out, HD.out, HR.out, HG.out⟩


set_option maxRecDepth 100000 in
set_option maxHeartbeats 4000000 in
theorem drawJoinOf_any (a : Option Addr) (len cap : Nat) (bs : List Int) (w : World) (h : IsRow .u8 w a len cap bs) :
    Calls Try.prog 5 #[.slice a len cap] w fun e w' =>
      ∃ (v u : Value) (x y : Int) (zs ys : List It), e = .returned (.tuple #[v, u, .int .i64 x, .int .i64 y]) ∧ (0 ≤ x ∧ x ≤ 3) ∧ (-1 ≤ y ∧ y ≤ 2) ∧ GoodZ zs ∧ GoodZ ys ∧ TailZ w' v zs ∧ TailZ w' u ys ∧ Below w.heap.size w w' := by
  go_enter Try.func5, Try.ntmps5
  go_wp2_with fail
  refine (l12Open_any a len cap bs _ h).mono ?_
  rintro e w1 ⟨rfl, hrd1, hb1⟩
  have B1 : Hid (Below w.heap.size w w1) := hb1
  clear hb1 h
  obtain ⟨g, hg⟩ : ∃ g, g = w.heap.size := ⟨_, rfl⟩
  rw [← hg] at hrd1 ⊢
  have HG : Hid (g = w.heap.size) := hg
  clear hg
  go_wp2_with fail
  refine (l5Wide_any g _ _ (by omega) hrd1).mono ?_
  rintro e w2 ⟨v, wd, rfl, ⟨hwd1, hwd2⟩, zs, hgz, hd2, hrd2, hg2⟩
  have B2 : Hid (Below w.heap.size w w2) := B1.out.grown hg2 B1.out.size (fun k hk => by simp at hk; have := HG.out; omega)
  have HGZ : Hid (GoodZ zs) := hgz
  have HD2 : Hid (Drawn w2 g v zs) := hd2
  clear hg2 hrd1 hgz hd2 B1
  go_wp2_with fail
  refine (l5Wide_any g _ _ (by omega) hrd2).mono ?_
  rintro e w3 ⟨u, we, rfl, ⟨hwe1, hwe2⟩, ys, hgy, hd3, hrd3, hg3⟩
  have B3 : Hid (Below w.heap.size w w3) := B2.out.grown hg3 B2.out.size (fun k hk => by simp at hk; have := HG.out; omega)
  have HGY : Hid (GoodZ ys) := hgy
  have HDz3 : Hid (Drawn w3 g v zs) := HD2.out.next hg3
  have HDy3 : Hid (Drawn w3 g u ys) := hd3
  clear hg3 hrd2 hgy hd3 B2 HD2
  go_wp2_with fail
  refine (pick_any g _ wd _ (by omega) (by omega) (by omega) hrd3).mono ?_
  rintro e w4 ⟨p1, hp10, hp11, rfl, hrd4, hg4⟩
  have B4 : Hid (Below w.heap.size w w4) := B3.out.grown hg4 B3.out.size (fun k hk => by simp at hk; have := HG.out; omega)
  have HDz4 : Hid (Drawn w4 g v zs) := HDz3.out.next hg4
  have HDy4 : Hid (Drawn w4 g u ys) := HDy3.out.next hg4
  clear hg4 hrd3 B3 HDz3 HDy3
  go_wp2_with fail
  refine (pick_any g _ 20 _ (by omega) (by omega) (by omega) hrd4).mono ?_
  rintro e w5 ⟨p2, hp20, hp21, rfl, hrd5, hg5⟩
  have B5 : Hid (Below w.heap.size w w5) := B4.out.grown hg5 B4.out.size (fun k hk => by simp at hk; have := HG.out; omega)
  have HDz5 : Hid (Drawn w5 g v zs) := HDz4.out.next hg5
  have HDy5 : Hid (Drawn w5 g u ys) := HDy4.out.next hg5
  have ht2 := quot19 hp20 hp21
  clear hg5 hrd4 B4 HDz4 HDy4
  go_wp2_with fail
  refine (pick_any g _ we _ (by omega) (by omega) (by omega) hrd5).mono ?_
  rintro e w6 ⟨p3, hp30, hp31, rfl, hrd6, hg6⟩
  have B6 : Hid (Below w.heap.size w w6) := B5.out.grown hg6 B5.out.size (fun k hk => by simp at hk; have := HG.out; omega)
  have HDz6 : Hid (Drawn w6 g v zs) := HDz5.out.next hg6
  have HDy6 : Hid (Drawn w6 g u ys) := HDy5.out.next hg6
  clear hg6 hrd5 B5 HDz5 HDy5
  go_wp2_with fail
  refine (pick_any g _ 20 _ (by omega) (by omega) (by omega) hrd6).mono ?_
  rintro e w7 ⟨p4, hp40, hp41, rfl, hrd7, hg7⟩
  have B7 : Hid (Below w.heap.size w w7) := B6.out.grown hg7 B6.out.size (fun k hk => by simp at hk; have := HG.out; omega)
  have HDz7 : Hid (Drawn w7 g v zs) := HDz6.out.next hg7
  have HDy7 : Hid (Drawn w7 g u ys) := HDy6.out.next hg7
  have ht4 := quot19 hp40 hp41
  clear hg7 hrd6 B6 HDz6 HDy6
  go_wp2
  exact bodyPost_ret (v := .tuple #[v, u, .int .i64 (p1 + p2.tdiv 19), .int .i64 (p3 - p4.tdiv 19)]) (by simp [results, Try.results5, go_sem]) rfl ⟨v, u, _, _, zs, ys, rfl, by omega, by omega, HGZ.out, HGY.out, HDz7.out.now, HDy7.out.now, B7.out⟩

end Go.Proofs.Ytjaehoehfmklcaa
