/-
  What is drawn for the laws of groups: DrawGroupOf.
-/
import Derived.Test.YtflbdfpgaeeleaaGreatDoorDrawJoin
namespace Go.Proofs.YtflbdfpgaeeleaaGreatDoor
open Go.RowKit
set_option linter.unusedVariables false

theorem int_litD (w : World) (n : Int) : IntsAt (w.alloc (.cells #[.int .i64 n] 3)) (.slice (some ⟨w.heap.size, 0, none⟩) 1 1) [n] := by
  refine ⟨by simp, _, _, rfl, by simp, fun _ => ⟨_, _, rfl, by simp, fun j hj => ?_⟩⟩
  have : j = 0 := by simp at hj; omega
  subst this
  simp [go_sem]
theorem grown_new {a b c : World} {g : Nat} {row : Option Nat} (h : a.grownBy b (some g)) (k : b.grownBy c row) (hr : ∀ j, row = some j → a.heap.size ≤ j) : a.grownBy c (some g) :=
  ⟨k.os.trans h.os, k.tape.trans h.tape, k.output.trans h.output, Nat.le_trans h.size k.size, fun i hi hne => (k.block i (Nat.lt_of_lt_of_le hi h.size) (fun e => by have := hr i e.symm; omega)).trans (h.block i hi hne)⟩
set_option maxRecDepth 100000 in
set_option maxHeartbeats 8000000 in
theorem drawGroupOf_any (a : Option Addr) (len cap : Nat) (bs : List Int) (w : World) (h : IsRow .u8 w a len cap bs) :
    Calls Tryz.prog 5 #[.slice a len cap] w fun e w' =>
      ∃ (v kv : Value) (zs : List It) (ks : List Int) (agg col : Int), e = .returned (.tuple #[v, kv, .int .i64 agg, .int .i64 col]) ∧ GoodZ zs ∧ ks.length ≤ 2 ∧ (∀ k ∈ ks, 0 ≤ k ∧ k ≤ 3) ∧ (-1 ≤ agg ∧ agg ≤ 4) ∧ (0 ≤ col ∧ col ≤ 3) ∧ TailZ w' v zs ∧ Own w' w.heap.size w'.heap.size kv ks ∧ Below w.heap.size w w' := by
  obtain ⟨i0, hi, hz0, hz1, hz2⟩ := info_parts infoInt
  go_enter Tryz.func5, Tryz.ntmps5
  go_wp2_with fail
  refine (l12Open_any a len cap bs _ h).mono ?_
  rintro e w1 ⟨rfl, hrd1, hb1⟩
  have B1 : Hid (Below w.heap.size w w1) := hb1
  clear hb1 h
  obtain ⟨g, hg⟩ : ∃ g, g = w.heap.size := ⟨_, rfl⟩
  rw [← hg] at hrd1 ⊢
  have HG : Hid (g = w.heap.size) := hg
  clear hg
  go_wp2_with fail
  refine (l5Wide_any g _ _ (by omega) hrd1).mono ?_
  rintro e w2 ⟨v, wd, rfl, ⟨hwd1, hwd2⟩, zs, hgz, hd2, hrd2, hg2⟩
  have B2 : Hid (Below w.heap.size w w2) := B1.out.grown hg2 B1.out.size (fun k hk => by simp at hk; have := HG.out; omega)
  have HGZ : Hid (GoodZ zs) := hgz
  have HD2 : Hid (Drawn w2 g v zs) := hd2
  have hgl : g < w2.heap.size := hrd2.lt
  have HSW : Hid (w.heap.size ≤ w2.heap.size) := B2.out.size
  clear hg2 hrd1 hgz hd2 B1
  have K0 : Own (w2.alloc (.cells #[] 3)) w2.heap.size (w2.alloc (.cells #[] 3)).heap.size (.slice (some ⟨w2.heap.size, 0, none⟩) 0 0) [] := own_new (n := 0) (xs := []) (World.ownsRow_lit w2 #[] 0 (Nat.le_refl _) (by unfold maxLen; omega) rfl) (by simp)
  have R0 := hrd2.below (below_alloc (w := w2) (.cells #[] 3))
  have G0 : w2.grownBy (w2.alloc (.cells #[] 3)) (some g) := World.grownBy_alloc w2 _ _
  clear hrd2
  go_wp2_with fail
  refine (pick_any g _ 4 _ (by omega) (by omega) (by omega) R0).mono ?_
  rintro e w3 ⟨p, hp0, hp1, rfl, R3, hg3⟩
  have G3 := grown_trans G0 hg3
  have K3 := K0.far hg3 hgl
  clear hg3 R0 G0 K0
  by_cases hp : 0 < p
  · skip
    go_wp2_with fail
    refine (pick_any g _ wd _ (by omega) (by omega) (by omega) R3).mono ?_
    rintro e w4 ⟨x, hx0, hx1, rfl, R4, hg4⟩
    have G4 := grown_trans G3 hg4
    have K4 := K3.far hg4 hgl
    clear hg4 R3 G3 K3
    have hO := K4.keep' (below_alloc (w := w4) (.cells #[.int .i64 x] 3))
    have Ra := R4.below (below_alloc (w := w4) (.cells #[.int .i64 x] 3))
    have Ga := grown_trans G4 (World.grownBy_alloc w4 (.cells #[.int .i64 x] 3) (some g))
    go_wp2_with (at_builtin; refine wpList_append_ints rfl _ _ 24 rfl w2.heap.size 3 i0 Tryz.underlying24 hi hz0 hz1 hz2 (.slice (some ⟨w2.heap.size, 0, none⟩) 0 0) _ _ rfl hO.1 _ [x] rfl (int_litD w4 x) (by simp) (by have := G4.size; simp; omega) ?_; intro v5 w5 hown hga _)
    have K5 : Own w5 w2.heap.size w5.heap.size v5 [x] := own_new (xs := [x]) (by simpa using hown) (by simp)
    have G5 := grown_new Ga hga (fun j hj => (hO.1.lt j hj).1)
    have R5 := Ra.grown hga (fun j hj => by have := (hO.1.lt j hj).1; omega)
    clear hO Ra Ga hown hga R4 G4 K4
    first | refine (pick_any g _ 8 _ (by omega) (by omega) (by omega) R5).mono ?_ | (go_wp2_with fail; refine (pick_any g _ 8 _ (by omega) (by omega) (by omega) R5).mono ?_)
    rintro e w6 ⟨q, hq0, hq1, rfl, R6, hg6⟩
    have G6 := grown_trans G5 hg6
    have K6 := K5.far hg6 hgl
    clear hg6 R5 G5 K5
    by_cases hq : q = 0
    · subst hq
      go_wp2_with fail
      refine (pick_any g _ (wd + 1) _ (by omega) (by omega) (by omega) R6).mono ?_
      rintro e w7 ⟨y, hy0, hy1, rfl, R7, hg7⟩
      have G7 := grown_trans G6 hg7
      have K7 := K6.far hg7 hgl
      clear hg7 R6 G6 K6
      have hO := K7.keep' (below_alloc (w := w7) (.cells #[.int .i64 y] 3))
      have Ra := R7.below (below_alloc (w := w7) (.cells #[.int .i64 y] 3))
      have Ga := grown_trans G7 (World.grownBy_alloc w7 (.cells #[.int .i64 y] 3) (some g))
      go_wp2_with (at_builtin; refine wpList_append_ints rfl _ _ 24 rfl w2.heap.size 3 i0 Tryz.underlying24 hi hz0 hz1 hz2 v5 _ _ rfl hO.1 _ [y] rfl (int_litD w7 y) (by simp) (by have := G7.size; simp; omega) ?_; intro v8 w8 hown hga _)
      have K8 : Own w8 w2.heap.size w8.heap.size v8 [x, y] := own_new (xs := [x, y]) (by simpa using hown) (by simp)
      have G8 := grown_new Ga hga (fun j hj => (hO.1.lt j hj).1)
      have R8 := Ra.grown hga (fun j hj => by have := (hO.1.lt j hj).1; omega)
      clear hO Ra Ga hown hga R7 G7 K7
      have hlit := own_lit w8 [0, 1, 2, 3, 0, 1, 2, 3, -1, 4] (by simp)
      have Ra : Rd (w8.alloc (.cells #[.int .i64 0, .int .i64 1, .int .i64 2, .int .i64 3, .int .i64 0, .int .i64 1, .int .i64 2, .int .i64 3, .int .i64 (-1), .int .i64 4] 3)) g _ := R8.below (below_alloc _)
      have Ga := grown_trans G8 (World.grownBy_alloc w8 (.cells #[.int .i64 0, .int .i64 1, .int .i64 2, .int .i64 3, .int .i64 0, .int .i64 1, .int .i64 2, .int .i64 3, .int .i64 (-1), .int .i64 4] 3) (some g))
      have Ka := K8.keep' (below_alloc (w := w8) (.cells #[.int .i64 0, .int .i64 1, .int .i64 2, .int .i64 3, .int .i64 0, .int .i64 1, .int .i64 2, .int .i64 3, .int .i64 (-1), .int .i64 4] 3))
      have hsn := G8.size
      first | refine (num_any g _ _ _ _ _ _ (by omega) Ra hlit (by omega) (by simp) (by simp)).mono ?_ | (go_wp2_with fail; refine (num_any g _ _ _ _ _ _ (by omega) Ra hlit (by omega) (by simp) (by simp)).mono ?_)
      rintro e w9 ⟨ag, hag, rfl, R9, hgx⟩
      have hag2 : -1 ≤ ag ∧ ag ≤ 4 := by simp at hag; omega
      have G9 := grown_trans Ga hgx
      have K9 := Ka.far hgx hgl
      clear hag hlit Ra Ga Ka hgx R8 G8 K8 hsn
      go_wp2_with fail
      refine (pick_any g _ wd _ (by omega) (by omega) (by omega) R9).mono ?_
      rintro e w10 ⟨c1, hc10, hc11, rfl, R10, hg10⟩
      have G10 := grown_trans G9 hg10
      have K10 := K9.far hg10 hgl
      clear hg10 R9 G9 K9
      go_wp2_with fail
      refine (pick_any g _ 20 _ (by omega) (by omega) (by omega) R10).mono ?_
      rintro e w11 ⟨c2, hc20, hc21, rfl, R11, hg11⟩
      have G11 := grown_trans G10 hg11
      have K11 := K10.far hg11 hgl
      clear hg11 R10 G10 K10
      have ht := quot19 hc20 hc21
      have HT : Hid (TailZ w11 v zs) := (HD2.out.next G11).now
      have HK : Hid (Own w11 w.heap.size w11.heap.size v8 [x, y]) := K11.wide HSW.out K11.2.2.2 (Nat.le_refl _)
      have HB : Hid (Below w.heap.size w w11) := B2.out.grown G11 HSW.out (fun k hk => by simp at hk; have := HG.out; omega)
      clear K11 G11 R11
      go_wp2
      exact bodyPost_ret (v := .tuple #[v, v8, .int .i64 ag, .int .i64 (c1 + c2.tdiv 19)]) (by simp [results, Tryz.results5, go_sem]) rfl ⟨v, _, zs, _, _, _, rfl, HGZ.out, by simp, fun k hk => by simp at hk; omega, hag2, by omega, HT.out, HK.out, HB.out⟩
    · have hqf : (q == 0) = false := by simp [hq]
      have hqn : ¬ q = 0 := hq
      clear hq
      have hlit := own_lit w6 [0, 1, 2, 3, 0, 1, 2, 3, -1, 4] (by simp)
      have Ra : Rd (w6.alloc (.cells #[.int .i64 0, .int .i64 1, .int .i64 2, .int .i64 3, .int .i64 0, .int .i64 1, .int .i64 2, .int .i64 3, .int .i64 (-1), .int .i64 4] 3)) g _ := R6.below (below_alloc _)
      have Ga := grown_trans G6 (World.grownBy_alloc w6 (.cells #[.int .i64 0, .int .i64 1, .int .i64 2, .int .i64 3, .int .i64 0, .int .i64 1, .int .i64 2, .int .i64 3, .int .i64 (-1), .int .i64 4] 3) (some g))
      have Ka := K6.keep' (below_alloc (w := w6) (.cells #[.int .i64 0, .int .i64 1, .int .i64 2, .int .i64 3, .int .i64 0, .int .i64 1, .int .i64 2, .int .i64 3, .int .i64 (-1), .int .i64 4] 3))
      have hsn := G6.size
      go_wp2_with fail
      refine (num_any g _ _ _ _ _ _ (by omega) Ra hlit (by omega) (by simp) (by simp)).mono ?_
      rintro e w7 ⟨ag, hag, rfl, R7, hgx⟩
      have hag2 : -1 ≤ ag ∧ ag ≤ 4 := by simp at hag; omega
      have G7 := grown_trans Ga hgx
      have K7 := Ka.far hgx hgl
      clear hag hlit Ra Ga Ka hgx R6 G6 K6 hsn
      go_wp2_with fail
      refine (pick_any g _ wd _ (by omega) (by omega) (by omega) R7).mono ?_
      rintro e w8 ⟨c1, hc10, hc11, rfl, R8, hg8⟩
      have G8 := grown_trans G7 hg8
      have K8 := K7.far hg8 hgl
      clear hg8 R7 G7 K7
      go_wp2_with fail
      refine (pick_any g _ 20 _ (by omega) (by omega) (by omega) R8).mono ?_
      rintro e w9 ⟨c2, hc20, hc21, rfl, R9, hg9⟩
      have G9 := grown_trans G8 hg9
      have K9 := K8.far hg9 hgl
      clear hg9 R8 G8 K8
      have ht := quot19 hc20 hc21
      have HT : Hid (TailZ w9 v zs) := (HD2.out.next G9).now
      have HK : Hid (Own w9 w.heap.size w9.heap.size v5 [x]) := K9.wide HSW.out K9.2.2.2 (Nat.le_refl _)
      have HB : Hid (Below w.heap.size w w9) := B2.out.grown G9 HSW.out (fun k hk => by simp at hk; have := HG.out; omega)
      clear K9 G9 R9
      go_wp2
      exact bodyPost_ret (v := .tuple #[v, v5, .int .i64 ag, .int .i64 (c1 + c2.tdiv 19)]) (by simp [results, Tryz.results5, go_sem]) rfl ⟨v, _, zs, _, _, _, rfl, HGZ.out, by simp, fun k hk => by simp at hk; omega, hag2, by omega, HT.out, HK.out, HB.out⟩
  · skip
    go_wp2_with fail
    refine (pick_any g _ 8 _ (by omega) (by omega) (by omega) R3).mono ?_
    rintro e w4 ⟨q, hq0, hq1, rfl, R4, hg4⟩
    have G4 := grown_trans G3 hg4
    have K4 := K3.far hg4 hgl
    clear hg4 R3 G3 K3
    by_cases hq : q = 0
    · subst hq
      go_wp2_with fail
      refine (pick_any g _ (wd + 1) _ (by omega) (by omega) (by omega) R4).mono ?_
      rintro e w5 ⟨y, hy0, hy1, rfl, R5, hg5⟩
      have G5 := grown_trans G4 hg5
      have K5 := K4.far hg5 hgl
      clear hg5 R4 G4 K4
      have hO := K5.keep' (below_alloc (w := w5) (.cells #[.int .i64 y] 3))
      have Ra := R5.below (below_alloc (w := w5) (.cells #[.int .i64 y] 3))
      have Ga := grown_trans G5 (World.grownBy_alloc w5 (.cells #[.int .i64 y] 3) (some g))
      go_wp2_with (at_builtin; refine wpList_append_ints rfl _ _ 24 rfl w2.heap.size 3 i0 Tryz.underlying24 hi hz0 hz1 hz2 (.slice (some ⟨w2.heap.size, 0, none⟩) 0 0) _ _ rfl hO.1 _ [y] rfl (int_litD w5 y) (by simp) (by have := G5.size; simp; omega) ?_; intro v6 w6 hown hga _)
      have K6 : Own w6 w2.heap.size w6.heap.size v6 [y] := own_new (xs := [y]) (by simpa using hown) (by simp)
      have G6 := grown_new Ga hga (fun j hj => (hO.1.lt j hj).1)
      have R6 := Ra.grown hga (fun j hj => by have := (hO.1.lt j hj).1; omega)
      clear hO Ra Ga hown hga R5 G5 K5
      have hlit := own_lit w6 [0, 1, 2, 3, 0, 1, 2, 3, -1, 4] (by simp)
      have Ra : Rd (w6.alloc (.cells #[.int .i64 0, .int .i64 1, .int .i64 2, .int .i64 3, .int .i64 0, .int .i64 1, .int .i64 2, .int .i64 3, .int .i64 (-1), .int .i64 4] 3)) g _ := R6.below (below_alloc _)
      have Ga := grown_trans G6 (World.grownBy_alloc w6 (.cells #[.int .i64 0, .int .i64 1, .int .i64 2, .int .i64 3, .int .i64 0, .int .i64 1, .int .i64 2, .int .i64 3, .int .i64 (-1), .int .i64 4] 3) (some g))
      have Ka := K6.keep' (below_alloc (w := w6) (.cells #[.int .i64 0, .int .i64 1, .int .i64 2, .int .i64 3, .int .i64 0, .int .i64 1, .int .i64 2, .int .i64 3, .int .i64 (-1), .int .i64 4] 3))
      have hsn := G6.size
      first | refine (num_any g _ _ _ _ _ _ (by omega) Ra hlit (by omega) (by simp) (by simp)).mono ?_ | (go_wp2_with fail; refine (num_any g _ _ _ _ _ _ (by omega) Ra hlit (by omega) (by simp) (by simp)).mono ?_)
      rintro e w7 ⟨ag, hag, rfl, R7, hgx⟩
      have hag2 : -1 ≤ ag ∧ ag ≤ 4 := by simp at hag; omega
      have G7 := grown_trans Ga hgx
      have K7 := Ka.far hgx hgl
      clear hag hlit Ra Ga Ka hgx R6 G6 K6 hsn
      go_wp2_with fail
      refine (pick_any g _ wd _ (by omega) (by omega) (by omega) R7).mono ?_
      rintro e w8 ⟨c1, hc10, hc11, rfl, R8, hg8⟩
      have G8 := grown_trans G7 hg8
      have K8 := K7.far hg8 hgl
      clear hg8 R7 G7 K7
      go_wp2_with fail
      refine (pick_any g _ 20 _ (by omega) (by omega) (by omega) R8).mono ?_
      rintro e w9 ⟨c2, hc20, hc21, rfl, R9, hg9⟩
      have G9 := grown_trans G8 hg9
      have K9 := K8.far hg9 hgl
      clear hg9 R8 G8 K8
      have ht := quot19 hc20 hc21
      have HT : Hid (TailZ w9 v zs) := (HD2.out.next G9).now
      have HK : Hid (Own w9 w.heap.size w9.heap.size v6 [y]) := K9.wide HSW.out K9.2.2.2 (Nat.le_refl _)
      have HB : Hid (Below w.heap.size w w9) := B2.out.grown G9 HSW.out (fun k hk => by simp at hk; have := HG.out; omega)
      clear K9 G9 R9
      go_wp2
      exact bodyPost_ret (v := .tuple #[v, v6, .int .i64 ag, .int .i64 (c1 + c2.tdiv 19)]) (by simp [results, Tryz.results5, go_sem]) rfl ⟨v, _, zs, _, _, _, rfl, HGZ.out, by simp, fun k hk => by simp at hk; omega, hag2, by omega, HT.out, HK.out, HB.out⟩
    · have hqf : (q == 0) = false := by simp [hq]
      have hqn : ¬ q = 0 := hq
      clear hq
      have hlit := own_lit w4 [0, 1, 2, 3, 0, 1, 2, 3, -1, 4] (by simp)
      have Ra : Rd (w4.alloc (.cells #[.int .i64 0, .int .i64 1, .int .i64 2, .int .i64 3, .int .i64 0, .int .i64 1, .int .i64 2, .int .i64 3, .int .i64 (-1), .int .i64 4] 3)) g _ := R4.below (below_alloc _)
      have Ga := grown_trans G4 (World.grownBy_alloc w4 (.cells #[.int .i64 0, .int .i64 1, .int .i64 2, .int .i64 3, .int .i64 0, .int .i64 1, .int .i64 2, .int .i64 3, .int .i64 (-1), .int .i64 4] 3) (some g))
      have Ka := K4.keep' (below_alloc (w := w4) (.cells #[.int .i64 0, .int .i64 1, .int .i64 2, .int .i64 3, .int .i64 0, .int .i64 1, .int .i64 2, .int .i64 3, .int .i64 (-1), .int .i64 4] 3))
      have hsn := G4.size
      go_wp2_with fail
      refine (num_any g _ _ _ _ _ _ (by omega) Ra hlit (by omega) (by simp) (by simp)).mono ?_
      rintro e w5 ⟨ag, hag, rfl, R5, hgx⟩
      have hag2 : -1 ≤ ag ∧ ag ≤ 4 := by simp at hag; omega
      have G5 := grown_trans Ga hgx
      have K5 := Ka.far hgx hgl
      clear hag hlit Ra Ga Ka hgx R4 G4 K4 hsn
      go_wp2_with fail
      refine (pick_any g _ wd _ (by omega) (by omega) (by omega) R5).mono ?_
      rintro e w6 ⟨c1, hc10, hc11, rfl, R6, hg6⟩
      have G6 := grown_trans G5 hg6
      have K6 := K5.far hg6 hgl
      clear hg6 R5 G5 K5
      go_wp2_with fail
      refine (pick_any g _ 20 _ (by omega) (by omega) (by omega) R6).mono ?_
      rintro e w7 ⟨c2, hc20, hc21, rfl, R7, hg7⟩
      have G7 := grown_trans G6 hg7
      have K7 := K6.far hg7 hgl
      clear hg7 R6 G6 K6
      have ht := quot19 hc20 hc21
      have HT : Hid (TailZ w7 v zs) := (HD2.out.next G7).now
      have HK : Hid (Own w7 w.heap.size w7.heap.size (.slice (some ⟨w2.heap.size, 0, none⟩) 0 0) []) := K7.wide HSW.out K7.2.2.2 (Nat.le_refl _)
      have HB : Hid (Below w.heap.size w w7) := B2.out.grown G7 HSW.out (fun k hk => by simp at hk; have := HG.out; omega)
      clear K7 G7 R7
      go_wp2
      exact bodyPost_ret (v := .tuple #[v, (.slice (some ⟨w2.heap.size, 0, none⟩) 0 0), .int .i64 ag, .int .i64 (c1 + c2.tdiv 19)]) (by simp [results, Tryz.results5, go_sem]) rfl ⟨v, _, zs, _, _, _, rfl, HGZ.out, by simp, fun k hk => by simp at hk, hag2, by omega, HT.out, HK.out, HB.out⟩

end Go.Proofs.YtflbdfpgaeeleaaGreatDoor
