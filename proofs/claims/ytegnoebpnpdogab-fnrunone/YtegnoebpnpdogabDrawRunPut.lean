/-
  What is drawn for the laws of runs: spec.DrawRunPut.
-/
import Derived.Test.YtegnoebpnpdogabDrawRun
namespace Go.Proofs.Ytegnoebpnpdogab
set_option maxRecDepth 100000
set_option linter.unusedVariables false
open Go.RowKit

/-- Drawn runs in the box b, the result's box ahead of the reader g. -/
def Dn (w wx : World) (g Q b : Nat) (v : Value) (s : Rn) : Prop := BoxAt wx b v ∧ BoxAt wx w.heap.size (.slice none 0 0) ∧ DrawnR wx g v s ∧ Rd wx g Q ∧ Below w.heap.size w wx ∧ g < b ∧ w.heap.size < g
theorem Dn.drawn {w wx wy : World} {g Q Q' b : Nat} {v : Value} {s : Rn} (h : Dn w wx g Q b v s) (hg : wx.grownBy wy (some g)) (hr : Rd wy g Q') : Dn w wy g Q' b v s := by
  obtain ⟨h1, h2, h3, h4, h5, h6, h7⟩ := h
  exact ⟨h1.grown hg (fun e => by simp at e; omega), h2.grown hg (fun e => by simp at e; omega), h3.next hg, hr, h5.grown hg h5.size (fun k e => by simp at e; omega), h6, h7⟩
theorem Dn.below {w wx wy : World} {g Q b : Nat} {v : Value} {s : Rn} (h : Dn w wx g Q b v s) (hb : Below wx.heap.size wx wy) : Dn w wy g Q b v s :=
  h.drawn ⟨hb.os, hb.tape, hb.output, hb.size, fun k hk _ => hb.block k hk⟩ (h.2.2.2.1.below hb)
theorem Dn.fin {w wx : World} {g Q b : Nat} {v : Value} {s : Rn} (h : Dn w wx g Q b v s) : RunsAt (wx.setCell ⟨w.heap.size, 0, none⟩ v) v s ∧ Below w.heap.size w (wx.setCell ⟨w.heap.size, 0, none⟩ v) :=
  ⟨runs_put h.2.2.1 (by have := h.2.2.2.2.2.2; omega), h.2.2.2.2.1.setCell (Nat.le_refl _) _⟩
/-- Items that lie in blocks from B on. -/
def Fr (B : Nat) (w : World) (u : Value) (z : List It) : Prop := ∀ w'', Only 0 B w w'' → TailZ w'' u z
theorem Fr.now {B : Nat} {w : World} {u : Value} {z : List It} (h : Fr B w u z) : TailZ w u z := h w (Only.refl _ _ _)
theorem only_of_below {B : Nat} {w w' : World} (h : Below w.heap.size w w') : Only 0 B w w' := ⟨h.os, h.tape, h.output, h.size, fun k hk _ => h.block k hk⟩
theorem Fr.below {B : Nat} {w w' : World} {u : Value} {z : List It} (h : Fr B w u z) (hb : Below w.heap.size w w') : Fr B w' u z := fun w'' hw => h w'' ((only_of_below hb).trans hw)
theorem Fr.put {B b : Nat} {w : World} {u x : Value} {z : List It} (h : Fr B w u z) (hb : b < B) : Fr B (w.setCell ⟨b, 0, none⟩ x) u z := fun w'' hw => h w'' ((Only.setCell (Only.refl 0 B w) (Nat.zero_le _) hb x).trans hw)
theorem OwnZ.fr {w : World} {lo hi B : Nat} {u : Value} {z : List It} (h : OwnZ w lo hi u z) (hB : B ≤ lo) : Fr B w u z := fun _ hw => (h.only hw (.inr hB)).tail
/-- Runs that lie in blocks from B on. -/
def FrR (B : Nat) (w : World) (u : Value) (z : Rn) : Prop := ∀ w'', Only 0 B w w'' → RunsAt w'' u z
theorem FrR.now {B : Nat} {w : World} {u : Value} {z : Rn} (h : FrR B w u z) : RunsAt w u z := h w (Only.refl _ _ _)
theorem FrR.below {B : Nat} {w w' : World} {u : Value} {z : Rn} (h : FrR B w u z) (hb : Below w.heap.size w w') : FrR B w' u z := fun w'' hw => h w'' ((only_of_below hb).trans hw)
theorem FrR.put {B b : Nat} {w : World} {u x : Value} {z : Rn} (h : FrR B w u z) (hb : b < B) : FrR B (w.setCell ⟨b, 0, none⟩ x) u z := fun w'' hw => h w'' ((Only.setCell (Only.refl 0 B w) (Nat.zero_le _) hb x).trans hw)
theorem OwnR.fr {w : World} {lo hi B : Nat} {u : Value} {z : Rn} (h : OwnR w lo hi u z) (hB : B ≤ lo) : FrR B w u z := fun _ hw => (h.only hw (.inr hB)).runs
theorem only_wide {a b : Nat} {w w' : World} (h : Only 0 a w w') (hab : a ≤ b) : Only 0 b w w' := ⟨h.os, h.tape, h.output, h.size, fun k hk hr => h.block k hk (by omega)⟩
theorem Dn.finD {w wx : World} {g Q b : Nat} {v u : Value} {s : Rn} {z : List It} (h : Dn w wx g Q b v s) (hz : Drawn wx g u z) : Fr w.heap.size (wx.setCell ⟨w.heap.size, 0, none⟩ v) u z :=
  fun w'' hw => hz _ ((Only.setCell (Only.refl 0 (g + 1) wx) (Nat.zero_le _) (by show w.heap.size < _; have := h.2.2.2.2.2.2; omega) v).trans (only_wide hw (by have := h.2.2.2.2.2.2; omega)))
theorem Dn.finZ {w wx : World} {g Q b lo hi : Nat} {v u : Value} {s : Rn} {z : List It} (h : Dn w wx g Q b v s) (hz : OwnZ wx lo hi u z) (hlo : w.heap.size < lo) : Fr w.heap.size (wx.setCell ⟨w.heap.size, 0, none⟩ v) u z :=
  (hz.only (Only.of_grown (lo := w.heap.size) (hi := w.heap.size + 1) (set_grown _ _ _) (fun k e => by simp at e; omega)) (.inr hlo)).fr (by omega)

set_option maxHeartbeats 4000000 in
theorem drawRunPut_any (a : Option Addr) (len cap : Nat) (bs : List Int) (w : World) (h : IsRow .u8 w a len cap bs) :
    Calls Try.prog 5 #[.slice a len cap] w fun e w' => ∃ v u, e = .returned (.tuple #[.agg #[v], u]) ∧ ∃ (s : Rn) (z : List It), RunsAt w' v s ∧ Fr w.heap.size w' u z ∧ Below w.heap.size w w' := by
  have x0 : BoxAt (w.alloc (.cells #[.slice none 0 0] 25)) w.heap.size (.slice none 0 0) := boxAt_new _ _
  have hk0 : Below w.heap.size w (w.alloc (.cells #[.slice none 0 0] 25)) := below_alloc _
  have h1 : IsRow .u8 (w.alloc (.cells #[.slice none 0 0] 25)) a len cap bs := h.below hk0
  obtain ⟨g, HG⟩ : ∃ g, Hid (g = w.heap.size + 1) := ⟨_, rfl⟩
  have hg0 : (w.alloc (.cells #[.slice none 0 0] 25)).heap.size = g := by rw [HG.out]; simp
  have hgw : w.heap.size < g := by rw [HG.out]; omega
  clear h
  have HO := l12Open_any a len cap bs _ h1
  rw [hg0] at HO
  clear h1
  go_enter Try.func5, Try.ntmps5
  go_wp2_with fail
  refine HO.mono ?_
  rintro e w1 ⟨rfl, hrd1, hb1⟩
  have hk1 : Below w.heap.size w w1 := hk0.trans (hb1.mono (by omega))
  have x1 := x0.keep hb1 hgw
  clear HO hk0 x0 hb1
  go_upto_region 2 with fail
  go_cut [5] (fun p wx => ∃ (b : Nat) (sa : Option Addr) (sn sc : Nat) (s : Rn), p = .pointer (some ⟨b, 0, none⟩) ∧ Hid (BoxAt wx b (.slice sa sn sc) ∧ BoxAt wx w.heap.size (.slice none 0 0) ∧ DrawnR wx g (.slice sa sn sc) s ∧ Rd wx g 3000 ∧ Below w.heap.size w wx ∧ g < b))
  case first =>
    go_wp2_with fail
    refine (l7Spine_any g 0 _ (by omega) hrd1).mono ?_
    rintro e w2 ⟨v2, rfl, s, hd2, hrd2, hg2⟩
    have hk2 : Below w.heap.size w w2 := hk1.grown hg2 hk1.size (fun k e => by simp at e; omega)
    have x2 := x1.grown hg2 (fun e => by simp at e; omega)
    obtain ⟨sa, sn, sc, rfl⟩ := hd2.now.shapeN
    have hA := World.grownBy_alloc w2 (.cells #[.slice sa sn sc] 25) (some g)
    have R : Hid (BoxAt (w2.alloc (.cells #[.slice sa sn sc] 25)) w2.heap.size (.slice sa sn sc) ∧ BoxAt (w2.alloc (.cells #[.slice sa sn sc] 25)) w.heap.size (.slice none 0 0) ∧ DrawnR (w2.alloc (.cells #[.slice sa sn sc] 25)) g (.slice sa sn sc) s ∧ Rd (w2.alloc (.cells #[.slice sa sn sc] 25)) g 3000 ∧ Below w.heap.size w (w2.alloc (.cells #[.slice sa sn sc] 25)) ∧ g < w2.heap.size) := ⟨boxAt_new _ _, x2.below (below_alloc _), hd2.next hA, hrd2.below (below_alloc _), below_then hk2 (below_alloc _), hrd2.lt⟩
    clear hd2 hrd2 hg2 hk2 x2 hA hk1 x1 hrd1
    go_wp2_with fail
    go_meet
    case rel => exact ⟨w2.heap.size, sa, sn, sc, s, rfl, R.out⟩
  case rest =>
  obtain ⟨b, sa, sn, sc, s, rfl, HC⟩ := hcut
  obtain ⟨b3, x3, hd3, hrd3, hk3, hglt⟩ := HC.out
  have D3 : Dn w wc g 3000 b (.slice sa sn sc) s := ⟨b3, x3, hd3, hrd3, hk3, hglt, hgw⟩
  clear b3 x3 hd3 hk3 hk1 x1 hrd1 HC
  go_wp2_with fail
  refine (pick_any g 3000 10 _ (by omega) (by omega) (by omega) hrd3).mono ?_
  rintro e w4 ⟨q, hq0, hq1, rfl, hrd4, hg4⟩
  have D4 := D3.drawn hg4 hrd4
  have z4 : w.heap.size < w4.heap.size := D4.2.1.lt
  have zb4 := D4.1.lt
  clear D3 hrd3 hg4
  have c4 := D4.1.cell
  by_cases hqa : q = 0
  · subst hqa
    go_upto_region 4 with fail
    go_region_with (first
      | (go_at_call 15; refine (l2Bent_any g (3000 + 1) _ (by omega) (hrd4.below (Below.drew (Below.refl _ _)))).mono ?_; rintro e w5 ⟨u5, rfl, zs, hgz, hdz, hrd5, hg5⟩; have D5 := D4.drawn (grown_drew hg5) hrd5; have c5 := D5.1.cell; have c5x := D5.2.1.cell; have f5x := D5.2.1.frozen; have z5 := D5.2.1.lt))
    all_goals
      obtain ⟨ua, un, uc, rfl⟩ : ∃ a n c, u5 = Value.slice a n c := by obtain ⟨a, c, e⟩ := hdz.now.shape1; exact ⟨a, _, c, e⟩
      have R : Hid (∃ (s : Rn) (z : List It), RunsAt (w5.setCell ⟨w.heap.size, 0, none⟩ (.slice sa sn sc)) (.slice sa sn sc) s ∧ Fr w.heap.size (w5.setCell ⟨w.heap.size, 0, none⟩ (.slice sa sn sc)) (.slice ua un uc) z ∧ Below w.heap.size w (w5.setCell ⟨w.heap.size, 0, none⟩ (.slice sa sn sc))) := ⟨s, zs, D5.fin.1, D5.finD hdz, D5.fin.2⟩
      have cE := (D5.2.1.put (.slice sa sn sc)).cell
      clear D4 D5 hrd4 hrd5 hdz hg5 hgz
      go_wp2
      refine bodyPost_ret (v := .tuple #[.agg #[.slice sa sn sc], .slice ua un uc]) (by simp [results, Try.results5, go_sem, cE]) rfl ⟨_, _, rfl, R.out⟩
  · have hqaf : (q == 0) = false := by simp [hqa]
    go_wp2_with fail
    refine (pick_any g (3000 + 1) 4 _ (by omega) (by omega) (by omega) hrd4).mono ?_
    rintro e w5 ⟨q', hq0', hq1', rfl, hrd5, hg5⟩
    have D5 := D4.drawn hg5 hrd5
    have z5 : w.heap.size < w5.heap.size := D5.2.1.lt
    have zb5 := D5.1.lt
    clear D4 hrd4 hg5 c4
    have c5 := D5.1.cell
    by_cases hqb : q' = 0
    · subst hqb
      cases hok : runOkB s with
      | true =>
        go_wp2_with fail
        refine (specRunOk_any _ s _ D5.2.2.1.now).mono ?_
        rw [hok]
        rintro e w6 ⟨rfl, hb6⟩
        have D6 := D5.below hb6
        have c6 := D6.1.cell
        have z6 : w.heap.size < w6.heap.size := D6.2.1.lt
        have zb6 := D6.1.lt
        have hs5 := runOk_le hok
        clear D5 hb6 c5 hrd5
        go_upto_region 6 with fail
        go_region_with (first
          | (go_at_call 16; refine (specZNeg_any _ (sumR s) _ Z7.items).mono ?_; rintro e w8 ⟨u8, rfl, Z8, hb8⟩; have D8 := D7.below hb8; have c8 := D8.1.cell; have c8x := D8.2.1.cell; have f8x := D8.2.1.frozen)
          | (go_at_call 17; refine (l7Sum_any _ s _ (D6.2.2.1.now.below (Below.drew (Below.refl _ _))) (by omega) (fun j hj => each_ok hok hj)).mono ?_; rintro e w7 ⟨u7, rfl, Z7, hb7⟩; have D7 := D6.below (below_then (Below.drew (Below.refl _ _)) hb7); have c7 := D7.1.cell; have z7 := D7.2.1.lt))
        all_goals
          obtain ⟨ua, un, uc, rfl⟩ := Z8.shapeN
          have R : Hid (∃ (s : Rn) (z : List It), RunsAt (w8.setCell ⟨w.heap.size, 0, none⟩ (.slice sa sn sc)) (.slice sa sn sc) s ∧ Fr w.heap.size (w8.setCell ⟨w.heap.size, 0, none⟩ (.slice sa sn sc)) (.slice ua un uc) z ∧ Below w.heap.size w (w8.setCell ⟨w.heap.size, 0, none⟩ (.slice sa sn sc))) := ⟨s, _, D8.fin.1, D8.finZ Z8 z7, D8.fin.2⟩
          have cE := (D8.2.1.put (.slice sa sn sc)).cell
          clear D6 D7 D8 Z7 Z8 hb7 hb8 hok
          go_wp2
          refine bodyPost_ret (v := .tuple #[.agg #[.slice sa sn sc], .slice ua un uc]) (by simp [results, Try.results5, go_sem, cE]) rfl ⟨_, _, rfl, R.out⟩
      | false =>
        go_wp2_with fail
        refine (specRunOk_any _ s _ D5.2.2.1.now).mono ?_
        rw [hok]
        rintro e w6 ⟨rfl, hb6⟩
        have D6 := D5.below hb6
        clear D5 hb6 c5 hrd5 hok
        have hrd6 := D6.2.2.2.1
        have c6 := D6.1.cell
        have z6 : w.heap.size < w6.heap.size := D6.2.1.lt
        have zb6 := D6.1.lt
        go_upto_region 7 with fail
        go_region_with (first
          | (go_at_call 18; rw [wrap_small (show (0 : Int) ≤ 1 + q7 by omega) (by omega)]; refine (l2Z_any g (3000 + 1 + 1 + 1) (1 + q7) 4 _ (by omega) (by omega) (by omega) (by omega) (by omega) hrd7).mono ?_; rintro e w8 ⟨u8, rfl, zs, hzl, hgd, Z8, hrd8, hg8⟩; have D8 := D7.drawn hg8 hrd8; have c8 := D8.1.cell; have c8x := D8.2.1.cell; have f8x := D8.2.1.frozen)
          | (go_at_call 14; refine (pick_any g (3000 + 1 + 1) 2 _ (by omega) (by omega) (by omega) (hrd6.below (Below.drew (Below.refl _ _)))).mono ?_; rintro e w7 ⟨q7, hq70, hq72, rfl, hrd7, hg7⟩; have D7 := D6.drawn (grown_drew hg7) hrd7; have c7 := D7.1.cell; have z7 := D7.2.1.lt))
        all_goals
          obtain ⟨ua, un, uc, rfl⟩ := Z8.shapeN
          have R : Hid (∃ (s : Rn) (z : List It), RunsAt (w8.setCell ⟨w.heap.size, 0, none⟩ (.slice sa sn sc)) (.slice sa sn sc) s ∧ Fr w.heap.size (w8.setCell ⟨w.heap.size, 0, none⟩ (.slice sa sn sc)) (.slice ua un uc) z ∧ Below w.heap.size w (w8.setCell ⟨w.heap.size, 0, none⟩ (.slice sa sn sc))) := ⟨s, _, D8.fin.1, D8.finZ Z8 z7, D8.fin.2⟩
          have cE := (D8.2.1.put (.slice sa sn sc)).cell
          clear D6 D7 D8 Z8 hrd6 hrd7 hrd8 hg7 hg8
          go_wp2
          refine bodyPost_ret (v := .tuple #[.agg #[.slice sa sn sc], .slice ua un uc]) (by simp [results, Try.results5, go_sem, cE]) rfl ⟨_, _, rfl, R.out⟩
    · have hqbf : (q' == 0) = false := by simp [hqb]
      clear hrd5 c5
      have hrd5 := D5.2.2.2.1
      have c6 := D5.1.cell
      have z6 : w.heap.size < w5.heap.size := D5.2.1.lt
      have zb6 := D5.1.lt
      go_upto_region 7 with fail
      go_region_with (first
        | (go_at_call 18; rw [wrap_small (show (0 : Int) ≤ 1 + q7 by omega) (by omega)]; refine (l2Z_any g (3000 + 1 + 1 + 1) (1 + q7) 4 _ (by omega) (by omega) (by omega) (by omega) (by omega) hrd7).mono ?_; rintro e w8 ⟨u8, rfl, zs, hzl, hgd, Z8, hrd8, hg8⟩; have D8 := D7.drawn hg8 hrd8; have c8 := D8.1.cell; have c8x := D8.2.1.cell; have f8x := D8.2.1.frozen)
        | (go_at_call 14; refine (pick_any g (3000 + 1 + 1) 2 _ (by omega) (by omega) (by omega) (hrd5.below (Below.drew (Below.refl _ _)))).mono ?_; rintro e w7 ⟨q7, hq70, hq72, rfl, hrd7, hg7⟩; have D7 := D5.drawn (grown_drew hg7) hrd7; have c7 := D7.1.cell; have z7 := D7.2.1.lt))
      all_goals
        obtain ⟨ua, un, uc, rfl⟩ := Z8.shapeN
        have R : Hid (∃ (s : Rn) (z : List It), RunsAt (w8.setCell ⟨w.heap.size, 0, none⟩ (.slice sa sn sc)) (.slice sa sn sc) s ∧ Fr w.heap.size (w8.setCell ⟨w.heap.size, 0, none⟩ (.slice sa sn sc)) (.slice ua un uc) z ∧ Below w.heap.size w (w8.setCell ⟨w.heap.size, 0, none⟩ (.slice sa sn sc))) := ⟨s, _, D8.fin.1, D8.finZ Z8 z7, D8.fin.2⟩
        have cE := (D8.2.1.put (.slice sa sn sc)).cell
        clear D5 D7 D8 Z8 hrd5 hrd7 hrd8 hg7 hg8
        go_wp2
        refine bodyPost_ret (v := .tuple #[.agg #[.slice sa sn sc], .slice ua un uc]) (by simp [results, Try.results5, go_sem, cE]) rfl ⟨_, _, rfl, R.out⟩

end Go.Proofs.Ytegnoebpnpdogab
