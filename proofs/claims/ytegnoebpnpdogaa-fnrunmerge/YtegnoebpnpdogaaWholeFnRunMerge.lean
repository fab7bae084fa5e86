/-
  Texts of this claim put behind one another: DrawRunPut, DrawRunM, DrawRunS, RunMergeI, RunMergeS, RunSame, LawFnRunMerge.
-/
import Derived.Test.YtegnoebpnpdogaaDrawRun
import Derived.Test.YtegnoebpnpdogaaRunFar
import Derived.Deep.DeepCutAuto
import Derived.Test.YtegnoebpnpdogaaRunOk
import Derived.Test.YtegnoebpnpdogaaZSame
import Derived.Test.YtegnoebpnpdogaaRunOkSpec

/-
  What is drawn for the laws of runs: spec.DrawRunPut.
-/
namespace Go.Proofs.Ytegnoebpnpdogaa
set_option maxRecDepth 100000
set_option linter.unusedVariables false
open Go.RowKit

/-- Drawn runs in the box b, the result's box ahead of the reader g. -/
def Dn (w wx : World) (g Q b : Nat) (v : Value) (s : Rn) : Prop := BoxAt wx b v ∧ BoxAt wx w.heap.size (.slice none 0 0) ∧ DrawnR wx g v s ∧ Rd wx g Q ∧ Below w.heap.size w wx ∧ g < b ∧ w.heap.size < g
theorem Dn.drawn {w wx wy : World} {g Q Q' b : Nat} {v : Value} {s : Rn} (h : Dn w wx g Q b v s) (hg : wx.grownBy wy (some g)) (hr : Rd wy g Q') : Dn w wy g Q' b v s := by
  obtain ⟨h1, h2, h3, h4, h5, h6, h7⟩ := h
  exact ⟨h1.grown hg (fun e => by simp at e; omega), h2.grown hg (fun e => by simp at e; omega), h3.next hg, hr, h5.grown hg h5.size (fun k e => by simp at e; omega), h6, h7⟩
theorem Dn.below {w wx wy : World} {g Q b : Nat} {v : Value} {s : Rn} (h : Dn w wx g Q b v s) (hb : Below wx.heap.size wx wy) : Dn w wy g Q b v s :=
  h.drawn ⟨hb.os, hb.tape, hb.output, hb.size, fun k hk _ => hb.block k hk⟩ (h.2.2.2.1.below hb)
theorem Dn.fin {w wx : World} {g Q b : Nat} {v : Value} {s : Rn} (h : Dn w wx g Q b v s) : RunsAt (wx.setCell ⟨w.heap.size, 0, none⟩ v) v s ∧ Below w.heap.size w (wx.setCell ⟨w.heap.size, 0, none⟩ v) :=
  ⟨runs_put h.2.2.1 (by have := h.2.2.2.2.2.2; omega), h.2.2.2.2.1.setCell (Nat.le_refl _) _⟩
/-- Items that lie in blocks from B on. -/
def Fr (B : Nat) (w : World) (u : Value) (z : List It) : Prop := ∀ w'', Only 0 B w w'' → TailZ w'' u z
theorem Fr.now {B : Nat} {w : World} {u : Value} {z : List It} (h : Fr B w u z) : TailZ w u z := h w (Only.refl _ _ _)
theorem only_of_below {B : Nat} {w w' : World} (h : Below w.heap.size w w') : Only 0 B w w' := ⟨h.os, h.tape, h.output, h.size, fun k hk _ => h.block k hk⟩
theorem Fr.below {B : Nat} {w w' : World} {u : Value} {z : List It} (h : Fr B w u z) (hb : Below w.heap.size w w') : Fr B w' u z := fun w'' hw => h w'' ((only_of_below hb).trans hw)
theorem Fr.put {B b : Nat} {w : World} {u x : Value} {z : List It} (h : Fr B w u z) (hb : b < B) : Fr B (w.setCell ⟨b, 0, none⟩ x) u z := fun w'' hw => h w'' ((Only.setCell (Only.refl 0 B w) (Nat.zero_le _) hb x).trans hw)
theorem OwnZ.fr {w : World} {lo hi B : Nat} {u : Value} {z : List It} (h : OwnZ w lo hi u z) (hB : B ≤ lo) : Fr B w u z := fun _ hw => (h.only hw (.inr hB)).tail
/-- Runs that lie in blocks from B on. -/
def FrR (B : Nat) (w : World) (u : Value) (z : Rn) : Prop := ∀ w'', Only 0 B w w'' → RunsAt w'' u z
theorem FrR.now {B : Nat} {w : World} {u : Value} {z : Rn} (h : FrR B w u z) : RunsAt w u z := h w (Only.refl _ _ _)
theorem FrR.below {B : Nat} {w w' : World} {u : Value} {z : Rn} (h : FrR B w u z) (hb : Below w.heap.size w w') : FrR B w' u z := fun w'' hw => h w'' ((only_of_below hb).trans hw)
theorem FrR.put {B b : Nat} {w : World} {u x : Value} {z : Rn} (h : FrR B w u z) (hb : b < B) : FrR B (w.setCell ⟨b, 0, none⟩ x) u z := fun w'' hw => h w'' ((Only.setCell (Only.refl 0 B w) (Nat.zero_le _) hb x).trans hw)
theorem OwnR.fr {w : World} {lo hi B : Nat} {u : Value} {z : Rn} (h : OwnR w lo hi u z) (hB : B ≤ lo) : FrR B w u z := fun _ hw => (h.only hw (.inr hB)).runs
theorem only_wide {a b : Nat} {w w' : World} (h : Only 0 a w w') (hab : a ≤ b) : Only 0 b w w' := ⟨h.os, h.tape, h.output, h.size, fun k hk hr => h.block k hk (by omega)⟩
theorem Dn.finD {w wx : World} {g Q b : Nat} {v u : Value} {s : Rn} {z : List It} (h : Dn w wx g Q b v s) (hz : Drawn wx g u z) : Fr w.heap.size (wx.setCell ⟨w.heap.size, 0, none⟩ v) u z :=
  fun w'' hw => hz _ ((Only.setCell (Only.refl 0 (g + 1) wx) (Nat.zero_le _) (by show w.heap.size < _; have := h.2.2.2.2.2.2; omega) v).trans (only_wide hw (by have := h.2.2.2.2.2.2; omega)))
theorem Dn.finZ {w wx : World} {g Q b lo hi : Nat} {v u : Value} {s : Rn} {z : List It} (h : Dn w wx g Q b v s) (hz : OwnZ wx lo hi u z) (hlo : w.heap.size < lo) : Fr w.heap.size (wx.setCell ⟨w.heap.size, 0, none⟩ v) u z :=
  (hz.only (Only.of_grown (lo := w.heap.size) (hi := w.heap.size + 1) (set_grown _ _ _) (fun k e => by simp at e; omega)) (.inr hlo)).fr (by omega)

set_option maxHeartbeats 4000000 in
theorem drawRunPut_any (a : Option Addr) (len cap : Nat) (bs : List Int) (w : World) (h : IsRow .u8 w a len cap bs) :
    Calls Try.prog 9 #[.slice a len cap] w fun e w' => ∃ v u, e = .returned (.tuple #[.agg #[v], u]) ∧ ∃ (s : Rn) (z : List It), RunsAt w' v s ∧ Fr w.heap.size w' u z ∧ Below w.heap.size w w' := by
  have x0 : BoxAt (w.alloc (.cells #[.slice none 0 0] 25)) w.heap.size (.slice none 0 0) := boxAt_new _ _
  have hk0 : Below w.heap.size w (w.alloc (.cells #[.slice none 0 0] 25)) := below_alloc _
  have h1 : IsRow .u8 (w.alloc (.cells #[.slice none 0 0] 25)) a len cap bs := h.below hk0
  obtain ⟨g, HG⟩ : ∃ g, Hid (g = w.heap.size + 1) := ⟨_, rfl⟩
  have hg0 : (w.alloc (.cells #[.slice none 0 0] 25)).heap.size = g := by rw [HG.out]; simp
  have hgw : w.heap.size < g := by rw [HG.out]; omega
  clear h
  have HO := l12Open_any a len cap bs _ h1
  rw [hg0] at HO
  clear h1
  go_enter Try.func9, Try.ntmps9
  go_wp2_with fail
  refine HO.mono ?_
  rintro e w1 ⟨rfl, hrd1, hb1⟩
  have hk1 : Below w.heap.size w w1 := hk0.trans (hb1.mono (by omega))
  have x1 := x0.keep hb1 hgw
  clear HO hk0 x0 hb1
  go_upto_region 2 with fail
  go_cut [5] (fun p wx => ∃ (b : Nat) (sa : Option Addr) (sn sc : Nat) (s : Rn), p = .pointer (some ⟨b, 0, none⟩) ∧ Hid (BoxAt wx b (.slice sa sn sc) ∧ BoxAt wx w.heap.size (.slice none 0 0) ∧ DrawnR wx g (.slice sa sn sc) s ∧ Rd wx g 3000 ∧ Below w.heap.size w wx ∧ g < b))
  case first =>
    go_wp2_with fail
    refine (l7Spine_any g 0 _ (by omega) hrd1).mono ?_
    rintro e w2 ⟨v2, rfl, s, hd2, hrd2, hg2⟩
    have hk2 : Below w.heap.size w w2 := hk1.grown hg2 hk1.size (fun k e => by simp at e; omega)
    have x2 := x1.grown hg2 (fun e => by simp at e; omega)
    obtain ⟨sa, sn, sc, rfl⟩ := hd2.now.shapeN
    have hA := World.grownBy_alloc w2 (.cells #[.slice sa sn sc] 25) (some g)
    have R : Hid (BoxAt (w2.alloc (.cells #[.slice sa sn sc] 25)) w2.heap.size (.slice sa sn sc) ∧ BoxAt (w2.alloc (.cells #[.slice sa sn sc] 25)) w.heap.size (.slice none 0 0) ∧ DrawnR (w2.alloc (.cells #[.slice sa sn sc] 25)) g (.slice sa sn sc) s ∧ Rd (w2.alloc (.cells #[.slice sa sn sc] 25)) g 3000 ∧ Below w.heap.size w (w2.alloc (.cells #[.slice sa sn sc] 25)) ∧ g < w2.heap.size) := ⟨boxAt_new _ _, x2.below (below_alloc _), hd2.next hA, hrd2.below (below_alloc _), below_then hk2 (below_alloc _), hrd2.lt⟩
    clear hd2 hrd2 hg2 hk2 x2 hA hk1 x1 hrd1
    go_wp2_with fail
    go_meet
    case rel => exact ⟨w2.heap.size, sa, sn, sc, s, rfl, R.out⟩
  case rest =>
  obtain ⟨b, sa, sn, sc, s, rfl, HC⟩ := hcut
  obtain ⟨b3, x3, hd3, hrd3, hk3, hglt⟩ := HC.out
  have D3 : Dn w wc g 3000 b (.slice sa sn sc) s := ⟨b3, x3, hd3, hrd3, hk3, hglt, hgw⟩
  clear b3 x3 hd3 hk3 hk1 x1 hrd1 HC
  go_wp2_with fail
  refine (pick_any g 3000 10 _ (by omega) (by omega) (by omega) hrd3).mono ?_
  rintro e w4 ⟨q, hq0, hq1, rfl, hrd4, hg4⟩
  have D4 := D3.drawn hg4 hrd4
  have z4 : w.heap.size < w4.heap.size := D4.2.1.lt
  have zb4 := D4.1.lt
  clear D3 hrd3 hg4
  have c4 := D4.1.cell
  by_cases hqa : q = 0
  · subst hqa
    go_upto_region 4 with fail
    go_region_with (first
      | (go_at_call 35; refine (l2Bent_any g (3000 + 1) _ (by omega) (hrd4.below (Below.drew (Below.refl _ _)))).mono ?_; rintro e w5 ⟨u5, rfl, zs, hgz, hdz, hrd5, hg5⟩; have D5 := D4.drawn (grown_drew hg5) hrd5; have c5 := D5.1.cell; have c5x := D5.2.1.cell; have f5x := D5.2.1.frozen; have z5 := D5.2.1.lt))
    all_goals
      obtain ⟨ua, un, uc, rfl⟩ : ∃ a n c, u5 = Value.slice a n c := by obtain ⟨a, c, e⟩ := hdz.now.shape1; exact ⟨a, _, c, e⟩
      have R : Hid (∃ (s : Rn) (z : List It), RunsAt (w5.setCell ⟨w.heap.size, 0, none⟩ (.slice sa sn sc)) (.slice sa sn sc) s ∧ Fr w.heap.size (w5.setCell ⟨w.heap.size, 0, none⟩ (.slice sa sn sc)) (.slice ua un uc) z ∧ Below w.heap.size w (w5.setCell ⟨w.heap.size, 0, none⟩ (.slice sa sn sc))) := ⟨s, zs, D5.fin.1, D5.finD hdz, D5.fin.2⟩
      have cE := (D5.2.1.put (.slice sa sn sc)).cell
      clear D4 D5 hrd4 hrd5 hdz hg5 hgz
      go_wp2
      refine bodyPost_ret (v := .tuple #[.agg #[.slice sa sn sc], .slice ua un uc]) (by simp [results, Try.results9, go_sem, cE]) rfl ⟨_, _, rfl, R.out⟩
  · have hqaf : (q == 0) = false := by simp [hqa]
    go_wp2_with fail
    refine (pick_any g (3000 + 1) 4 _ (by omega) (by omega) (by omega) hrd4).mono ?_
    rintro e w5 ⟨q', hq0', hq1', rfl, hrd5, hg5⟩
    have D5 := D4.drawn hg5 hrd5
    have z5 : w.heap.size < w5.heap.size := D5.2.1.lt
    have zb5 := D5.1.lt
    clear D4 hrd4 hg5 c4
    have c5 := D5.1.cell
    by_cases hqb : q' = 0
    · subst hqb
      cases hok : runOkB s with
      | true =>
        go_wp2_with fail
        refine (specRunOk_any _ s _ D5.2.2.1.now).mono ?_
        rw [hok]
        rintro e w6 ⟨rfl, hb6⟩
        have D6 := D5.below hb6
        have c6 := D6.1.cell
        have z6 : w.heap.size < w6.heap.size := D6.2.1.lt
        have zb6 := D6.1.lt
        have hs5 := runOk_le hok
        clear D5 hb6 c5 hrd5
        go_upto_region 6 with fail
        go_region_with (first
          | (go_at_call 36; refine (specZNeg_any _ (sumR s) _ Z7.items).mono ?_; rintro e w8 ⟨u8, rfl, Z8, hb8⟩; have D8 := D7.below hb8; have c8 := D8.1.cell; have c8x := D8.2.1.cell; have f8x := D8.2.1.frozen)
          | (go_at_call 37; refine (l7Sum_any _ s _ (D6.2.2.1.now.below (Below.drew (Below.refl _ _))) (by omega) (fun j hj => each_ok hok hj)).mono ?_; rintro e w7 ⟨u7, rfl, Z7, hb7⟩; have D7 := D6.below (below_then (Below.drew (Below.refl _ _)) hb7); have c7 := D7.1.cell; have z7 := D7.2.1.lt))
        all_goals
          obtain ⟨ua, un, uc, rfl⟩ := Z8.shapeN
          have R : Hid (∃ (s : Rn) (z : List It), RunsAt (w8.setCell ⟨w.heap.size, 0, none⟩ (.slice sa sn sc)) (.slice sa sn sc) s ∧ Fr w.heap.size (w8.setCell ⟨w.heap.size, 0, none⟩ (.slice sa sn sc)) (.slice ua un uc) z ∧ Below w.heap.size w (w8.setCell ⟨w.heap.size, 0, none⟩ (.slice sa sn sc))) := ⟨s, _, D8.fin.1, D8.finZ Z8 z7, D8.fin.2⟩
          have cE := (D8.2.1.put (.slice sa sn sc)).cell
          clear D6 D7 D8 Z7 Z8 hb7 hb8 hok
          go_wp2
          refine bodyPost_ret (v := .tuple #[.agg #[.slice sa sn sc], .slice ua un uc]) (by simp [results, Try.results9, go_sem, cE]) rfl ⟨_, _, rfl, R.out⟩
      | false =>
        go_wp2_with fail
        refine (specRunOk_any _ s _ D5.2.2.1.now).mono ?_
        rw [hok]
        rintro e w6 ⟨rfl, hb6⟩
        have D6 := D5.below hb6
        clear D5 hb6 c5 hrd5 hok
        have hrd6 := D6.2.2.2.1
        have c6 := D6.1.cell
        have z6 : w.heap.size < w6.heap.size := D6.2.1.lt
        have zb6 := D6.1.lt
        go_upto_region 7 with fail
        go_region_with (first
          | (go_at_call 38; rw [wrap_small (show (0 : Int) ≤ 1 + q7 by omega) (by omega)]; refine (l2Z_any g (3000 + 1 + 1 + 1) (1 + q7) 4 _ (by omega) (by omega) (by omega) (by omega) (by omega) hrd7).mono ?_; rintro e w8 ⟨u8, rfl, zs, hzl, hgd, Z8, hrd8, hg8⟩; have D8 := D7.drawn hg8 hrd8; have c8 := D8.1.cell; have c8x := D8.2.1.cell; have f8x := D8.2.1.frozen)
          | (go_at_call 34; refine (pick_any g (3000 + 1 + 1) 2 _ (by omega) (by omega) (by omega) (hrd6.below (Below.drew (Below.refl _ _)))).mono ?_; rintro e w7 ⟨q7, hq70, hq72, rfl, hrd7, hg7⟩; have D7 := D6.drawn (grown_drew hg7) hrd7; have c7 := D7.1.cell; have z7 := D7.2.1.lt))
        all_goals
          obtain ⟨ua, un, uc, rfl⟩ := Z8.shapeN
          have R : Hid (∃ (s : Rn) (z : List It), RunsAt (w8.setCell ⟨w.heap.size, 0, none⟩ (.slice sa sn sc)) (.slice sa sn sc) s ∧ Fr w.heap.size (w8.setCell ⟨w.heap.size, 0, none⟩ (.slice sa sn sc)) (.slice ua un uc) z ∧ Below w.heap.size w (w8.setCell ⟨w.heap.size, 0, none⟩ (.slice sa sn sc))) := ⟨s, _, D8.fin.1, D8.finZ Z8 z7, D8.fin.2⟩
          have cE := (D8.2.1.put (.slice sa sn sc)).cell
          clear D6 D7 D8 Z8 hrd6 hrd7 hrd8 hg7 hg8
          go_wp2
          refine bodyPost_ret (v := .tuple #[.agg #[.slice sa sn sc], .slice ua un uc]) (by simp [results, Try.results9, go_sem, cE]) rfl ⟨_, _, rfl, R.out⟩
    · have hqbf : (q' == 0) = false := by simp [hqb]
      clear hrd5 c5
      have hrd5 := D5.2.2.2.1
      have c6 := D5.1.cell
      have z6 : w.heap.size < w5.heap.size := D5.2.1.lt
      have zb6 := D5.1.lt
      go_upto_region 7 with fail
      go_region_with (first
        | (go_at_call 38; rw [wrap_small (show (0 : Int) ≤ 1 + q7 by omega) (by omega)]; refine (l2Z_any g (3000 + 1 + 1 + 1) (1 + q7) 4 _ (by omega) (by omega) (by omega) (by omega) (by omega) hrd7).mono ?_; rintro e w8 ⟨u8, rfl, zs, hzl, hgd, Z8, hrd8, hg8⟩; have D8 := D7.drawn hg8 hrd8; have c8 := D8.1.cell; have c8x := D8.2.1.cell; have f8x := D8.2.1.frozen)
        | (go_at_call 34; refine (pick_any g (3000 + 1 + 1) 2 _ (by omega) (by omega) (by omega) (hrd5.below (Below.drew (Below.refl _ _)))).mono ?_; rintro e w7 ⟨q7, hq70, hq72, rfl, hrd7, hg7⟩; have D7 := D5.drawn (grown_drew hg7) hrd7; have c7 := D7.1.cell; have z7 := D7.2.1.lt))
      all_goals
        obtain ⟨ua, un, uc, rfl⟩ := Z8.shapeN
        have R : Hid (∃ (s : Rn) (z : List It), RunsAt (w8.setCell ⟨w.heap.size, 0, none⟩ (.slice sa sn sc)) (.slice sa sn sc) s ∧ Fr w.heap.size (w8.setCell ⟨w.heap.size, 0, none⟩ (.slice sa sn sc)) (.slice ua un uc) z ∧ Below w.heap.size w (w8.setCell ⟨w.heap.size, 0, none⟩ (.slice sa sn sc))) := ⟨s, _, D8.fin.1, D8.finZ Z8 z7, D8.fin.2⟩
        have cE := (D8.2.1.put (.slice sa sn sc)).cell
        clear D5 D7 D8 Z8 hrd5 hrd7 hrd8 hg7 hg8
        go_wp2
        refine bodyPost_ret (v := .tuple #[.agg #[.slice sa sn sc], .slice ua un uc]) (by simp [results, Try.results9, go_sem, cE]) rfl ⟨_, _, rfl, R.out⟩

end Go.Proofs.Ytegnoebpnpdogaa

/-
  What is drawn for the laws of runs: spec.DrawRunMerge, spec.DrawRunOk, spec.DrawRunAll.
-/
namespace Go.Proofs.Ytegnoebpnpdogaa
set_option maxRecDepth 100000
set_option linter.unusedVariables false
open Go.RowKit

set_option maxHeartbeats 4000000 in
theorem drawRunMerge_any (a : Option Addr) (len cap : Nat) (bs : List Int) (w : World) (h : IsRow .u8 w a len cap bs) :
    Calls Try.prog 22 #[.slice a len cap] w fun e w' => ∃ v f, e = .returned (.tuple #[.agg #[v], .int .i64 f]) ∧ -1 ≤ f ∧ f ≤ 1000 ∧ ∃ (s : Rn), RunsAt w' v s ∧ Below w.heap.size w w' := by
  have x0 : BoxAt (w.alloc (.cells #[.slice none 0 0] 25)) w.heap.size (.slice none 0 0) := boxAt_new _ _
  have hk0 : Below w.heap.size w (w.alloc (.cells #[.slice none 0 0] 25)) := below_alloc _
  have h1 : IsRow .u8 (w.alloc (.cells #[.slice none 0 0] 25)) a len cap bs := h.below hk0
  obtain ⟨g, HG⟩ : ∃ g, Hid (g = w.heap.size + 1) := ⟨_, rfl⟩
  have hg0 : (w.alloc (.cells #[.slice none 0 0] 25)).heap.size = g := by rw [HG.out]; simp
  have hgw : w.heap.size < g := by rw [HG.out]; omega
  clear h
  have HO := l12Open_any a len cap bs _ h1
  rw [hg0] at HO
  clear h1
  go_enter Try.func22, Try.ntmps22
  go_wp2_with fail
  refine HO.mono ?_
  rintro e w1 ⟨rfl, hrd1, hb1⟩
  have hk1 : Below w.heap.size w w1 := hk0.trans (hb1.mono (by omega))
  have x1 := x0.keep hb1 hgw
  clear HO hk0 x0 hb1
  go_upto_region 2 with fail
  go_cut [5] (fun p wx => ∃ (b : Nat) (sa : Option Addr) (sn sc : Nat) (s : Rn), p = .pointer (some ⟨b, 0, none⟩) ∧ Hid (BoxAt wx b (.slice sa sn sc) ∧ BoxAt wx w.heap.size (.slice none 0 0) ∧ DrawnR wx g (.slice sa sn sc) s ∧ Rd wx g 3000 ∧ Below w.heap.size w wx ∧ g < b))
  case first =>
    go_wp2_with fail
    refine (l7Spine_any g 0 _ (by omega) hrd1).mono ?_
    rintro e w2 ⟨v2, rfl, s, hd2, hrd2, hg2⟩
    have hk2 : Below w.heap.size w w2 := hk1.grown hg2 hk1.size (fun k e => by simp at e; omega)
    have x2 := x1.grown hg2 (fun e => by simp at e; omega)
    obtain ⟨sa, sn, sc, rfl⟩ := hd2.now.shapeN
    have hA := World.grownBy_alloc w2 (.cells #[.slice sa sn sc] 25) (some g)
    have R : Hid (BoxAt (w2.alloc (.cells #[.slice sa sn sc] 25)) w2.heap.size (.slice sa sn sc) ∧ BoxAt (w2.alloc (.cells #[.slice sa sn sc] 25)) w.heap.size (.slice none 0 0) ∧ DrawnR (w2.alloc (.cells #[.slice sa sn sc] 25)) g (.slice sa sn sc) s ∧ Rd (w2.alloc (.cells #[.slice sa sn sc] 25)) g 3000 ∧ Below w.heap.size w (w2.alloc (.cells #[.slice sa sn sc] 25)) ∧ g < w2.heap.size) := ⟨boxAt_new _ _, x2.below (below_alloc _), hd2.next hA, hrd2.below (below_alloc _), below_then hk2 (below_alloc _), hrd2.lt⟩
    clear hd2 hrd2 hg2 hk2 x2 hA hk1 x1 hrd1
    go_wp2_with fail
    go_meet
    case rel => exact ⟨w2.heap.size, sa, sn, sc, s, rfl, R.out⟩
  case rest =>
  obtain ⟨b, sa, sn, sc, s, rfl, HC⟩ := hcut
  obtain ⟨b3, x3, hd3, hrd3, hk3, hglt⟩ := HC.out
  have D3 : Dn w wc g 3000 b (.slice sa sn sc) s := ⟨b3, x3, hd3, hrd3, hk3, hglt, hgw⟩
  have z3 : w.heap.size < wc.heap.size := x3.lt
  have zb3 := b3.lt
  have c3 := b3.cell
  clear b3 x3 hd3 hk3 hk1 x1 hrd1 HC
  have hlit : Own (wc.drew.alloc (.cells #[.int .i64 0, .int .i64 3, .int .i64 6, .int .i64 10, .int .i64 1000, .int .i64 (-1)] 3)) wc.heap.size (wc.heap.size + 1) (.slice (some ⟨wc.heap.size, 0, none⟩) 6 6) [0, 3, 6, 10, 1000, -1] := own_lit wc.drew [0, 3, 6, 10, 1000, -1] (by decide)
  have hA1 : Below wc.heap.size wc (wc.drew.alloc (.cells #[.int .i64 0, .int .i64 3, .int .i64 6, .int .i64 10, .int .i64 1000, .int .i64 (-1)] 3)) := below_then (Below.drew (Below.refl _ _)) (below_alloc (w := wc.drew) _)
  have hA2 : Below wc.heap.size wc (wc.alloc (.cells #[.int .i64 0, .int .i64 3, .int .i64 6, .int .i64 10, .int .i64 1000, .int .i64 (-1)] 3)) := below_alloc _
  have DA := D3.below hA1
  have ca1 := DA.1.cell
  have ca2 := (D3.below hA2).1.cell
  have hrdA := DA.2.2.2.1
  go_upto_region 3 with fail
  go_region_with (first
    | (go_at_call 57; refine (num_any g 3000 wc.heap.size (wc.heap.size + 1) _ [0, 3, 6, 10, 1000, -1] _ (by omega) hrdA hlit (by omega) (by decide) (by decide)).mono ?_; rintro e w5 ⟨f, hf, rfl, hrd5, hg5⟩; have D5 := DA.drawn hg5 hrd5; have c5 := D5.1.cell; have c5x := D5.2.1.cell; have f5x := D5.2.1.frozen))
  all_goals
    have hfb : -1 ≤ f ∧ f ≤ 1000 := by simp at hf; omega
    have R : Hid (∃ (s : Rn), RunsAt (w5.setCell ⟨w.heap.size, 0, none⟩ (.slice sa sn sc)) (.slice sa sn sc) s ∧ Below w.heap.size w (w5.setCell ⟨w.heap.size, 0, none⟩ (.slice sa sn sc))) := ⟨s, D5.fin⟩
    have cE := (D5.2.1.put (.slice sa sn sc)).cell
    clear D3 DA D5 hrd3 hrdA hrd5 hg5 hlit hA1 hA2 hf
    go_wp2
    refine bodyPost_ret (v := .tuple #[.agg #[.slice sa sn sc], .int .i64 f]) (by simp [results, Try.results22, go_sem, cE]) rfl ?_
    exact ⟨_, _, rfl, hfb.1, hfb.2, R.out⟩
set_option maxHeartbeats 4000000 in
theorem drawRunOk_any (a : Option Addr) (len cap : Nat) (bs : List Int) (w : World) (h : IsRow .u8 w a len cap bs) :
    Calls Try.prog 27 #[.slice a len cap] w fun e w' => ∃ v, e = .returned (.agg #[v]) ∧ ∃ (s : Rn), RunsAt w' v s ∧ Below w.heap.size w w' := by
  have x0 : BoxAt (w.alloc (.cells #[.slice none 0 0] 25)) w.heap.size (.slice none 0 0) := boxAt_new _ _
  have hk0 : Below w.heap.size w (w.alloc (.cells #[.slice none 0 0] 25)) := below_alloc _
  have h1 : IsRow .u8 (w.alloc (.cells #[.slice none 0 0] 25)) a len cap bs := h.below hk0
  obtain ⟨g, HG⟩ : ∃ g, Hid (g = w.heap.size + 1) := ⟨_, rfl⟩
  have hg0 : (w.alloc (.cells #[.slice none 0 0] 25)).heap.size = g := by rw [HG.out]; simp
  have hgw : w.heap.size < g := by rw [HG.out]; omega
  clear h
  have HO := l12Open_any a len cap bs _ h1
  rw [hg0] at HO
  clear h1
  go_enter Try.func27, Try.ntmps27
  go_wp2_with fail
  refine HO.mono ?_
  rintro e w1 ⟨rfl, hrd1, hb1⟩
  have hk1 : Below w.heap.size w w1 := hk0.trans (hb1.mono (by omega))
  have x1 := x0.keep hb1 hgw
  clear HO hk0 x0 hb1
  go_wp2_with fail
  refine (l7Spine_any g 0 _ (by omega) hrd1).mono ?_
  rintro e w2 ⟨v2, rfl, s, hd2, hrd2, hg2⟩
  obtain ⟨sa, sn, sc, rfl⟩ := hd2.now.shapeN
  have hk2 : Below w.heap.size w w2 := hk1.grown hg2 hk1.size (fun k e => by simp at e; omega)
  have x2 := x1.grown hg2 (fun e => by simp at e; omega)
  have c2 := x2.cell
  have f2 := x2.frozen
  have R : Hid (∃ (s : Rn), RunsAt (w2.setCell ⟨w.heap.size, 0, none⟩ (.slice sa sn sc)) (.slice sa sn sc) s ∧ Below w.heap.size w (w2.setCell ⟨w.heap.size, 0, none⟩ (.slice sa sn sc))) := ⟨s, runs_put hd2 (by omega), hk2.setCell (Nat.le_refl _) _⟩
  have cE := (x2.put (.slice sa sn sc)).cell
  clear hk1 x1 hrd1 hd2 hrd2 hg2 hk2 x2
  go_wp2
  refine bodyPost_ret (v := .agg #[.slice sa sn sc]) (by simp [results, Try.results27, go_sem, cE]) rfl ?_
  exact ⟨_, rfl, R.out⟩

end Go.Proofs.Ytegnoebpnpdogaa

/-
  What is drawn for the laws of runs: spec.DrawRunSame.
-/
namespace Go.Proofs.Ytegnoebpnpdogaa
set_option maxRecDepth 100000
set_option linter.unusedVariables false
open Go.RowKit

/-- Runs without their first. -/
theorem runs_tailOne {w : World} {b off n cap : Nat} {z : List It} {s : Rn} (h : RunsAt w (Value.slice (some (Addr.mk b off none)) n cap) (z :: s)) (k : Nat) (hk : (if cap = 1 then off else off + 1) = k) : RunsAt w (Value.slice (some (Addr.mk b k none)) (n - 1) (cap - 1)) s := by
  obtain ⟨hl, a, cp, he, hn, hc1, hc2, hc⟩ := h
  simp only [Value.slice.injEq] at he
  obtain ⟨rfl, rfl, rfl⟩ := he
  simp only [List.length_cons] at hl hc1
  obtain ⟨b', off', e, hb, hcell⟩ := hc (by simp)
  simp only [Option.some.injEq, Addr.mk.injEq, and_true] at e
  obtain ⟨rfl, rfl⟩ := e
  refine ⟨by omega, some ⟨b, k, none⟩, cap - 1, by simp, fun h => by simp at h, by omega, by omega, fun hne => ⟨b, k, rfl, hb, fun j hj => ?_⟩⟩
  have h1 : ¬ cap = 1 := by have := List.length_pos_iff.2 hne; omega
  rw [if_neg h1] at hk
  obtain ⟨rv, e1, e2⟩ := hcell (j + 1) (by simp; omega)
  refine ⟨rv, ?_, by simpa using e2⟩
  rw [← hk, show off + 1 + j = off + (j + 1) by omega]
  exact e1

set_option maxHeartbeats 2000000 in
theorem drawRunSame_any (a : Option Addr) (len cap : Nat) (bs : List Int) (w : World) (h : IsRow .u8 w a len cap bs) :
    Calls Try.prog 25 #[.slice a len cap] w fun e w' => ∃ v u, e = .returned (.tuple #[.agg #[v], .agg #[u]]) ∧ ∃ (s t : Rn), RunsAt w' v s ∧ RunsAt w' u t ∧ Below w.heap.size w w' := by
  have hk0 : Below w.heap.size w ((w.alloc (.cells #[.slice none 0 0] 25)).alloc (.cells #[.slice none 0 0] 25)) := below_then (below_alloc _) (below_alloc _)
  have x0 : BoxAt ((w.alloc (.cells #[.slice none 0 0] 25)).alloc (.cells #[.slice none 0 0] 25)) w.heap.size (.slice none 0 0) := (boxAt_new _ _).below (below_alloc _)
  have y0 : BoxAt ((w.alloc (.cells #[.slice none 0 0] 25)).alloc (.cells #[.slice none 0 0] 25)) (w.heap.size + 1) (.slice none 0 0) := by
    have := boxAt_new (w.alloc (.cells #[.slice none 0 0] 25)) (.slice none 0 0)
    rw [show (w.alloc (.cells #[.slice none 0 0] 25)).heap.size = w.heap.size + 1 by simp] at this
    exact this
  have h1 : IsRow .u8 ((w.alloc (.cells #[.slice none 0 0] 25)).alloc (.cells #[.slice none 0 0] 25)) a len cap bs := h.below hk0
  obtain ⟨g, HG⟩ : ∃ g, Hid (g = w.heap.size + 2) := ⟨_, rfl⟩
  have hg0 : ((w.alloc (.cells #[.slice none 0 0] 25)).alloc (.cells #[.slice none 0 0] 25)).heap.size = g := by rw [HG.out]; simp
  have hgw : w.heap.size + 1 < g := by rw [HG.out]; omega
  have HO := l12Open_any a len cap bs _ h1
  rw [hg0] at HO
  clear h1
  go_enter Try.func25, Try.ntmps25
  go_wp2_with fail
  refine HO.mono ?_
  rintro e w1 ⟨rfl, hrd1, hb1⟩
  have hk1 : Below w.heap.size w w1 := hk0.trans (hb1.mono (by omega))
  have x1 := x0.keep hb1 (by omega)
  have y1 := y0.keep hb1 (by omega)
  clear HO hk0 x0 y0 hb1
  go_wp2_with fail
  refine (l7Spine_any g 0 _ (by omega) hrd1).mono ?_
  rintro e w2 ⟨v2, rfl, s, hd2, hrd2, hg2⟩
  obtain ⟨sa, sn, sc, rfl⟩ := hd2.now.shapeN
  have hk2 : Below w.heap.size w w2 := hk1.grown hg2 hk1.size (fun k e => by simp at e; omega)
  have hbA : Below w2.heap.size w2 (w2.alloc (.cells #[.slice sa sn sc] 25)) := below_alloc _
  have x3 := (x1.grown hg2 (fun e => by simp at e; omega)).below hbA
  have y3 := (y1.grown hg2 (fun e => by simp at e; omega)).below hbA
  have a3 : BoxAt (w2.alloc (.cells #[.slice sa sn sc] 25)) w2.heap.size (.slice sa sn sc) := boxAt_new _ _
  have R3 : FrR (g + 1) (w2.alloc (.cells #[.slice sa sn sc] 25)) (.slice sa sn sc) s := FrR.below hd2 hbA
  have hk3 := below_then hk2 hbA
  have h3 := h.below hk3
  have hgl := hrd2.lt
  obtain ⟨g2, HG2⟩ : ∃ g2, Hid (g2 = w2.heap.size + 1) := ⟨_, rfl⟩
  have hg20 : (w2.alloc (.cells #[.slice sa sn sc] 25)).heap.size = g2 := by rw [HG2.out]; simp
  have hg2l : w2.heap.size < g2 := by rw [HG2.out]; omega
  have HO := l12Open_any a len cap bs _ h3
  rw [hg20] at HO
  clear h3 hk1 x1 y1 hrd1 hd2 hrd2 hg2 hk2 hbA
  go_wp2_with fail
  refine HO.mono ?_
  rintro e w4 ⟨rfl, hrd4, hb4⟩
  rw [← hg20] at hb4
  have x4 := x3.below hb4
  have y4 := y3.below hb4
  have a4 := a3.below hb4
  have hk4 := below_then hk3 hb4
  have z4 := hb4.size
  rw [hg20] at z4
  clear HO x3 y3 a3 hk3 hg20
  go_wp2_with fail
  refine (l7Spine_any g2 0 _ (by omega) hrd4).mono ?_
  rintro e w5 ⟨v5, rfl, t, hd5, hrd5, hg5⟩
  obtain ⟨ta, tn, tc, rfl⟩ := hd5.now.shapeN
  have hk5 : Below w.heap.size w w5 := hk4.grown hg5 hk4.size (fun k e => by simp at e; omega)
  have hbB : Below w5.heap.size w5 (w5.alloc (.cells #[.slice ta tn tc] 25)) := below_alloc _
  have x5 := x4.grown hg5 (fun e => by simp at e; omega)
  have x6 := x5.below hbB
  have y5 := y4.grown hg5 (fun e => by simp at e; omega)
  have y6 := y5.below hbB
  have a5 := a4.grown hg5 (fun e => by simp at e; omega)
  have a6 := a5.below hbB
  have b6 : BoxAt (w5.alloc (.cells #[.slice ta tn tc] 25)) w5.heap.size (.slice ta tn tc) := boxAt_new _ _
  have hb35 := hb4.grown hg5 hb4.size (fun k e => by simp at e; simp; have := HG2.out; omega)
  have R5 : FrR (w.heap.size + 2) w5 (.slice sa sn sc) s := fun w'' hw => (R3.below hb35) w'' (only_wide hw (by omega))
  have T5 : FrR (w.heap.size + 2) w5 (.slice ta tn tc) t := fun w'' hw => hd5 w'' (only_wide hw (by omega))
  have k6 := below_then hk5 hbB
  have zz5 : w2.heap.size < w5.heap.size := Nat.lt_of_lt_of_le hg2l (Nat.le_trans z4 hg5.size)
  have zz2 : w.heap.size + 1 < w2.heap.size := by omega
  have h6 := h.below (below_then hk5 hbB)
  obtain ⟨bt, HBT⟩ : ∃ n, Hid (n = tn) := ⟨_, rfl⟩
  have c6 := b6.cell
  rcases h6 with ⟨rfl, rfl, rfl, rfl⟩ | ⟨x, rfl, hlc, hm, hz, hcell, hwf⟩
  · clear hb4 hb35 R3 hrd4 hrd5 hd5 hg5 hk4 x4 y4 a4
    have xW := x6
    have yW := y6
    have aW := a6
    have bW := b6
    have RW := R5.below hbB
    have TW := T5.below hbB
    have kW := k6
    clear x6 y6 a6 b6 R5 T5 k6 x5 y5 a5 hk5
    have F7 : Hid (∃ (s t : Rn), RunsAt (((w5.alloc (.cells #[.slice ta tn tc] 25)).setCell ⟨w.heap.size, 0, none⟩ (.slice sa sn sc)).setCell ⟨w.heap.size + 1, 0, none⟩ (.slice ta tn tc)) (.slice sa sn sc) s ∧ RunsAt (((w5.alloc (.cells #[.slice ta tn tc] 25)).setCell ⟨w.heap.size, 0, none⟩ (.slice sa sn sc)).setCell ⟨w.heap.size + 1, 0, none⟩ (.slice ta tn tc)) (.slice ta tn tc) t ∧ Below w.heap.size w (((w5.alloc (.cells #[.slice ta tn tc] 25)).setCell ⟨w.heap.size, 0, none⟩ (.slice sa sn sc)).setCell ⟨w.heap.size + 1, 0, none⟩ (.slice ta tn tc))) := ⟨s, t, ((RW.put (by omega)).put (by omega)).now, ((TW.put (by omega)).put (by omega)).now, (kW.setCell (Nat.le_refl _) _).setCell (by simp) _⟩
    have ca := aW.cell
    have cb := bW.cell
    have cx0 := xW.cell
    have fx0 := xW.frozen
    have cy0 := yW.cell
    have fy0 := yW.frozen
    have cb1 := (bW.other (c := w.heap.size) (.slice sa sn sc) (by omega)).cell
    have cy1 := (yW.other (c := w.heap.size) (.slice sa sn sc) (by omega)).cell
    have fy1 := (yW.other (c := w.heap.size) (.slice sa sn sc) (by omega)).frozen
    have cE1 := ((xW.put (.slice sa sn sc)).other (c := w.heap.size + 1) (.slice ta tn tc) (by omega)).cell
    have cE2 := ((yW.other (c := w.heap.size) (.slice sa sn sc) (by omega)).put (.slice ta tn tc)).cell
    clear RW TW kW aW bW xW yW
    go_upto_region 5 with fail
    go_region_with (fail)
    all_goals
      go_wp2
      refine bodyPost_ret (v := .tuple #[.agg #[.slice sa sn sc], .agg #[.slice ta tn tc]]) (by simp [results, Try.results25, go_sem, cE1, cE2]) rfl ?_
      exact ⟨_, _, rfl, by obtain ⟨s7, t7, k1, k2, k3⟩ := F7.out; exact ⟨s7, t7, k1.below (Below.drew (Below.refl _ _)), k2.below (Below.drew (Below.refl _ _)), below_then k3 (Below.drew (Below.refl _ _))⟩⟩
  · clear hb4 hb35 R3 hrd4 hrd5 hd5 hg5 hk4 x4 y4 a4
    obtain ⟨xb, xo, xt⟩ := x
    by_cases hl0 : 0 < len
    · have hl0I : (0 : Int) < (len : Int) := by omega
      have cx := hcell 0 (by omega)
      obtain ⟨n, HN⟩ : ∃ n, Hid (n = bs.getD 0 0) := ⟨_, rfl⟩
      rw [← HN.out] at cx
      simp [Addr.add] at cx
      clear hcell hwf
      by_cases hp : n.tmod 2 = 1
      · by_cases ht : 0 < tn
        · have htI : (0 : Int) < (tn : Int) := by omega
          match t, T5 with
          | [], T5 =>
            obtain ⟨a', c', e'⟩ := T5.now.shape
            simp only [Value.slice.injEq, List.length_nil] at e'
            omega
          | z' :: t', T5 =>
            obtain ⟨tb, tf, tc', e', hlc', _⟩ := T5.now.some (by simp)
            simp only [Value.slice.injEq] at e'
            obtain ⟨rfl, htn, rfl⟩ := e'
            have htc1 : 1 ≤ tc := by omega
            have htcn : tn ≤ tc := by omega
            clear htn hlc'
            by_cases htc : tc = 1
            · obtain rfl : tn = 1 := by omega
              subst htc
              have hbS : Below w5.heap.size w5 (w5.alloc (.cells #[.slice (some ⟨tb, tf, none⟩) 0 0] 25)) := below_alloc _
              have TT : FrR (w.heap.size + 2) w5 (.slice (some ⟨tb, tf, none⟩) 0 0) t' := fun w'' hw => runs_tailOne (T5 w'' hw) _ (by simp )
              have cb6 := b6.cell
              have fb6 := b6.frozen
              have xW := x5.below hbS
              have yW := y5.below hbS
              have aW := a5.below hbS
              have bW : BoxAt (w5.alloc (.cells #[.slice (some ⟨tb, tf, none⟩) 0 0] 25)) w5.heap.size (.slice (some ⟨tb, tf, none⟩) 0 0) := boxAt_new _ _
              have RW := R5.below hbS
              have TW := TT.below hbS
              have kW := below_then hk5 hbS
              clear x6 y6 a6 b6 R5 T5 k6 TT hbS x5 y5 a5 hk5
              have F7 : Hid (∃ (s t : Rn), RunsAt (((w5.alloc (.cells #[.slice (some ⟨tb, tf, none⟩) 0 0] 25)).setCell ⟨w.heap.size, 0, none⟩ (.slice sa sn sc)).setCell ⟨w.heap.size + 1, 0, none⟩ (.slice (some ⟨tb, tf, none⟩) 0 0)) (.slice sa sn sc) s ∧ RunsAt (((w5.alloc (.cells #[.slice (some ⟨tb, tf, none⟩) 0 0] 25)).setCell ⟨w.heap.size, 0, none⟩ (.slice sa sn sc)).setCell ⟨w.heap.size + 1, 0, none⟩ (.slice (some ⟨tb, tf, none⟩) 0 0)) (.slice (some ⟨tb, tf, none⟩) 0 0) t ∧ Below w.heap.size w (((w5.alloc (.cells #[.slice (some ⟨tb, tf, none⟩) 0 0] 25)).setCell ⟨w.heap.size, 0, none⟩ (.slice sa sn sc)).setCell ⟨w.heap.size + 1, 0, none⟩ (.slice (some ⟨tb, tf, none⟩) 0 0))) := ⟨s, t', ((RW.put (by omega)).put (by omega)).now, ((TW.put (by omega)).put (by omega)).now, (kW.setCell (Nat.le_refl _) _).setCell (by simp) _⟩
              have ca := aW.cell
              have cb := bW.cell
              have cx0 := xW.cell
              have fx0 := xW.frozen
              have cy0 := yW.cell
              have fy0 := yW.frozen
              have cb1 := (bW.other (c := w.heap.size) (.slice sa sn sc) (by omega)).cell
              have cy1 := (yW.other (c := w.heap.size) (.slice sa sn sc) (by omega)).cell
              have fy1 := (yW.other (c := w.heap.size) (.slice sa sn sc) (by omega)).frozen
              have cE1 := ((xW.put (.slice sa sn sc)).other (c := w.heap.size + 1) (.slice (some ⟨tb, tf, none⟩) 0 0) (by omega)).cell
              have cE2 := ((yW.other (c := w.heap.size) (.slice sa sn sc) (by omega)).put (.slice (some ⟨tb, tf, none⟩) 0 0)).cell
              clear RW TW kW aW bW xW yW
              go_upto_region 5 with fail
              go_region_with (fail)
              all_goals
                go_wp2
                refine bodyPost_ret (v := .tuple #[.agg #[.slice sa sn sc], .agg #[.slice (some ⟨tb, tf, none⟩) 0 0]]) (by simp [results, Try.results25, go_sem, cE1, cE2]) rfl ?_
                exact ⟨_, _, rfl, by obtain ⟨s7, t7, k1, k2, k3⟩ := F7.out; exact ⟨s7, t7, k1.below (Below.drew (Below.refl _ _)), k2.below (Below.drew (Below.refl _ _)), below_then k3 (Below.drew (Below.refl _ _))⟩⟩
            · 
              have hbS : Below w5.heap.size w5 (w5.alloc (.cells #[.slice (some ⟨tb, tf + 1, none⟩) (tn - 1) (tc - 1)] 25)) := below_alloc _
              have TT : FrR (w.heap.size + 2) w5 (.slice (some ⟨tb, tf + 1, none⟩) (tn - 1) (tc - 1)) t' := fun w'' hw => runs_tailOne (T5 w'' hw) _ (by simp [htc])
              have cb6 := b6.cell
              have fb6 := b6.frozen
              have xW := x5.below hbS
              have yW := y5.below hbS
              have aW := a5.below hbS
              have bW : BoxAt (w5.alloc (.cells #[.slice (some ⟨tb, tf + 1, none⟩) (tn - 1) (tc - 1)] 25)) w5.heap.size (.slice (some ⟨tb, tf + 1, none⟩) (tn - 1) (tc - 1)) := boxAt_new _ _
              have RW := R5.below hbS
              have TW := TT.below hbS
              have kW := below_then hk5 hbS
              clear x6 y6 a6 b6 R5 T5 k6 TT hbS x5 y5 a5 hk5
              have F7 : Hid (∃ (s t : Rn), RunsAt (((w5.alloc (.cells #[.slice (some ⟨tb, tf + 1, none⟩) (tn - 1) (tc - 1)] 25)).setCell ⟨w.heap.size, 0, none⟩ (.slice sa sn sc)).setCell ⟨w.heap.size + 1, 0, none⟩ (.slice (some ⟨tb, tf + 1, none⟩) (tn - 1) (tc - 1))) (.slice sa sn sc) s ∧ RunsAt (((w5.alloc (.cells #[.slice (some ⟨tb, tf + 1, none⟩) (tn - 1) (tc - 1)] 25)).setCell ⟨w.heap.size, 0, none⟩ (.slice sa sn sc)).setCell ⟨w.heap.size + 1, 0, none⟩ (.slice (some ⟨tb, tf + 1, none⟩) (tn - 1) (tc - 1))) (.slice (some ⟨tb, tf + 1, none⟩) (tn - 1) (tc - 1)) t ∧ Below w.heap.size w (((w5.alloc (.cells #[.slice (some ⟨tb, tf + 1, none⟩) (tn - 1) (tc - 1)] 25)).setCell ⟨w.heap.size, 0, none⟩ (.slice sa sn sc)).setCell ⟨w.heap.size + 1, 0, none⟩ (.slice (some ⟨tb, tf + 1, none⟩) (tn - 1) (tc - 1)))) := ⟨s, t', ((RW.put (by omega)).put (by omega)).now, ((TW.put (by omega)).put (by omega)).now, (kW.setCell (Nat.le_refl _) _).setCell (by simp) _⟩
              have ca := aW.cell
              have cb := bW.cell
              have cx0 := xW.cell
              have fx0 := xW.frozen
              have cy0 := yW.cell
              have fy0 := yW.frozen
              have cb1 := (bW.other (c := w.heap.size) (.slice sa sn sc) (by omega)).cell
              have cy1 := (yW.other (c := w.heap.size) (.slice sa sn sc) (by omega)).cell
              have fy1 := (yW.other (c := w.heap.size) (.slice sa sn sc) (by omega)).frozen
              have cE1 := ((xW.put (.slice sa sn sc)).other (c := w.heap.size + 1) (.slice (some ⟨tb, tf + 1, none⟩) (tn - 1) (tc - 1)) (by omega)).cell
              have cE2 := ((yW.other (c := w.heap.size) (.slice sa sn sc) (by omega)).put (.slice (some ⟨tb, tf + 1, none⟩) (tn - 1) (tc - 1))).cell
              clear RW TW kW aW bW xW yW
              go_upto_region 5 with fail
              go_region_with (fail)
              all_goals
                go_wp2
                refine bodyPost_ret (v := .tuple #[.agg #[.slice sa sn sc], .agg #[.slice (some ⟨tb, tf + 1, none⟩) (tn - 1) (tc - 1)]]) (by simp [results, Try.results25, go_sem, cE1, cE2]) rfl ?_
                exact ⟨_, _, rfl, by obtain ⟨s7, t7, k1, k2, k3⟩ := F7.out; exact ⟨s7, t7, k1.below (Below.drew (Below.refl _ _)), k2.below (Below.drew (Below.refl _ _)), below_then k3 (Below.drew (Below.refl _ _))⟩⟩
        · have htI : ¬ (0 : Int) < (tn : Int) := by omega
          have xW := x6
          have yW := y6
          have aW := a6
          have bW := b6
          have RW := R5.below hbB
          have TW := T5.below hbB
          have kW := k6
          clear x6 y6 a6 b6 R5 T5 k6 x5 y5 a5 hk5
          have F7 : Hid (∃ (s t : Rn), RunsAt (((w5.alloc (.cells #[.slice ta tn tc] 25)).setCell ⟨w.heap.size, 0, none⟩ (.slice sa sn sc)).setCell ⟨w.heap.size + 1, 0, none⟩ (.slice ta tn tc)) (.slice sa sn sc) s ∧ RunsAt (((w5.alloc (.cells #[.slice ta tn tc] 25)).setCell ⟨w.heap.size, 0, none⟩ (.slice sa sn sc)).setCell ⟨w.heap.size + 1, 0, none⟩ (.slice ta tn tc)) (.slice ta tn tc) t ∧ Below w.heap.size w (((w5.alloc (.cells #[.slice ta tn tc] 25)).setCell ⟨w.heap.size, 0, none⟩ (.slice sa sn sc)).setCell ⟨w.heap.size + 1, 0, none⟩ (.slice ta tn tc))) := ⟨s, t, ((RW.put (by omega)).put (by omega)).now, ((TW.put (by omega)).put (by omega)).now, (kW.setCell (Nat.le_refl _) _).setCell (by simp) _⟩
          have ca := aW.cell
          have cb := bW.cell
          have cx0 := xW.cell
          have fx0 := xW.frozen
          have cy0 := yW.cell
          have fy0 := yW.frozen
          have cb1 := (bW.other (c := w.heap.size) (.slice sa sn sc) (by omega)).cell
          have cy1 := (yW.other (c := w.heap.size) (.slice sa sn sc) (by omega)).cell
          have fy1 := (yW.other (c := w.heap.size) (.slice sa sn sc) (by omega)).frozen
          have cE1 := ((xW.put (.slice sa sn sc)).other (c := w.heap.size + 1) (.slice ta tn tc) (by omega)).cell
          have cE2 := ((yW.other (c := w.heap.size) (.slice sa sn sc) (by omega)).put (.slice ta tn tc)).cell
          clear RW TW kW aW bW xW yW
          go_upto_region 5 with fail
          go_region_with (fail)
          all_goals
            go_wp2
            refine bodyPost_ret (v := .tuple #[.agg #[.slice sa sn sc], .agg #[.slice ta tn tc]]) (by simp [results, Try.results25, go_sem, cE1, cE2]) rfl ?_
            exact ⟨_, _, rfl, by obtain ⟨s7, t7, k1, k2, k3⟩ := F7.out; exact ⟨s7, t7, k1.below (Below.drew (Below.refl _ _)), k2.below (Below.drew (Below.refl _ _)), below_then k3 (Below.drew (Below.refl _ _))⟩⟩
      · 
        have xW := x6
        have yW := y6
        have aW := a6
        have bW := b6
        have RW := R5.below hbB
        have TW := T5.below hbB
        have kW := k6
        clear x6 y6 a6 b6 R5 T5 k6 x5 y5 a5 hk5
        have F7 : Hid (∃ (s t : Rn), RunsAt (((w5.alloc (.cells #[.slice ta tn tc] 25)).setCell ⟨w.heap.size, 0, none⟩ (.slice sa sn sc)).setCell ⟨w.heap.size + 1, 0, none⟩ (.slice ta tn tc)) (.slice sa sn sc) s ∧ RunsAt (((w5.alloc (.cells #[.slice ta tn tc] 25)).setCell ⟨w.heap.size, 0, none⟩ (.slice sa sn sc)).setCell ⟨w.heap.size + 1, 0, none⟩ (.slice ta tn tc)) (.slice ta tn tc) t ∧ Below w.heap.size w (((w5.alloc (.cells #[.slice ta tn tc] 25)).setCell ⟨w.heap.size, 0, none⟩ (.slice sa sn sc)).setCell ⟨w.heap.size + 1, 0, none⟩ (.slice ta tn tc))) := ⟨s, t, ((RW.put (by omega)).put (by omega)).now, ((TW.put (by omega)).put (by omega)).now, (kW.setCell (Nat.le_refl _) _).setCell (by simp) _⟩
        have ca := aW.cell
        have cb := bW.cell
        have cx0 := xW.cell
        have fx0 := xW.frozen
        have cy0 := yW.cell
        have fy0 := yW.frozen
        have cb1 := (bW.other (c := w.heap.size) (.slice sa sn sc) (by omega)).cell
        have cy1 := (yW.other (c := w.heap.size) (.slice sa sn sc) (by omega)).cell
        have fy1 := (yW.other (c := w.heap.size) (.slice sa sn sc) (by omega)).frozen
        have cE1 := ((xW.put (.slice sa sn sc)).other (c := w.heap.size + 1) (.slice ta tn tc) (by omega)).cell
        have cE2 := ((yW.other (c := w.heap.size) (.slice sa sn sc) (by omega)).put (.slice ta tn tc)).cell
        clear RW TW kW aW bW xW yW
        go_upto_region 5 with fail
        go_region_with (fail)
        all_goals
          go_wp2
          refine bodyPost_ret (v := .tuple #[.agg #[.slice sa sn sc], .agg #[.slice ta tn tc]]) (by simp [results, Try.results25, go_sem, cE1, cE2]) rfl ?_
          exact ⟨_, _, rfl, by obtain ⟨s7, t7, k1, k2, k3⟩ := F7.out; exact ⟨s7, t7, k1.below (Below.drew (Below.refl _ _)), k2.below (Below.drew (Below.refl _ _)), below_then k3 (Below.drew (Below.refl _ _))⟩⟩
    · have hl0I : ¬ (0 : Int) < (len : Int) := by omega
      have xW := x6
      have yW := y6
      have aW := a6
      have bW := b6
      have RW := R5.below hbB
      have TW := T5.below hbB
      have kW := k6
      clear x6 y6 a6 b6 R5 T5 k6 x5 y5 a5 hk5
      have F7 : Hid (∃ (s t : Rn), RunsAt (((w5.alloc (.cells #[.slice ta tn tc] 25)).setCell ⟨w.heap.size, 0, none⟩ (.slice sa sn sc)).setCell ⟨w.heap.size + 1, 0, none⟩ (.slice ta tn tc)) (.slice sa sn sc) s ∧ RunsAt (((w5.alloc (.cells #[.slice ta tn tc] 25)).setCell ⟨w.heap.size, 0, none⟩ (.slice sa sn sc)).setCell ⟨w.heap.size + 1, 0, none⟩ (.slice ta tn tc)) (.slice ta tn tc) t ∧ Below w.heap.size w (((w5.alloc (.cells #[.slice ta tn tc] 25)).setCell ⟨w.heap.size, 0, none⟩ (.slice sa sn sc)).setCell ⟨w.heap.size + 1, 0, none⟩ (.slice ta tn tc))) := ⟨s, t, ((RW.put (by omega)).put (by omega)).now, ((TW.put (by omega)).put (by omega)).now, (kW.setCell (Nat.le_refl _) _).setCell (by simp) _⟩
      have ca := aW.cell
      have cb := bW.cell
      have cx0 := xW.cell
      have fx0 := xW.frozen
      have cy0 := yW.cell
      have fy0 := yW.frozen
      have cb1 := (bW.other (c := w.heap.size) (.slice sa sn sc) (by omega)).cell
      have cy1 := (yW.other (c := w.heap.size) (.slice sa sn sc) (by omega)).cell
      have fy1 := (yW.other (c := w.heap.size) (.slice sa sn sc) (by omega)).frozen
      have cE1 := ((xW.put (.slice sa sn sc)).other (c := w.heap.size + 1) (.slice ta tn tc) (by omega)).cell
      have cE2 := ((yW.other (c := w.heap.size) (.slice sa sn sc) (by omega)).put (.slice ta tn tc)).cell
      clear RW TW kW aW bW xW yW
      go_upto_region 5 with fail
      go_region_with (fail)
      all_goals
        go_wp2
        refine bodyPost_ret (v := .tuple #[.agg #[.slice sa sn sc], .agg #[.slice ta tn tc]]) (by simp [results, Try.results25, go_sem, cE1, cE2]) rfl ?_
        exact ⟨_, _, rfl, by obtain ⟨s7, t7, k1, k2, k3⟩ := F7.out; exact ⟨s7, t7, k1.below (Below.drew (Below.refl _ _)), k2.below (Below.drew (Below.refl _ _)), below_then k3 (Below.drew (Below.refl _ _))⟩⟩

end Go.Proofs.Ytegnoebpnpdogaa

/-
  The contract of impl.RunMerge at all runs and numbers.
-/
namespace Go.Proofs.Ytegnoebpnpdogaa
set_option maxRecDepth 100000
set_option linter.unusedVariables false
open Go.RowKit

theorem ret_ri {v : Value} {a b : Int} (h : a = b) : Ending.returned (.tuple #[.agg #[v], .int .i64 a]) = .returned (.tuple #[.agg #[v], .int .i64 b]) := by rw [h]

set_option maxHeartbeats 8000000 in
theorem implRunMerge_any (v : Value) (zss : Rn) (f : Int) (w : World) (h : RunsAt w v zss) (hf1 : f ≤ 9223372036854775807) :
    Calls Try.prog 23 #[.agg #[v], .int .i64 f] w fun e w' => ∃ v', e = .returned (.tuple #[.agg #[v'], .int .i64 (mrgLeft zss f)]) ∧ OwnR w' w.heap.size w'.heap.size v' (mrgOut zss f) ∧ Below w.heap.size w w' := by
  obtain ⟨a, n, cap, rfl⟩ := h.shapeN
  obtain ⟨os, HO⟩ : ∃ os, Hid (os = mrgOut zss f) := ⟨_, rfl⟩
  obtain ⟨lf, HLF⟩ : ∃ lf, Hid (lf = mrgLeft zss f) := ⟨_, rfl⟩
  rw [← HO.out, ← HLF.out]
  have hba : Below w.heap.size w ((w.alloc (.cells #[.slice a n cap] 25)).alloc (.cells #[.slice none 0 0] 25)) := below_then (below_alloc _) (below_alloc _)
  have x0 : BoxAt ((w.alloc (.cells #[.slice a n cap] 25)).alloc (.cells #[.slice none 0 0] 25)) w.heap.size (.slice a n cap) := (boxAt_new _ _).below (below_alloc _)
  have x1 : BoxAt ((w.alloc (.cells #[.slice a n cap] 25)).alloc (.cells #[.slice none 0 0] 25)) (w.heap.size + 1) (.slice none 0 0) := by
    have := boxAt_new (w.alloc (.cells #[.slice a n cap] 25)) (.slice none 0 0)
    rw [show (w.alloc (.cells #[.slice a n cap] 25)).heap.size = w.heap.size + 1 by simp] at this
    exact this
  cases hok : runOkB zss with
  | false =>
    have H1 : Hid (os = [] ∧ lf = 0) := by
      show _ ∧ _
      rw [HO.out, HLF.out]
      simp [mrgOut, mrgLeft, hok]
    go_enter Try.func23, Try.ntmps23
    go_wp2_with fail
    refine (implRunOk_any _ zss _ (h.below hba)).mono ?_
    rw [hok]
    rintro e w1 ⟨rfl, hb1⟩
    have y1 := (x1.below hb1)
    have c1 := y1.cell
    have f1 := y1.frozen
    have HK : Hid (Below w.heap.size w (w1.setCell ⟨w.heap.size + 1, 0, none⟩ (.slice none 0 0))) := (below_then hba hb1).setCell (by simp) _
    clear hb1 hba x0 x1 h hok y1
    go_wp2
    refine bodyPost_ret (v := .tuple #[.agg #[.slice none 0 0], .int .i64 0]) (by simp [results, Try.results23, go_sem, c1]) rfl ⟨_, ret_ri H1.out.2.symm, ?_, HK.out⟩
    rw [H1.out.1]
    exact OwnR.nil _ _ HK.out.size
  | true =>
    by_cases hf : f < 0
    · have H1 : Hid (os = [] ∧ lf = 0) := by
        show _ ∧ _
        rw [HO.out, HLF.out]
        simp [mrgOut, mrgLeft, show ¬ 0 ≤ f by omega]
      go_enter Try.func23, Try.ntmps23
      go_wp2_with fail
      refine (implRunOk_any _ zss _ (h.below hba)).mono ?_
      rw [hok]
      rintro e w1 ⟨rfl, hb1⟩
      have y1 := (x1.below hb1)
      have c1 := y1.cell
      have f1 := y1.frozen
      have HK : Hid (Below w.heap.size w (w1.setCell ⟨w.heap.size + 1, 0, none⟩ (.slice none 0 0))) := (below_then hba hb1).setCell (by simp) _
      clear hb1 hba x0 x1 h hok y1
      go_wp2
      refine bodyPost_ret (v := .tuple #[.agg #[.slice none 0 0], .int .i64 0]) (by simp [results, Try.results23, go_sem, c1]) rfl ⟨_, ret_ri H1.out.2.symm, ?_, HK.out⟩
      rw [H1.out.1]
      exact OwnR.nil _ _ HK.out.size
    · have hf0 : 0 ≤ f := by omega
      have H1 : Hid (os = (mergeTo zss.length zss f).1 ∧ lf = (mergeTo zss.length zss f).2) := by
        show _ ∧ _
        rw [HO.out, HLF.out]
        simp [mrgOut, mrgLeft, hok, hf0]
      have HOK : Hid (runOkB zss = true) := hok
      have h5 := runOk_le hok
      go_enter Try.func23, Try.ntmps23
      go_wp2_with fail
      refine (implRunOk_any _ zss _ (h.below hba)).mono ?_
      rw [hok]
      rintro e w1 ⟨rfl, hb1⟩
      have hk1 := below_then hba hb1
      have y0 := (x0.below hb1).cell
      have y1 := x1.below hb1
      have z1 : w.heap.size + 2 ≤ w1.heap.size := by have := hb1.size; simp at this; omega
      have hR1 := h.below hk1
      clear hb1 hba x0 x1 h hok
      go_wp2_with fail
      refine (copyRuns_any _ zss _ hR1 (by omega) (ok_mild HOK.out)).mono ?_
      rintro e w2 ⟨v2, rfl, O2, hb2⟩
      have hk2 := below_then hk1 hb2
      have y2 := y1.below hb2
      have z2 := hb2.size
      obtain ⟨a2, n2, c2, rfl⟩ := O2.runs.shapeN
      have O3 : OwnR (w2.alloc (.cells #[.slice a2 n2 c2] 25)) (w.heap.size + 2) (w2.alloc (.cells #[.slice a2 n2 c2] 25)).heap.size (.slice a2 n2 c2) zss := (O2.keep' (below_alloc _)).wide z1 (below_alloc _).size (Nat.le_refl _)
      have B3 := boxAt_new w2 (.slice a2 n2 c2)
      have y3 := y2.below (below_alloc (.cells #[.slice a2 n2 c2] 25))
      have hk3 := below_then hk2 (below_alloc (.cells #[.slice a2 n2 c2] 25))
      clear O2 hb2 hk2 y2 y1 y0 hR1 hk1
      go_wp2
      go_loopw [1] (fun q wr => ∃ (f' : Int), q = .int .i64 f' ∧ 0 ≤ f' ∧ f' ≤ 9223372036854775807 ∧ Hid (∃ (x : Rn) (vx : Value) (t : Nat), BoxAt wr w2.heap.size vx ∧ OwnR wr (w.heap.size + 2) wr.heap.size vx x ∧ BoxAt wr (w.heap.size + 1) (.slice none 0 0) ∧ Below w.heap.size w wr ∧ runOkB x = true ∧ x.length ≤ t ∧ mergeTo t x f' = mergeTo zss.length zss f)) (fun _ wr => lenAt wr w2.heap.size)
      case atStart => exact ⟨f, rfl, hf0, hf1, zss, _, zss.length, B3, O3, y3, hk3, HOK.out, Nat.le_refl _, rfl⟩
      case round =>
        obtain ⟨f', rfl, hf'0, hf'1, x, vx, t, Bx, Ox, yr, hkr, hxo, hxt, hmt⟩ := hrel
        have HX : Hid (runOkB x = true ∧ x.length ≤ t ∧ mergeTo t x f' = mergeTo zss.length zss f) := ⟨hxo, hxt, hmt⟩
        clear O3 B3 y3 hk3 hxt hmt
        have hx5 := runOk_le hxo
        obtain ⟨xa, xc, hsh⟩ := Ox.shape
        obtain ⟨m, HM⟩ : ∃ m, Hid (m = x.length) := ⟨_, rfl⟩
        rw [← HM.out] at hsh hx5
        subst hsh
        have cB := Bx.cell
        have c1 := yr.cell
        have f1 := yr.frozen
        have z3 := hkr.size
        have zb := Bx.lt
        have zy := yr.lt
        have HLEN : Hid (lenAt wr w2.heap.size = m) := lenAt_box Bx
        by_cases hm1 : m ≤ 1
        · have HE : Hid (mergeTo zss.length zss f = (x, f')) := by
            show _ = _
            rw [← HX.out.2.2]
            exact mergeTo_one _ _ (by rw [← HM.out]; exact hm1)
          have HR : Hid (OwnR (wr.setCell ⟨w.heap.size + 1, 0, none⟩ (.slice xa m xc)) (w.heap.size + 2) (wr.setCell ⟨w.heap.size + 1, 0, none⟩ (.slice xa m xc)).heap.size (.slice xa m xc) x) := (Ox.put yr).wide (Nat.le_refl _) (by simp) (Nat.le_refl _)
          have HK : Hid (Below w.heap.size w (wr.setCell ⟨w.heap.size + 1, 0, none⟩ (.slice xa m xc))) := hkr.setCell (by simp) _
          clear Bx Ox yr hkr HX hxo
          go_wp2
          refine bodyPost_ret (v := .tuple #[.agg #[.slice xa m xc], .int .i64 f']) (by simp [results, Try.results23, go_sem, c1]) rfl ⟨_, ret_ri (by rw [H1.out.2, HE.out]), ?_, HK.out⟩
          rw [H1.out.1, HE.out]
          exact HR.out.wide (by omega) (Nat.le_refl _) (Nat.le_refl _)
        · have hm2 : 2 ≤ x.length := by rw [← HM.out]; omega
          have hml := many_le hxo hm2
          have hma := ok_light hxo (j := x.length - 2) (by omega)
          have hmb := ok_light hxo (j := x.length - 1) (by omega)
          have hna := ok_len100 hxo (j := x.length - 2) (by omega)
          have hnb := ok_len100 hxo (j := x.length - 1) (by omega)
          have hxl : x.length ≤ 1048576 := by rw [← HM.out]; omega
          have hlo : w.heap.size + 2 ≤ wr.heap.size := by omega
          have hRx := Ox.runs
          have hmgt : (1 : Int) < m := by omega
          have cBa := ((Bx.below (Below.drew (Below.refl _ _))).below (below_alloc (.cells #[.slice none 0 0] 25))).cell
          go_upto_region 5 with fail
          go_cut [7, 8] (fun p q wx => ∃ (b7 : Nat) (va : Option Addr) (vn vc : Nat), p = .pointer (some ⟨b7, 0, none⟩) ∧ q = .int .i64 (lastMany x) ∧ Hid (BoxAt wx b7 (.slice va vn vc) ∧ OwnR wx (w.heap.size + 2) wx.heap.size (.slice va vn vc) (lastR x) ∧ Below wr.heap.size wr wx ∧ wr.heap.size ≤ b7))
          case first =>
            go_wp2_with fail
            go_region_with (first
              | (go_at_call 58; have hO := O4; refine (lastTwoMany_any _ x _ (by first | exact hRx.below hb4' | exact (hRx.below hb4').below (below_alloc _)) hm2 hxl (by omega) (by omega)).mono ?_; rintro e w5 ⟨rfl, hb5⟩; have hb5' : Below w4.heap.size w4 w5 := (by first | exact hb5 | exact below_then (below_alloc _) hb5); first | (have k8 : BoxAt w5 wr.heap.size (.slice none 0 0) := (k7.below hb5'); have k8c := k8.cell; have k8f := k8.frozen) | (have k9 : BoxAt w5 w4.heap.size (.slice none 0 0) := (BoxAt.below (boxAt_new w4 (.slice none 0 0)) hb5); have k9c := k9.cell; have k9f := k9.frozen) | skip)
              | (go_at_call 42; refine (lastTwoMerged_any _ x (w.heap.size + 2) _ _ (by first | exact Ox.keep' (Below.drew (Below.refl _ _)) | exact Ox.keep' (below_then (Below.drew (Below.refl _ _)) (below_alloc _))) (by first | exact hlo | exact Nat.le_trans hlo (below_alloc (w := wr.drew) _).size) hm2 hxl hma hmb).mono ?_; rintro e w4 ⟨v4, rfl, O4, hb4⟩; obtain ⟨a4, n4, c4, rfl⟩ := O4.runs.shapeN; have hb4' : Below wr.heap.size wr w4 := (by first | exact below_then (Below.drew (Below.refl _ _)) hb4 | exact below_then (below_then (Below.drew (Below.refl _ _)) (below_alloc _)) hb4); have cB4 := (Bx.below hb4').cell; have cB4a := ((Bx.below hb4').below (below_alloc (.cells #[.slice none 0 0] 25))).cell; first | (have k7 : BoxAt w4 wr.heap.size (.slice none 0 0) := (BoxAt.below (boxAt_new wr.drew (.slice none 0 0)) hb4); have k7c := k7.cell; have k7f := k7.frozen) | skip))
            all_goals
              clear hRx Bx Ox yr cB c1 f1 cBa
              go_wp2_with fail
              go_meet
              case rel =>
                have z5 := hb5'.size
                have z4 := hb4'.size
                first
                  | exact ⟨w5.heap.size, a4, n4, c4, rfl, rfl, boxAt_new _ _, ((O4.keep' hb5').keep' (below_alloc _)).wide (Nat.le_refl _) (Nat.le_trans z5 (below_alloc _).size) (Nat.le_refl _), below_then (below_then hb4' hb5') (below_alloc _), Nat.le_trans z4 z5⟩
                  | exact ⟨w4.heap.size, a4, n4, c4, rfl, rfl, k9.put _, ((O4.keep' hb5').put k9).wide (Nat.le_refl _) (by simp; exact z5) (Nat.le_refl _), (below_then hb4' hb5').setCell z4 _, z4⟩
                  | exact ⟨wr.heap.size, a4, n4, c4, rfl, rfl, k8.put _, ((O4.keep' hb5').put k8).wide (Nat.le_refl _) (by simp; exact z5) (Nat.le_refl _), (below_then hb4' hb5').setCell (Nat.le_refl _) _, Nat.le_refl _⟩
          case rest =>
            obtain ⟨b7, va, vn', vc', rfl, rfl, HC⟩ := hcut
            obtain ⟨K7, O7, hb7, hle7⟩ := HC.out
            have Bc := Bx.below hb7
            have yc := yr.below hb7
            have Oc := Ox.keep' hb7
            have hkc := below_then hkr hb7
            have z7 := hb7.size
            obtain ⟨q, HQ⟩ : ∃ q, Hid (q = lastMany x) := ⟨_, rfl⟩
            rw [← HQ.out] at hml ⊢
            obtain ⟨t', HT'⟩ : ∃ t', Hid (t = t' + 1) := ⟨t - 1, by have := HX.out.2.1; show _ = _; omega⟩
            clear Bx yr Ox hkr hb7 hRx cB c1 f1 cBa HC hma hmb hna hnb
            have c7 := K7.cell
            have f7 := K7.frozen
            have cB := Bc.cell
            have fB := Bc.frozen
            have c1 := yc.cell
            have f1 := yc.frozen
            have hnx1 : ¬ x.length ≤ 1 := by omega
            by_cases hfm : f' < q
            · have HE : Hid (mergeTo zss.length zss f = (x, f')) := by
                show _ = _
                rw [← HX.out.2.2, HT'.out]
                exact mergeTo_stop _ hnx1 (.inl (by rw [← HQ.out]; exact hfm))
              have HR : Hid (OwnR (wc.setCell ⟨w.heap.size + 1, 0, none⟩ (.slice xa m xc)) (w.heap.size + 2) (wc.setCell ⟨w.heap.size + 1, 0, none⟩ (.slice xa m xc)).heap.size (.slice xa m xc) x) := (Oc.put yc).wide (Nat.le_refl _) (by simp; exact z7) (Nat.le_refl _)
              have HK : Hid (Below w.heap.size w (wc.setCell ⟨w.heap.size + 1, 0, none⟩ (.slice xa m xc))) := hkc.setCell (by simp) _
              clear Bc Oc yc hkc HX hxo K7 O7
              go_wp2
              refine bodyPost_ret (v := .tuple #[.agg #[.slice xa m xc], .int .i64 f']) (by simp [results, Try.results23, go_sem, c1]) rfl ⟨_, ret_ri (by rw [H1.out.2, HE.out]), ?_, HK.out⟩
              rw [H1.out.1, HE.out]
              exact HR.out.wide (by omega) (Nat.le_refl _) (Nat.le_refl _)
            · cases hro : runOkB (lastR x) with
              | false =>
                go_wp2_with fail
                refine (implRunOk_any _ (lastR x) _ O7.runs).mono ?_
                rw [hro]
                rintro e w8 ⟨rfl, hb8⟩
                have z8 := hb8.size
                have HE : Hid (mergeTo zss.length zss f = (x, f')) := by
                  show _ = _
                  rw [← HX.out.2.2, HT'.out]
                  exact mergeTo_stop _ hnx1 (.inr hro)
                have c8 := (Bc.below hb8).cell
                have y8 := yc.below hb8
                have c18 := y8.cell
                have f18 := y8.frozen
                have HR : Hid (OwnR (w8.setCell ⟨w.heap.size + 1, 0, none⟩ (.slice xa m xc)) (w.heap.size + 2) (w8.setCell ⟨w.heap.size + 1, 0, none⟩ (.slice xa m xc)).heap.size (.slice xa m xc) x) := ((Oc.keep' hb8).put y8).wide (Nat.le_refl _) (by simp; omega) (Nat.le_refl _)
                have HK : Hid (Below w.heap.size w (w8.setCell ⟨w.heap.size + 1, 0, none⟩ (.slice xa m xc))) := (below_then hkc hb8).setCell (by simp) _
                clear Bc Oc yc hkc HX hxo K7 O7 hb8 y8 hro c7 f7 cB fB c1 f1
                go_wp2
                refine bodyPost_ret (v := .tuple #[.agg #[.slice xa m xc], .int .i64 f']) (by simp [results, Try.results23, go_sem, c18]) rfl ⟨_, ret_ri (by rw [H1.out.2, HE.out]), ?_, HK.out⟩
                rw [H1.out.1, HE.out]
                exact HR.out.wide (by omega) (Nat.le_refl _) (Nat.le_refl _)
              | true =>
                go_wp2_with fail
                refine (implRunOk_any _ (lastR x) _ O7.runs).mono ?_
                rw [hro]
                rintro e w8 ⟨rfl, hb8⟩
                have z8 := hb8.size
                have B8 := Bc.below hb8
                have K8 := K7.below hb8
                have y8 := yc.below hb8
                have O8 := O7.keep' hb8
                have c8 := B8.cell
                have f8 := B8.frozen
                have c78 := K8.cell
                have hl7 : vn' = (lastR x).length := by
                  obtain ⟨a', c', e'⟩ := O7.shape
                  simp only [Value.slice.injEq] at e'
                  exact e'.2.1
                have R : Hid (∃ (x : Rn) (vx : Value) (t : Nat), BoxAt (w8.setCell ⟨w2.heap.size, 0, none⟩ (.slice va vn' vc')) w2.heap.size vx ∧ OwnR (w8.setCell ⟨w2.heap.size, 0, none⟩ (.slice va vn' vc')) (w.heap.size + 2) (w8.setCell ⟨w2.heap.size, 0, none⟩ (.slice va vn' vc')).heap.size vx x ∧ BoxAt (w8.setCell ⟨w2.heap.size, 0, none⟩ (.slice va vn' vc')) (w.heap.size + 1) (.slice none 0 0) ∧ Below w.heap.size w (w8.setCell ⟨w2.heap.size, 0, none⟩ (.slice va vn' vc')) ∧ runOkB x = true ∧ x.length ≤ t ∧ mergeTo t x (f' - q) = mergeTo zss.length zss f) := by
                  refine ⟨lastR x, .slice va vn' vc', t', B8.put _, (O8.put B8).wide (Nat.le_refl _) (by simp; exact z8) (Nat.le_refl _), y8.other _ (by omega), (below_then hkc hb8).setCell (by simp; omega) _, hro, ?_, ?_⟩
                  · have h1 := lastR_len hm2
                    have h2 := HX.out.2.1
                    have h3 := HT'.out
                    omega
                  · rw [← HX.out.2.2, HT'.out, mergeTo_go _ hnx1 (by rw [← HQ.out]; omega) hro, HQ.out]
                have HL8 : Hid (vn' < m) := by
                  show _ < _
                  rw [hl7, HM.out]
                  exact lastR_len hm2
                have hq0 : 0 ≤ f' - (q : Int) ∧ f' - (q : Int) ≤ 9223372036854775807 := by omega
                have HLN : Hid (lenAt (w8.setCell ⟨w2.heap.size, 0, none⟩ (.slice va vn' vc')) w2.heap.size = vn') := lenAt_box (B8.put _)
                clear Bc Oc yc hkc HX hxo K7 O7 hb8 y8 hro c7 f7 cB fB c1 f1 B8 K8 O8 hl7
                go_wp2
                go_roundw
                case rel => exact ⟨f' - q, by go_num, hq0.1, hq0.2, R.out⟩
                case measure =>
                  rw [HLN.out, HLEN.out]
                  exact HL8.out

end Go.Proofs.Ytegnoebpnpdogaa

/-
  The contract of spec.RunMerge at all runs and numbers.
-/
namespace Go.Proofs.Ytegnoebpnpdogaa
set_option maxRecDepth 100000
set_option linter.unusedVariables false
open Go.RowKit

theorem set_size (w : World) (p : Addr) (u : Value) : (w.setCell p u).heap.size = w.heap.size := by simp [World.setCell]
theorem ret_ri2 {v : Value} {a b : Int} (h : a = b) : Ending.returned (.tuple #[.agg #[v], .int .i64 a]) = .returned (.tuple #[.agg #[v], .int .i64 b]) := by rw [h]

set_option maxHeartbeats 8000000 in
theorem specRunMerge_any (v : Value) (zss : Rn) (f : Int) (w : World) (h : RunsAt w v zss) (hf1 : f ≤ 9223372036854775807) :
    Calls Try.prog 24 #[.agg #[v], .int .i64 f] w fun e w' => ∃ v', e = .returned (.tuple #[.agg #[v'], .int .i64 (mrgLeft zss f)]) ∧ OwnR w' w.heap.size w'.heap.size v' (mrgOut zss f) ∧ Below w.heap.size w w' := by
  obtain ⟨a, n, cap, rfl⟩ := h.shapeN
  obtain ⟨os, HO⟩ : ∃ os, Hid (os = mrgOut zss f) := ⟨_, rfl⟩
  obtain ⟨lf, HLF⟩ : ∃ lf, Hid (lf = mrgLeft zss f) := ⟨_, rfl⟩
  rw [← HO.out, ← HLF.out]
  have hba : Below w.heap.size w ((w.alloc (.cells #[.slice a n cap] 25)).alloc (.cells #[.slice none 0 0] 25)) := below_then (below_alloc _) (below_alloc _)
  have x0 : BoxAt ((w.alloc (.cells #[.slice a n cap] 25)).alloc (.cells #[.slice none 0 0] 25)) w.heap.size (.slice a n cap) := (boxAt_new _ _).below (below_alloc _)
  have x1 : BoxAt ((w.alloc (.cells #[.slice a n cap] 25)).alloc (.cells #[.slice none 0 0] 25)) (w.heap.size + 1) (.slice none 0 0) := by
    have := boxAt_new (w.alloc (.cells #[.slice a n cap] 25)) (.slice none 0 0)
    rw [show (w.alloc (.cells #[.slice a n cap] 25)).heap.size = w.heap.size + 1 by simp] at this
    exact this
  cases hok : runOkB zss with
  | false =>
    have H1 : Hid (os = [] ∧ lf = 0) := by
      show _ ∧ _
      rw [HO.out, HLF.out]
      simp [mrgOut, mrgLeft, hok]
    go_enter Try.func24, Try.ntmps24
    go_wp2_with fail
    refine (specRunOk_any _ zss _ (h.below hba)).mono ?_
    rw [hok]
    rintro e w1 ⟨rfl, hb1⟩
    have y1 := (x1.below hb1)
    have c1 := y1.cell
    have f1 := y1.frozen
    have HK : Hid (Below w.heap.size w (w1.setCell ⟨w.heap.size + 1, 0, none⟩ (.slice none 0 0))) := (below_then hba hb1).setCell (by simp) _
    clear hb1 hba x0 x1 h hok y1
    go_wp2
    refine bodyPost_ret (v := .tuple #[.agg #[.slice none 0 0], .int .i64 0]) (by simp [results, Try.results24, go_sem, c1]) rfl ⟨_, ret_ri2 H1.out.2.symm, ?_, HK.out⟩
    rw [H1.out.1]
    exact OwnR.nil _ _ HK.out.size
  | true =>
    by_cases hf : f < 0
    · have H1 : Hid (os = [] ∧ lf = 0) := by
        show _ ∧ _
        rw [HO.out, HLF.out]
        simp [mrgOut, mrgLeft, show ¬ 0 ≤ f by omega]
      go_enter Try.func24, Try.ntmps24
      go_wp2_with fail
      refine (specRunOk_any _ zss _ (h.below hba)).mono ?_
      rw [hok]
      rintro e w1 ⟨rfl, hb1⟩
      have y1 := (x1.below hb1)
      have c1 := y1.cell
      have f1 := y1.frozen
      have HK : Hid (Below w.heap.size w (w1.setCell ⟨w.heap.size + 1, 0, none⟩ (.slice none 0 0))) := (below_then hba hb1).setCell (by simp) _
      clear hb1 hba x0 x1 h hok y1
      go_wp2
      refine bodyPost_ret (v := .tuple #[.agg #[.slice none 0 0], .int .i64 0]) (by simp [results, Try.results24, go_sem, c1]) rfl ⟨_, ret_ri2 H1.out.2.symm, ?_, HK.out⟩
      rw [H1.out.1]
      exact OwnR.nil _ _ HK.out.size
    · have hf0 : 0 ≤ f := by omega
      have H1 : Hid (os = (mergeTo zss.length zss f).1 ∧ lf = (mergeTo zss.length zss f).2) := by
        show _ ∧ _
        rw [HO.out, HLF.out]
        simp [mrgOut, mrgLeft, hok, hf0]
      have HOK : Hid (runOkB zss = true) := hok
      have h5 := runOk_le hok
      go_enter Try.func24, Try.ntmps24
      go_wp2_with fail
      refine (specRunOk_any _ zss _ (h.below hba)).mono ?_
      rw [hok]
      rintro e w1 ⟨rfl, hb1⟩
      have hk1 := below_then hba hb1
      have y0 := (x0.below hb1).cell
      have y1 := x1.below hb1
      have z1 : w.heap.size + 2 ≤ w1.heap.size := by have := hb1.size; simp at this; omega
      have hR1 := h.below hk1
      clear hb1 hba x0 x1 h hok
      go_wp2_with fail
      refine (l7Copy_any _ zss _ hR1 (by omega) (ok_mild HOK.out)).mono ?_
      rintro e w2 ⟨v2, rfl, O2, hb2⟩
      have hk2 := below_then hk1 hb2
      have y2 := y1.below hb2
      have z2 := hb2.size
      obtain ⟨a2, n2, c2, rfl⟩ := O2.runs.shapeN
      have O3 : OwnR (w2.alloc (.cells #[.slice a2 n2 c2] 25)) (w.heap.size + 2) (w2.alloc (.cells #[.slice a2 n2 c2] 25)).heap.size (.slice a2 n2 c2) zss := (O2.keep' (below_alloc _)).wide z1 (below_alloc _).size (Nat.le_refl _)
      have B3 := boxAt_new w2 (.slice a2 n2 c2)
      have y3 := y2.below (below_alloc (.cells #[.slice a2 n2 c2] 25))
      have hk3 := below_then hk2 (below_alloc (.cells #[.slice a2 n2 c2] 25))
      clear O2 hb2 hk2 y2 y1 y0 hR1 hk1
      go_wp2
      go_loopw [1] (fun q wr => ∃ (f' : Int), q = .int .i64 f' ∧ 0 ≤ f' ∧ f' ≤ 9223372036854775807 ∧ Hid (∃ (x : Rn) (vx : Value) (t : Nat), BoxAt wr w2.heap.size vx ∧ OwnR wr (w.heap.size + 2) wr.heap.size vx x ∧ BoxAt wr (w.heap.size + 1) (.slice none 0 0) ∧ Below w.heap.size w wr ∧ runOkB x = true ∧ x.length ≤ t ∧ mergeTo t x f' = mergeTo zss.length zss f)) (fun _ wr => lenAt wr w2.heap.size)
      case atStart => exact ⟨f, rfl, hf0, hf1, zss, _, zss.length, B3, O3, y3, hk3, HOK.out, Nat.le_refl _, rfl⟩
      case round =>
        obtain ⟨f', rfl, hf'0, hf'1, x, vx, t, Bx, Ox, yr, hkr, hxo, hxt, hmt⟩ := hrel
        have HX : Hid (runOkB x = true ∧ x.length ≤ t ∧ mergeTo t x f' = mergeTo zss.length zss f) := ⟨hxo, hxt, hmt⟩
        clear O3 B3 y3 hk3 hxt hmt
        have hx5 := runOk_le hxo
        obtain ⟨xa, xc, hsh⟩ := Ox.shape
        obtain ⟨m, HM⟩ : ∃ m, Hid (m = x.length) := ⟨_, rfl⟩
        rw [← HM.out] at hsh hx5
        subst hsh
        have cB := Bx.cell
        have c1 := yr.cell
        have f1 := yr.frozen
        have z3 := hkr.size
        have zb := Bx.lt
        have zy := yr.lt
        have HLEN : Hid (lenAt wr w2.heap.size = m) := lenAt_box Bx
        by_cases hm1 : m ≤ 1
        · have HE : Hid (mergeTo zss.length zss f = (x, f')) := by
            show _ = _
            rw [← HX.out.2.2]
            exact mergeTo_one _ _ (by rw [← HM.out]; exact hm1)
          have HR : Hid (OwnR (wr.setCell ⟨w.heap.size + 1, 0, none⟩ (.slice xa m xc)) (w.heap.size + 2) (wr.setCell ⟨w.heap.size + 1, 0, none⟩ (.slice xa m xc)).heap.size (.slice xa m xc) x) := (Ox.put yr).wide (Nat.le_refl _) (by simp) (Nat.le_refl _)
          have HK : Hid (Below w.heap.size w (wr.setCell ⟨w.heap.size + 1, 0, none⟩ (.slice xa m xc))) := hkr.setCell (by simp) _
          clear Bx Ox yr hkr HX hxo
          go_wp2
          refine bodyPost_ret (v := .tuple #[.agg #[.slice xa m xc], .int .i64 f']) (by simp [results, Try.results24, go_sem, c1]) rfl ⟨_, ret_ri2 (by rw [H1.out.2, HE.out]), ?_, HK.out⟩
          rw [H1.out.1, HE.out]
          exact HR.out.wide (by omega) (Nat.le_refl _) (Nat.le_refl _)
        · have hm2 : 2 ≤ x.length := by rw [← HM.out]; omega
          have hml := many_le hxo hm2
          have hma := ok_light hxo (j := x.length - 2) (by omega)
          have hmb := ok_light hxo (j := x.length - 1) (by omega)
          have hna := ok_len100 hxo (j := x.length - 2) (by omega)
          have hnb := ok_len100 hxo (j := x.length - 1) (by omega)
          have hxl : x.length ≤ 1048576 := by rw [← HM.out]; omega
          have hlo : w.heap.size + 2 ≤ wr.heap.size := by omega
          have hRx := Ox.runs
          have hmgt : (1 : Int) < m := by omega
          obtain ⟨k, hk2⟩ : ∃ k, m = k + 2 := ⟨m - 2, by omega⟩
          obtain ⟨t', HT'⟩ : ∃ t', Hid (t = t' + 1) := ⟨t - 1, by have := HX.out.2.1; have := HM.out; show _ = _; omega⟩
          obtain ⟨bb, off, cap', hse, hcap', -⟩ := hRx.some (by omega)
          simp only [Value.slice.injEq] at hse
          obtain ⟨rfl, hse1, rfl⟩ := hse
          obtain ⟨-, r1, hc1, ht1⟩ := hRx.at (j := m - 2) (by omega)
          obtain ⟨-, r2, hc2, ht2⟩ := hRx.at (j := m - 1) (by omega)
          have HMX : Hid (m = x.length) := HM.out
          obtain ⟨a1, c1', e1⟩ := ht1.shape1
          obtain ⟨a2', c2', e2⟩ := ht2.shape1
          obtain ⟨n1, HN1⟩ : ∃ n1, Hid (n1 = (x.getD (m - 2) []).length) := ⟨_, rfl⟩
          obtain ⟨n2', HN2⟩ : ∃ n2, Hid (n2 = (x.getD (m - 1) []).length) := ⟨_, rfl⟩
          obtain ⟨q, HQ⟩ : ∃ q, Hid (q = lastMany x) := ⟨_, rfl⟩
          have HQN : Hid (q = n1 + n2') := by
            show _ = _
            rw [HQ.out, HN1.out, HN2.out]
            unfold lastMany
            rw [← HMX.out]
          rw [← HQ.out] at hml
          rw [← HN1.out] at e1
          rw [← HN2.out] at e2
          subst e1
          subst e2
          have hn12 : n1 + n2' ≤ 200 := by rw [← HQN.out]; exact hml
          subst hk2
          rw [show k + 2 - 2 = k by omega] at hc1
          rw [show k + 2 - 1 = k + 1 by omega] at hc2
          have hwr : IntKind.i64.wrap (k : Int) = k := wrap_small (by omega) (by omega)
          have hwr2 : IntKind.i64.wrap ((k : Int) + 2 - 1) = ((k + 1 : Nat) : Int) := by rw [IntKind.wrap_i64]; omega
          have hws : IntKind.i64.wrap ((n1 : Int) + n2') = n1 + n2' := by rw [IntKind.wrap_i64]; omega
          clear ht1 ht2 HN1 HN2 hse1
          go_wp2
          go_quiet (fail)
          have eqn : ((n1 : Int) + n2') = (q : Int) := by rw [HQN.out]; omega
          rw [eqn]
          have hbd : Below wr.heap.size wr (wr.drewN nq) := below_drewN (Below.refl _ _) _
          have cBd := (Bx.below hbd).cell
          clear hwr hwr2 hws eqn hc1 hc2
          go_wp2_with fail
          refine (l7Last_any _ x (w.heap.size + 2) _ _ (Ox.keep' hbd) hlo hm2 hxl hma hmb).mono ?_
          rintro e w4 ⟨v4, rfl, O4, hb4⟩
          have hb4' : Below wr.heap.size wr w4 := below_then hbd hb4
          obtain ⟨va, vn', vc', rfl⟩ := O4.runs.shapeN
          have hba4 : Below w4.heap.size w4 (w4.alloc (.cells #[.slice va vn' vc'] 25)) := below_alloc _
          have hb7 : Below wr.heap.size wr (w4.alloc (.cells #[.slice va vn' vc'] 25)) := below_then hb4' hba4
          have Bc := Bx.below hb7
          have yc := yr.below hb7
          have Oc := Ox.keep' hb7
          have hkc := below_then hkr hb7
          have z7 := hb7.size
          have K7 : BoxAt (w4.alloc (.cells #[.slice va vn' vc'] 25)) w4.heap.size (.slice va vn' vc') := boxAt_new _ _
          have O7 : OwnR (w4.alloc (.cells #[.slice va vn' vc'] 25)) (w.heap.size + 2) (w4.alloc (.cells #[.slice va vn' vc'] 25)).heap.size (.slice va vn' vc') (lastR x) := (O4.keep' hba4).wide (Nat.le_refl _) hba4.size (Nat.le_refl _)
          have hle7 : wr.heap.size ≤ w4.heap.size := hb4'.size
          clear Bx yr Ox hkr hb4 hb4' hb7 hba4 O4 hbd hRx cB c1 f1 cBd hma hmb hna hnb
          have c7 := K7.cell
          have cB := Bc.cell
          have fB := Bc.frozen
          have c1 := yc.cell
          have f1 := yc.frozen
          have hnx1 : ¬ x.length ≤ 1 := by omega
          by_cases hfm : f' < q
          · have HE : Hid (mergeTo zss.length zss f = (x, f')) := by
              show _ = _
              rw [← HX.out.2.2, HT'.out]
              exact mergeTo_stop _ hnx1 (.inl (by rw [← HQ.out]; exact hfm))
            have HR : Hid (OwnR ((w4.alloc (.cells #[.slice va vn' vc'] 25)).setCell ⟨w.heap.size + 1, 0, none⟩ (.slice (some ⟨bb, off, none⟩) (k + 2) xc)) (w.heap.size + 2) ((w4.alloc (.cells #[.slice va vn' vc'] 25)).setCell ⟨w.heap.size + 1, 0, none⟩ (.slice (some ⟨bb, off, none⟩) (k + 2) xc)).heap.size (.slice (some ⟨bb, off, none⟩) (k + 2) xc) x) := (Oc.put yc).wide (Nat.le_refl _) (by simp only [set_size]; exact z7) (Nat.le_refl _)
            have HK : Hid (Below w.heap.size w ((w4.alloc (.cells #[.slice va vn' vc'] 25)).setCell ⟨w.heap.size + 1, 0, none⟩ (.slice (some ⟨bb, off, none⟩) (k + 2) xc))) := hkc.setCell (by simp) _
            have c1' : ((w4.alloc (.cells #[.slice va vn' vc'] 25)).setCell ⟨w.heap.size + 1, 0, none⟩ (.slice (some ⟨bb, off, none⟩) (k + 2) xc)).cell? ⟨w.heap.size + 1, 0, none⟩ = some (.slice (some ⟨bb, off, none⟩) (k + 2) xc) := (yc.put _).cell
            clear Bc Oc yc hkc HX hxo K7 O7
            go_wp2
            refine bodyPost_ret (v := .tuple #[.agg #[(.slice (some ⟨bb, off, none⟩) (k + 2) xc)], .int .i64 f']) (by simp [results, Try.results24, go_sem, c1']) rfl ⟨_, ret_ri2 (by rw [H1.out.2, HE.out]), ?_, HK.out⟩
            rw [H1.out.1, HE.out]
            exact HR.out.wide (by omega) (Nat.le_refl _) (Nat.le_refl _)
          · cases hro : runOkB (lastR x) with
            | false =>
              go_wp2_with fail
              refine (specRunOk_any _ (lastR x) _ O7.runs).mono ?_
              rw [hro]
              rintro e w8 ⟨rfl, hb8⟩
              have z8 := hb8.size
              have HE : Hid (mergeTo zss.length zss f = (x, f')) := by
                show _ = _
                rw [← HX.out.2.2, HT'.out]
                exact mergeTo_stop _ hnx1 (.inr hro)
              have c8 := (Bc.below hb8).cell
              have y8 := yc.below hb8
              have c18 := y8.cell
              have f18 := y8.frozen
              have HR : Hid (OwnR (w8.setCell ⟨w.heap.size + 1, 0, none⟩ (.slice (some ⟨bb, off, none⟩) (k + 2) xc)) (w.heap.size + 2) (w8.setCell ⟨w.heap.size + 1, 0, none⟩ (.slice (some ⟨bb, off, none⟩) (k + 2) xc)).heap.size (.slice (some ⟨bb, off, none⟩) (k + 2) xc) x) := ((Oc.keep' hb8).put y8).wide (Nat.le_refl _) (by simp only [set_size]; omega) (Nat.le_refl _)
              have HK : Hid (Below w.heap.size w (w8.setCell ⟨w.heap.size + 1, 0, none⟩ (.slice (some ⟨bb, off, none⟩) (k + 2) xc))) := (below_then hkc hb8).setCell (by simp) _
              clear Bc Oc yc hkc HX hxo K7 O7 hb8 y8 hro c7 cB fB c1 f1
              go_wp2
              refine bodyPost_ret (v := .tuple #[.agg #[(.slice (some ⟨bb, off, none⟩) (k + 2) xc)], .int .i64 f']) (by simp [results, Try.results24, go_sem, c18]) rfl ⟨_, ret_ri2 (by rw [H1.out.2, HE.out]), ?_, HK.out⟩
              rw [H1.out.1, HE.out]
              exact HR.out.wide (by omega) (Nat.le_refl _) (Nat.le_refl _)
            | true =>
              go_wp2_with fail
              refine (specRunOk_any _ (lastR x) _ O7.runs).mono ?_
              rw [hro]
              rintro e w8 ⟨rfl, hb8⟩
              have z8 := hb8.size
              have B8 := Bc.below hb8
              have K8 := K7.below hb8
              have y8 := yc.below hb8
              have O8 := O7.keep' hb8
              have c8 := B8.cell
              have f8 := B8.frozen
              have c78 := K8.cell
              have hl7 : vn' = (lastR x).length := by
                obtain ⟨a', c', e'⟩ := O7.shape
                simp only [Value.slice.injEq] at e'
                exact e'.2.1
              have R : Hid (∃ (x : Rn) (vx : Value) (t : Nat), BoxAt (w8.setCell ⟨w2.heap.size, 0, none⟩ (.slice va vn' vc')) w2.heap.size vx ∧ OwnR (w8.setCell ⟨w2.heap.size, 0, none⟩ (.slice va vn' vc')) (w.heap.size + 2) (w8.setCell ⟨w2.heap.size, 0, none⟩ (.slice va vn' vc')).heap.size vx x ∧ BoxAt (w8.setCell ⟨w2.heap.size, 0, none⟩ (.slice va vn' vc')) (w.heap.size + 1) (.slice none 0 0) ∧ Below w.heap.size w (w8.setCell ⟨w2.heap.size, 0, none⟩ (.slice va vn' vc')) ∧ runOkB x = true ∧ x.length ≤ t ∧ mergeTo t x (f' - q) = mergeTo zss.length zss f) := by
                refine ⟨lastR x, (.slice va vn' vc'), t', B8.put _, (O8.put B8).wide (Nat.le_refl _) (by simp only [set_size]; exact z8) (Nat.le_refl _), y8.other _ (by omega), (below_then hkc hb8).setCell (by simp; omega) _, hro, ?_, ?_⟩
                · have h1 := lastR_len hm2
                  have h2 := HX.out.2.1
                  have h3 := HT'.out
                  omega
                · rw [← HX.out.2.2, HT'.out, mergeTo_go _ hnx1 (by rw [← HQ.out]; omega) hro, HQ.out]
              have HL8 : Hid (vn' < k + 2) := by
                show _ < _
                rw [hl7, HMX.out]
                exact lastR_len hm2
              have hq0 : 0 ≤ f' - (q : Int) ∧ f' - (q : Int) ≤ 9223372036854775807 := by omega
              have HLN : Hid (lenAt (w8.setCell ⟨w2.heap.size, 0, none⟩ (.slice va vn' vc')) w2.heap.size = vn') := lenAt_box (B8.put _)
              clear Bc Oc yc hkc HX hxo K7 O7 hb8 y8 hro c7 cB fB c1 f1 B8 K8 O8 hl7
              go_wp2
              go_roundw
              case rel => exact ⟨f' - q, by go_num, hq0.1, hq0.2, R.out⟩
              case measure =>
                rw [HLN.out, HLEN.out]
                exact HL8.out

end Go.Proofs.Ytegnoebpnpdogaa

/-
  The contracts of impl.RunSame and spec.RunSame at all runs.
-/
namespace Go.Proofs.Ytegnoebpnpdogaa
set_option maxRecDepth 100000
open Go.RowKit

def rsB (zs ys : Rn) : Bool := decide (zs = ys)
theorem rsB_of (xs ys : Rn) (hl : xs.length = ys.length) (h : ∀ j, j < xs.length → xs.getD j [] = ys.getD j []) : rsB xs ys = true := by
  unfold rsB
  rw [decide_eq_true_iff]
  apply List.ext_getElem hl
  intro j h1 h2
  have := h j h1
  simpa [List.getD, h1, h2] using this
theorem rsB_len (xs ys : Rn) (hl : xs.length ≠ ys.length) : rsB xs ys = false := by
  unfold rsB
  rw [decide_eq_false_iff_not]
  intro h; exact hl (by rw [h])
theorem rsB_at (xs ys : Rn) (j : Nat) (h : xs.getD j [] ≠ ys.getD j []) : rsB xs ys = false := by
  unfold rsB
  rw [decide_eq_false_iff_not]
  intro e; exact h (by rw [e])
theorem zsB_true {a b : List It} (h : zsB a b = true) : a = b := by simpa [zsB] using h
theorem zsB_false {a b : List It} (h : zsB a b = false) : a ≠ b := by simpa [zsB] using h

set_option maxHeartbeats 4000000 in
theorem equalRuns_some (b off cap b2 off2 cap2 : Nat) (zs ys : Rn) (w : World) (hpos : 0 < zs.length) (hlim : zs.length ≤ 140737488355328) (hlen : zs.length = ys.length) (hbw : b < w.heap.size) (hbw2 : b2 < w.heap.size)
    (hc : ∀ j, j < zs.length → ∃ rv, w.cell? ⟨b, off + j, none⟩ = some rv ∧ TailZ w rv (zs.getD j []))
    (hc2 : ∀ j, j < zs.length → ∃ rv, w.cell? ⟨b2, off2 + j, none⟩ = some rv ∧ TailZ w rv (ys.getD j [])) :
    Calls Try.prog 45 #[.slice (some ⟨b, off, none⟩) zs.length cap, .slice (some ⟨b2, off2, none⟩) zs.length cap2, .func (.func 19) #[] #[]] w fun e w' => e = .returned (.bool (rsB zs ys)) ∧ Below w.heap.size w w' := by
  obtain ⟨n, hn⟩ : ∃ n, n = zs.length := ⟨_, rfl⟩
  have HN : Hid (n = zs.length) := hn
  have HL : Hid (zs.length = ys.length) := hlen
  rw [← hn] at hpos hlim hc hc2 ⊢
  clear hn hlen
  go_enter Try.func45, Try.ntmps45
  go_wp2
  go_loopw [17] (fun i wr => ∃ k : Nat, k ≤ n ∧ i = .int .i64 k ∧ Hid (Below w.heap.size w wr) ∧ Hid (∀ j, j < k → zs.getD j [] = ys.getD j [])) (fun i _ => n - (intOf i).toNat)
  case atStart => exact ⟨0, Nat.zero_le _, rfl, Below.refl _ _, fun j hj => by omega⟩
  case round =>
    obtain ⟨k, hk, rfl, HW, HS⟩ := hrel
    by_cases hlt : k < n
    · have HB := HW.out
      obtain ⟨rv, hrv0, hix0⟩ := hc k hlt
      have hrv := (HB.cell (p := ⟨b, off + k, none⟩) hbw).trans hrv0
      have hix := hix0.below HB
      obtain ⟨rv2, hrv02, hix02⟩ := hc2 k hlt
      have hrv2 := (HB.cell (p := ⟨b2, off2 + k, none⟩) hbw2).trans hrv02
      have hix2 := hix02.below HB
      clear hrv0 hix0 hrv02 hix02 HB hc hc2
      obtain ⟨p, HP⟩ : ∃ p, Hid (p = zs.getD k []) := ⟨_, rfl⟩
      obtain ⟨q, HQ⟩ : ∃ q, Hid (q = ys.getD k []) := ⟨_, rfl⟩
      rw [← HP.out] at hix
      rw [← HQ.out] at hix2
      have hsh : ∃ a n c, rv = .slice a n c := by obtain ⟨a, c, e⟩ := hix.shape1; exact ⟨a, _, c, e⟩
      have hsh2 : ∃ a n c, rv2 = .slice a n c := by obtain ⟨a, c, e⟩ := hix2.shape1; exact ⟨a, _, c, e⟩
      obtain ⟨ra, rn, rc, rfl⟩ := hsh
      obtain ⟨ra2, rn2, rc2, rfl⟩ := hsh2
      go_wp2_with fail
      refine (implZSame_any _ _ p q _ hix.items hix2.items).mono ?_
      rintro e w1 ⟨rfl, hb1⟩
      have HK : Hid (Below w.heap.size w w1) := below_then HW.out hb1
      clear hb1 hrv hrv2 hix hix2
      cases hc : zsB p q with
      | false =>
        have H2 : Hid (p ≠ q) := zsB_false hc
        go_wp2
        go_ret
        exact ⟨ret_bool (rsB_at zs ys k (by rw [← HP.out, ← HQ.out]; exact H2.out)).symm, HK.out⟩
      | true =>
        have H1 : Hid (p = q) := zsB_true hc
        go_wp2
        go_roundw
        case rel => exact ⟨k + 1, by omega, by go_num, HK.out, fun j hj => by
          rcases Nat.lt_succ_iff_lt_or_eq.1 hj with h | h
          · exact HS.out j h
          · rw [h, ← HP.out, ← HQ.out]; exact H1.out⟩
        case measure => simp [intOf]; omega
    · have e : k = n := by omega
      subst e
      clear hc hc2
      go_wp2
      go_ret
      exact ⟨ret_bool (rsB_of zs ys HL.out (by rw [← HN.out]; exact HS.out)).symm, HW.out⟩

theorem equalRuns_len (a : Option Addr) (cap n : Nat) (a2 : Option Addr) (cap2 m : Nat) (f : Value) (w : World) (hne : ((n : Int) != (m : Int)) = true) :
    Calls Try.prog 45 #[.slice a n cap, .slice a2 m cap2, f] w fun e w' => e = .returned (.bool false) ∧ Below w.heap.size w w' := by
  go_enter Try.func45, Try.ntmps45
  go_wp2
  go_ret
  exact ⟨rfl, Below.refl _ _⟩

theorem equalRuns_none (a : Option Addr) (cap : Nat) (a2 : Option Addr) (cap2 : Nat) (f : Value) (w : World) :
    Calls Try.prog 45 #[.slice a 0 cap, .slice a2 0 cap2, f] w fun e w' => e = .returned (.bool true) ∧ Below w.heap.size w w' := by
  go_enter Try.func45, Try.ntmps45
  go_wp2
  refine wp_loop_rounds 1 ?_
  rw [rounds_succ]
  go_wp2
  go_ret
  exact ⟨rfl, Below.refl _ _⟩

theorem equalRuns_any (v v2 : Value) (zs ys : Rn) (w : World) (h : RunsAt w v zs) (h2 : RunsAt w v2 ys) :
    Calls Try.prog 45 #[v, v2, .func (.func 19) #[] #[]] w fun e w' => e = .returned (.bool (rsB zs ys)) ∧ Below w.heap.size w w' := by
  by_cases hl : zs.length = ys.length
  · rcases h.cases with ⟨a, cap, rfl, rfl, _⟩ | ⟨b, off, cap, hpos, hlim, _, _, rfl, hbw, hc⟩
    · obtain rfl : ys = [] := List.length_eq_zero_iff.1 hl.symm
      obtain ⟨a2, cap2, rfl⟩ := h2.shape
      exact equalRuns_none a cap a2 cap2 _ w
    · rcases h2.cases with ⟨a2, cap2, rfl, rfl, _⟩ | ⟨b2, off2, cap2, _, _, _, _, rfl, hbw2, hc2⟩
      · simp at hl; simp [hl] at hpos
      · rw [← hl]
        exact equalRuns_some b off cap b2 off2 cap2 zs ys w hpos hlim hl hbw hbw2 hc (by rw [hl]; exact hc2)
  · obtain ⟨a, cap, rfl⟩ := h.shape
    obtain ⟨a2, cap2, rfl⟩ := h2.shape
    rw [rsB_len zs ys hl]
    exact equalRuns_len a cap _ a2 cap2 _ _ w (by rw [bne_iff_ne]; omega)

set_option maxHeartbeats 1000000 in
theorem implRunSame_any (v v2 : Value) (zs ys : Rn) (w : World) (h : RunsAt w v zs) (h2 : RunsAt w v2 ys) :
    Calls Try.prog 12 #[.agg #[v], .agg #[v2]] w fun e w' => e = .returned (.bool (rsB zs ys)) ∧ Below w.heap.size w w' := by
  obtain ⟨a, n, cap, rfl⟩ := h.shapeN
  obtain ⟨a2, n2, cap2, rfl⟩ := h2.shapeN
  go_enter Try.func12, Try.ntmps12
  go_wp2_with fail
  refine (equalRuns_any _ _ zs ys _ ((h.below (below_alloc _)).below (below_alloc _)) ((h2.below (below_alloc _)).below (below_alloc _))).mono ?_
  rintro e w1 ⟨rfl, hb1⟩
  have HK : Hid (Below w.heap.size w w1) := below_then (below_then (below_alloc _) (below_alloc _)) hb1
  clear h h2 hb1
  go_wp2
  go_ret
  exact ⟨rfl, HK.out⟩

set_option maxHeartbeats 4000000 in
theorem specRunSame_some (b off cap b2 off2 cap2 : Nat) (zs ys : Rn) (w : World) (hpos : 0 < zs.length) (hlim : zs.length ≤ 140737488355328) (hlen : zs.length = ys.length) (hbw : b < w.heap.size) (hbw2 : b2 < w.heap.size)
    (hc : ∀ j, j < zs.length → ∃ rv, w.cell? ⟨b, off + j, none⟩ = some rv ∧ TailZ w rv (zs.getD j []))
    (hc2 : ∀ j, j < zs.length → ∃ rv, w.cell? ⟨b2, off2 + j, none⟩ = some rv ∧ TailZ w rv (ys.getD j [])) :
    Calls Try.prog 26 #[.agg #[.slice (some ⟨b, off, none⟩) zs.length cap], .agg #[.slice (some ⟨b2, off2, none⟩) zs.length cap2]] w fun e w' => e = .returned (.bool (rsB zs ys)) ∧ Below w.heap.size w w' := by
  obtain ⟨n, hn⟩ : ∃ n, n = zs.length := ⟨_, rfl⟩
  have HN : Hid (n = zs.length) := hn
  have HL : Hid (zs.length = ys.length) := hlen
  rw [← hn] at hpos hlim hc hc2 ⊢
  clear hn hlen
  go_enter Try.func26, Try.ntmps26
  go_wp2
  go_loopw [5] (fun i wr => ∃ k : Nat, k ≤ n ∧ i = .int .i64 k ∧ Hid (Below (w.heap.size + 2) ((w.alloc (.cells #[.slice (some ⟨b, off, none⟩) n cap] 25)).alloc (.cells #[.slice (some ⟨b2, off2, none⟩) n cap2] 25)) wr) ∧ Hid (∀ j, j < k → zs.getD j [] = ys.getD j [])) (fun i _ => n - (intOf i).toNat)
  case atStart => exact ⟨0, Nat.zero_le _, rfl, by show Below _ _ _; exact Below.refl _ _, fun j hj => by omega⟩
  case round =>
    obtain ⟨k, hk, rfl, HW, HS⟩ := hrel
    have hbx1 : wr.cell? ⟨w.heap.size, 0, none⟩ = some (.slice (some ⟨b, off, none⟩) n cap) := cell_is HW.out (show w.heap.size < w.heap.size + 2 by omega) (by simp [go_sem])
    have hbx2 : wr.cell? ⟨w.heap.size + 1, 0, none⟩ = some (.slice (some ⟨b2, off2, none⟩) n cap2) := cell_is HW.out (show w.heap.size + 1 < w.heap.size + 2 by omega) (by simp [go_sem])
    have HB : Below w.heap.size w wr := below_then (below_then (below_alloc _) (below_alloc _)) (by simpa using HW.out)
    by_cases hlt : k < n
    · obtain ⟨rv, hrv0, hix0⟩ := hc k hlt
      have hrv := (HB.cell (p := ⟨b, off + k, none⟩) hbw).trans hrv0
      have hix := hix0.below HB
      obtain ⟨rv2, hrv02, hix02⟩ := hc2 k hlt
      have hrv2 := (HB.cell (p := ⟨b2, off2 + k, none⟩) hbw2).trans hrv02
      have hix2 := hix02.below HB
      clear hrv0 hix0 hrv02 hix02 hc hc2
      obtain ⟨p, HP⟩ : ∃ p, Hid (p = zs.getD k []) := ⟨_, rfl⟩
      obtain ⟨q, HQ⟩ : ∃ q, Hid (q = ys.getD k []) := ⟨_, rfl⟩
      rw [← HP.out] at hix
      rw [← HQ.out] at hix2
      have hsh : ∃ a n c, rv = .slice a n c := by obtain ⟨a, c, e⟩ := hix.shape1; exact ⟨a, _, c, e⟩
      have hsh2 : ∃ a n c, rv2 = .slice a n c := by obtain ⟨a, c, e⟩ := hix2.shape1; exact ⟨a, _, c, e⟩
      obtain ⟨ra, rn, rc, rfl⟩ := hsh
      obtain ⟨ra2, rn2, rc2, rfl⟩ := hsh2
      have hsz : w.heap.size + 2 ≤ wr.heap.size := by have := HW.out.size; simpa using this
      obtain ⟨c, HC⟩ : ∃ c, Hid (c = zsB p q) := ⟨_, rfl⟩
      go_wp2
      go_region_with (go_at_call 60; refine (specZSame_any _ _ p q _ (by first | exact hix.items | exact (hix.below (below_drewN (Below.refl _ _) _)).items | exact (hix.below (Below.drew (Below.refl _ _))).items) (by first | exact hix2.items | exact (hix2.below (below_drewN (Below.refl _ _) _)).items | exact (hix2.below (Below.drew (Below.refl _ _))).items)).mono ?_; rw [← HC.out]; rintro e w1 ⟨rfl, hb1⟩)
      all_goals
        have hb1' : Below wr.heap.size wr w1 := by
          first
            | exact hb1
            | exact below_then (below_drewN (Below.refl _ _) _) hb1
            | exact below_then (Below.drew (Below.refl _ _)) hb1
            | exact hb1.below
            | exact below_then (below_drewN (Below.refl _ _) _) hb1.below
            | exact below_then (Below.drew (Below.refl _ _)) hb1.below
        have HK : Hid (Below (w.heap.size + 2) ((w.alloc (.cells #[.slice (some ⟨b, off, none⟩) n cap] 25)).alloc (.cells #[.slice (some ⟨b2, off2, none⟩) n cap2] 25)) w1) := HW.out.trans (hb1'.mono hsz)
        clear hb1 hb1' hrv hrv2 hix hix2 hbx1 hbx2 HB hsz
        cases c with
        | false =>
          go_wp2
          go_ret
          exact ⟨ret_bool (rsB_at zs ys k (by rw [← HP.out, ← HQ.out]; exact zsB_false HC.out.symm)).symm, below_then (below_then (below_alloc _) (below_alloc _)) (by simpa using HK.out)⟩
        | true =>
          go_wp2
          go_roundw
          case rel => exact ⟨k + 1, by omega, by go_num, HK.out, fun j hj => by
            rcases Nat.lt_succ_iff_lt_or_eq.1 hj with h | h
            · exact HS.out j h
            · rw [h, ← HP.out, ← HQ.out]; exact zsB_true HC.out.symm⟩
          case measure => simp [intOf]; omega
    · have e : k = n := by omega
      subst e
      clear hc hc2
      go_wp2
      go_ret
      exact ⟨ret_bool (rsB_of zs ys HL.out (by rw [← HN.out]; exact HS.out)).symm, HB⟩

theorem specRunSame_len (a : Option Addr) (cap n : Nat) (a2 : Option Addr) (cap2 m : Nat) (w : World) (hne : ((n : Int) != (m : Int)) = true) :
    Calls Try.prog 26 #[.agg #[.slice a n cap], .agg #[.slice a2 m cap2]] w fun e w' => e = .returned (.bool false) ∧ Below w.heap.size w w' := by
  go_enter Try.func26, Try.ntmps26
  go_wp2
  go_ret
  exact ⟨rfl, below_then (below_alloc _) (below_alloc _)⟩

theorem specRunSame_none (a : Option Addr) (cap : Nat) (a2 : Option Addr) (cap2 : Nat) (w : World) :
    Calls Try.prog 26 #[.agg #[.slice a 0 cap], .agg #[.slice a2 0 cap2]] w fun e w' => e = .returned (.bool true) ∧ Below w.heap.size w w' := by
  go_enter Try.func26, Try.ntmps26
  go_wp2
  refine wp_loop_rounds 1 ?_
  rw [rounds_succ]
  go_wp2
  go_ret
  exact ⟨rfl, below_then (below_alloc _) (below_alloc _)⟩

theorem specRunSame_any (v v2 : Value) (zs ys : Rn) (w : World) (h : RunsAt w v zs) (h2 : RunsAt w v2 ys) :
    Calls Try.prog 26 #[.agg #[v], .agg #[v2]] w fun e w' => e = .returned (.bool (rsB zs ys)) ∧ Below w.heap.size w w' := by
  by_cases hl : zs.length = ys.length
  · rcases h.cases with ⟨a, cap, rfl, rfl, _⟩ | ⟨b, off, cap, hpos, hlim, _, _, rfl, hbw, hc⟩
    · obtain rfl : ys = [] := List.length_eq_zero_iff.1 hl.symm
      obtain ⟨a2, cap2, rfl⟩ := h2.shape
      exact specRunSame_none a cap a2 cap2 w
    · rcases h2.cases with ⟨a2, cap2, rfl, rfl, _⟩ | ⟨b2, off2, cap2, _, _, _, _, rfl, hbw2, hc2⟩
      · simp at hl; simp [hl] at hpos
      · rw [← hl]
        exact specRunSame_some b off cap b2 off2 cap2 zs ys w hpos hlim hl hbw hbw2 hc (by rw [hl]; exact hc2)
  · obtain ⟨a, cap, rfl⟩ := h.shape
    obtain ⟨a2, cap2, rfl⟩ := h2.shape
    rw [rsB_len zs ys hl]
    exact specRunSame_len a cap _ a2 cap2 _ w (by rw [bne_iff_ne]; omega)

end Go.Proofs.Ytegnoebpnpdogaa

/-
  The walk of laws.FnRunMerge, out of the contracts: it answers true whatever the bytes are, and nothing that was there is written.
-/
namespace Go.Proofs.Ytegnoebpnpdogaa
set_option maxRecDepth 100000
set_option linter.unusedVariables false
open Go.RowKit

set_option maxHeartbeats 4000000 in
theorem lawFnRunMerge (a : Option Addr) (len cap : Nat) (bs : List Int) (w : World) (h : IsRow .u8 w a len cap bs) :
    Calls Try.prog 4 #[.slice a len cap] w fun e w' => e = .returned (.bool true) ∧ Below w.heap.size w w' := by
  by_cases hl : ¬ len ≤ 1048576
  · have hbig : (1048576 : Int) < (len : Int) := by omega
    clear h
    go_enter Try.func4, Try.ntmps4
    go_wp2
    go_ret
    exact ⟨rfl, Below.refl _ _⟩
  replace hl : len ≤ 1048576 := by omega
  have hlI : ¬ (1048576 : Int) < (len : Int) := by omega
  go_enter Try.func4, Try.ntmps4
  go_wp2_with fail
  refine (drawRunMerge_any a len cap bs _ h).mono ?_
  rintro e w1 ⟨v1, f, rfl, hf0, hf1, s, R3, hk⟩
  have hc := h.below hk
  clear h
  obtain ⟨sa, sc, hshs⟩ := R3.shape
  obtain ⟨sn, HSN⟩ : ∃ n, Hid (n = s.length) := ⟨_, rfl⟩
  rw [← HSN.out] at hshs
  subst hshs
  obtain ⟨x, HX⟩ : ∃ x, Hid (x = mrgOut s f) := ⟨_, rfl⟩
  obtain ⟨lf, HLF⟩ : ∃ lf, Hid (lf = mrgLeft s f) := ⟨_, rfl⟩
  have hbx3 : Below w1.heap.size w1 (w1.alloc (.cells #[.slice sa sn sc] 25)) := below_alloc _
  have B3 : BoxAt (w1.alloc (.cells #[.slice sa sn sc] 25)) w1.heap.size (.slice sa sn sc) := boxAt_new _ _
  have hk_1 := below_then hk hbx3
  have R3_1 := R3.below hbx3
  have hc_1 := hc.below hbx3
  clear hk R3 hc
  clear hbx3
  have c3_1 := B3.cell
  go_wp2_with fail
  refine (implRunMerge_any _ s f _ R3_1 (by omega)).mono ?_
  rw [← HX.out, ← HLF.out]
  rintro e w2 ⟨v2, rfl, O5, hb2⟩
  have hk_2 := below_then hk_1 hb2
  have R3_2 := R3_1.below hb2
  have hc_2 := hc_1.below hb2
  have B3_2 := B3.below hb2
  clear hk_1 R3_1 hc_1 B3
  clear hb2
  obtain ⟨xa, xc, hshx⟩ := O5.shape
  obtain ⟨xn, HXN⟩ : ∃ n, Hid (n = x.length) := ⟨_, rfl⟩
  rw [← HXN.out] at hshx
  subst hshx
  have R5 := O5.runs
  clear O5
  have hbx5 : Below w2.heap.size w2 (w2.alloc (.cells #[.slice xa xn xc] 25)) := below_alloc _
  have B5 : BoxAt (w2.alloc (.cells #[.slice xa xn xc] 25)) w2.heap.size (.slice xa xn xc) := boxAt_new _ _
  have hk_3 := below_then hk_2 hbx5
  have R3_3 := R3_2.below hbx5
  have hc_3 := hc_2.below hbx5
  have B3_3 := B3_2.below hbx5
  have R5_3 := R5.below hbx5
  clear hk_2 R3_2 hc_2 B3_2 R5
  clear hbx5
  have c3_3 := B3_3.cell
  go_wp2_with fail
  refine (specRunMerge_any _ s f _ R3_3 (by omega)).mono ?_
  rw [← HX.out, ← HLF.out]
  rintro e w3 ⟨v3, rfl, O7, hb3⟩
  have hk_4 := below_then hk_3 hb3
  have R3_4 := R3_3.below hb3
  have hc_4 := hc_3.below hb3
  have B3_4 := B3_3.below hb3
  have R5_4 := R5_3.below hb3
  have B5_4 := B5.below hb3
  clear hk_3 R3_3 hc_3 B3_3 R5_3 B5
  clear hb3
  obtain ⟨ya, yn, yc, rfl⟩ := O7.runs.shapeN
  have R7 := O7.runs
  clear O7
  have hbx7 : Below w3.heap.size w3 (w3.alloc (.cells #[.slice ya yn yc] 25)) := below_alloc _
  have B7 : BoxAt (w3.alloc (.cells #[.slice ya yn yc] 25)) w3.heap.size (.slice ya yn yc) := boxAt_new _ _
  have hk_5 := below_then hk_4 hbx7
  have R3_5 := R3_4.below hbx7
  have hc_5 := hc_4.below hbx7
  have B3_5 := B3_4.below hbx7
  have R5_5 := R5_4.below hbx7
  have B5_5 := B5_4.below hbx7
  have R7_5 := R7.below hbx7
  clear hk_4 R3_4 hc_4 B3_4 R5_4 B5_4 R7
  clear hbx7
  go_upto_region 6 with fail
  go_cut [9, 10] (fun p q wx => ∃ (b9 b10 : Nat) (da : Option Addr) (dn dc : Nat) (ea : Option Addr) (en ec : Nat) (p9 p10 : Rn), p = .pointer (some ⟨b9, 0, none⟩) ∧ q = .pointer (some ⟨b10, 0, none⟩) ∧ Hid (BoxAt wx b9 (.slice da dn dc) ∧ BoxAt wx b10 (.slice ea en ec) ∧ RunsAt wx (.slice da dn dc) p9 ∧ RunsAt wx (.slice ea en ec) p10 ∧ Below (w3.alloc (.cells #[.slice ya yn yc] 25)).heap.size (w3.alloc (.cells #[.slice ya yn yc] 25)) wx))
  case first =>
    go_wp2_with fail
    refine (drawRunSame_any a len cap bs _ hc_5).mono ?_
    rintro e w6 ⟨v6, u6, rfl, p9, p10, P9, P10, hb6⟩
    obtain ⟨da, dn, dc, rfl⟩ := P9.shapeN
    obtain ⟨ea, en, ec, rfl⟩ := P10.shapeN
    have k2 : Below w6.heap.size w6 ((w6.alloc (.cells #[.slice none 0 0] 25)).alloc (.cells #[.slice none 0 0] 25)) := below_then (below_alloc _) (below_alloc _)
    have g9 : BoxAt ((w6.alloc (.cells #[.slice none 0 0] 25)).alloc (.cells #[.slice none 0 0] 25)) w6.heap.size (.slice none 0 0) := (boxAt_new _ _).below (below_alloc _)
    have g10 : BoxAt ((w6.alloc (.cells #[.slice none 0 0] 25)).alloc (.cells #[.slice none 0 0] 25)) (w6.heap.size + 1) (.slice none 0 0) := by
      have := boxAt_new (w6.alloc (.cells #[.slice none 0 0] 25)) (.slice none 0 0)
      rw [show (w6.alloc (.cells #[.slice none 0 0] 25)).heap.size = w6.heap.size + 1 by simp] at this
      exact this
    have c9 := g9.cell
    have f9 := g9.frozen
    have c10 := g10.cell
    have f10 := g10.frozen
    have c10' := (g10.other (c := w6.heap.size) (.slice da dn dc) (by omega)).cell
    have f10' := (g10.other (c := w6.heap.size) (.slice da dn dc) (by omega)).frozen
    have kA : Below w6.heap.size w6 ((((w6.alloc (.cells #[.slice none 0 0] 25)).alloc (.cells #[.slice none 0 0] 25)).setCell ⟨w6.heap.size, 0, none⟩ (.slice da dn dc)).setCell ⟨w6.heap.size + 1, 0, none⟩ (.slice ea en ec)) := (k2.setCell (Nat.le_refl _) _).setCell (by simp) _
    have kB : Below w6.heap.size w6 ((w6.alloc (.cells #[.slice da dn dc] 25)).alloc (.cells #[.slice ea en ec] 25)) := below_then (below_alloc _) (below_alloc _)
    have HA : Hid (BoxAt ((((w6.alloc (.cells #[.slice none 0 0] 25)).alloc (.cells #[.slice none 0 0] 25)).setCell ⟨w6.heap.size, 0, none⟩ (.slice da dn dc)).setCell ⟨w6.heap.size + 1, 0, none⟩ (.slice ea en ec)) w6.heap.size (.slice da dn dc) ∧ BoxAt ((((w6.alloc (.cells #[.slice none 0 0] 25)).alloc (.cells #[.slice none 0 0] 25)).setCell ⟨w6.heap.size, 0, none⟩ (.slice da dn dc)).setCell ⟨w6.heap.size + 1, 0, none⟩ (.slice ea en ec)) (w6.heap.size + 1) (.slice ea en ec) ∧ RunsAt ((((w6.alloc (.cells #[.slice none 0 0] 25)).alloc (.cells #[.slice none 0 0] 25)).setCell ⟨w6.heap.size, 0, none⟩ (.slice da dn dc)).setCell ⟨w6.heap.size + 1, 0, none⟩ (.slice ea en ec)) (.slice da dn dc) p9 ∧ RunsAt ((((w6.alloc (.cells #[.slice none 0 0] 25)).alloc (.cells #[.slice none 0 0] 25)).setCell ⟨w6.heap.size, 0, none⟩ (.slice da dn dc)).setCell ⟨w6.heap.size + 1, 0, none⟩ (.slice ea en ec)) (.slice ea en ec) p10 ∧ Below (w3.alloc (.cells #[.slice ya yn yc] 25)).heap.size (w3.alloc (.cells #[.slice ya yn yc] 25)) ((((w6.alloc (.cells #[.slice none 0 0] 25)).alloc (.cells #[.slice none 0 0] 25)).setCell ⟨w6.heap.size, 0, none⟩ (.slice da dn dc)).setCell ⟨w6.heap.size + 1, 0, none⟩ (.slice ea en ec))) := ⟨(g9.put _).other _ (by omega), (g10.other _ (by omega)).put _, P9.below kA, P10.below kA, below_then hb6 kA⟩
    have HB : Hid (BoxAt ((w6.alloc (.cells #[.slice da dn dc] 25)).alloc (.cells #[.slice ea en ec] 25)) w6.heap.size (.slice da dn dc) ∧ BoxAt ((w6.alloc (.cells #[.slice da dn dc] 25)).alloc (.cells #[.slice ea en ec] 25)) (w6.heap.size + 1) (.slice ea en ec) ∧ RunsAt ((w6.alloc (.cells #[.slice da dn dc] 25)).alloc (.cells #[.slice ea en ec] 25)) (.slice da dn dc) p9 ∧ RunsAt ((w6.alloc (.cells #[.slice da dn dc] 25)).alloc (.cells #[.slice ea en ec] 25)) (.slice ea en ec) p10 ∧ Below (w3.alloc (.cells #[.slice ya yn yc] 25)).heap.size (w3.alloc (.cells #[.slice ya yn yc] 25)) ((w6.alloc (.cells #[.slice da dn dc] 25)).alloc (.cells #[.slice ea en ec] 25))) := by
      refine ⟨(boxAt_new _ _).below (below_alloc _), ?_, P9.below kB, P10.below kB, below_then hb6 kB⟩
      have := boxAt_new (w6.alloc (.cells #[.slice da dn dc] 25)) (.slice ea en ec)
      rw [show (w6.alloc (.cells #[.slice da dn dc] 25)).heap.size = w6.heap.size + 1 by simp] at this
      exact this
    clear P9 P10 kA kB k2 g9 g10 hb6
    go_wp2_with fail
    go_meet
    case rel =>
      first
        | exact ⟨w6.heap.size, w6.heap.size + 1, da, dn, dc, ea, en, ec, p9, p10, rfl, rfl, HA.out⟩
        | exact ⟨w6.heap.size, w6.heap.size + 1, da, dn, dc, ea, en, ec, p9, p10, rfl, rfl, HB.out⟩
  case rest =>
    obtain ⟨b9, b10, da, dn, dc, ea, en, ec, p9, p10, rfl, rfl, HC6⟩ := hcut
    obtain ⟨B9, B10, R9, R10, hb6⟩ := HC6.out
    clear HC6
    clear hc_5
    have hk_6 := below_then hk_5 hb6
    have R3_6 := R3_5.below hb6
    have B3_6 := B3_5.below hb6
    have R5_6 := R5_5.below hb6
    have B5_6 := B5_5.below hb6
    have R7_6 := R7_5.below hb6
    have B7_6 := B7.below hb6
    clear hk_5 R3_5 B3_5 R5_5 B5_5 R7_5 B7
    clear hb6
    have g5 := B5_6.cell
    have g7 := B7_6.cell
    have g9 := B9.cell
    have g10 := B10.cell
    obtain ⟨q, HQ⟩ : ∃ q, Hid (q = rsB p9 p10) := ⟨_, rfl⟩
    go_upto_region 7 with fail
    go_cut [61] (fun p wx => p = .bool false ∧ Hid (Below wc.heap.size wc wx))
    case first =>
      go_wp2_with fail
      go_region_held3 (fun w' => w'.cell? ⟨w2.heap.size, 0, none⟩ = some (.slice xa xn xc) ∧ w'.cell? ⟨w3.heap.size, 0, none⟩ = some (.slice ya yn yc) ∧ w'.cell? ⟨b9, 0, none⟩ = some (.slice da dn dc) ∧ w'.cell? ⟨b10, 0, none⟩ = some (.slice ea en ec)) (first | go_keep | (exact ⟨i1_5, i1_7, i1_9, i1_10⟩) | (exact ⟨i2_5, i2_7, i2_9, i2_10⟩) | (exact ⟨i3_5, i3_7, i3_9, i3_10⟩) | (exact ⟨i4_5, i4_7, i4_9, i4_10⟩)) ((first
        | (go_at_call 12; refine (implRunSame_any _ _ p9 p9 _ (R9.below k3) (R9.below k3)).mono ?_; rw [show rsB p9 p9 = true by simp [rsB]]; rintro e y4 ⟨rfl, h4⟩; have k4 := below_then k3 h4; have i4_5 := (B5_6.below k4).cell; have i4_7 := (B7_6.below k4).cell; have i4_9 := (B9.below k4).cell; have i4_10 := (B10.below k4).cell)
        | (go_at_call 26; refine (specRunSame_any _ _ p9 p10 _ (R9.below k2) (R10.below k2)).mono ?_; rw [← HQ.out]; rintro e y3 ⟨rfl, h3⟩; have k3 := below_then k2 h3; have i3_5 := (B5_6.below k3).cell; have i3_7 := (B7_6.below k3).cell; have i3_9 := (B9.below k3).cell; have i3_10 := (B10.below k3).cell)
        | (go_at_call 12; refine (implRunSame_any _ _ p9 p10 _ (R9.below k1) (R10.below k1)).mono ?_; rw [← HQ.out]; rintro e y2 ⟨rfl, h2⟩; have k2 := below_then k1 h2; have i2_5 := (B5_6.below k2).cell; have i2_7 := (B7_6.below k2).cell; have i2_9 := (B9.below k2).cell; have i2_10 := (B10.below k2).cell)
        | (go_at_call 12; refine (implRunSame_any _ _ x x _ (R5_6.below (Below.drew (Below.refl _ _))) (R7_6.below (Below.drew (Below.refl _ _)))).mono ?_; rw [show rsB x x = true by simp [rsB]]; rintro e y1 ⟨rfl, h1⟩; have k1 := below_then (Below.drew (Below.refl _ _)) h1; have i1_5 := (B5_6.below k1).cell; have i1_7 := (B7_6.below k1).cell; have i1_9 := (B9.below k1).cell; have i1_10 := (B10.below k1).cell)))
      all_goals
        go_wp2_with fail
        go_meet
        case rel => exact ⟨rfl, k4⟩
    case rest =>
      obtain ⟨rfl, HC7⟩ := hcut
      have hb7 := HC7.out
      clear HC7 g5 g7 g9 g10
      clear B9 R9 B10 R10 B7_6 R7_6
      have hk_7 := below_then hk_6 hb7
      have R3_7 := R3_6.below hb7
      have B3_7 := B3_6.below hb7
      have R5_7 := R5_6.below hb7
      have B5_7 := B5_6.below hb7
      clear hk_6 R3_6 B3_6 R5_6 B5_6
      clear hb7
      have c3_7 := B3_7.cell
      have c5_7 := B5_7.cell
      cases hso : runOkB s with
      | false =>
        have hx0 : xn = 0 := by rw [HXN.out, HX.out]; simp [mrgOut, hso]
        have hl0 : lf = 0 := by rw [HLF.out]; simp [mrgLeft, hso]
        subst hx0 hl0
        go_wp2_with fail
        refine (specRunOk_any _ s _ R3_7).mono ?_
        rw [hso]
        rintro e w8 ⟨rfl, hb8⟩
        have hk_8 := below_then hk_7 hb8
        have R3_8 := R3_7.below hb8
        have B3_8 := B3_7.below hb8
        have R5_8 := R5_7.below hb8
        have B5_8 := B5_7.below hb8
        clear hk_7 R3_7 B3_7 R5_7 B5_7
        clear hb8
        have c5_8 := B5_8.cell
        have HK := hidK hk_8
        clear hk_8 R3_8 B3_8 R5_8 B5_8
        go_wp2
        go_ret
        exact ⟨rfl, HK.out⟩
      | true =>
        by_cases hfn : f < 0
        · have hx0 : xn = 0 := by rw [HXN.out, HX.out]; simp [mrgOut, show ¬ 0 ≤ f by omega]
          have hl0 : lf = 0 := by rw [HLF.out]; simp [mrgLeft, show ¬ 0 ≤ f by omega]
          subst hx0 hl0
          go_wp2_with fail
          refine (specRunOk_any _ s _ R3_7).mono ?_
          rw [hso]
          rintro e w8 ⟨rfl, hb8⟩
          have hk_9 := below_then hk_7 hb8
          have R3_9 := R3_7.below hb8
          have B3_9 := B3_7.below hb8
          have R5_9 := R5_7.below hb8
          have B5_9 := B5_7.below hb8
          clear hk_7 R3_7 B3_7 R5_7 B5_7
          clear hb8
          have c5_9 := B5_9.cell
          have HK := hidK hk_9
          clear hk_9 R3_9 B3_9 R5_9 B5_9
          go_wp2
          go_ret
          exact ⟨rfl, HK.out⟩
        · obtain ⟨f1, f2, f3, f4, f5, f6, f7⟩ := mrg_facts_ok (f := f) hso (by omega)
          rw [← HLF.out] at f4 f5 f6 f7
          rw [← HX.out] at f1 f2 f3 f6 f7
          have hxs : (xn : Int) ≤ (sn : Int) := by have := HXN.out; have := HSN.out; omega
          have t3 : togOut s = sumR s := by simp [togOut, hso]
          have t5 : togOut x = sumR s := by simp [togOut, f1, f2]
          go_wp2_with fail
          refine (specRunOk_any _ s _ R3_7).mono ?_
          rw [hso]
          rintro e w8 ⟨rfl, hb8⟩
          have hk_10 := below_then hk_7 hb8
          have R3_10 := R3_7.below hb8
          have B3_10 := B3_7.below hb8
          have R5_10 := R5_7.below hb8
          have B5_10 := B5_7.below hb8
          clear hk_7 R3_7 B3_7 R5_7 B5_7
          clear hb8
          have c5_10 := B5_10.cell
          go_wp2_with fail
          refine (implRunMerge_any _ x lf _ R5_10 (by omega)).mono ?_
          rw [f6, f7]
          rintro e w9 ⟨v9, rfl, O11, hb9⟩
          have hk_11 := below_then hk_10 hb9
          have R3_11 := R3_10.below hb9
          have B3_11 := B3_10.below hb9
          have R5_11 := R5_10.below hb9
          have B5_11 := B5_10.below hb9
          clear hk_10 R3_10 B3_10 R5_10 B5_10
          clear hb9
          obtain ⟨ka, kn, kc, rfl⟩ := O11.runs.shapeN
          have R11 := O11.runs
          clear O11
          have hbx11 : Below w9.heap.size w9 (w9.alloc (.cells #[.slice ka kn kc] 25)) := below_alloc _
          have B11 : BoxAt (w9.alloc (.cells #[.slice ka kn kc] 25)) w9.heap.size (.slice ka kn kc) := boxAt_new _ _
          have hk_12 := below_then hk_11 hbx11
          have R3_12 := R3_11.below hbx11
          have B3_12 := B3_11.below hbx11
          have R5_12 := R5_11.below hbx11
          have B5_12 := B5_11.below hbx11
          have R11_12 := R11.below hbx11
          clear hk_11 R3_11 B3_11 R5_11 B5_11 R11
          clear hbx11
          have g3 := B3_12.cell
          have g5 := B5_12.cell
          have g11 := B11.cell
          go_upto_region 12 with fail
          go_region_held3 (fun w' => w'.cell? ⟨w1.heap.size, 0, none⟩ = some (.slice sa sn sc) ∧ w'.cell? ⟨w2.heap.size, 0, none⟩ = some (.slice xa xn xc) ∧ w'.cell? ⟨w9.heap.size, 0, none⟩ = some (.slice ka kn kc)) (first | go_keep | (exact ⟨i1_3, i1_5, i1_11⟩) | (exact ⟨i2_3, i2_5, i2_11⟩) | (exact ⟨i3_3, i3_5, i3_11⟩) | (exact ⟨i4_3, i4_5, i4_11⟩) | (exact ⟨i5_3, i5_5, i5_11⟩)) ((first
            | (go_at_call 12; refine (implRunSame_any _ _ x x _ (R11_12.below k4) (R5_12.below k4)).mono ?_; rw [show rsB x x = true by simp [rsB]]; rintro e y5 ⟨rfl, h5⟩; have k5 := below_then k4 h5; have i5_3 := (B3_12.below k5).cell; have i5_5 := (B5_12.below k5).cell; have i5_11 := (B11.below k5).cell)
            | (go_at_call 19; refine (implZSame_any _ _ (sumR s) (sumR s) _ (Za.keep' h3).items Zb.items).mono ?_; rw [show zsB (sumR s) (sumR s) = true by simp [zsB]]; rintro e y4 ⟨rfl, h4⟩; have k4 := below_then k3 h4; have i4_3 := (B3_12.below k4).cell; have i4_5 := (B5_12.below k4).cell; have i4_11 := (B11.below k4).cell)
            | (go_at_call 16; refine (implRunAll_any _ s _ (R3_12.below k2)).mono ?_; rw [t3]; rintro e y3 ⟨vb, rfl, Zb, h3⟩; have k3 := below_then k2 h3; have i3_3 := (B3_12.below k3).cell; have i3_5 := (B5_12.below k3).cell; have i3_11 := (B11.below k3).cell)
            | (go_at_call 16; refine (implRunAll_any _ x _ (R5_12.below k1)).mono ?_; rw [t5]; rintro e y2 ⟨va, rfl, Za, h2⟩; have k2 := below_then k1 h2; have i2_3 := (B3_12.below k2).cell; have i2_5 := (B5_12.below k2).cell; have i2_11 := (B11.below k2).cell)
            | (go_at_call 13; refine (implRunOk_any _ x _ (R5_12.below (Below.drew (Below.refl _ _)))).mono ?_; rw [f1]; rintro e y1 ⟨rfl, h1⟩; have k1 := below_then (Below.drew (Below.refl _ _)) h1; have i1_3 := (B3_12.below k1).cell; have i1_5 := (B5_12.below k1).cell; have i1_11 := (B11.below k1).cell)))
          all_goals
            have HK := hidK (below_then hk_12 k5)
            clear hk_12 R3_12 B3_12 R5_12 B5_12 R11_12 B11
            go_wp2
            go_ret
            exact ⟨rfl, HK.out⟩

end Go.Proofs.Ytegnoebpnpdogaa
