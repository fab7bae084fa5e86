/-
  What is drawn for the laws of runs: spec.DrawRunGet, DrawRunMerge.
-/
import Derived.Test.YtegnoebpnpdogaaDrawR
namespace Go.Proofs.Ytegnoebpnpdogaa
set_option maxRecDepth 100000
set_option linter.unusedVariables false
open Go.RowKit

theorem runs_put {w : World} {g b : Nat} {v u : Value} {s : Rn} (h : DrawnR w g v s) (hb : b ≤ g) : RunsAt (w.setCell ⟨b, 0, none⟩ u) v s :=
  h _ (Only.setCell (Only.refl 0 (g + 1) w) (Nat.zero_le _) (by show b < _; omega) u)

set_option maxHeartbeats 2000000 in
theorem drawRunGet_any (a : Option Addr) (len cap : Nat) (bs : List Int) (w : World) (h : IsRow .u8 w a len cap bs) :
    Calls Try.prog 18 #[.slice a len cap] w fun e w' => ∃ v rv, e = .returned (.tuple #[.agg #[v], rv]) ∧ ∃ (s : Rn) (r : List Int), RunsAt w' v s ∧ IntsAt w' rv r ∧ Below w.heap.size w w' := by
  have x0 : BoxAt (w.alloc (.cells #[.slice none 0 0] 25)) w.heap.size (.slice none 0 0) := boxAt_new _ _
  have hk0 : Below w.heap.size w (w.alloc (.cells #[.slice none 0 0] 25)) := below_alloc _
  have h1 : IsRow .u8 (w.alloc (.cells #[.slice none 0 0] 25)) a len cap bs := h.below hk0
  obtain ⟨g, HG⟩ : ∃ g, Hid (g = w.heap.size + 1) := ⟨_, rfl⟩
  have hg0 : (w.alloc (.cells #[.slice none 0 0] 25)).heap.size = g := by rw [HG.out]; simp
  have hgw : w.heap.size < g := by rw [HG.out]; omega
  clear h
  have HO := l12Open_any a len cap bs _ h1
  rw [hg0] at HO
  clear h1
  go_enter Try.func18, Try.ntmps18
  go_wp2_with fail
  refine HO.mono ?_
  rintro e w1 ⟨rfl, hrd1, hb1⟩
  have hk1 : Below w.heap.size w w1 := hk0.trans (hb1.mono (by omega))
  have x1 := x0.keep hb1 hgw
  clear HO hk0 x0 hb1
  go_upto_region 2 with fail
  go_cut [5] (fun p wx => ∃ (b : Nat) (sa : Option Addr) (sn sc : Nat) (s : Rn), p = .pointer (some ⟨b, 0, none⟩) ∧ Hid (BoxAt wx b (.slice sa sn sc) ∧ BoxAt wx w.heap.size (.slice none 0 0) ∧ DrawnR wx g (.slice sa sn sc) s ∧ Rd wx g 3000 ∧ Below w.heap.size w wx ∧ g < b))
  case first =>
    go_wp2_with fail
    refine (l7Spine_any g 0 _ (by omega) hrd1).mono ?_
    rintro e w2 ⟨v2, rfl, s, hd2, hrd2, hg2⟩
    have hk2 : Below w.heap.size w w2 := hk1.grown hg2 hk1.size (fun k e => by simp at e; omega)
    have x2 := x1.grown hg2 (fun e => by simp at e; omega)
    obtain ⟨sa, sn, sc, rfl⟩ := hd2.now.shapeN
    have hA := World.grownBy_alloc w2 (.cells #[.slice sa sn sc] 25) (some g)
    have R : Hid (BoxAt (w2.alloc (.cells #[.slice sa sn sc] 25)) w2.heap.size (.slice sa sn sc) ∧ BoxAt (w2.alloc (.cells #[.slice sa sn sc] 25)) w.heap.size (.slice none 0 0) ∧ DrawnR (w2.alloc (.cells #[.slice sa sn sc] 25)) g (.slice sa sn sc) s ∧ Rd (w2.alloc (.cells #[.slice sa sn sc] 25)) g 3000 ∧ Below w.heap.size w (w2.alloc (.cells #[.slice sa sn sc] 25)) ∧ g < w2.heap.size) := ⟨boxAt_new _ _, x2.below (below_alloc _), hd2.next hA, hrd2.below (below_alloc _), below_then hk2 (below_alloc _), hrd2.lt⟩
    clear hd2 hrd2 hg2 hk2 x2 hA hk1 x1 hrd1
    go_wp2_with fail
    go_meet
    case rel => exact ⟨w2.heap.size, sa, sn, sc, s, rfl, R.out⟩
  case rest =>
  obtain ⟨b, sa, sn, sc, s, rfl, HC⟩ := hcut
  obtain ⟨b3, x3, hd3, hrd3, hk3, hglt⟩ := HC.out
  have c3 := b3.cell
  have zb := b3.lt
  have zx := x3.lt
  clear hk1 x1 hrd1 HC
  go_upto_region 3 with fail
  go_region_with (first
    | (go_at_call 51; rw [wrap_small (show (0 : Int) ≤ 1 + q by omega) (by omega)]; refine (l1Row_any g (3000 + 1) (1 + q) _ (by omega) (by omega) (by omega) hrd4).mono ?_; rintro e w5 ⟨v5, rfl, xs, hxl, hsm, O5, hrd5, hg5⟩; have c5 := (b4.grown hg5 (fun e => by simp at e; omega)).cell; have x5 := x4.grown hg5 (fun e => by simp at e; omega); have c5x := x5.cell; have f5x := x5.frozen)
    | (go_at_call 34; refine (pick_any g 3000 2 _ (by omega) (by omega) (by omega) (by first | exact hrd3.below (Below.drew (Below.refl _ _)) | exact hrd3.le (by omega))).mono ?_; rintro e w4 ⟨q, hq0, hq2, rfl, hrd4, hg4⟩; have hg4' := grown_drew hg4; have b4 := b3.grown hg4' (fun e => by simp at e; omega); have c4 := b4.cell; have x4 := x3.grown hg4' (fun e => by simp at e; omega)))
  all_goals
    obtain ⟨ra, rn, rc, rfl⟩ := O5.ints.shape
    have hd5 := (hd3.next hg4').next hg5
    have R : Hid (∃ (s : Rn) (r : List Int), RunsAt (w5.setCell ⟨w.heap.size, 0, none⟩ (.slice sa sn sc)) (.slice sa sn sc) s ∧ IntsAt (w5.setCell ⟨w.heap.size, 0, none⟩ (.slice sa sn sc)) (.slice ra rn rc) r ∧ Below w.heap.size w (w5.setCell ⟨w.heap.size, 0, none⟩ (.slice sa sn sc))) := by
      have z4 := hg4'.size
      refine ⟨s, xs, runs_put hd5 (by omega), (O5.only (Only.of_grown (lo := w.heap.size) (hi := w.heap.size + 1) (set_grown _ _ _) (fun k e => by simp at e; omega)) (.inr (by have := hk3.size; omega))).ints, ?_⟩
      exact ((hk3.grown hg4' hk3.size (fun k e => by simp at e; omega)).grown hg5 (Nat.le_trans hk3.size z4) (fun k e => by simp at e; omega)).setCell (Nat.le_refl _) _
    have cE := (x5.put (.slice sa sn sc)).cell
    clear hd5 hd3 hrd3 hrd4 hrd5 O5 hg4 hg4' hg5 hk3 x3 b3 b4 x4 x5
    go_wp2
    refine bodyPost_ret (v := .tuple #[.agg #[.slice sa sn sc], .slice ra rn rc]) (by simp [results, Try.results18, go_sem, cE]) rfl ⟨_, _, rfl, R.out⟩

end Go.Proofs.Ytegnoebpnpdogaa
