/-
  What is drawn for the laws of runs: spec.DrawRunMerge, spec.DrawRunOk, spec.DrawRunAll.
-/
import Derived.Test.YtjaehoehfmklcaaDrawRunPut
namespace Go.Proofs.Ytjaehoehfmklcaa
set_option maxRecDepth 100000
set_option linter.unusedVariables false
open Go.RowKit

set_option maxHeartbeats 4000000 in
theorem drawRunOk_any (a : Option Addr) (len cap : Nat) (bs : List Int) (w : World) (h : IsRow .u8 w a len cap bs) :
    Calls Try.prog 12 #[.slice a len cap] w fun e w' => ∃ v, e = .returned (.agg #[v]) ∧ ∃ (s : Rn), RunsAt w' v s ∧ Below w.heap.size w w' := by
  have x0 : BoxAt (w.alloc (.cells #[.slice none 0 0] 38)) w.heap.size (.slice none 0 0) := boxAt_new _ _
  have hk0 : Below w.heap.size w (w.alloc (.cells #[.slice none 0 0] 38)) := below_alloc _
  have h1 : IsRow .u8 (w.alloc (.cells #[.slice none 0 0] 38)) a len cap bs := h.below hk0
  obtain ⟨g, HG⟩ : ∃ g, Hid (g = w.heap.size + 1) := ⟨_, rfl⟩
  have hg0 : (w.alloc (.cells #[.slice none 0 0] 38)).heap.size = g := by rw [HG.out]; simp
  have hgw : w.heap.size < g := by rw [HG.out]; omega
  clear h
  have HO := l12Open_any a len cap bs _ h1
  rw [hg0] at HO
  clear h1
  go_enter Try.func12, Try.ntmps12
  go_wp2_with fail
  refine HO.mono ?_
  rintro e w1 ⟨rfl, hrd1, hb1⟩
  have hk1 : Below w.heap.size w w1 := hk0.trans (hb1.mono (by omega))
  have x1 := x0.keep hb1 hgw
  clear HO hk0 x0 hb1
  go_wp2_with fail
  refine (l7Spine_any g 0 _ (by omega) hrd1).mono ?_
  rintro e w2 ⟨v2, rfl, s, hd2, hrd2, hg2⟩
  obtain ⟨sa, sn, sc, rfl⟩ := hd2.now.shapeN
  have hk2 : Below w.heap.size w w2 := hk1.grown hg2 hk1.size (fun k e => by simp at e; omega)
  have x2 := x1.grown hg2 (fun e => by simp at e; omega)
  have c2 := x2.cell
  have f2 := x2.frozen
  have R : Hid (∃ (s : Rn), RunsAt (w2.setCell ⟨w.heap.size, 0, none⟩ (.slice sa sn sc)) (.slice sa sn sc) s ∧ Below w.heap.size w (w2.setCell ⟨w.heap.size, 0, none⟩ (.slice sa sn sc))) := ⟨s, runs_put hd2 (by omega), hk2.setCell (Nat.le_refl _) _⟩
  have cE := (x2.put (.slice sa sn sc)).cell
  clear hk1 x1 hrd1 hd2 hrd2 hg2 hk2 x2
  go_wp2
  refine bodyPost_ret (v := .agg #[.slice sa sn sc]) (by simp [results, Try.results12, go_sem, cE]) rfl ?_
  exact ⟨_, rfl, R.out⟩

end Go.Proofs.Ytjaehoehfmklcaa
