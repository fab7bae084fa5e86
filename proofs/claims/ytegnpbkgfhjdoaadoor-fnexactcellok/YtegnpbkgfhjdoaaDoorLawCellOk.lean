/-
  The walk of laws.FnExactCellOk, out of the contracts: it answers true at every cell and width, and nothing that was there is written. Condition: the error of chapter 3 reads as it was laid.
-/
import Derived.Test.YtegnpbkgfhjdoaaDoorCellImpl
import Derived.Test.YtegnpbkgfhjdoaaDoorCellLaw
import Derived.Test.YtegnpbkgfhjdoaaDoorCellIn
import Derived.Test.YtegnpbkgfhjdoaaDoorLaidSent
namespace Go.Proofs.YtegnpbkgfhjdoaaDoor
open Go.RowKit

set_option maxHeartbeats 1000000 in
theorem lawCellOk (c : Cel) (_h : c.Wf) (wide : Int) (w : World) (hs : HasSent w) :
    Calls Tryd.prog 4 #[.agg #[.int .i64 c.k, .int .i64 c.a, .int .i64 c.b, .int .i64 c.n], .int .i64 wide] w fun e w' => e = .returned (.bool true) ∧ Below w.heap.size w w' := by
  obtain ⟨p, hp⟩ := hs
  obtain ⟨r, HR⟩ : ∃ r, Hid (r = c.okB wide) := ⟨_, Eq.refl _⟩
  go_enter Tryd.func4, Tryd.ntmps4
  go_wp2_with fail
  refine (toCell_any _ _ _ _ _).mono ?_
  rintro e w1 ⟨rfl, hb1⟩
  have B1 : Hid (Below w.heap.size w w1) := bel_then (bel_alloc _) hb1
  have X1 := (Box4.start w c _).below hb1
  clear hb1
  go_wp2_with fail
  refine (specCellOk_any c _ _).mono ?_
  rintro e w2 ⟨rfl, hb2⟩
  rw [← HR.out]
  have B2 : Hid (Below w.heap.size w w2) := bel_then B1.out hb2
  have X2 := X1.below hb2
  obtain ⟨_, c0, c1, c2, c3⟩ := X2
  clear hb2 X1
  go_wp2_with fail
  refine (toCell_any _ _ _ _ _).mono ?_
  rintro e w3 ⟨rfl, hb3⟩
  have B3 : Hid (Below w.heap.size w w3) := bel_then B2.out hb3
  clear hb3 c0 c1 c2 c3
  go_wp2_with fail
  refine (implCellOk_any c _ _ p (hp.below B3.out)).mono ?_
  rintro e w4 ⟨rfl, hb4⟩
  rw [← HR.out]
  have B4 : Hid (Below w.heap.size w w4) := bel_then B3.out hb4
  clear hb4 hp
  have hn : (r != r) = false := by simp
  go_wp2
  go_ret
  exact ⟨rfl, B4.out⟩

end Go.Proofs.YtegnpbkgfhjdoaaDoor
