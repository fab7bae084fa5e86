/-
  The walk of laws.FnExactTestOk, out of the contracts: it answers true at every test and width, and nothing that was there is written. Condition: the error of chapter 3 reads as it was laid.
-/
import Derived.Test.YtegnpbkgfhjdoaaDoorTestImpl
import Derived.Test.YtegnpbkgfhjdoaaDoorCellLaw
import Derived.Test.YtegnpbkgfhjdoaaDoorCellIn
import Derived.Test.YtegnpbkgfhjdoaaDoorLaidSent
namespace Go.Proofs.YtegnpbkgfhjdoaaDoor
open Go.RowKit

set_option maxRecDepth 100000 in
set_option maxHeartbeats 1000000 in
theorem lawTestOk (t : Tst) (_h : t.Wf) (wide : Int) (w : World) (hs : HasSent w) :
    Calls Tryd.prog 8 #[.agg #[.int .i64 t.k, .bool t.no, .int .i64 t.l.k, .int .i64 t.l.a, .int .i64 t.l.b, .int .i64 t.l.n, .int .i64 t.r.k, .int .i64 t.r.a, .int .i64 t.r.b, .int .i64 t.r.n], .int .i64 wide] w fun e w' => e = .returned (.bool true) ∧ Below w.heap.size w w' := by
  obtain ⟨p, hp⟩ := hs
  obtain ⟨r, HR⟩ : ∃ r, Hid (r = t.okB wide) := ⟨_, Eq.refl _⟩
  go_enter Tryd.func8, Tryd.ntmps8
  go_wp2_with fail
  refine (toTest_any t _).mono ?_
  rintro e w1 ⟨rfl, hb1⟩
  have B1 : Hid (Below w.heap.size w w1) := bel_then (bel_alloc _) hb1
  have X1 := (Box10.start w t _).below hb1
  clear hb1
  go_wp2_with fail
  refine (specTestOk_any t _ _).mono ?_
  rintro e w2 ⟨rfl, hb2⟩
  rw [← HR.out]
  have B2 : Hid (Below w.heap.size w w2) := bel_then B1.out hb2
  obtain ⟨_, c0, c1, ⟨c2, c3, c4, c5⟩, c6, c7, c8, c9⟩ := X1.below hb2
  clear hb2 X1
  go_wp2_with fail
  refine (toTest_any t _).mono ?_
  rintro e w3 ⟨rfl, hb3⟩
  have B3 : Hid (Below w.heap.size w w3) := bel_then B2.out hb3
  clear hb3 c0 c1 c2 c3 c4 c5 c6 c7 c8 c9
  go_wp2_with fail
  refine (implTestOk_any t _ _ p (hp.below B3.out)).mono ?_
  rintro e w4 ⟨rfl, hb4⟩
  rw [← HR.out]
  have B4 : Hid (Below w.heap.size w w4) := bel_then B3.out hb4
  clear hb4 hp
  have hn : (r != r) = false := by simp
  go_wp2
  go_ret
  exact ⟨rfl, B4.out⟩

end Go.Proofs.YtegnpbkgfhjdoaaDoor
