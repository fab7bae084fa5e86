/-
  The contracts of the program's own relationOf, TestOk, ask and TestOf.
-/
import Derived.Test.YtkgopbffgahhcaaDoorCellReck
import Derived.Test.YtkgopbffgahhcaaDoorCellBox
import Derived.Test.YtkgopbffgahhcaaDoorTestSpec
import Derived.Deep.RegionWith
namespace Go.Proofs.YtkgopbffgahhcaaDoor
open Go.RowKit
set_option linter.unusedVariables false

set_option maxRecDepth 100000 in
set_option maxHeartbeats 1000000 in
theorem rel_less (w : World) : Calls Tryd.prog 19 #[.int .i64 1] w fun e w' => e = .returned (.tuple #[.iface 70 (.agg #[]), .nilIface]) ∧ Below w.heap.size w w' := by
  go_enter Tryd.func19, Tryd.ntmps19
  go_wp2
  go_ret2
  exact ⟨rfl, Below.refl _ _⟩

set_option maxRecDepth 100000 in
set_option maxHeartbeats 1000000 in
theorem rel_same (w : World) : Calls Tryd.prog 19 #[.int .i64 2] w fun e w' => e = .returned (.tuple #[.iface 71 (.agg #[]), .nilIface]) ∧ Below w.heap.size w w' := by
  go_enter Tryd.func19, Tryd.ntmps19
  go_wp2
  go_ret2
  exact ⟨rfl, Below.refl _ _⟩

set_option maxRecDepth 100000 in
set_option maxHeartbeats 1000000 in
theorem rel_none (k : Int) (w : World) (p : Addr) (hs : Sent w p) (h1 : (k == 1) = false) (h2 : (k == 2) = false) : Calls Tryd.prog 19 #[.int .i64 k] w fun e w' => e = .returned (.tuple #[.nilIface, .iface 83 (.pointer (some p))]) ∧ Below w.heap.size w w' := by
  have hg := hs.2
  clear hs
  go_enter Tryd.func19, Tryd.ntmps19
  go_wp2
  go_quiet (fail)
  go_wp2
  go_ret2
  exact ⟨rfl, below_drewN (Below.refl _ _) _⟩
theorem RkEnd.yes {c : Cel} {xs : List Int} {p : Addr} {e : Ending} (h : RkEnd c xs p e) (ht : c.toldB xs = true) : e = .returned (.tuple #[.int .i64 (c.num xs), .nilIface]) := by
  rcases h with ⟨_, he⟩ | ⟨hf, _⟩
  · exact he
  · rw [hf] at ht; cases ht
theorem RkEnd.no {c : Cel} {xs : List Int} {p : Addr} {e : Ending} (h : RkEnd c xs p e) (ht : c.toldB xs = false) : e = .returned (.tuple #[.int .i64 0, .iface 83 (.pointer (some p))]) := by
  rcases h with ⟨hf, _⟩ | ⟨_, he⟩
  · rw [hf] at ht; cases ht
  · exact he

set_option maxRecDepth 100000 in
set_option maxHeartbeats 1000000 in
theorem iTestOk_none (k : Int) (no : Bool) (l r : Cel) (wide : Int) (w : World) (p : Addr) (hs : Sent w p) (h1 : (k == 1) = false) (h2 : (k == 2) = false) :
    Calls Tryd.prog 8 #[.agg #[.int .i64 k, .bool no, .int .i64 l.k, .int .i64 l.a, .int .i64 l.b, .int .i64 l.n, .int .i64 r.k, .int .i64 r.a, .int .i64 r.b, .int .i64 r.n], .int .i64 wide] w fun e w' => e = .returned (.bool false) ∧ Below w.heap.size w w' := by
  go_enter Tryd.func8, Tryd.ntmps8
  go_wp2_with fail
  refine (rel_none k _ p (hs.below (bel_alloc _)) h1 h2).mono ?_
  rintro e w1 ⟨rfl, hb1⟩
  have B1 : Hid (Below w.heap.size w w1) := bel_then (bel_alloc _) hb1
  have X1 := (Box10.start w ⟨k, no, l, r⟩ _).below hb1
  obtain ⟨_, c0, c1, ⟨c2, c3, c4, c5⟩, c6, c7, c8, c9⟩ := id X1
  have HX1 : Hid (Box10 w1 w.heap.size ⟨k, no, l, r⟩) := X1
  simp only at c0 c1 c2 c3 c4 c5 c6 c7 c8 c9
  have hg := (hs.below B1.out).2
  clear hb1 X1
  go_wp2_with fail
  refine (is_same p _).mono ?_
  rintro e w2 ⟨rfl, rfl⟩
  go_wp2
  go_ret
  exact ⟨rfl, B1.out⟩

set_option maxRecDepth 100000 in
set_option maxHeartbeats 1000000 in
theorem iTestOk_1l (no : Bool) (l r : Cel) (wide : Int) (w : World) (p : Addr) (hs : Sent w p) (hl : l.okB wide = false) :
    Calls Tryd.prog 8 #[.agg #[.int .i64 1, .bool no, .int .i64 l.k, .int .i64 l.a, .int .i64 l.b, .int .i64 l.n, .int .i64 r.k, .int .i64 r.a, .int .i64 r.b, .int .i64 r.n], .int .i64 wide] w fun e w' => e = .returned (.bool false) ∧ Below w.heap.size w w' := by
  go_enter Tryd.func8, Tryd.ntmps8
  go_wp2_with fail
  refine (rel_less _).mono ?_
  rintro e w1 ⟨rfl, hb1⟩
  have B1 : Hid (Below w.heap.size w w1) := bel_then (bel_alloc _) hb1
  have X1 := (Box10.start w ⟨1, no, l, r⟩ _).below hb1
  obtain ⟨_, c0, c1, ⟨c2, c3, c4, c5⟩, c6, c7, c8, c9⟩ := id X1
  have HX1 : Hid (Box10 w1 w.heap.size ⟨1, no, l, r⟩) := X1
  simp only at c0 c1 c2 c3 c4 c5 c6 c7 c8 c9
  have hg := (hs.below B1.out).2
  clear hb1 X1
  go_wp2_with fail
  refine (is_nil p _).mono ?_
  rintro e w2 ⟨rfl, rfl⟩
  go_wp2_with fail
  refine (implCellOk_any l _ _ p (hs.below B1.out)).mono ?_
  rintro e w3 ⟨rfl, hb3⟩
  rw [hl]
  have B3 : Hid (Below w.heap.size w w3) := bel_then B1.out hb3
  clear hb3 c0 c1 c2 c3 c4 c5 c6 c7 c8 c9 hg
  go_wp2
  go_ret
  exact ⟨rfl, B3.out⟩

set_option maxRecDepth 100000 in
set_option maxHeartbeats 1000000 in
theorem iTestOk_1r (no : Bool) (l r : Cel) (wide : Int) (w : World) (p : Addr) (hs : Sent w p) (hl : l.okB wide = true) (hr : r.okB wide = false) :
    Calls Tryd.prog 8 #[.agg #[.int .i64 1, .bool no, .int .i64 l.k, .int .i64 l.a, .int .i64 l.b, .int .i64 l.n, .int .i64 r.k, .int .i64 r.a, .int .i64 r.b, .int .i64 r.n], .int .i64 wide] w fun e w' => e = .returned (.bool false) ∧ Below w.heap.size w w' := by
  go_enter Tryd.func8, Tryd.ntmps8
  go_wp2_with fail
  refine (rel_less _).mono ?_
  rintro e w1 ⟨rfl, hb1⟩
  have B1 : Hid (Below w.heap.size w w1) := bel_then (bel_alloc _) hb1
  have X1 := (Box10.start w ⟨1, no, l, r⟩ _).below hb1
  obtain ⟨_, c0, c1, ⟨c2, c3, c4, c5⟩, c6, c7, c8, c9⟩ := id X1
  have HX1 : Hid (Box10 w1 w.heap.size ⟨1, no, l, r⟩) := X1
  simp only at c0 c1 c2 c3 c4 c5 c6 c7 c8 c9
  have hg := (hs.below B1.out).2
  clear hb1 X1
  go_wp2_with fail
  refine (is_nil p _).mono ?_
  rintro e w2 ⟨rfl, rfl⟩
  go_wp2_with fail
  refine (implCellOk_any l _ _ p (hs.below B1.out)).mono ?_
  rintro e w3 ⟨rfl, hb3⟩
  rw [hl]
  have B3 : Hid (Below w.heap.size w w3) := bel_then B1.out hb3
  have X3 := HX1.out.below hb3
  clear c0 c1 c2 c3 c4 c5 c6 c7 c8 c9 hg
  obtain ⟨_, c0, c1, ⟨c2, c3, c4, c5⟩, c6, c7, c8, c9⟩ := id X3
  simp only at c0 c1 c2 c3 c4 c5 c6 c7 c8 c9
  clear hb3 X3
  go_wp2_with fail
  refine (implCellOk_any r _ _ p (hs.below B3.out)).mono ?_
  rintro e w4 ⟨rfl, hb4⟩
  rw [hr]
  have B4 : Hid (Below w.heap.size w w4) := bel_then B3.out hb4
  clear hb4 c0 c1 c2 c3 c4 c5 c6 c7 c8 c9
  go_wp2
  go_ret
  exact ⟨rfl, B4.out⟩

set_option maxRecDepth 100000 in
set_option maxHeartbeats 1000000 in
theorem iTestOk_1y (no : Bool) (l r : Cel) (wide : Int) (w : World) (p : Addr) (hs : Sent w p) (hl : l.okB wide = true) (hr : r.okB wide = true) :
    Calls Tryd.prog 8 #[.agg #[.int .i64 1, .bool no, .int .i64 l.k, .int .i64 l.a, .int .i64 l.b, .int .i64 l.n, .int .i64 r.k, .int .i64 r.a, .int .i64 r.b, .int .i64 r.n], .int .i64 wide] w fun e w' => e = .returned (.bool true) ∧ Below w.heap.size w w' := by
  go_enter Tryd.func8, Tryd.ntmps8
  go_wp2_with fail
  refine (rel_less _).mono ?_
  rintro e w1 ⟨rfl, hb1⟩
  have B1 : Hid (Below w.heap.size w w1) := bel_then (bel_alloc _) hb1
  have X1 := (Box10.start w ⟨1, no, l, r⟩ _).below hb1
  obtain ⟨_, c0, c1, ⟨c2, c3, c4, c5⟩, c6, c7, c8, c9⟩ := id X1
  have HX1 : Hid (Box10 w1 w.heap.size ⟨1, no, l, r⟩) := X1
  simp only at c0 c1 c2 c3 c4 c5 c6 c7 c8 c9
  have hg := (hs.below B1.out).2
  clear hb1 X1
  go_wp2_with fail
  refine (is_nil p _).mono ?_
  rintro e w2 ⟨rfl, rfl⟩
  go_wp2_with fail
  refine (implCellOk_any l _ _ p (hs.below B1.out)).mono ?_
  rintro e w3 ⟨rfl, hb3⟩
  rw [hl]
  have B3 : Hid (Below w.heap.size w w3) := bel_then B1.out hb3
  have X3 := HX1.out.below hb3
  clear c0 c1 c2 c3 c4 c5 c6 c7 c8 c9 hg
  obtain ⟨_, c0, c1, ⟨c2, c3, c4, c5⟩, c6, c7, c8, c9⟩ := id X3
  simp only at c0 c1 c2 c3 c4 c5 c6 c7 c8 c9
  clear hb3 X3
  go_wp2_with fail
  refine (implCellOk_any r _ _ p (hs.below B3.out)).mono ?_
  rintro e w4 ⟨rfl, hb4⟩
  rw [hr]
  have B4 : Hid (Below w.heap.size w w4) := bel_then B3.out hb4
  clear hb4 c0 c1 c2 c3 c4 c5 c6 c7 c8 c9
  go_wp2
  go_ret
  exact ⟨rfl, B4.out⟩

set_option maxRecDepth 100000 in
set_option maxHeartbeats 1000000 in
theorem iTestOk_2l (no : Bool) (l r : Cel) (wide : Int) (w : World) (p : Addr) (hs : Sent w p) (hl : l.okB wide = false) :
    Calls Tryd.prog 8 #[.agg #[.int .i64 2, .bool no, .int .i64 l.k, .int .i64 l.a, .int .i64 l.b, .int .i64 l.n, .int .i64 r.k, .int .i64 r.a, .int .i64 r.b, .int .i64 r.n], .int .i64 wide] w fun e w' => e = .returned (.bool false) ∧ Below w.heap.size w w' := by
  go_enter Tryd.func8, Tryd.ntmps8
  go_wp2_with fail
  refine (rel_same _).mono ?_
  rintro e w1 ⟨rfl, hb1⟩
  have B1 : Hid (Below w.heap.size w w1) := bel_then (bel_alloc _) hb1
  have X1 := (Box10.start w ⟨2, no, l, r⟩ _).below hb1
  obtain ⟨_, c0, c1, ⟨c2, c3, c4, c5⟩, c6, c7, c8, c9⟩ := id X1
  have HX1 : Hid (Box10 w1 w.heap.size ⟨2, no, l, r⟩) := X1
  simp only at c0 c1 c2 c3 c4 c5 c6 c7 c8 c9
  have hg := (hs.below B1.out).2
  clear hb1 X1
  go_wp2_with fail
  refine (is_nil p _).mono ?_
  rintro e w2 ⟨rfl, rfl⟩
  go_wp2_with fail
  refine (implCellOk_any l _ _ p (hs.below B1.out)).mono ?_
  rintro e w3 ⟨rfl, hb3⟩
  rw [hl]
  have B3 : Hid (Below w.heap.size w w3) := bel_then B1.out hb3
  clear hb3 c0 c1 c2 c3 c4 c5 c6 c7 c8 c9 hg
  go_wp2
  go_ret
  exact ⟨rfl, B3.out⟩

set_option maxRecDepth 100000 in
set_option maxHeartbeats 1000000 in
theorem iTestOk_2r (no : Bool) (l r : Cel) (wide : Int) (w : World) (p : Addr) (hs : Sent w p) (hl : l.okB wide = true) (hr : r.okB wide = false) :
    Calls Tryd.prog 8 #[.agg #[.int .i64 2, .bool no, .int .i64 l.k, .int .i64 l.a, .int .i64 l.b, .int .i64 l.n, .int .i64 r.k, .int .i64 r.a, .int .i64 r.b, .int .i64 r.n], .int .i64 wide] w fun e w' => e = .returned (.bool false) ∧ Below w.heap.size w w' := by
  go_enter Tryd.func8, Tryd.ntmps8
  go_wp2_with fail
  refine (rel_same _).mono ?_
  rintro e w1 ⟨rfl, hb1⟩
  have B1 : Hid (Below w.heap.size w w1) := bel_then (bel_alloc _) hb1
  have X1 := (Box10.start w ⟨2, no, l, r⟩ _).below hb1
  obtain ⟨_, c0, c1, ⟨c2, c3, c4, c5⟩, c6, c7, c8, c9⟩ := id X1
  have HX1 : Hid (Box10 w1 w.heap.size ⟨2, no, l, r⟩) := X1
  simp only at c0 c1 c2 c3 c4 c5 c6 c7 c8 c9
  have hg := (hs.below B1.out).2
  clear hb1 X1
  go_wp2_with fail
  refine (is_nil p _).mono ?_
  rintro e w2 ⟨rfl, rfl⟩
  go_wp2_with fail
  refine (implCellOk_any l _ _ p (hs.below B1.out)).mono ?_
  rintro e w3 ⟨rfl, hb3⟩
  rw [hl]
  have B3 : Hid (Below w.heap.size w w3) := bel_then B1.out hb3
  have X3 := HX1.out.below hb3
  clear c0 c1 c2 c3 c4 c5 c6 c7 c8 c9 hg
  obtain ⟨_, c0, c1, ⟨c2, c3, c4, c5⟩, c6, c7, c8, c9⟩ := id X3
  simp only at c0 c1 c2 c3 c4 c5 c6 c7 c8 c9
  clear hb3 X3
  go_wp2_with fail
  refine (implCellOk_any r _ _ p (hs.below B3.out)).mono ?_
  rintro e w4 ⟨rfl, hb4⟩
  rw [hr]
  have B4 : Hid (Below w.heap.size w w4) := bel_then B3.out hb4
  clear hb4 c0 c1 c2 c3 c4 c5 c6 c7 c8 c9
  go_wp2
  go_ret
  exact ⟨rfl, B4.out⟩

set_option maxRecDepth 100000 in
set_option maxHeartbeats 1000000 in
theorem iTestOk_2y (no : Bool) (l r : Cel) (wide : Int) (w : World) (p : Addr) (hs : Sent w p) (hl : l.okB wide = true) (hr : r.okB wide = true) :
    Calls Tryd.prog 8 #[.agg #[.int .i64 2, .bool no, .int .i64 l.k, .int .i64 l.a, .int .i64 l.b, .int .i64 l.n, .int .i64 r.k, .int .i64 r.a, .int .i64 r.b, .int .i64 r.n], .int .i64 wide] w fun e w' => e = .returned (.bool true) ∧ Below w.heap.size w w' := by
  go_enter Tryd.func8, Tryd.ntmps8
  go_wp2_with fail
  refine (rel_same _).mono ?_
  rintro e w1 ⟨rfl, hb1⟩
  have B1 : Hid (Below w.heap.size w w1) := bel_then (bel_alloc _) hb1
  have X1 := (Box10.start w ⟨2, no, l, r⟩ _).below hb1
  obtain ⟨_, c0, c1, ⟨c2, c3, c4, c5⟩, c6, c7, c8, c9⟩ := id X1
  have HX1 : Hid (Box10 w1 w.heap.size ⟨2, no, l, r⟩) := X1
  simp only at c0 c1 c2 c3 c4 c5 c6 c7 c8 c9
  have hg := (hs.below B1.out).2
  clear hb1 X1
  go_wp2_with fail
  refine (is_nil p _).mono ?_
  rintro e w2 ⟨rfl, rfl⟩
  go_wp2_with fail
  refine (implCellOk_any l _ _ p (hs.below B1.out)).mono ?_
  rintro e w3 ⟨rfl, hb3⟩
  rw [hl]
  have B3 : Hid (Below w.heap.size w w3) := bel_then B1.out hb3
  have X3 := HX1.out.below hb3
  clear c0 c1 c2 c3 c4 c5 c6 c7 c8 c9 hg
  obtain ⟨_, c0, c1, ⟨c2, c3, c4, c5⟩, c6, c7, c8, c9⟩ := id X3
  simp only at c0 c1 c2 c3 c4 c5 c6 c7 c8 c9
  clear hb3 X3
  go_wp2_with fail
  refine (implCellOk_any r _ _ p (hs.below B3.out)).mono ?_
  rintro e w4 ⟨rfl, hb4⟩
  rw [hr]
  have B4 : Hid (Below w.heap.size w w4) := bel_then B3.out hb4
  clear hb4 c0 c1 c2 c3 c4 c5 c6 c7 c8 c9
  go_wp2
  go_ret
  exact ⟨rfl, B4.out⟩

theorem implTestOk_any (t : Tst) (wide : Int) (w : World) (p : Addr) (hs : Sent w p) :
    Calls Tryd.prog 8 #[.agg #[.int .i64 t.k, .bool t.no, .int .i64 t.l.k, .int .i64 t.l.a, .int .i64 t.l.b, .int .i64 t.l.n, .int .i64 t.r.k, .int .i64 t.r.a, .int .i64 t.r.b, .int .i64 t.r.n], .int .i64 wide] w fun e w' => e = .returned (.bool (t.okB wide)) ∧ Below w.heap.size w w' := by
  obtain ⟨k, no, l, r⟩ := t
  simp only [Tst.okB]
  by_cases h1 : k = 1
  · subst h1
    cases hl : l.okB wide
    · simpa using iTestOk_1l no l r wide w p hs hl
    · cases hr : r.okB wide
      · simpa using iTestOk_1r no l r wide w p hs hl hr
      · simpa using iTestOk_1y no l r wide w p hs hl hr
  · by_cases h2 : k = 2
    · subst h2
      cases hl : l.okB wide
      · simpa using iTestOk_2l no l r wide w p hs hl
      · cases hr : r.okB wide
        · simpa using iTestOk_2r no l r wide w p hs hl hr
        · simpa using iTestOk_2y no l r wide w p hs hl hr
    · have hk : decide (k = 1 ∨ k = 2) = false := by simp [h1, h2]
      rw [hk]
      simpa using iTestOk_none k no l r wide w p hs (by simpa using h1) (by simpa using h2)

end Go.Proofs.YtkgopbffgahhcaaDoor
