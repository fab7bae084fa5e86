/-
  The contracts of the document's own TestOk and TestOf: they answer Tst.okB, Tst.valB and Tst.toldB.
-/
import Derived.Test.YtdponcnhdmkhiacDoorCellBox
namespace Go.Proofs.YtdponcnhdmkhiacDoor
open Go.RowKit
set_option linter.unusedVariables false

set_option maxRecDepth 100000 in
set_option maxHeartbeats 1000000 in
theorem sTestOk_1l (no : Bool) (l r : Cel) (wide : Int) (w : World) (hl : l.okB wide = false) :
    Calls Tryd.prog 54 #[.agg #[.int .i64 1, .bool no, .int .i64 l.k, .int .i64 l.a, .int .i64 l.b, .int .i64 l.n, .int .i64 r.k, .int .i64 r.a, .int .i64 r.b, .int .i64 r.n], .int .i64 wide] w fun e w' => e = .returned (.bool false) ∧ Below w.heap.size w w' := by
  go_enter Tryd.func54, Tryd.ntmps54
  go_wp2_with fail
  refine (specCellOk_any l _ _).mono ?_
  rintro e w1 ⟨rfl, hb1⟩
  rw [hl]
  have B1 : Hid (Below w.heap.size w w1) := bel_then (bel_alloc _) hb1
  clear hb1
  go_wp2
  go_ret
  exact ⟨rfl, B1.out⟩

set_option maxRecDepth 100000 in
set_option maxHeartbeats 1000000 in
theorem sTestOk_1r (no : Bool) (l r : Cel) (wide : Int) (w : World) (hl : l.okB wide = true) (hr : r.okB wide = false) :
    Calls Tryd.prog 54 #[.agg #[.int .i64 1, .bool no, .int .i64 l.k, .int .i64 l.a, .int .i64 l.b, .int .i64 l.n, .int .i64 r.k, .int .i64 r.a, .int .i64 r.b, .int .i64 r.n], .int .i64 wide] w fun e w' => e = .returned (.bool false) ∧ Below w.heap.size w w' := by
  go_enter Tryd.func54, Tryd.ntmps54
  go_wp2_with fail
  refine (specCellOk_any l _ _).mono ?_
  rintro e w1 ⟨rfl, hb1⟩
  rw [hl]
  have B1 : Hid (Below w.heap.size w w1) := bel_then (bel_alloc _) hb1
  obtain ⟨_, c0, c1, ⟨c2, c3, c4, c5⟩, c6, c7, c8, c9⟩ := (Box10.start w ⟨1, no, l, r⟩ _).below hb1
  simp only at c0 c1 c2 c3 c4 c5 c6 c7 c8 c9
  clear hb1
  go_wp2_with fail
  refine (specCellOk_any r _ _).mono ?_
  rintro e w2 ⟨rfl, hb2⟩
  rw [hr]
  have B2 : Hid (Below w.heap.size w w2) := bel_then B1.out hb2
  clear hb2 c0 c1 c2 c3 c4 c5 c6 c7 c8 c9
  go_wp2
  go_ret
  exact ⟨rfl, B2.out⟩

set_option maxRecDepth 100000 in
set_option maxHeartbeats 1000000 in
theorem sTestOk_1y (no : Bool) (l r : Cel) (wide : Int) (w : World) (hl : l.okB wide = true) (hr : r.okB wide = true) :
    Calls Tryd.prog 54 #[.agg #[.int .i64 1, .bool no, .int .i64 l.k, .int .i64 l.a, .int .i64 l.b, .int .i64 l.n, .int .i64 r.k, .int .i64 r.a, .int .i64 r.b, .int .i64 r.n], .int .i64 wide] w fun e w' => e = .returned (.bool true) ∧ Below w.heap.size w w' := by
  go_enter Tryd.func54, Tryd.ntmps54
  go_wp2_with fail
  refine (specCellOk_any l _ _).mono ?_
  rintro e w1 ⟨rfl, hb1⟩
  rw [hl]
  have B1 : Hid (Below w.heap.size w w1) := bel_then (bel_alloc _) hb1
  obtain ⟨_, c0, c1, ⟨c2, c3, c4, c5⟩, c6, c7, c8, c9⟩ := (Box10.start w ⟨1, no, l, r⟩ _).below hb1
  simp only at c0 c1 c2 c3 c4 c5 c6 c7 c8 c9
  clear hb1
  go_wp2_with fail
  refine (specCellOk_any r _ _).mono ?_
  rintro e w2 ⟨rfl, hb2⟩
  rw [hr]
  have B2 : Hid (Below w.heap.size w w2) := bel_then B1.out hb2
  clear hb2 c0 c1 c2 c3 c4 c5 c6 c7 c8 c9
  go_wp2
  go_ret
  exact ⟨rfl, B2.out⟩

set_option maxRecDepth 100000 in
set_option maxHeartbeats 1000000 in
theorem sTestOk_2l (no : Bool) (l r : Cel) (wide : Int) (w : World) (hl : l.okB wide = false) :
    Calls Tryd.prog 54 #[.agg #[.int .i64 2, .bool no, .int .i64 l.k, .int .i64 l.a, .int .i64 l.b, .int .i64 l.n, .int .i64 r.k, .int .i64 r.a, .int .i64 r.b, .int .i64 r.n], .int .i64 wide] w fun e w' => e = .returned (.bool false) ∧ Below w.heap.size w w' := by
  go_enter Tryd.func54, Tryd.ntmps54
  go_wp2_with fail
  refine (specCellOk_any l _ _).mono ?_
  rintro e w1 ⟨rfl, hb1⟩
  rw [hl]
  have B1 : Hid (Below w.heap.size w w1) := bel_then (bel_alloc _) hb1
  clear hb1
  go_wp2
  go_ret
  exact ⟨rfl, B1.out⟩

set_option maxRecDepth 100000 in
set_option maxHeartbeats 1000000 in
theorem sTestOk_2r (no : Bool) (l r : Cel) (wide : Int) (w : World) (hl : l.okB wide = true) (hr : r.okB wide = false) :
    Calls Tryd.prog 54 #[.agg #[.int .i64 2, .bool no, .int .i64 l.k, .int .i64 l.a, .int .i64 l.b, .int .i64 l.n, .int .i64 r.k, .int .i64 r.a, .int .i64 r.b, .int .i64 r.n], .int .i64 wide] w fun e w' => e = .returned (.bool false) ∧ Below w.heap.size w w' := by
  go_enter Tryd.func54, Tryd.ntmps54
  go_wp2_with fail
  refine (specCellOk_any l _ _).mono ?_
  rintro e w1 ⟨rfl, hb1⟩
  rw [hl]
  have B1 : Hid (Below w.heap.size w w1) := bel_then (bel_alloc _) hb1
  obtain ⟨_, c0, c1, ⟨c2, c3, c4, c5⟩, c6, c7, c8, c9⟩ := (Box10.start w ⟨2, no, l, r⟩ _).below hb1
  simp only at c0 c1 c2 c3 c4 c5 c6 c7 c8 c9
  clear hb1
  go_wp2_with fail
  refine (specCellOk_any r _ _).mono ?_
  rintro e w2 ⟨rfl, hb2⟩
  rw [hr]
  have B2 : Hid (Below w.heap.size w w2) := bel_then B1.out hb2
  clear hb2 c0 c1 c2 c3 c4 c5 c6 c7 c8 c9
  go_wp2
  go_ret
  exact ⟨rfl, B2.out⟩

set_option maxRecDepth 100000 in
set_option maxHeartbeats 1000000 in
theorem sTestOk_2y (no : Bool) (l r : Cel) (wide : Int) (w : World) (hl : l.okB wide = true) (hr : r.okB wide = true) :
    Calls Tryd.prog 54 #[.agg #[.int .i64 2, .bool no, .int .i64 l.k, .int .i64 l.a, .int .i64 l.b, .int .i64 l.n, .int .i64 r.k, .int .i64 r.a, .int .i64 r.b, .int .i64 r.n], .int .i64 wide] w fun e w' => e = .returned (.bool true) ∧ Below w.heap.size w w' := by
  go_enter Tryd.func54, Tryd.ntmps54
  go_wp2_with fail
  refine (specCellOk_any l _ _).mono ?_
  rintro e w1 ⟨rfl, hb1⟩
  rw [hl]
  have B1 : Hid (Below w.heap.size w w1) := bel_then (bel_alloc _) hb1
  obtain ⟨_, c0, c1, ⟨c2, c3, c4, c5⟩, c6, c7, c8, c9⟩ := (Box10.start w ⟨2, no, l, r⟩ _).below hb1
  simp only at c0 c1 c2 c3 c4 c5 c6 c7 c8 c9
  clear hb1
  go_wp2_with fail
  refine (specCellOk_any r _ _).mono ?_
  rintro e w2 ⟨rfl, hb2⟩
  rw [hr]
  have B2 : Hid (Below w.heap.size w w2) := bel_then B1.out hb2
  clear hb2 c0 c1 c2 c3 c4 c5 c6 c7 c8 c9
  go_wp2
  go_ret
  exact ⟨rfl, B2.out⟩

set_option maxRecDepth 100000 in
set_option maxHeartbeats 1000000 in
theorem sTestOk_none (k : Int) (no : Bool) (l r : Cel) (wide : Int) (w : World) (h1 : (k == 1) = false) (h2 : (k == 2) = false) :
    Calls Tryd.prog 54 #[.agg #[.int .i64 k, .bool no, .int .i64 l.k, .int .i64 l.a, .int .i64 l.b, .int .i64 l.n, .int .i64 r.k, .int .i64 r.a, .int .i64 r.b, .int .i64 r.n], .int .i64 wide] w fun e w' => e = .returned (.bool false) ∧ Below w.heap.size w w' := by
  go_enter Tryd.func54, Tryd.ntmps54
  go_wp2
  go_ret
  exact ⟨rfl, bel_alloc _⟩

theorem specTestOk_any (t : Tst) (wide : Int) (w : World) :
    Calls Tryd.prog 54 #[.agg #[.int .i64 t.k, .bool t.no, .int .i64 t.l.k, .int .i64 t.l.a, .int .i64 t.l.b, .int .i64 t.l.n, .int .i64 t.r.k, .int .i64 t.r.a, .int .i64 t.r.b, .int .i64 t.r.n], .int .i64 wide] w fun e w' => e = .returned (.bool (t.okB wide)) ∧ Below w.heap.size w w' := by
  obtain ⟨k, no, l, r⟩ := t
  simp only [Tst.okB]
  by_cases h1 : k = 1
  · subst h1
    cases hl : l.okB wide
    · simpa using sTestOk_1l no l r wide w hl
    · cases hr : r.okB wide
      · simpa using sTestOk_1r no l r wide w hl hr
      · simpa using sTestOk_1y no l r wide w hl hr
  · by_cases h2 : k = 2
    · subst h2
      cases hl : l.okB wide
      · simpa using sTestOk_2l no l r wide w hl
      · cases hr : r.okB wide
        · simpa using sTestOk_2r no l r wide w hl hr
        · simpa using sTestOk_2y no l r wide w hl hr
    · have hk : decide (k = 1 ∨ k = 2) = false := by simp [h1, h2]
      rw [hk]
      simpa using sTestOk_none k no l r wide w (by simpa using h1) (by simpa using h2)

end Go.Proofs.YtdponcnhdmkhiacDoor
