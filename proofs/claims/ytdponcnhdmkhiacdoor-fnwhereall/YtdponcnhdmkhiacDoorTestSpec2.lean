/-
  The contract of the document's own TestOf: it answers Tst.valB and Tst.toldB.
-/
import Derived.Test.YtdponcnhdmkhiacDoorTestSpec
namespace Go.Proofs.YtdponcnhdmkhiacDoor
open Go.RowKit
set_option linter.unusedVariables false

set_option maxRecDepth 100000 in
set_option maxHeartbeats 1000000 in
theorem sTestOf_row (k : Int) (no : Bool) (l r : Cel) (v : Value) (xs : List Int) (w : World) (hx : IntsAt w v xs) (ho : rowOkB xs = false) :
    Calls Tryd.prog 20 #[.agg #[.int .i64 k, .bool no, .int .i64 l.k, .int .i64 l.a, .int .i64 l.b, .int .i64 l.n, .int .i64 r.k, .int .i64 r.a, .int .i64 r.b, .int .i64 r.n], v] w fun e w' => e = .returned (.tuple #[.bool false, .bool false]) ∧ Below w.heap.size w w' := by
  obtain ⟨s0, len, cap, rfl, hlen⟩ : ∃ s0 len cap, v = .slice s0 len cap ∧ len = xs.length := by
    obtain ⟨_, s0, cap, hv, _⟩ := hx
    exact ⟨s0, _, cap, hv, rfl⟩
  have HL : Hid (len = xs.length) := hlen
  try rw [← hlen] at hk
  clear hlen
  go_enter Tryd.func20, Tryd.ntmps20
  go_wp2_with fail
  refine (specRowOk_any _ xs _ (hx.below (bel_alloc _))).mono ?_
  rintro e w1 ⟨rfl, rfl⟩
  rw [ho]
  go_wp2
  go_ret2
  exact ⟨rfl, bel_alloc _⟩

set_option maxRecDepth 100000 in
set_option maxHeartbeats 1000000 in
theorem sTestOf_ok (k : Int) (no : Bool) (l r : Cel) (v : Value) (xs : List Int) (w : World) (hx : IntsAt w v xs) (ho : rowOkB xs = true) (hk : Tst.okB ⟨k, no, l, r⟩ xs.length = false) :
    Calls Tryd.prog 20 #[.agg #[.int .i64 k, .bool no, .int .i64 l.k, .int .i64 l.a, .int .i64 l.b, .int .i64 l.n, .int .i64 r.k, .int .i64 r.a, .int .i64 r.b, .int .i64 r.n], v] w fun e w' => e = .returned (.tuple #[.bool false, .bool false]) ∧ Below w.heap.size w w' := by
  obtain ⟨s0, len, cap, rfl, hlen⟩ : ∃ s0 len cap, v = .slice s0 len cap ∧ len = xs.length := by
    obtain ⟨_, s0, cap, hv, _⟩ := hx
    exact ⟨s0, _, cap, hv, rfl⟩
  have HL : Hid (len = xs.length) := hlen
  try rw [← hlen] at hk
  clear hlen
  go_enter Tryd.func20, Tryd.ntmps20
  go_wp2_with fail
  refine (specRowOk_any _ xs _ (hx.below (bel_alloc _))).mono ?_
  rintro e w1 ⟨rfl, rfl⟩
  rw [ho]
  go_wp2_with fail
  refine (specTestOk_any ⟨k, no, l, r⟩ _ _).mono ?_
  rintro e w2 ⟨rfl, hb2⟩
  rw [hk]
  have B2 : Hid (Below w.heap.size w w2) := bel_then (bel_alloc _) hb2
  have X2 := (Box10.start w ⟨k, no, l, r⟩ _).below hb2
  obtain ⟨_, c0, c1, ⟨c2, c3, c4, c5⟩, c6, c7, c8, c9⟩ := id X2
  have HX2 : Hid (Box10 w2 w.heap.size ⟨k, no, l, r⟩) := X2
  simp only at c0 c1 c2 c3 c4 c5 c6 c7 c8 c9
  clear hb2 X2
  go_wp2
  go_ret2
  exact ⟨rfl, B2.out⟩

set_option maxRecDepth 100000 in
set_option maxHeartbeats 1000000 in
theorem sTestOf_1lt (no : Bool) (l r : Cel) (v : Value) (xs : List Int) (w : World) (hx : IntsAt w v xs) (ho : rowOkB xs = true) (hk : Tst.okB ⟨1, no, l, r⟩ xs.length = true) (hl : l.toldB xs = false) (hr : r.toldB xs = true) :
    Calls Tryd.prog 20 #[.agg #[.int .i64 1, .bool no, .int .i64 l.k, .int .i64 l.a, .int .i64 l.b, .int .i64 l.n, .int .i64 r.k, .int .i64 r.a, .int .i64 r.b, .int .i64 r.n], v] w fun e w' => e = .returned (.tuple #[.bool false, .bool false]) ∧ Below w.heap.size w w' := by
  obtain ⟨s0, len, cap, rfl, hlen⟩ : ∃ s0 len cap, v = .slice s0 len cap ∧ len = xs.length := by
    obtain ⟨_, s0, cap, hv, _⟩ := hx
    exact ⟨s0, _, cap, hv, rfl⟩
  have HL : Hid (len = xs.length) := hlen
  try rw [← hlen] at hk
  clear hlen
  go_enter Tryd.func20, Tryd.ntmps20
  go_wp2_with fail
  refine (specRowOk_any _ xs _ (hx.below (bel_alloc _))).mono ?_
  rintro e w1 ⟨rfl, rfl⟩
  rw [ho]
  go_wp2_with fail
  refine (specTestOk_any ⟨1, no, l, r⟩ _ _).mono ?_
  rintro e w2 ⟨rfl, hb2⟩
  rw [hk]
  have B2 : Hid (Below w.heap.size w w2) := bel_then (bel_alloc _) hb2
  have X2 := (Box10.start w ⟨1, no, l, r⟩ _).below hb2
  obtain ⟨_, c0, c1, ⟨c2, c3, c4, c5⟩, c6, c7, c8, c9⟩ := id X2
  have HX2 : Hid (Box10 w2 w.heap.size ⟨1, no, l, r⟩) := X2
  simp only at c0 c1 c2 c3 c4 c5 c6 c7 c8 c9
  clear hb2 X2
  go_wp2_with fail
  refine (specCellOf_any l _ xs _ (hx.below B2.out)).mono ?_
  rintro e w3 ⟨rfl, hb3⟩
  rw [hl]
  have B3 : Hid (Below w.heap.size w w3) := bel_then B2.out hb3
  have X3 := HX2.out.below hb3
  clear c0 c1 c2 c3 c4 c5 c6 c7 c8 c9
  obtain ⟨_, c0, c1, ⟨c2, c3, c4, c5⟩, c6, c7, c8, c9⟩ := id X3
  have HX3 : Hid (Box10 w3 w.heap.size ⟨1, no, l, r⟩) := X3
  simp only at c0 c1 c2 c3 c4 c5 c6 c7 c8 c9
  clear hb3 X3
  go_wp2_with fail
  refine (specCellOf_any r _ xs _ (hx.below B3.out)).mono ?_
  rintro e w4 ⟨rfl, hb4⟩
  rw [hr]
  have B4 : Hid (Below w.heap.size w w4) := bel_then B3.out hb4
  have X4 := HX3.out.below hb4
  clear c0 c1 c2 c3 c4 c5 c6 c7 c8 c9
  obtain ⟨_, c0, c1, ⟨c2, c3, c4, c5⟩, c6, c7, c8, c9⟩ := id X4
  simp only at c0 c1 c2 c3 c4 c5 c6 c7 c8 c9
  clear hb4 X4
  obtain ⟨x, HXV⟩ : ∃ x, Hid (x = l.valI xs) := ⟨_, Eq.refl _⟩
  obtain ⟨y, HYV⟩ : ∃ y, Hid (y = r.valI xs) := ⟨_, Eq.refl _⟩
  rw [← HXV.out, ← HYV.out]
  go_wp2
  go_ret2
  exact ⟨rfl, B4.out⟩

set_option maxRecDepth 100000 in
set_option maxHeartbeats 1000000 in
theorem sTestOf_1lf (no : Bool) (l r : Cel) (v : Value) (xs : List Int) (w : World) (hx : IntsAt w v xs) (ho : rowOkB xs = true) (hk : Tst.okB ⟨1, no, l, r⟩ xs.length = true) (hl : l.toldB xs = false) (hr : r.toldB xs = false) :
    Calls Tryd.prog 20 #[.agg #[.int .i64 1, .bool no, .int .i64 l.k, .int .i64 l.a, .int .i64 l.b, .int .i64 l.n, .int .i64 r.k, .int .i64 r.a, .int .i64 r.b, .int .i64 r.n], v] w fun e w' => e = .returned (.tuple #[.bool false, .bool false]) ∧ Below w.heap.size w w' := by
  obtain ⟨s0, len, cap, rfl, hlen⟩ : ∃ s0 len cap, v = .slice s0 len cap ∧ len = xs.length := by
    obtain ⟨_, s0, cap, hv, _⟩ := hx
    exact ⟨s0, _, cap, hv, rfl⟩
  have HL : Hid (len = xs.length) := hlen
  try rw [← hlen] at hk
  clear hlen
  go_enter Tryd.func20, Tryd.ntmps20
  go_wp2_with fail
  refine (specRowOk_any _ xs _ (hx.below (bel_alloc _))).mono ?_
  rintro e w1 ⟨rfl, rfl⟩
  rw [ho]
  go_wp2_with fail
  refine (specTestOk_any ⟨1, no, l, r⟩ _ _).mono ?_
  rintro e w2 ⟨rfl, hb2⟩
  rw [hk]
  have B2 : Hid (Below w.heap.size w w2) := bel_then (bel_alloc _) hb2
  have X2 := (Box10.start w ⟨1, no, l, r⟩ _).below hb2
  obtain ⟨_, c0, c1, ⟨c2, c3, c4, c5⟩, c6, c7, c8, c9⟩ := id X2
  have HX2 : Hid (Box10 w2 w.heap.size ⟨1, no, l, r⟩) := X2
  simp only at c0 c1 c2 c3 c4 c5 c6 c7 c8 c9
  clear hb2 X2
  go_wp2_with fail
  refine (specCellOf_any l _ xs _ (hx.below B2.out)).mono ?_
  rintro e w3 ⟨rfl, hb3⟩
  rw [hl]
  have B3 : Hid (Below w.heap.size w w3) := bel_then B2.out hb3
  have X3 := HX2.out.below hb3
  clear c0 c1 c2 c3 c4 c5 c6 c7 c8 c9
  obtain ⟨_, c0, c1, ⟨c2, c3, c4, c5⟩, c6, c7, c8, c9⟩ := id X3
  have HX3 : Hid (Box10 w3 w.heap.size ⟨1, no, l, r⟩) := X3
  simp only at c0 c1 c2 c3 c4 c5 c6 c7 c8 c9
  clear hb3 X3
  go_wp2_with fail
  refine (specCellOf_any r _ xs _ (hx.below B3.out)).mono ?_
  rintro e w4 ⟨rfl, hb4⟩
  rw [hr]
  have B4 : Hid (Below w.heap.size w w4) := bel_then B3.out hb4
  have X4 := HX3.out.below hb4
  clear c0 c1 c2 c3 c4 c5 c6 c7 c8 c9
  obtain ⟨_, c0, c1, ⟨c2, c3, c4, c5⟩, c6, c7, c8, c9⟩ := id X4
  simp only at c0 c1 c2 c3 c4 c5 c6 c7 c8 c9
  clear hb4 X4
  obtain ⟨x, HXV⟩ : ∃ x, Hid (x = l.valI xs) := ⟨_, Eq.refl _⟩
  obtain ⟨y, HYV⟩ : ∃ y, Hid (y = r.valI xs) := ⟨_, Eq.refl _⟩
  rw [← HXV.out, ← HYV.out]
  go_wp2
  go_ret2
  exact ⟨rfl, B4.out⟩

set_option maxRecDepth 100000 in
set_option maxHeartbeats 1000000 in
theorem sTestOf_1r (no : Bool) (l r : Cel) (v : Value) (xs : List Int) (w : World) (hx : IntsAt w v xs) (ho : rowOkB xs = true) (hk : Tst.okB ⟨1, no, l, r⟩ xs.length = true) (hl : l.toldB xs = true) (hr : r.toldB xs = false) :
    Calls Tryd.prog 20 #[.agg #[.int .i64 1, .bool no, .int .i64 l.k, .int .i64 l.a, .int .i64 l.b, .int .i64 l.n, .int .i64 r.k, .int .i64 r.a, .int .i64 r.b, .int .i64 r.n], v] w fun e w' => e = .returned (.tuple #[.bool false, .bool false]) ∧ Below w.heap.size w w' := by
  obtain ⟨s0, len, cap, rfl, hlen⟩ : ∃ s0 len cap, v = .slice s0 len cap ∧ len = xs.length := by
    obtain ⟨_, s0, cap, hv, _⟩ := hx
    exact ⟨s0, _, cap, hv, rfl⟩
  have HL : Hid (len = xs.length) := hlen
  try rw [← hlen] at hk
  clear hlen
  go_enter Tryd.func20, Tryd.ntmps20
  go_wp2_with fail
  refine (specRowOk_any _ xs _ (hx.below (bel_alloc _))).mono ?_
  rintro e w1 ⟨rfl, rfl⟩
  rw [ho]
  go_wp2_with fail
  refine (specTestOk_any ⟨1, no, l, r⟩ _ _).mono ?_
  rintro e w2 ⟨rfl, hb2⟩
  rw [hk]
  have B2 : Hid (Below w.heap.size w w2) := bel_then (bel_alloc _) hb2
  have X2 := (Box10.start w ⟨1, no, l, r⟩ _).below hb2
  obtain ⟨_, c0, c1, ⟨c2, c3, c4, c5⟩, c6, c7, c8, c9⟩ := id X2
  have HX2 : Hid (Box10 w2 w.heap.size ⟨1, no, l, r⟩) := X2
  simp only at c0 c1 c2 c3 c4 c5 c6 c7 c8 c9
  clear hb2 X2
  go_wp2_with fail
  refine (specCellOf_any l _ xs _ (hx.below B2.out)).mono ?_
  rintro e w3 ⟨rfl, hb3⟩
  rw [hl]
  have B3 : Hid (Below w.heap.size w w3) := bel_then B2.out hb3
  have X3 := HX2.out.below hb3
  clear c0 c1 c2 c3 c4 c5 c6 c7 c8 c9
  obtain ⟨_, c0, c1, ⟨c2, c3, c4, c5⟩, c6, c7, c8, c9⟩ := id X3
  have HX3 : Hid (Box10 w3 w.heap.size ⟨1, no, l, r⟩) := X3
  simp only at c0 c1 c2 c3 c4 c5 c6 c7 c8 c9
  clear hb3 X3
  go_wp2_with fail
  refine (specCellOf_any r _ xs _ (hx.below B3.out)).mono ?_
  rintro e w4 ⟨rfl, hb4⟩
  rw [hr]
  have B4 : Hid (Below w.heap.size w w4) := bel_then B3.out hb4
  have X4 := HX3.out.below hb4
  clear c0 c1 c2 c3 c4 c5 c6 c7 c8 c9
  obtain ⟨_, c0, c1, ⟨c2, c3, c4, c5⟩, c6, c7, c8, c9⟩ := id X4
  simp only at c0 c1 c2 c3 c4 c5 c6 c7 c8 c9
  clear hb4 X4
  obtain ⟨x, HXV⟩ : ∃ x, Hid (x = l.valI xs) := ⟨_, Eq.refl _⟩
  obtain ⟨y, HYV⟩ : ∃ y, Hid (y = r.valI xs) := ⟨_, Eq.refl _⟩
  rw [← HXV.out, ← HYV.out]
  go_wp2
  go_ret2
  exact ⟨rfl, B4.out⟩

set_option maxRecDepth 100000 in
set_option maxHeartbeats 1000000 in
theorem sTestOf_1y (no : Bool) (l r : Cel) (v : Value) (xs : List Int) (w : World) (hx : IntsAt w v xs) (ho : rowOkB xs = true) (hk : Tst.okB ⟨1, no, l, r⟩ xs.length = true) (hl : l.toldB xs = true) (hr : r.toldB xs = true) :
    Calls Tryd.prog 20 #[.agg #[.int .i64 1, .bool no, .int .i64 l.k, .int .i64 l.a, .int .i64 l.b, .int .i64 l.n, .int .i64 r.k, .int .i64 r.a, .int .i64 r.b, .int .i64 r.n], v] w fun e w' => e = .returned (.tuple #[.bool (decide (l.valI xs < r.valI xs) != no), .bool true]) ∧ Below w.heap.size w w' := by
  obtain ⟨s0, len, cap, rfl, hlen⟩ : ∃ s0 len cap, v = .slice s0 len cap ∧ len = xs.length := by
    obtain ⟨_, s0, cap, hv, _⟩ := hx
    exact ⟨s0, _, cap, hv, rfl⟩
  have HL : Hid (len = xs.length) := hlen
  try rw [← hlen] at hk
  clear hlen
  go_enter Tryd.func20, Tryd.ntmps20
  go_wp2_with fail
  refine (specRowOk_any _ xs _ (hx.below (bel_alloc _))).mono ?_
  rintro e w1 ⟨rfl, rfl⟩
  rw [ho]
  go_wp2_with fail
  refine (specTestOk_any ⟨1, no, l, r⟩ _ _).mono ?_
  rintro e w2 ⟨rfl, hb2⟩
  rw [hk]
  have B2 : Hid (Below w.heap.size w w2) := bel_then (bel_alloc _) hb2
  have X2 := (Box10.start w ⟨1, no, l, r⟩ _).below hb2
  obtain ⟨_, c0, c1, ⟨c2, c3, c4, c5⟩, c6, c7, c8, c9⟩ := id X2
  have HX2 : Hid (Box10 w2 w.heap.size ⟨1, no, l, r⟩) := X2
  simp only at c0 c1 c2 c3 c4 c5 c6 c7 c8 c9
  clear hb2 X2
  go_wp2_with fail
  refine (specCellOf_any l _ xs _ (hx.below B2.out)).mono ?_
  rintro e w3 ⟨rfl, hb3⟩
  rw [hl]
  have B3 : Hid (Below w.heap.size w w3) := bel_then B2.out hb3
  have X3 := HX2.out.below hb3
  clear c0 c1 c2 c3 c4 c5 c6 c7 c8 c9
  obtain ⟨_, c0, c1, ⟨c2, c3, c4, c5⟩, c6, c7, c8, c9⟩ := id X3
  have HX3 : Hid (Box10 w3 w.heap.size ⟨1, no, l, r⟩) := X3
  simp only at c0 c1 c2 c3 c4 c5 c6 c7 c8 c9
  clear hb3 X3
  go_wp2_with fail
  refine (specCellOf_any r _ xs _ (hx.below B3.out)).mono ?_
  rintro e w4 ⟨rfl, hb4⟩
  rw [hr]
  have B4 : Hid (Below w.heap.size w w4) := bel_then B3.out hb4
  have X4 := HX3.out.below hb4
  clear c0 c1 c2 c3 c4 c5 c6 c7 c8 c9
  obtain ⟨_, c0, c1, ⟨c2, c3, c4, c5⟩, c6, c7, c8, c9⟩ := id X4
  simp only at c0 c1 c2 c3 c4 c5 c6 c7 c8 c9
  clear hb4 X4
  obtain ⟨x, HXV⟩ : ∃ x, Hid (x = l.valI xs) := ⟨_, Eq.refl _⟩
  obtain ⟨y, HYV⟩ : ∃ y, Hid (y = r.valI xs) := ⟨_, Eq.refl _⟩
  rw [← HXV.out, ← HYV.out]
  go_wp2
  go_ret2
  exact ⟨by rw [← HXV.out, ← HYV.out]; rfl, B4.out⟩

set_option maxRecDepth 100000 in
set_option maxHeartbeats 1000000 in
theorem sTestOf_2lt (no : Bool) (l r : Cel) (v : Value) (xs : List Int) (w : World) (hx : IntsAt w v xs) (ho : rowOkB xs = true) (hk : Tst.okB ⟨2, no, l, r⟩ xs.length = true) (hl : l.toldB xs = false) (hr : r.toldB xs = true) :
    Calls Tryd.prog 20 #[.agg #[.int .i64 2, .bool no, .int .i64 l.k, .int .i64 l.a, .int .i64 l.b, .int .i64 l.n, .int .i64 r.k, .int .i64 r.a, .int .i64 r.b, .int .i64 r.n], v] w fun e w' => e = .returned (.tuple #[.bool false, .bool false]) ∧ Below w.heap.size w w' := by
  obtain ⟨s0, len, cap, rfl, hlen⟩ : ∃ s0 len cap, v = .slice s0 len cap ∧ len = xs.length := by
    obtain ⟨_, s0, cap, hv, _⟩ := hx
    exact ⟨s0, _, cap, hv, rfl⟩
  have HL : Hid (len = xs.length) := hlen
  try rw [← hlen] at hk
  clear hlen
  go_enter Tryd.func20, Tryd.ntmps20
  go_wp2_with fail
  refine (specRowOk_any _ xs _ (hx.below (bel_alloc _))).mono ?_
  rintro e w1 ⟨rfl, rfl⟩
  rw [ho]
  go_wp2_with fail
  refine (specTestOk_any ⟨2, no, l, r⟩ _ _).mono ?_
  rintro e w2 ⟨rfl, hb2⟩
  rw [hk]
  have B2 : Hid (Below w.heap.size w w2) := bel_then (bel_alloc _) hb2
  have X2 := (Box10.start w ⟨2, no, l, r⟩ _).below hb2
  obtain ⟨_, c0, c1, ⟨c2, c3, c4, c5⟩, c6, c7, c8, c9⟩ := id X2
  have HX2 : Hid (Box10 w2 w.heap.size ⟨2, no, l, r⟩) := X2
  simp only at c0 c1 c2 c3 c4 c5 c6 c7 c8 c9
  clear hb2 X2
  go_wp2_with fail
  refine (specCellOf_any l _ xs _ (hx.below B2.out)).mono ?_
  rintro e w3 ⟨rfl, hb3⟩
  rw [hl]
  have B3 : Hid (Below w.heap.size w w3) := bel_then B2.out hb3
  have X3 := HX2.out.below hb3
  clear c0 c1 c2 c3 c4 c5 c6 c7 c8 c9
  obtain ⟨_, c0, c1, ⟨c2, c3, c4, c5⟩, c6, c7, c8, c9⟩ := id X3
  have HX3 : Hid (Box10 w3 w.heap.size ⟨2, no, l, r⟩) := X3
  simp only at c0 c1 c2 c3 c4 c5 c6 c7 c8 c9
  clear hb3 X3
  go_wp2_with fail
  refine (specCellOf_any r _ xs _ (hx.below B3.out)).mono ?_
  rintro e w4 ⟨rfl, hb4⟩
  rw [hr]
  have B4 : Hid (Below w.heap.size w w4) := bel_then B3.out hb4
  have X4 := HX3.out.below hb4
  clear c0 c1 c2 c3 c4 c5 c6 c7 c8 c9
  obtain ⟨_, c0, c1, ⟨c2, c3, c4, c5⟩, c6, c7, c8, c9⟩ := id X4
  simp only at c0 c1 c2 c3 c4 c5 c6 c7 c8 c9
  clear hb4 X4
  obtain ⟨x, HXV⟩ : ∃ x, Hid (x = l.valI xs) := ⟨_, Eq.refl _⟩
  obtain ⟨y, HYV⟩ : ∃ y, Hid (y = r.valI xs) := ⟨_, Eq.refl _⟩
  rw [← HXV.out, ← HYV.out]
  go_wp2
  go_ret2
  exact ⟨rfl, B4.out⟩

set_option maxRecDepth 100000 in
set_option maxHeartbeats 1000000 in
theorem sTestOf_2lf (no : Bool) (l r : Cel) (v : Value) (xs : List Int) (w : World) (hx : IntsAt w v xs) (ho : rowOkB xs = true) (hk : Tst.okB ⟨2, no, l, r⟩ xs.length = true) (hl : l.toldB xs = false) (hr : r.toldB xs = false) :
    Calls Tryd.prog 20 #[.agg #[.int .i64 2, .bool no, .int .i64 l.k, .int .i64 l.a, .int .i64 l.b, .int .i64 l.n, .int .i64 r.k, .int .i64 r.a, .int .i64 r.b, .int .i64 r.n], v] w fun e w' => e = .returned (.tuple #[.bool false, .bool false]) ∧ Below w.heap.size w w' := by
  obtain ⟨s0, len, cap, rfl, hlen⟩ : ∃ s0 len cap, v = .slice s0 len cap ∧ len = xs.length := by
    obtain ⟨_, s0, cap, hv, _⟩ := hx
    exact ⟨s0, _, cap, hv, rfl⟩
  have HL : Hid (len = xs.length) := hlen
  try rw [← hlen] at hk
  clear hlen
  go_enter Tryd.func20, Tryd.ntmps20
  go_wp2_with fail
  refine (specRowOk_any _ xs _ (hx.below (bel_alloc _))).mono ?_
  rintro e w1 ⟨rfl, rfl⟩
  rw [ho]
  go_wp2_with fail
  refine (specTestOk_any ⟨2, no, l, r⟩ _ _).mono ?_
  rintro e w2 ⟨rfl, hb2⟩
  rw [hk]
  have B2 : Hid (Below w.heap.size w w2) := bel_then (bel_alloc _) hb2
  have X2 := (Box10.start w ⟨2, no, l, r⟩ _).below hb2
  obtain ⟨_, c0, c1, ⟨c2, c3, c4, c5⟩, c6, c7, c8, c9⟩ := id X2
  have HX2 : Hid (Box10 w2 w.heap.size ⟨2, no, l, r⟩) := X2
  simp only at c0 c1 c2 c3 c4 c5 c6 c7 c8 c9
  clear hb2 X2
  go_wp2_with fail
  refine (specCellOf_any l _ xs _ (hx.below B2.out)).mono ?_
  rintro e w3 ⟨rfl, hb3⟩
  rw [hl]
  have B3 : Hid (Below w.heap.size w w3) := bel_then B2.out hb3
  have X3 := HX2.out.below hb3
  clear c0 c1 c2 c3 c4 c5 c6 c7 c8 c9
  obtain ⟨_, c0, c1, ⟨c2, c3, c4, c5⟩, c6, c7, c8, c9⟩ := id X3
  have HX3 : Hid (Box10 w3 w.heap.size ⟨2, no, l, r⟩) := X3
  simp only at c0 c1 c2 c3 c4 c5 c6 c7 c8 c9
  clear hb3 X3
  go_wp2_with fail
  refine (specCellOf_any r _ xs _ (hx.below B3.out)).mono ?_
  rintro e w4 ⟨rfl, hb4⟩
  rw [hr]
  have B4 : Hid (Below w.heap.size w w4) := bel_then B3.out hb4
  have X4 := HX3.out.below hb4
  clear c0 c1 c2 c3 c4 c5 c6 c7 c8 c9
  obtain ⟨_, c0, c1, ⟨c2, c3, c4, c5⟩, c6, c7, c8, c9⟩ := id X4
  simp only at c0 c1 c2 c3 c4 c5 c6 c7 c8 c9
  clear hb4 X4
  obtain ⟨x, HXV⟩ : ∃ x, Hid (x = l.valI xs) := ⟨_, Eq.refl _⟩
  obtain ⟨y, HYV⟩ : ∃ y, Hid (y = r.valI xs) := ⟨_, Eq.refl _⟩
  rw [← HXV.out, ← HYV.out]
  go_wp2
  go_ret2
  exact ⟨rfl, B4.out⟩

set_option maxRecDepth 100000 in
set_option maxHeartbeats 1000000 in
theorem sTestOf_2r (no : Bool) (l r : Cel) (v : Value) (xs : List Int) (w : World) (hx : IntsAt w v xs) (ho : rowOkB xs = true) (hk : Tst.okB ⟨2, no, l, r⟩ xs.length = true) (hl : l.toldB xs = true) (hr : r.toldB xs = false) :
    Calls Tryd.prog 20 #[.agg #[.int .i64 2, .bool no, .int .i64 l.k, .int .i64 l.a, .int .i64 l.b, .int .i64 l.n, .int .i64 r.k, .int .i64 r.a, .int .i64 r.b, .int .i64 r.n], v] w fun e w' => e = .returned (.tuple #[.bool false, .bool false]) ∧ Below w.heap.size w w' := by
  obtain ⟨s0, len, cap, rfl, hlen⟩ : ∃ s0 len cap, v = .slice s0 len cap ∧ len = xs.length := by
    obtain ⟨_, s0, cap, hv, _⟩ := hx
    exact ⟨s0, _, cap, hv, rfl⟩
  have HL : Hid (len = xs.length) := hlen
  try rw [← hlen] at hk
  clear hlen
  go_enter Tryd.func20, Tryd.ntmps20
  go_wp2_with fail
  refine (specRowOk_any _ xs _ (hx.below (bel_alloc _))).mono ?_
  rintro e w1 ⟨rfl, rfl⟩
  rw [ho]
  go_wp2_with fail
  refine (specTestOk_any ⟨2, no, l, r⟩ _ _).mono ?_
  rintro e w2 ⟨rfl, hb2⟩
  rw [hk]
  have B2 : Hid (Below w.heap.size w w2) := bel_then (bel_alloc _) hb2
  have X2 := (Box10.start w ⟨2, no, l, r⟩ _).below hb2
  obtain ⟨_, c0, c1, ⟨c2, c3, c4, c5⟩, c6, c7, c8, c9⟩ := id X2
  have HX2 : Hid (Box10 w2 w.heap.size ⟨2, no, l, r⟩) := X2
  simp only at c0 c1 c2 c3 c4 c5 c6 c7 c8 c9
  clear hb2 X2
  go_wp2_with fail
  refine (specCellOf_any l _ xs _ (hx.below B2.out)).mono ?_
  rintro e w3 ⟨rfl, hb3⟩
  rw [hl]
  have B3 : Hid (Below w.heap.size w w3) := bel_then B2.out hb3
  have X3 := HX2.out.below hb3
  clear c0 c1 c2 c3 c4 c5 c6 c7 c8 c9
  obtain ⟨_, c0, c1, ⟨c2, c3, c4, c5⟩, c6, c7, c8, c9⟩ := id X3
  have HX3 : Hid (Box10 w3 w.heap.size ⟨2, no, l, r⟩) := X3
  simp only at c0 c1 c2 c3 c4 c5 c6 c7 c8 c9
  clear hb3 X3
  go_wp2_with fail
  refine (specCellOf_any r _ xs _ (hx.below B3.out)).mono ?_
  rintro e w4 ⟨rfl, hb4⟩
  rw [hr]
  have B4 : Hid (Below w.heap.size w w4) := bel_then B3.out hb4
  have X4 := HX3.out.below hb4
  clear c0 c1 c2 c3 c4 c5 c6 c7 c8 c9
  obtain ⟨_, c0, c1, ⟨c2, c3, c4, c5⟩, c6, c7, c8, c9⟩ := id X4
  simp only at c0 c1 c2 c3 c4 c5 c6 c7 c8 c9
  clear hb4 X4
  obtain ⟨x, HXV⟩ : ∃ x, Hid (x = l.valI xs) := ⟨_, Eq.refl _⟩
  obtain ⟨y, HYV⟩ : ∃ y, Hid (y = r.valI xs) := ⟨_, Eq.refl _⟩
  rw [← HXV.out, ← HYV.out]
  go_wp2
  go_ret2
  exact ⟨rfl, B4.out⟩

set_option maxRecDepth 100000 in
set_option maxHeartbeats 1000000 in
theorem sTestOf_2y (no : Bool) (l r : Cel) (v : Value) (xs : List Int) (w : World) (hx : IntsAt w v xs) (ho : rowOkB xs = true) (hk : Tst.okB ⟨2, no, l, r⟩ xs.length = true) (hl : l.toldB xs = true) (hr : r.toldB xs = true) :
    Calls Tryd.prog 20 #[.agg #[.int .i64 2, .bool no, .int .i64 l.k, .int .i64 l.a, .int .i64 l.b, .int .i64 l.n, .int .i64 r.k, .int .i64 r.a, .int .i64 r.b, .int .i64 r.n], v] w fun e w' => e = .returned (.tuple #[.bool ((l.valI xs == r.valI xs) != no), .bool true]) ∧ Below w.heap.size w w' := by
  obtain ⟨s0, len, cap, rfl, hlen⟩ : ∃ s0 len cap, v = .slice s0 len cap ∧ len = xs.length := by
    obtain ⟨_, s0, cap, hv, _⟩ := hx
    exact ⟨s0, _, cap, hv, rfl⟩
  have HL : Hid (len = xs.length) := hlen
  try rw [← hlen] at hk
  clear hlen
  go_enter Tryd.func20, Tryd.ntmps20
  go_wp2_with fail
  refine (specRowOk_any _ xs _ (hx.below (bel_alloc _))).mono ?_
  rintro e w1 ⟨rfl, rfl⟩
  rw [ho]
  go_wp2_with fail
  refine (specTestOk_any ⟨2, no, l, r⟩ _ _).mono ?_
  rintro e w2 ⟨rfl, hb2⟩
  rw [hk]
  have B2 : Hid (Below w.heap.size w w2) := bel_then (bel_alloc _) hb2
  have X2 := (Box10.start w ⟨2, no, l, r⟩ _).below hb2
  obtain ⟨_, c0, c1, ⟨c2, c3, c4, c5⟩, c6, c7, c8, c9⟩ := id X2
  have HX2 : Hid (Box10 w2 w.heap.size ⟨2, no, l, r⟩) := X2
  simp only at c0 c1 c2 c3 c4 c5 c6 c7 c8 c9
  clear hb2 X2
  go_wp2_with fail
  refine (specCellOf_any l _ xs _ (hx.below B2.out)).mono ?_
  rintro e w3 ⟨rfl, hb3⟩
  rw [hl]
  have B3 : Hid (Below w.heap.size w w3) := bel_then B2.out hb3
  have X3 := HX2.out.below hb3
  clear c0 c1 c2 c3 c4 c5 c6 c7 c8 c9
  obtain ⟨_, c0, c1, ⟨c2, c3, c4, c5⟩, c6, c7, c8, c9⟩ := id X3
  have HX3 : Hid (Box10 w3 w.heap.size ⟨2, no, l, r⟩) := X3
  simp only at c0 c1 c2 c3 c4 c5 c6 c7 c8 c9
  clear hb3 X3
  go_wp2_with fail
  refine (specCellOf_any r _ xs _ (hx.below B3.out)).mono ?_
  rintro e w4 ⟨rfl, hb4⟩
  rw [hr]
  have B4 : Hid (Below w.heap.size w w4) := bel_then B3.out hb4
  have X4 := HX3.out.below hb4
  clear c0 c1 c2 c3 c4 c5 c6 c7 c8 c9
  obtain ⟨_, c0, c1, ⟨c2, c3, c4, c5⟩, c6, c7, c8, c9⟩ := id X4
  simp only at c0 c1 c2 c3 c4 c5 c6 c7 c8 c9
  clear hb4 X4
  obtain ⟨x, HXV⟩ : ∃ x, Hid (x = l.valI xs) := ⟨_, Eq.refl _⟩
  obtain ⟨y, HYV⟩ : ∃ y, Hid (y = r.valI xs) := ⟨_, Eq.refl _⟩
  rw [← HXV.out, ← HYV.out]
  go_wp2
  go_ret2
  exact ⟨by rw [← HXV.out, ← HYV.out]; rfl, B4.out⟩

theorem told_ok {c : Cel} {xs : List Int} (h : c.toldB xs = true) : rowOkB xs = true ∧ c.okB xs.length = true := by
  unfold Cel.toldB at h
  simp only [Bool.and_eq_true] at h
  exact h.1

theorem specTestOf_any (t : Tst) (v : Value) (xs : List Int) (w : World) (hx : IntsAt w v xs) :
    Calls Tryd.prog 20 #[.agg #[.int .i64 t.k, .bool t.no, .int .i64 t.l.k, .int .i64 t.l.a, .int .i64 t.l.b, .int .i64 t.l.n, .int .i64 t.r.k, .int .i64 t.r.a, .int .i64 t.r.b, .int .i64 t.r.n], v] w fun e w' => e = .returned (.tuple #[.bool (t.valB xs), .bool (t.toldB xs)]) ∧ Below w.heap.size w w' := by
  obtain ⟨k, no, l, r⟩ := t
  simp only
  by_cases ht : Tst.toldB ⟨k, no, l, r⟩ xs = true
  · have ht2 := ht
    simp only [Tst.toldB, Bool.and_eq_true, decide_eq_true_eq] at ht2
    obtain ⟨⟨hk, hl⟩, hr⟩ := ht2
    have ho := (told_ok hl).1
    have hok : Tst.okB ⟨k, no, l, r⟩ xs.length = true := by simp [Tst.okB, hk, (told_ok hl).2, (told_ok hr).2]
    have el : l.valI xs = l.num xs := by rw [Cel.valI, if_pos hl]
    have er : r.valI xs = r.num xs := by rw [Cel.valI, if_pos hr]
    have hv : Tst.valB ⟨k, no, l, r⟩ xs = Tst.holdsB ⟨k, no, l, r⟩ xs := by rw [Tst.valB, ht, Bool.true_and]
    rw [ht, hv]
    rcases hk with rfl | rfl
    · have := sTestOf_1y no l r v xs w hx ho hok hl hr
      rw [el, er] at this
      simpa [Tst.holdsB] using this
    · have := sTestOf_2y no l r v xs w hx ho hok hl hr
      rw [el, er] at this
      have hb : (l.num xs == r.num xs) = decide (l.num xs = r.num xs) := by by_cases h : l.num xs = r.num xs <;> simp [h]
      rw [hb] at this
      simpa [Tst.holdsB] using this
  · have hf : Tst.toldB ⟨k, no, l, r⟩ xs = false := by simpa using ht
    have hv : Tst.valB ⟨k, no, l, r⟩ xs = false := by rw [Tst.valB, hf, Bool.false_and]
    rw [hf, hv]
    cases ho : rowOkB xs
    · exact sTestOf_row k no l r v xs w hx ho
    · cases hok : Tst.okB ⟨k, no, l, r⟩ xs.length
      · exact sTestOf_ok k no l r v xs w hx ho hok
      · have hk : k = 1 ∨ k = 2 := by simp only [Tst.okB, Bool.and_eq_true, decide_eq_true_eq] at hok; exact hok.1.1
        have hlr : l.toldB xs = false ∨ (l.toldB xs = true ∧ r.toldB xs = false) := by
          cases hl : l.toldB xs
          · exact .inl rfl
          · cases hr : r.toldB xs
            · exact .inr ⟨rfl, rfl⟩
            · exact absurd (by simp [Tst.toldB, hk, hl, hr]) ht
        rcases hk with rfl | rfl
        · rcases hlr with hl | ⟨hl, hr⟩
          · cases hr : r.toldB xs
            · exact sTestOf_1lf no l r v xs w hx ho hok hl hr
            · exact sTestOf_1lt no l r v xs w hx ho hok hl hr
          · exact sTestOf_1r no l r v xs w hx ho hok hl hr
        · rcases hlr with hl | ⟨hl, hr⟩
          · cases hr : r.toldB xs
            · exact sTestOf_2lf no l r v xs w hx ho hok hl hr
            · exact sTestOf_2lt no l r v xs w hx ho hok hl hr
          · exact sTestOf_2r no l r v xs w hx ho hok hl hr

end Go.Proofs.YtdponcnhdmkhiacDoor
