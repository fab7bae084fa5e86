/-
  The contracts of the program's own relationOf, TestOk, ask and TestOf.
-/
import Derived.Test.YtehfpceghdaajaaGreatDoorCellReck
import Derived.Test.YtehfpceghdaajaaGreatDoorCellBox
import Derived.Test.YtehfpceghdaajaaGreatDoorTestSpec
import Derived.Deep.RegionWith
namespace Go.Proofs.YtehfpceghdaajaaGreatDoor
open Go.RowKit
set_option linter.unusedVariables false

set_option maxRecDepth 100000 in
set_option maxHeartbeats 1000000 in
theorem rel_less (w : World) : Calls Tryz.prog 79 #[.int .i64 1] w fun e w' => e = .returned (.tuple #[.iface 131 (.agg #[]), .nilIface]) ∧ Below w.heap.size w w' := by
  go_enter Tryz.func79, Tryz.ntmps79
  go_wp2
  go_ret2
  exact ⟨rfl, Below.refl _ _⟩

set_option maxRecDepth 100000 in
set_option maxHeartbeats 1000000 in
theorem rel_same (w : World) : Calls Tryz.prog 79 #[.int .i64 2] w fun e w' => e = .returned (.tuple #[.iface 132 (.agg #[]), .nilIface]) ∧ Below w.heap.size w w' := by
  go_enter Tryz.func79, Tryz.ntmps79
  go_wp2
  go_ret2
  exact ⟨rfl, Below.refl _ _⟩

set_option maxRecDepth 100000 in
set_option maxHeartbeats 1000000 in
theorem rel_none (k : Int) (w : World) (p : Addr) (hs : Sent w p) (h1 : (k == 1) = false) (h2 : (k == 2) = false) : Calls Tryz.prog 79 #[.int .i64 k] w fun e w' => e = .returned (.tuple #[.nilIface, .iface 159 (.pointer (some p))]) ∧ Below w.heap.size w w' := by
  have hg := hs.2
  clear hs
  go_enter Tryz.func79, Tryz.ntmps79
  go_wp2
  go_quiet (fail)
  go_wp2
  go_ret2
  exact ⟨rfl, below_drewN (Below.refl _ _) _⟩
theorem RkEnd.yes {c : Cel} {xs : List Int} {p : Addr} {e : Ending} (h : RkEnd c xs p e) (ht : c.toldB xs = true) : e = .returned (.tuple #[.int .i64 (c.num xs), .nilIface]) := by
  rcases h with ⟨_, he⟩ | ⟨hf, _⟩
  · exact he
  · rw [hf] at ht; cases ht
theorem RkEnd.no {c : Cel} {xs : List Int} {p : Addr} {e : Ending} (h : RkEnd c xs p e) (ht : c.toldB xs = false) : e = .returned (.tuple #[.int .i64 0, .iface 159 (.pointer (some p))]) := by
  rcases h with ⟨hf, _⟩ | ⟨_, he⟩
  · rw [hf] at ht; cases ht
  · exact he

theorem lessHolds (a b : Int) (w : World) : Calls Tryz.prog 117 #[.agg #[], .int .i64 a, .int .i64 b] w fun e w' => e = .returned (.bool (decide (a < b))) ∧ Below w.heap.size w w' := by
  go_enter Tryz.func117, Tryz.ntmps117
  go_wp2
  go_ret
  exact ⟨rfl, bel_alloc _⟩
theorem sameHolds (a b : Int) (w : World) : Calls Tryz.prog 119 #[.agg #[], .int .i64 a, .int .i64 b] w fun e w' => e = .returned (.bool (a == b)) ∧ Below w.heap.size w w' := by
  go_enter Tryz.func119, Tryz.ntmps119
  go_wp2
  go_ret
  exact ⟨rfl, bel_alloc _⟩
theorem invLess (v : Value) (w : World) : (Go.method 296 131 v "loop.example/milldam/impl.holds").run Tryz.prog w = .ok (117, v) w := by kernel_rfl
theorem invSame (v : Value) (w : World) : (Go.method 296 132 v "loop.example/milldam/impl.holds").run Tryz.prog w = .ok (119, v) w := by kernel_rfl

set_option maxRecDepth 100000 in
set_option maxHeartbeats 1000000 in
theorem ask_none (k : Int) (no : Bool) (l r : Cel) (v : Value) (xs : List Int) (w : World) (p : Addr) (hs : Sent w p) (hx : IntsAt w v xs) (h1 : (k == 1) = false) (h2 : (k == 2) = false) :
    Calls Tryz.prog 61 #[.agg #[.int .i64 k, .bool no, .int .i64 l.k, .int .i64 l.a, .int .i64 l.b, .int .i64 l.n, .int .i64 r.k, .int .i64 r.a, .int .i64 r.b, .int .i64 r.n], v] w fun e w' => e = .returned (.tuple #[.bool false, .iface 159 (.pointer (some p))]) ∧ Below w.heap.size w w' := by
  go_enter Tryz.func61, Tryz.ntmps61
  go_wp2_with fail
  refine (rel_none k _ p (hs.below (bel_alloc _)) h1 h2).mono ?_
  rintro e w1 ⟨rfl, hb1⟩
  have B1 : Hid (Below w.heap.size w w1) := bel_then (bel_alloc _) hb1
  have X1 := (Box10.start w ⟨k, no, l, r⟩ _).below hb1
  obtain ⟨_, c0, c1, ⟨c2, c3, c4, c5⟩, c6, c7, c8, c9⟩ := id X1
  have HX1 : Hid (Box10 w1 w.heap.size ⟨k, no, l, r⟩) := X1
  simp only at c0 c1 c2 c3 c4 c5 c6 c7 c8 c9
  clear hb1 X1
  go_wp2
  go_ret2
  exact ⟨rfl, B1.out⟩

set_option maxRecDepth 100000 in
set_option maxHeartbeats 1000000 in
theorem ask_1l (no : Bool) (l r : Cel) (v : Value) (xs : List Int) (w : World) (p : Addr) (hs : Sent w p) (hx : IntsAt w v xs) (hl : l.toldB xs = false) :
    Calls Tryz.prog 61 #[.agg #[.int .i64 1, .bool no, .int .i64 l.k, .int .i64 l.a, .int .i64 l.b, .int .i64 l.n, .int .i64 r.k, .int .i64 r.a, .int .i64 r.b, .int .i64 r.n], v] w fun e w' => e = .returned (.tuple #[.bool false, .iface 159 (.pointer (some p))]) ∧ Below w.heap.size w w' := by
  go_enter Tryz.func61, Tryz.ntmps61
  go_wp2_with fail
  refine (rel_less _).mono ?_
  rintro e w1 ⟨rfl, hb1⟩
  have B1 : Hid (Below w.heap.size w w1) := bel_then (bel_alloc _) hb1
  have X1 := (Box10.start w ⟨1, no, l, r⟩ _).below hb1
  obtain ⟨_, c0, c1, ⟨c2, c3, c4, c5⟩, c6, c7, c8, c9⟩ := id X1
  have HX1 : Hid (Box10 w1 w.heap.size ⟨1, no, l, r⟩) := X1
  simp only at c0 c1 c2 c3 c4 c5 c6 c7 c8 c9
  clear hb1 X1
  go_wp2_with fail
  refine (reckon_any l _ xs _ p (hs.below B1.out) (hx.below B1.out)).mono ?_
  rintro e w3 ⟨he3, hb3⟩
  have B3 : Hid (Below w.heap.size w w3) := bel_then B1.out hb3
  have X3 := HX1.out.below hb3
  clear c0 c1 c2 c3 c4 c5 c6 c7 c8 c9
  obtain ⟨_, c0, c1, ⟨c2, c3, c4, c5⟩, c6, c7, c8, c9⟩ := id X3
  have HX3 : Hid (Box10 w3 w.heap.size ⟨1, no, l, r⟩) := X3
  simp only at c0 c1 c2 c3 c4 c5 c6 c7 c8 c9
  clear hb3 X3
  obtain rfl := he3.no hl
  clear he3
  go_wp2
  go_ret2
  exact ⟨rfl, B3.out⟩

set_option maxRecDepth 100000 in
set_option maxHeartbeats 1000000 in
theorem ask_1r (no : Bool) (l r : Cel) (v : Value) (xs : List Int) (w : World) (p : Addr) (hs : Sent w p) (hx : IntsAt w v xs) (hl : l.toldB xs = true) (hr : r.toldB xs = false) :
    Calls Tryz.prog 61 #[.agg #[.int .i64 1, .bool no, .int .i64 l.k, .int .i64 l.a, .int .i64 l.b, .int .i64 l.n, .int .i64 r.k, .int .i64 r.a, .int .i64 r.b, .int .i64 r.n], v] w fun e w' => e = .returned (.tuple #[.bool false, .iface 159 (.pointer (some p))]) ∧ Below w.heap.size w w' := by
  go_enter Tryz.func61, Tryz.ntmps61
  go_wp2_with fail
  refine (rel_less _).mono ?_
  rintro e w1 ⟨rfl, hb1⟩
  have B1 : Hid (Below w.heap.size w w1) := bel_then (bel_alloc _) hb1
  have X1 := (Box10.start w ⟨1, no, l, r⟩ _).below hb1
  obtain ⟨_, c0, c1, ⟨c2, c3, c4, c5⟩, c6, c7, c8, c9⟩ := id X1
  have HX1 : Hid (Box10 w1 w.heap.size ⟨1, no, l, r⟩) := X1
  simp only at c0 c1 c2 c3 c4 c5 c6 c7 c8 c9
  clear hb1 X1
  go_wp2_with fail
  refine (reckon_any l _ xs _ p (hs.below B1.out) (hx.below B1.out)).mono ?_
  rintro e w3 ⟨he3, hb3⟩
  have B3 : Hid (Below w.heap.size w w3) := bel_then B1.out hb3
  have X3 := HX1.out.below hb3
  clear c0 c1 c2 c3 c4 c5 c6 c7 c8 c9
  obtain ⟨_, c0, c1, ⟨c2, c3, c4, c5⟩, c6, c7, c8, c9⟩ := id X3
  have HX3 : Hid (Box10 w3 w.heap.size ⟨1, no, l, r⟩) := X3
  simp only at c0 c1 c2 c3 c4 c5 c6 c7 c8 c9
  clear hb3 X3
  obtain rfl := he3.yes hl
  clear he3
  obtain ⟨x, HXV⟩ : ∃ x, Hid (x = l.num xs) := ⟨_, Eq.refl _⟩
  rw [← HXV.out]
  go_wp2_with fail
  refine (reckon_any r _ xs _ p (hs.below B3.out) (hx.below B3.out)).mono ?_
  rintro e w4 ⟨he4, hb4⟩
  have B4 : Hid (Below w.heap.size w w4) := bel_then B3.out hb4
  have X4 := HX3.out.below hb4
  clear c0 c1 c2 c3 c4 c5 c6 c7 c8 c9
  obtain ⟨hlt4, c0, c1, ⟨c2, c3, c4, c5⟩, c6, c7, c8, c9⟩ := id X4
  have HX4 : Hid (Box10 w4 w.heap.size ⟨1, no, l, r⟩) := X4
  simp only at c0 c1 c2 c3 c4 c5 c6 c7 c8 c9
  clear hb4 X4
  obtain rfl := he4.no hr
  clear he4
  go_wp2
  go_ret2
  exact ⟨rfl, B4.out⟩

set_option maxRecDepth 100000 in
set_option maxHeartbeats 1000000 in
theorem ask_1y (no : Bool) (l r : Cel) (v : Value) (xs : List Int) (w : World) (p : Addr) (hs : Sent w p) (hx : IntsAt w v xs) (hl : l.toldB xs = true) (hr : r.toldB xs = true) :
    Calls Tryz.prog 61 #[.agg #[.int .i64 1, .bool no, .int .i64 l.k, .int .i64 l.a, .int .i64 l.b, .int .i64 l.n, .int .i64 r.k, .int .i64 r.a, .int .i64 r.b, .int .i64 r.n], v] w fun e w' => e = .returned (.tuple #[.bool (decide (l.num xs < r.num xs) != no), .nilIface]) ∧ Below w.heap.size w w' := by
  have hm := invLess
  go_enter Tryz.func61, Tryz.ntmps61
  go_wp2_with fail
  refine (rel_less _).mono ?_
  rintro e w1 ⟨rfl, hb1⟩
  have B1 : Hid (Below w.heap.size w w1) := bel_then (bel_alloc _) hb1
  have X1 := (Box10.start w ⟨1, no, l, r⟩ _).below hb1
  obtain ⟨_, c0, c1, ⟨c2, c3, c4, c5⟩, c6, c7, c8, c9⟩ := id X1
  have HX1 : Hid (Box10 w1 w.heap.size ⟨1, no, l, r⟩) := X1
  simp only at c0 c1 c2 c3 c4 c5 c6 c7 c8 c9
  clear hb1 X1
  go_wp2_with fail
  refine (reckon_any l _ xs _ p (hs.below B1.out) (hx.below B1.out)).mono ?_
  rintro e w3 ⟨he3, hb3⟩
  have B3 : Hid (Below w.heap.size w w3) := bel_then B1.out hb3
  have X3 := HX1.out.below hb3
  clear c0 c1 c2 c3 c4 c5 c6 c7 c8 c9
  obtain ⟨_, c0, c1, ⟨c2, c3, c4, c5⟩, c6, c7, c8, c9⟩ := id X3
  have HX3 : Hid (Box10 w3 w.heap.size ⟨1, no, l, r⟩) := X3
  simp only at c0 c1 c2 c3 c4 c5 c6 c7 c8 c9
  clear hb3 X3
  obtain rfl := he3.yes hl
  clear he3
  obtain ⟨x, HXV⟩ : ∃ x, Hid (x = l.num xs) := ⟨_, Eq.refl _⟩
  rw [← HXV.out]
  go_wp2_with fail
  refine (reckon_any r _ xs _ p (hs.below B3.out) (hx.below B3.out)).mono ?_
  rintro e w4 ⟨he4, hb4⟩
  have B4 : Hid (Below w.heap.size w w4) := bel_then B3.out hb4
  have X4 := HX3.out.below hb4
  clear c0 c1 c2 c3 c4 c5 c6 c7 c8 c9
  obtain ⟨hlt4, c0, c1, ⟨c2, c3, c4, c5⟩, c6, c7, c8, c9⟩ := id X4
  have HX4 : Hid (Box10 w4 w.heap.size ⟨1, no, l, r⟩) := X4
  simp only at c0 c1 c2 c3 c4 c5 c6 c7 c8 c9
  clear hb4 X4
  obtain rfl := he4.yes hr
  clear he4
  obtain ⟨y, HYV⟩ : ∃ y, Hid (y = r.num xs) := ⟨_, Eq.refl _⟩
  rw [← HYV.out]
  go_wp2_with fail
  go_region_with (go_at_call 117; refine (lessHolds _ _ _).mono ?_; rintro e w5 ⟨rfl, hb5⟩; have d1 : w5.cell? ⟨w.heap.size, 1, none⟩ = some (.bool no) := (hb5.cell (p := ⟨w.heap.size, 1, none⟩) hlt4).trans c1; have B5 : Hid (Below w.heap.size w w5) := bel_then (by first | exact B4.out | exact B4.out.drew | exact below_drewN B4.out _) hb5; clear hb5)
  all_goals (try go_wp2)
  all_goals (go_ret2; exact ⟨by rw [← HXV.out, ← HYV.out]; rfl, by first | exact B5.out | exact B5.out.drew | exact below_drewN B5.out _⟩)

set_option maxRecDepth 100000 in
set_option maxHeartbeats 1000000 in
theorem ask_2l (no : Bool) (l r : Cel) (v : Value) (xs : List Int) (w : World) (p : Addr) (hs : Sent w p) (hx : IntsAt w v xs) (hl : l.toldB xs = false) :
    Calls Tryz.prog 61 #[.agg #[.int .i64 2, .bool no, .int .i64 l.k, .int .i64 l.a, .int .i64 l.b, .int .i64 l.n, .int .i64 r.k, .int .i64 r.a, .int .i64 r.b, .int .i64 r.n], v] w fun e w' => e = .returned (.tuple #[.bool false, .iface 159 (.pointer (some p))]) ∧ Below w.heap.size w w' := by
  go_enter Tryz.func61, Tryz.ntmps61
  go_wp2_with fail
  refine (rel_same _).mono ?_
  rintro e w1 ⟨rfl, hb1⟩
  have B1 : Hid (Below w.heap.size w w1) := bel_then (bel_alloc _) hb1
  have X1 := (Box10.start w ⟨2, no, l, r⟩ _).below hb1
  obtain ⟨_, c0, c1, ⟨c2, c3, c4, c5⟩, c6, c7, c8, c9⟩ := id X1
  have HX1 : Hid (Box10 w1 w.heap.size ⟨2, no, l, r⟩) := X1
  simp only at c0 c1 c2 c3 c4 c5 c6 c7 c8 c9
  clear hb1 X1
  go_wp2_with fail
  refine (reckon_any l _ xs _ p (hs.below B1.out) (hx.below B1.out)).mono ?_
  rintro e w3 ⟨he3, hb3⟩
  have B3 : Hid (Below w.heap.size w w3) := bel_then B1.out hb3
  have X3 := HX1.out.below hb3
  clear c0 c1 c2 c3 c4 c5 c6 c7 c8 c9
  obtain ⟨_, c0, c1, ⟨c2, c3, c4, c5⟩, c6, c7, c8, c9⟩ := id X3
  have HX3 : Hid (Box10 w3 w.heap.size ⟨2, no, l, r⟩) := X3
  simp only at c0 c1 c2 c3 c4 c5 c6 c7 c8 c9
  clear hb3 X3
  obtain rfl := he3.no hl
  clear he3
  go_wp2
  go_ret2
  exact ⟨rfl, B3.out⟩

set_option maxRecDepth 100000 in
set_option maxHeartbeats 1000000 in
theorem ask_2r (no : Bool) (l r : Cel) (v : Value) (xs : List Int) (w : World) (p : Addr) (hs : Sent w p) (hx : IntsAt w v xs) (hl : l.toldB xs = true) (hr : r.toldB xs = false) :
    Calls Tryz.prog 61 #[.agg #[.int .i64 2, .bool no, .int .i64 l.k, .int .i64 l.a, .int .i64 l.b, .int .i64 l.n, .int .i64 r.k, .int .i64 r.a, .int .i64 r.b, .int .i64 r.n], v] w fun e w' => e = .returned (.tuple #[.bool false, .iface 159 (.pointer (some p))]) ∧ Below w.heap.size w w' := by
  go_enter Tryz.func61, Tryz.ntmps61
  go_wp2_with fail
  refine (rel_same _).mono ?_
  rintro e w1 ⟨rfl, hb1⟩
  have B1 : Hid (Below w.heap.size w w1) := bel_then (bel_alloc _) hb1
  have X1 := (Box10.start w ⟨2, no, l, r⟩ _).below hb1
  obtain ⟨_, c0, c1, ⟨c2, c3, c4, c5⟩, c6, c7, c8, c9⟩ := id X1
  have HX1 : Hid (Box10 w1 w.heap.size ⟨2, no, l, r⟩) := X1
  simp only at c0 c1 c2 c3 c4 c5 c6 c7 c8 c9
  clear hb1 X1
  go_wp2_with fail
  refine (reckon_any l _ xs _ p (hs.below B1.out) (hx.below B1.out)).mono ?_
  rintro e w3 ⟨he3, hb3⟩
  have B3 : Hid (Below w.heap.size w w3) := bel_then B1.out hb3
  have X3 := HX1.out.below hb3
  clear c0 c1 c2 c3 c4 c5 c6 c7 c8 c9
  obtain ⟨_, c0, c1, ⟨c2, c3, c4, c5⟩, c6, c7, c8, c9⟩ := id X3
  have HX3 : Hid (Box10 w3 w.heap.size ⟨2, no, l, r⟩) := X3
  simp only at c0 c1 c2 c3 c4 c5 c6 c7 c8 c9
  clear hb3 X3
  obtain rfl := he3.yes hl
  clear he3
  obtain ⟨x, HXV⟩ : ∃ x, Hid (x = l.num xs) := ⟨_, Eq.refl _⟩
  rw [← HXV.out]
  go_wp2_with fail
  refine (reckon_any r _ xs _ p (hs.below B3.out) (hx.below B3.out)).mono ?_
  rintro e w4 ⟨he4, hb4⟩
  have B4 : Hid (Below w.heap.size w w4) := bel_then B3.out hb4
  have X4 := HX3.out.below hb4
  clear c0 c1 c2 c3 c4 c5 c6 c7 c8 c9
  obtain ⟨hlt4, c0, c1, ⟨c2, c3, c4, c5⟩, c6, c7, c8, c9⟩ := id X4
  have HX4 : Hid (Box10 w4 w.heap.size ⟨2, no, l, r⟩) := X4
  simp only at c0 c1 c2 c3 c4 c5 c6 c7 c8 c9
  clear hb4 X4
  obtain rfl := he4.no hr
  clear he4
  go_wp2
  go_ret2
  exact ⟨rfl, B4.out⟩

set_option maxRecDepth 100000 in
set_option maxHeartbeats 1000000 in
theorem ask_2y (no : Bool) (l r : Cel) (v : Value) (xs : List Int) (w : World) (p : Addr) (hs : Sent w p) (hx : IntsAt w v xs) (hl : l.toldB xs = true) (hr : r.toldB xs = true) :
    Calls Tryz.prog 61 #[.agg #[.int .i64 2, .bool no, .int .i64 l.k, .int .i64 l.a, .int .i64 l.b, .int .i64 l.n, .int .i64 r.k, .int .i64 r.a, .int .i64 r.b, .int .i64 r.n], v] w fun e w' => e = .returned (.tuple #[.bool ((l.num xs == r.num xs) != no), .nilIface]) ∧ Below w.heap.size w w' := by
  have hm := invSame
  go_enter Tryz.func61, Tryz.ntmps61
  go_wp2_with fail
  refine (rel_same _).mono ?_
  rintro e w1 ⟨rfl, hb1⟩
  have B1 : Hid (Below w.heap.size w w1) := bel_then (bel_alloc _) hb1
  have X1 := (Box10.start w ⟨2, no, l, r⟩ _).below hb1
  obtain ⟨_, c0, c1, ⟨c2, c3, c4, c5⟩, c6, c7, c8, c9⟩ := id X1
  have HX1 : Hid (Box10 w1 w.heap.size ⟨2, no, l, r⟩) := X1
  simp only at c0 c1 c2 c3 c4 c5 c6 c7 c8 c9
  clear hb1 X1
  go_wp2_with fail
  refine (reckon_any l _ xs _ p (hs.below B1.out) (hx.below B1.out)).mono ?_
  rintro e w3 ⟨he3, hb3⟩
  have B3 : Hid (Below w.heap.size w w3) := bel_then B1.out hb3
  have X3 := HX1.out.below hb3
  clear c0 c1 c2 c3 c4 c5 c6 c7 c8 c9
  obtain ⟨_, c0, c1, ⟨c2, c3, c4, c5⟩, c6, c7, c8, c9⟩ := id X3
  have HX3 : Hid (Box10 w3 w.heap.size ⟨2, no, l, r⟩) := X3
  simp only at c0 c1 c2 c3 c4 c5 c6 c7 c8 c9
  clear hb3 X3
  obtain rfl := he3.yes hl
  clear he3
  obtain ⟨x, HXV⟩ : ∃ x, Hid (x = l.num xs) := ⟨_, Eq.refl _⟩
  rw [← HXV.out]
  go_wp2_with fail
  refine (reckon_any r _ xs _ p (hs.below B3.out) (hx.below B3.out)).mono ?_
  rintro e w4 ⟨he4, hb4⟩
  have B4 : Hid (Below w.heap.size w w4) := bel_then B3.out hb4
  have X4 := HX3.out.below hb4
  clear c0 c1 c2 c3 c4 c5 c6 c7 c8 c9
  obtain ⟨hlt4, c0, c1, ⟨c2, c3, c4, c5⟩, c6, c7, c8, c9⟩ := id X4
  have HX4 : Hid (Box10 w4 w.heap.size ⟨2, no, l, r⟩) := X4
  simp only at c0 c1 c2 c3 c4 c5 c6 c7 c8 c9
  clear hb4 X4
  obtain rfl := he4.yes hr
  clear he4
  obtain ⟨y, HYV⟩ : ∃ y, Hid (y = r.num xs) := ⟨_, Eq.refl _⟩
  rw [← HYV.out]
  go_wp2_with fail
  go_region_with (go_at_call 119; refine (sameHolds _ _ _).mono ?_; rintro e w5 ⟨rfl, hb5⟩; have d1 : w5.cell? ⟨w.heap.size, 1, none⟩ = some (.bool no) := (hb5.cell (p := ⟨w.heap.size, 1, none⟩) hlt4).trans c1; have B5 : Hid (Below w.heap.size w w5) := bel_then (by first | exact B4.out | exact B4.out.drew | exact below_drewN B4.out _) hb5; clear hb5)
  all_goals (try go_wp2)
  all_goals (go_ret2; exact ⟨by rw [← HXV.out, ← HYV.out]; rfl, by first | exact B5.out | exact B5.out.drew | exact below_drewN B5.out _⟩)

def AskEnd (t : Tst) (xs : List Int) (p : Addr) (e : Ending) : Prop :=
  (t.toldB xs = true ∧ e = .returned (.tuple #[.bool (t.holdsB xs), .nilIface])) ∨ (t.toldB xs = false ∧ e = .returned (.tuple #[.bool false, .iface 159 (.pointer (some p))]))

theorem ask_any (t : Tst) (v : Value) (xs : List Int) (w : World) (p : Addr) (hs : Sent w p) (hx : IntsAt w v xs) :
    Calls Tryz.prog 61 #[.agg #[.int .i64 t.k, .bool t.no, .int .i64 t.l.k, .int .i64 t.l.a, .int .i64 t.l.b, .int .i64 t.l.n, .int .i64 t.r.k, .int .i64 t.r.a, .int .i64 t.r.b, .int .i64 t.r.n], v] w fun e w' => AskEnd t xs p e ∧ Below w.heap.size w w' := by
  obtain ⟨k, no, l, r⟩ := t
  simp only
  by_cases hk : k = 1 ∨ k = 2
  · cases hl : l.toldB xs
    · have hf : Tst.toldB ⟨k, no, l, r⟩ xs = false := by simp [Tst.toldB, hl]
      rcases hk with rfl | rfl
      · exact (ask_1l no l r v xs w p hs hx hl).mono fun e w' h => ⟨.inr ⟨hf, h.1⟩, h.2⟩
      · exact (ask_2l no l r v xs w p hs hx hl).mono fun e w' h => ⟨.inr ⟨hf, h.1⟩, h.2⟩
    · cases hr : r.toldB xs
      · have hf : Tst.toldB ⟨k, no, l, r⟩ xs = false := by simp [Tst.toldB, hr]
        rcases hk with rfl | rfl
        · exact (ask_1r no l r v xs w p hs hx hl hr).mono fun e w' h => ⟨.inr ⟨hf, h.1⟩, h.2⟩
        · exact (ask_2r no l r v xs w p hs hx hl hr).mono fun e w' h => ⟨.inr ⟨hf, h.1⟩, h.2⟩
      · have ht : Tst.toldB ⟨k, no, l, r⟩ xs = true := by simp [Tst.toldB, hk, hl, hr]
        rcases hk with rfl | rfl
        · exact (ask_1y no l r v xs w p hs hx hl hr).mono fun e w' h => ⟨.inl ⟨ht, by simpa [Tst.holdsB] using h.1⟩, h.2⟩
        · have hb : (l.num xs == r.num xs) = decide (l.num xs = r.num xs) := by by_cases h : l.num xs = r.num xs <;> simp [h]
          exact (ask_2y no l r v xs w p hs hx hl hr).mono fun e w' h => ⟨.inl ⟨ht, by rw [hb] at h; simpa [Tst.holdsB] using h.1⟩, h.2⟩
  · have hf : Tst.toldB ⟨k, no, l, r⟩ xs = false := by simp only [Tst.toldB, decide_eq_false hk, Bool.false_and]
    refine (ask_none k no l r v xs w p hs hx ?_ ?_).mono fun e w' h => ⟨.inr ⟨hf, h.1⟩, h.2⟩
    · simpa using fun h => hk (.inl h)
    · simpa using fun h => hk (.inr h)

set_option maxRecDepth 100000 in
set_option maxHeartbeats 1000000 in
theorem implTestOf_any (t : Tst) (v : Value) (xs : List Int) (w : World) (p : Addr) (hs : Sent w p) (hx : IntsAt w v xs) :
    Calls Tryz.prog 32 #[.agg #[.int .i64 t.k, .bool t.no, .int .i64 t.l.k, .int .i64 t.l.a, .int .i64 t.l.b, .int .i64 t.l.n, .int .i64 t.r.k, .int .i64 t.r.a, .int .i64 t.r.b, .int .i64 t.r.n], v] w fun e w' => e = .returned (.tuple #[.bool (t.valB xs), .bool (t.toldB xs)]) ∧ Below w.heap.size w w' := by
  obtain ⟨b, HR⟩ : ∃ b, Hid (b = t.valB xs) := ⟨_, Eq.refl _⟩
  obtain ⟨d, HT⟩ : ∃ d, Hid (d = t.toldB xs) := ⟨_, Eq.refl _⟩
  rw [← HR.out, ← HT.out]
  go_enter Tryz.func32, Tryz.ntmps32
  go_wp2_with fail
  refine (ask_any t v xs _ p (hs.below (bel_alloc _)) (hx.below (bel_alloc _))).mono ?_
  rintro e w2 ⟨he, hb2⟩
  have HB : Hid (Below w.heap.size w w2) := bel_then (bel_alloc _) hb2
  have hg := (hs.below HB.out).2
  clear hb2 hs hx
  rcases he with ⟨h1, rfl⟩ | ⟨h1, rfl⟩
  · have h2 : t.valB xs = t.holdsB xs := by rw [Tst.valB, h1, Bool.true_and]
    rw [← HT.out] at h1
    rw [← HR.out] at h2
    rw [← h2]
    subst h1
    clear h2
    go_wp2_with fail
    refine (is_nil p _).mono ?_
    rintro e w3 ⟨rfl, rfl⟩
    go_wp2
    go_ret2
    exact ⟨rfl, HB.out⟩
  · have h2 : t.valB xs = false := by rw [Tst.valB, h1, Bool.false_and]
    rw [← HT.out] at h1
    rw [← HR.out] at h2
    subst h1 h2
    go_wp2_with fail
    refine (is_same p _).mono ?_
    rintro e w3 ⟨rfl, rfl⟩
    go_wp2
    go_ret2
    exact ⟨rfl, HB.out⟩

end Go.Proofs.YtehfpceghdaajaaGreatDoor
