/-
  The contracts of the program's own reckon and CellOf: they answer Cel.valI and Cel.toldB.
-/
import Derived.Test.YtehfpceghdaajaaGreatDoorCellImpl
import Derived.Test.YtehfpceghdaajaaGreatDoorCellBox
namespace Go.Proofs.YtehfpceghdaajaaGreatDoor
open Go.RowKit
set_option linter.unusedVariables false

set_option maxRecDepth 100000 in
set_option maxHeartbeats 1000000 in
theorem colOf_any (j : Nat) (g off len cap : Nat) (x : Int) (w : World) (hj : j < len) (hlim : len ≤ 140737488355328) (hg : g < w.heap.size) (hc : w.cell? ⟨g, off + j, none⟩ = some (.int .i64 x)) :
    Calls Tryz.prog 133 #[.agg #[.int .i64 (j : Int)], .slice (some ⟨g, off, none⟩) len cap] w fun e w' => e = .returned (.tuple #[.int .i64 x, .nilIface]) ∧ Below w.heap.size w w' := by
  have hc1 := ((bel_alloc (w := w) (.cells #[.int .i64 (j : Int)] 145)).cell (p := ⟨g, off + j, none⟩) hg).trans hc
  go_enter Tryz.func133, Tryz.ntmps133
  go_wp2
  go_ret2
  exact ⟨rfl, bel_alloc _⟩

set_option maxRecDepth 100000 in
set_option maxHeartbeats 1000000 in
theorem numOf_any (n : Int) (v : Value) (w : World) :
    Calls Tryz.prog 136 #[.agg #[.int .i64 n], v] w fun e w' => e = .returned (.tuple #[.int .i64 n, .nilIface]) ∧ Below w.heap.size w w' := by
  go_enter Tryz.func136, Tryz.ntmps136
  go_wp2
  go_ret2
  exact ⟨rfl, bel_alloc _⟩

set_option maxRecDepth 100000 in
set_option maxHeartbeats 1000000 in
theorem twoOf_yes (ja jb : Nat) (g off len cap : Nat) (x y : Int) (w : World) (p : Addr) (hs : Sent w p) (hja : ja < len) (hjb : jb < len) (hlim : len ≤ 140737488355328) (hg : g < w.heap.size) (hc : w.cell? ⟨g, off + ja, none⟩ = some (.int .i64 x)) (hd : w.cell? ⟨g, off + jb, none⟩ = some (.int .i64 y))
    (hwr : IntKind.i64.wrap (x + y) = x + y) (hf : cellB (x + y) = true) :
    Calls Tryz.prog 139 #[.agg #[.int .i64 (ja : Int), .int .i64 (jb : Int)], .slice (some ⟨g, off, none⟩) len cap] w fun e w' => e = .returned (.tuple #[.int .i64 (x + y), .nilIface]) ∧ Below w.heap.size w w' := by
  have hc1 := ((bel_alloc (w := w) (.cells #[.int .i64 (ja : Int), .int .i64 (jb : Int)] 149)).cell (p := ⟨g, off + ja, none⟩) hg).trans hc
  have hd1 := ((bel_alloc (w := w) (.cells #[.int .i64 (ja : Int), .int .i64 (jb : Int)] 149)).cell (p := ⟨g, off + jb, none⟩) hg).trans hd
  clear hc hd
  go_enter Tryz.func139, Tryz.ntmps139
  go_wp2_with fail
  go_quiet (fail)
  go_wp2_with fail
  refine (cellFits_any _ _).mono ?_
  rintro e w3 ⟨rfl, rfl⟩
  go_wp2
  go_ret2
  exact ⟨rfl, below_drewN (bel_alloc _) _⟩

set_option maxRecDepth 100000 in
set_option maxHeartbeats 1000000 in
theorem twoOf_no (ja jb : Nat) (g off len cap : Nat) (x y : Int) (w : World) (p : Addr) (hs : Sent w p) (hja : ja < len) (hjb : jb < len) (hlim : len ≤ 140737488355328) (hg : g < w.heap.size) (hc : w.cell? ⟨g, off + ja, none⟩ = some (.int .i64 x)) (hd : w.cell? ⟨g, off + jb, none⟩ = some (.int .i64 y))
    (hwr : IntKind.i64.wrap (x + y) = x + y) (hf : cellB (x + y) = false) :
    Calls Tryz.prog 139 #[.agg #[.int .i64 (ja : Int), .int .i64 (jb : Int)], .slice (some ⟨g, off, none⟩) len cap] w fun e w' => e = .returned (.tuple #[.int .i64 0, .iface 159 (.pointer (some p))]) ∧ Below w.heap.size w w' := by
  have hc1 := ((bel_alloc (w := w) (.cells #[.int .i64 (ja : Int), .int .i64 (jb : Int)] 149)).cell (p := ⟨g, off + ja, none⟩) hg).trans hc
  have hd1 := ((bel_alloc (w := w) (.cells #[.int .i64 (ja : Int), .int .i64 (jb : Int)] 149)).cell (p := ⟨g, off + jb, none⟩) hg).trans hd
  have hg2 := (hs.below (bel_alloc (w := w) (.cells #[.int .i64 (ja : Int), .int .i64 (jb : Int)] 149))).2
  clear hc hd
  go_enter Tryz.func139, Tryz.ntmps139
  go_wp2_with fail
  go_quiet (fail)
  go_wp2_with fail
  refine (cellFits_any _ _).mono ?_
  rintro e w3 ⟨rfl, rfl⟩
  go_wp2
  go_quiet (fail)
  go_wp2
  go_ret2
  exact ⟨rfl, below_drewN (below_drewN (bel_alloc _) _) _⟩
theorem invOf_column (v : Value) (w : World) : (Go.method 296 145 v "loop.example/milldam/impl.of").run Tryz.prog w = .ok (133, v) w := by kernel_rfl
theorem invOf_number (v : Value) (w : World) : (Go.method 296 147 v "loop.example/milldam/impl.of").run Tryz.prog w = .ok (136, v) w := by kernel_rfl
theorem invOf_twoColumns (v : Value) (w : World) : (Go.method 296 149 v "loop.example/milldam/impl.of").run Tryz.prog w = .ok (139, v) w := by kernel_rfl

set_option maxRecDepth 100000 in
set_option maxHeartbeats 1000000 in
theorem reckon_none (c : Cel) (s0 : Option Addr) (len cap : Nat) (xs : List Int) (w : World) (p : Addr) (hs : Sent w p) (hx : IntsAt w (.slice s0 len cap) xs) (hk : c.kindB = false) :
    Calls Tryz.prog 72 #[.agg #[.int .i64 c.k, .int .i64 c.a, .int .i64 c.b, .int .i64 c.n], .slice s0 len cap] w fun e w' => e = .returned (.tuple #[.int .i64 0, .iface 159 (.pointer (some p))]) ∧ Below w.heap.size w w' := by
  go_enter Tryz.func72, Tryz.ntmps72
  go_wp2_with fail
  refine (reck_none c _ p (hs.below (bel_alloc _)) hk).mono ?_
  rintro e w2 ⟨rfl, hb2⟩
  have HB : Hid (Below w.heap.size w w2) := bel_then (bel_alloc _) hb2
  have hg := (hs.below HB.out).2
  have HX : Hid (IntsAt w2 (.slice s0 len cap) xs) := hx.below HB.out
  have HS : Hid (Sent w2 p) := hs.below HB.out
  clear hb2 hs hx
  go_wp2
  go_ret2
  exact ⟨rfl, HB.out⟩

set_option maxRecDepth 100000 in
set_option maxHeartbeats 1000000 in
theorem reckon_col_row (a : Int) (s0 : Option Addr) (len cap : Nat) (xs : List Int) (w : World) (p : Addr) (hs : Sent w p) (hx : IntsAt w (.slice s0 len cap) xs) (hr : rowOkB xs = false) :
    Calls Tryz.prog 72 #[.agg #[.int .i64 1, .int .i64 a, .int .i64 0, .int .i64 0], .slice s0 len cap] w fun e w' => e = .returned (.tuple #[.int .i64 0, .iface 159 (.pointer (some p))]) ∧ Below w.heap.size w w' := by
  go_enter Tryz.func72, Tryz.ntmps72
  go_wp2_with fail
  refine (reck_col _ _).mono ?_
  rintro e w2 ⟨rfl, hb2⟩
  have HB : Hid (Below w.heap.size w w2) := bel_then (bel_alloc _) hb2
  have hg := (hs.below HB.out).2
  have HX : Hid (IntsAt w2 (.slice s0 len cap) xs) := hx.below HB.out
  have HS : Hid (Sent w2 p) := hs.below HB.out
  clear hb2 hs hx
  go_wp2_with fail
  refine (implRowOk_any _ xs _ HX.out).mono ?_
  rintro e w3 ⟨rfl, rfl⟩
  go_wp2
  go_quiet (fail)
  go_wp2
  go_ret2
  exact ⟨rfl, below_drewN HB.out _⟩

set_option maxRecDepth 100000 in
set_option maxHeartbeats 1000000 in
theorem reckon_col_for (a : Int) (s0 : Option Addr) (len cap : Nat) (xs : List Int) (w : World) (p : Addr) (hs : Sent w p) (hx : IntsAt w (.slice s0 len cap) xs) (hr : rowOkB xs = true) (hf : colB a len = false) :
    Calls Tryz.prog 72 #[.agg #[.int .i64 1, .int .i64 a, .int .i64 0, .int .i64 0], .slice s0 len cap] w fun e w' => e = .returned (.tuple #[.int .i64 0, .iface 159 (.pointer (some p))]) ∧ Below w.heap.size w w' := by
  have hm := invCol
  go_enter Tryz.func72, Tryz.ntmps72
  go_wp2_with fail
  refine (reck_col _ _).mono ?_
  rintro e w2 ⟨rfl, hb2⟩
  have HB : Hid (Below w.heap.size w w2) := bel_then (bel_alloc _) hb2
  have hg := (hs.below HB.out).2
  have HX : Hid (IntsAt w2 (.slice s0 len cap) xs) := hx.below HB.out
  have HS : Hid (Sent w2 p) := hs.below HB.out
  clear hb2 hs hx
  go_wp2_with fail
  refine (implRowOk_any _ xs _ HX.out).mono ?_
  rintro e w3 ⟨rfl, rfl⟩
  go_wp2_with fail
  refine (colFor_any _ _ _).mono ?_
  rintro e w4 ⟨rfl, hb4⟩
  have HB2 : Hid (Below w.heap.size w w4) := bel_then HB.out hb4
  have HX2 : Hid (IntsAt w4 (.slice s0 len cap) xs) := HX.out.below hb4
  have hg2 := (HS.out.below hb4).2
  clear hb4 hg
  rw [hf]
  go_wp2
  go_quiet (fail)
  go_wp2
  go_ret2
  exact ⟨rfl, below_drewN HB2.out _⟩

set_option maxRecDepth 100000 in
set_option maxHeartbeats 1000000 in
theorem reckon_num_row (n : Int) (s0 : Option Addr) (len cap : Nat) (xs : List Int) (w : World) (p : Addr) (hs : Sent w p) (hx : IntsAt w (.slice s0 len cap) xs) (hr : rowOkB xs = false) :
    Calls Tryz.prog 72 #[.agg #[.int .i64 2, .int .i64 0, .int .i64 0, .int .i64 n], .slice s0 len cap] w fun e w' => e = .returned (.tuple #[.int .i64 0, .iface 159 (.pointer (some p))]) ∧ Below w.heap.size w w' := by
  go_enter Tryz.func72, Tryz.ntmps72
  go_wp2_with fail
  refine (reck_num _ _).mono ?_
  rintro e w2 ⟨rfl, hb2⟩
  have HB : Hid (Below w.heap.size w w2) := bel_then (bel_alloc _) hb2
  have hg := (hs.below HB.out).2
  have HX : Hid (IntsAt w2 (.slice s0 len cap) xs) := hx.below HB.out
  have HS : Hid (Sent w2 p) := hs.below HB.out
  clear hb2 hs hx
  go_wp2_with fail
  refine (implRowOk_any _ xs _ HX.out).mono ?_
  rintro e w3 ⟨rfl, rfl⟩
  go_wp2
  go_quiet (fail)
  go_wp2
  go_ret2
  exact ⟨rfl, below_drewN HB.out _⟩

set_option maxRecDepth 100000 in
set_option maxHeartbeats 1000000 in
theorem reckon_num_for (n : Int) (s0 : Option Addr) (len cap : Nat) (xs : List Int) (w : World) (p : Addr) (hs : Sent w p) (hx : IntsAt w (.slice s0 len cap) xs) (hr : rowOkB xs = true) (hf : cellB n = false) :
    Calls Tryz.prog 72 #[.agg #[.int .i64 2, .int .i64 0, .int .i64 0, .int .i64 n], .slice s0 len cap] w fun e w' => e = .returned (.tuple #[.int .i64 0, .iface 159 (.pointer (some p))]) ∧ Below w.heap.size w w' := by
  have hm := invNum
  go_enter Tryz.func72, Tryz.ntmps72
  go_wp2_with fail
  refine (reck_num _ _).mono ?_
  rintro e w2 ⟨rfl, hb2⟩
  have HB : Hid (Below w.heap.size w w2) := bel_then (bel_alloc _) hb2
  have hg := (hs.below HB.out).2
  have HX : Hid (IntsAt w2 (.slice s0 len cap) xs) := hx.below HB.out
  have HS : Hid (Sent w2 p) := hs.below HB.out
  clear hb2 hs hx
  go_wp2_with fail
  refine (implRowOk_any _ xs _ HX.out).mono ?_
  rintro e w3 ⟨rfl, rfl⟩
  go_wp2_with fail
  refine (numFor_any _ _ _).mono ?_
  rintro e w4 ⟨rfl, hb4⟩
  have HB2 : Hid (Below w.heap.size w w4) := bel_then HB.out hb4
  have HX2 : Hid (IntsAt w4 (.slice s0 len cap) xs) := HX.out.below hb4
  have hg2 := (HS.out.below hb4).2
  clear hb4 hg
  rw [hf]
  go_wp2
  go_quiet (fail)
  go_wp2
  go_ret2
  exact ⟨rfl, below_drewN HB2.out _⟩

set_option maxRecDepth 100000 in
set_option maxHeartbeats 1000000 in
theorem reckon_num_of (n : Int) (s0 : Option Addr) (len cap : Nat) (xs : List Int) (w : World) (p : Addr) (hs : Sent w p) (hx : IntsAt w (.slice s0 len cap) xs) (hr : rowOkB xs = true) (hf : cellB n = true) :
    Calls Tryz.prog 72 #[.agg #[.int .i64 2, .int .i64 0, .int .i64 0, .int .i64 n], .slice s0 len cap] w fun e w' => e = .returned (.tuple #[.int .i64 n, .nilIface]) ∧ Below w.heap.size w w' := by
  have hm := invNum
  have ho := invOf_number
  go_enter Tryz.func72, Tryz.ntmps72
  go_wp2_with fail
  refine (reck_num _ _).mono ?_
  rintro e w2 ⟨rfl, hb2⟩
  have HB : Hid (Below w.heap.size w w2) := bel_then (bel_alloc _) hb2
  have hg := (hs.below HB.out).2
  have HX : Hid (IntsAt w2 (.slice s0 len cap) xs) := hx.below HB.out
  have HS : Hid (Sent w2 p) := hs.below HB.out
  clear hb2 hs hx
  go_wp2_with fail
  refine (implRowOk_any _ xs _ HX.out).mono ?_
  rintro e w3 ⟨rfl, rfl⟩
  go_wp2_with fail
  refine (numFor_any _ _ _).mono ?_
  rintro e w4 ⟨rfl, hb4⟩
  have HB2 : Hid (Below w.heap.size w w4) := bel_then HB.out hb4
  have HX2 : Hid (IntsAt w4 (.slice s0 len cap) xs) := HX.out.below hb4
  clear hb4 hg
  rw [hf]
  go_wp2_with fail
  refine (numOf_any _ _ _).mono ?_
  rintro e w5 ⟨rfl, hb5⟩
  have HB3 : Hid (Below w.heap.size w w5) := bel_then HB2.out hb5
  clear hb5
  go_wp2
  go_ret2
  exact ⟨rfl, HB3.out⟩

set_option maxRecDepth 100000 in
set_option maxHeartbeats 1000000 in
theorem reckon_two_row (a b : Int) (s0 : Option Addr) (len cap : Nat) (xs : List Int) (w : World) (p : Addr) (hs : Sent w p) (hx : IntsAt w (.slice s0 len cap) xs) (hr : rowOkB xs = false) :
    Calls Tryz.prog 72 #[.agg #[.int .i64 3, .int .i64 a, .int .i64 b, .int .i64 0], .slice s0 len cap] w fun e w' => e = .returned (.tuple #[.int .i64 0, .iface 159 (.pointer (some p))]) ∧ Below w.heap.size w w' := by
  go_enter Tryz.func72, Tryz.ntmps72
  go_wp2_with fail
  refine (reck_two _ _ _).mono ?_
  rintro e w2 ⟨rfl, hb2⟩
  have HB : Hid (Below w.heap.size w w2) := bel_then (bel_alloc _) hb2
  have hg := (hs.below HB.out).2
  have HX : Hid (IntsAt w2 (.slice s0 len cap) xs) := hx.below HB.out
  have HS : Hid (Sent w2 p) := hs.below HB.out
  clear hb2 hs hx
  go_wp2_with fail
  refine (implRowOk_any _ xs _ HX.out).mono ?_
  rintro e w3 ⟨rfl, rfl⟩
  go_wp2
  go_quiet (fail)
  go_wp2
  go_ret2
  exact ⟨rfl, below_drewN HB.out _⟩

set_option maxRecDepth 100000 in
set_option maxHeartbeats 1000000 in
theorem reckon_two_for (a b : Int) (s0 : Option Addr) (len cap : Nat) (xs : List Int) (w : World) (p : Addr) (hs : Sent w p) (hx : IntsAt w (.slice s0 len cap) xs) (hr : rowOkB xs = true) (hf : (colB a len && colB b len) = false) :
    Calls Tryz.prog 72 #[.agg #[.int .i64 3, .int .i64 a, .int .i64 b, .int .i64 0], .slice s0 len cap] w fun e w' => e = .returned (.tuple #[.int .i64 0, .iface 159 (.pointer (some p))]) ∧ Below w.heap.size w w' := by
  have hm := invTwo
  go_enter Tryz.func72, Tryz.ntmps72
  go_wp2_with fail
  refine (reck_two _ _ _).mono ?_
  rintro e w2 ⟨rfl, hb2⟩
  have HB : Hid (Below w.heap.size w w2) := bel_then (bel_alloc _) hb2
  have hg := (hs.below HB.out).2
  have HX : Hid (IntsAt w2 (.slice s0 len cap) xs) := hx.below HB.out
  have HS : Hid (Sent w2 p) := hs.below HB.out
  clear hb2 hs hx
  go_wp2_with fail
  refine (implRowOk_any _ xs _ HX.out).mono ?_
  rintro e w3 ⟨rfl, rfl⟩
  go_wp2_with fail
  refine (twoFor_any _ _ _ _).mono ?_
  rintro e w4 ⟨rfl, hb4⟩
  have HB2 : Hid (Below w.heap.size w w4) := bel_then HB.out hb4
  have HX2 : Hid (IntsAt w4 (.slice s0 len cap) xs) := HX.out.below hb4
  have hg2 := (HS.out.below hb4).2
  clear hb4 hg
  rw [hf]
  go_wp2
  go_quiet (fail)
  go_wp2
  go_ret2
  exact ⟨rfl, below_drewN HB2.out _⟩

set_option maxRecDepth 100000 in
set_option maxHeartbeats 1000000 in
theorem reckon_col_of (j : Nat) (x : Int) (g off len cap : Nat) (xs : List Int) (w : World) (p : Addr) (hs : Sent w p) (hx : IntsAt w (.slice (some ⟨g, off, none⟩) len cap) xs) (hlim : len ≤ 140737488355328) (hgw : g < w.heap.size) (hc : w.cell? ⟨g, off + j, none⟩ = some (.int .i64 x)) (hj : j < len) (hf : colB j len = true) (hr : rowOkB xs = true) :
    Calls Tryz.prog 72 #[.agg #[.int .i64 1, .int .i64 (j : Int), .int .i64 0, .int .i64 0], .slice (some ⟨g, off, none⟩) len cap] w fun e w' => e = .returned (.tuple #[.int .i64 x, .nilIface]) ∧ Below w.heap.size w w' := by
  have hm := invCol
  have ho := invOf_column
  go_enter Tryz.func72, Tryz.ntmps72
  go_wp2_with fail
  refine (reck_col _ _).mono ?_
  rintro e w2 ⟨rfl, hb2⟩
  have HB : Hid (Below w.heap.size w w2) := bel_then (bel_alloc _) hb2
  have hg := (hs.below HB.out).2
  have HX : Hid (IntsAt w2 (.slice (some ⟨g, off, none⟩) len cap) xs) := hx.below HB.out
  have HS : Hid (Sent w2 p) := hs.below HB.out
  clear hb2 hs hx
  go_wp2_with fail
  refine (implRowOk_any _ xs _ HX.out).mono ?_
  rintro e w3 ⟨rfl, rfl⟩
  go_wp2_with fail
  refine (colFor_any _ _ _).mono ?_
  rintro e w4 ⟨rfl, hb4⟩
  have HB2 : Hid (Below w.heap.size w w4) := bel_then HB.out hb4
  have hc4 := (HB2.out.cell (p := ⟨g, off + j, none⟩) hgw).trans hc
  have hg4 : g < w4.heap.size := Nat.lt_of_lt_of_le hgw HB2.out.size
  clear hb4 hg hc
  rw [hf]
  go_wp2_with fail
  refine (colOf_any j g off len cap x _ hj hlim hg4 hc4).mono ?_
  rintro e w5 ⟨rfl, hb5⟩
  have HB3 : Hid (Below w.heap.size w w5) := bel_then HB2.out hb5
  clear hb5 hc4
  go_wp2
  go_ret2
  exact ⟨rfl, HB3.out⟩

set_option maxRecDepth 100000 in
set_option maxHeartbeats 1000000 in
theorem reckon_two_yes (ja jb : Nat) (x y : Int) (g off len cap : Nat) (xs : List Int) (w : World) (p : Addr) (hs : Sent w p) (hx : IntsAt w (.slice (some ⟨g, off, none⟩) len cap) xs) (hlim : len ≤ 140737488355328) (hgw : g < w.heap.size) (hc : w.cell? ⟨g, off + ja, none⟩ = some (.int .i64 x)) (hd : w.cell? ⟨g, off + jb, none⟩ = some (.int .i64 y)) (hja : ja < len) (hjb : jb < len) (hf : (colB ja len && colB jb len) = true) (hwr : IntKind.i64.wrap (x + y) = x + y) (hcb : cellB (x + y) = true) (hr : rowOkB xs = true) :
    Calls Tryz.prog 72 #[.agg #[.int .i64 3, .int .i64 (ja : Int), .int .i64 (jb : Int), .int .i64 0], .slice (some ⟨g, off, none⟩) len cap] w fun e w' => e = .returned (.tuple #[.int .i64 (x + y), .nilIface]) ∧ Below w.heap.size w w' := by
  have hm := invTwo
  have ho := invOf_twoColumns
  go_enter Tryz.func72, Tryz.ntmps72
  go_wp2_with fail
  refine (reck_two _ _ _).mono ?_
  rintro e w2 ⟨rfl, hb2⟩
  have HB : Hid (Below w.heap.size w w2) := bel_then (bel_alloc _) hb2
  have hg := (hs.below HB.out).2
  have HX : Hid (IntsAt w2 (.slice (some ⟨g, off, none⟩) len cap) xs) := hx.below HB.out
  have HS : Hid (Sent w2 p) := hs.below HB.out
  clear hb2 hs hx
  go_wp2_with fail
  refine (implRowOk_any _ xs _ HX.out).mono ?_
  rintro e w3 ⟨rfl, rfl⟩
  go_wp2_with fail
  refine (twoFor_any _ _ _ _).mono ?_
  rintro e w4 ⟨rfl, hb4⟩
  have HB2 : Hid (Below w.heap.size w w4) := bel_then HB.out hb4
  have hc4 := (HB2.out.cell (p := ⟨g, off + ja, none⟩) hgw).trans hc
  have hd4 := (HB2.out.cell (p := ⟨g, off + jb, none⟩) hgw).trans hd
  have hg4 : g < w4.heap.size := Nat.lt_of_lt_of_le hgw HB2.out.size
  have hs4 : Hid (Sent w4 p) := HS.out.below hb4
  clear hb4 hg hc hd
  rw [hf]
  go_wp2_with fail
  refine (twoOf_yes ja jb g off len cap x y _ p hs4.out hja hjb hlim hg4 hc4 hd4 hwr hcb).mono ?_
  rintro e w5 ⟨rfl, hb5⟩
  have HB3 : Hid (Below w.heap.size w w5) := bel_then HB2.out hb5
  clear hb5 hc4 hd4
  go_wp2
  go_ret2
  exact ⟨rfl, HB3.out⟩

set_option maxRecDepth 100000 in
set_option maxHeartbeats 1000000 in
theorem reckon_two_no (ja jb : Nat) (x y : Int) (g off len cap : Nat) (xs : List Int) (w : World) (p : Addr) (hs : Sent w p) (hx : IntsAt w (.slice (some ⟨g, off, none⟩) len cap) xs) (hlim : len ≤ 140737488355328) (hgw : g < w.heap.size) (hc : w.cell? ⟨g, off + ja, none⟩ = some (.int .i64 x)) (hd : w.cell? ⟨g, off + jb, none⟩ = some (.int .i64 y)) (hja : ja < len) (hjb : jb < len) (hf : (colB ja len && colB jb len) = true) (hwr : IntKind.i64.wrap (x + y) = x + y) (hcb : cellB (x + y) = false) (hr : rowOkB xs = true) :
    Calls Tryz.prog 72 #[.agg #[.int .i64 3, .int .i64 (ja : Int), .int .i64 (jb : Int), .int .i64 0], .slice (some ⟨g, off, none⟩) len cap] w fun e w' => e = .returned (.tuple #[.int .i64 0, .iface 159 (.pointer (some p))]) ∧ Below w.heap.size w w' := by
  have hm := invTwo
  have ho := invOf_twoColumns
  go_enter Tryz.func72, Tryz.ntmps72
  go_wp2_with fail
  refine (reck_two _ _ _).mono ?_
  rintro e w2 ⟨rfl, hb2⟩
  have HB : Hid (Below w.heap.size w w2) := bel_then (bel_alloc _) hb2
  have hg := (hs.below HB.out).2
  have HX : Hid (IntsAt w2 (.slice (some ⟨g, off, none⟩) len cap) xs) := hx.below HB.out
  have HS : Hid (Sent w2 p) := hs.below HB.out
  clear hb2 hs hx
  go_wp2_with fail
  refine (implRowOk_any _ xs _ HX.out).mono ?_
  rintro e w3 ⟨rfl, rfl⟩
  go_wp2_with fail
  refine (twoFor_any _ _ _ _).mono ?_
  rintro e w4 ⟨rfl, hb4⟩
  have HB2 : Hid (Below w.heap.size w w4) := bel_then HB.out hb4
  have hc4 := (HB2.out.cell (p := ⟨g, off + ja, none⟩) hgw).trans hc
  have hd4 := (HB2.out.cell (p := ⟨g, off + jb, none⟩) hgw).trans hd
  have hg4 : g < w4.heap.size := Nat.lt_of_lt_of_le hgw HB2.out.size
  have hs4 : Hid (Sent w4 p) := HS.out.below hb4
  clear hb4 hg hc hd
  rw [hf]
  go_wp2_with fail
  refine (twoOf_no ja jb g off len cap x y _ p hs4.out hja hjb hlim hg4 hc4 hd4 hwr hcb).mono ?_
  rintro e w5 ⟨rfl, hb5⟩
  have HB3 : Hid (Below w.heap.size w w5) := bel_then HB2.out hb5
  clear hb5 hc4 hd4
  go_wp2
  go_ret2
  exact ⟨rfl, HB3.out⟩

/-- How what is reckoned ends: the number and no error, or 0 and the one error. -/
def RkEnd (c : Cel) (xs : List Int) (p : Addr) (e : Ending) : Prop :=
  (c.toldB xs = true ∧ e = .returned (.tuple #[.int .i64 (c.num xs), .nilIface])) ∨ (c.toldB xs = false ∧ e = .returned (.tuple #[.int .i64 0, .iface 159 (.pointer (some p))]))

theorem kind_of_ok {c : Cel} {wide : Int} (h : c.okB wide = true) : c.kindB = true := by
  rw [ok_iff] at h
  simp only [Cel.kindB, decide_eq_true_eq]
  omega

theorem wrap_sum {x y : Int} (hx : -1000000000 ≤ x ∧ x ≤ 1000000000) (hy : -1000000000 ≤ y ∧ y ≤ 1000000000) : IntKind.i64.wrap (x + y) = x + y := by unfold IntKind.wrap; simp [IntKind.bits, IntKind.signed]; omega

theorem reckon_any (c : Cel) (v : Value) (xs : List Int) (w : World) (p : Addr) (hs : Sent w p) (hx : IntsAt w v xs) :
    Calls Tryz.prog 72 #[.agg #[.int .i64 c.k, .int .i64 c.a, .int .i64 c.b, .int .i64 c.n], v] w fun e w' => RkEnd c xs p e ∧ Below w.heap.size w w' := by
  obtain ⟨s0, len, cap, rfl, hlen⟩ : ∃ s0 len cap, v = .slice s0 len cap ∧ len = xs.length := by
    obtain ⟨_, s0, cap, hv, _⟩ := hx
    exact ⟨s0, _, cap, hv, rfl⟩
  have no : c.toldB xs = false → ∀ {e : Ending} {w' : World}, (e = .returned (.tuple #[.int .i64 0, .iface 159 (.pointer (some p))]) ∧ Below w.heap.size w w') → RkEnd c xs p e ∧ Below w.heap.size w w' := fun h _ _ hh => ⟨.inr ⟨h, hh.1⟩, hh.2⟩
  have yes : c.toldB xs = true → ∀ {e : Ending} {w' : World}, (e = .returned (.tuple #[.int .i64 (c.num xs), .nilIface]) ∧ Below w.heap.size w w') → RkEnd c xs p e ∧ Below w.heap.size w w' := fun h _ _ hh => ⟨.inl ⟨h, hh.1⟩, hh.2⟩
  cases hk : c.kindB
  · have h1 : c.toldB xs = false := by
      cases ho : c.okB xs.length
      · simp [Cel.toldB, ho]
      · rw [kind_of_ok ho] at hk; cases hk
    exact (reckon_none c s0 len cap xs w p hs hx hk).mono fun e w' h => no h1 h
  · obtain ⟨k, a, b, n⟩ := c
    simp only [Cel.kindB, decide_eq_true_eq] at hk
    cases hr : rowOkB xs
    · have h1 : Cel.toldB ⟨k, a, b, n⟩ xs = false := by simp [Cel.toldB, hr]
      rcases hk with ⟨rfl, rfl, rfl⟩ | ⟨rfl, rfl, rfl⟩ | ⟨rfl, rfl⟩
      · exact (reckon_col_row a s0 len cap xs w p hs hx hr).mono fun e w' h => no h1 h
      · exact (reckon_num_row n s0 len cap xs w p hs hx hr).mono fun e w' h => no h1 h
      · exact (reckon_two_row a b s0 len cap xs w p hs hx hr).mono fun e w' h => no h1 h
    · obtain ⟨g, off, cap2, hpos, hlim, hv, hbw, hc⟩ := (hx.cases).resolve_left (by rintro ⟨a0, cap0, rfl, _⟩; simp [rowOkB] at hr)
      simp only [Value.slice.injEq] at hv
      obtain ⟨rfl, -, rfl⟩ := hv
      rcases hk with ⟨rfl, rfl, rfl⟩ | ⟨rfl, rfl, rfl⟩ | ⟨rfl, rfl⟩
      · cases hf : colB a len
        · have h0 : Cel.okB ⟨1, a, 0, 0⟩ xs.length = false := ok_no (by rw [colB_no, hlen] at hf; simp only; omega)
          exact (reckon_col_for a _ len cap xs w p hs hx hr hf).mono fun e w' h => no (by simp [Cel.toldB, h0]) h
        · have hf2 := colB_iff.1 hf
          obtain ⟨j, rfl⟩ : ∃ j : Nat, a = j := ⟨a.toNat, by omega⟩
          have hj : j < xs.length := by omega
          have h0 : Cel.okB ⟨1, j, 0, 0⟩ xs.length = true := ok_yes (.inl ⟨rfl, ⟨by simp only; omega, by simp only; omega, by simp only; omega⟩, rfl, rfl⟩)
          have hu : Cel.num ⟨1, j, 0, 0⟩ xs = xs.getD j 0 := by simp [Cel.num]
          have h1 : Cel.toldB ⟨1, j, 0, 0⟩ xs = true := by unfold Cel.toldB; rw [hr, h0, hu, cellB_iff.2 (row_cell hr hj)]; rfl
          refine (reckon_col_of j (xs.getD j 0) g off len cap xs w p hs hx (by omega) hbw (hc j hj) (by omega) hf hr).mono fun e w' h => yes h1 ?_
          rw [hu]; exact h
      · cases hf : cellB n
        · have h0 : Cel.okB ⟨2, 0, 0, n⟩ xs.length = false := ok_no (by simp [cellB] at hf; simp only; omega)
          exact (reckon_num_for n _ len cap xs w p hs hx hr hf).mono fun e w' h => no (by simp [Cel.toldB, h0]) h
        · have hf2 := cellB_iff.1 hf
          have h0 : Cel.okB ⟨2, 0, 0, n⟩ xs.length = true := ok_yes (.inr (.inl ⟨rfl, rfl, rfl, hf2⟩))
          have hu : Cel.num ⟨2, 0, 0, n⟩ xs = n := by simp [Cel.num]
          have h1 : Cel.toldB ⟨2, 0, 0, n⟩ xs = true := by unfold Cel.toldB; rw [hr, h0, hu, hf]; rfl
          refine (reckon_num_of n _ len cap xs w p hs hx hr hf).mono fun e w' h => yes h1 ?_
          rw [hu]; exact h
      · cases hf : (colB a len && colB b len)
        · have h0 : Cel.okB ⟨3, a, b, 0⟩ xs.length = false := ok_no (by
            rw [Bool.and_eq_false_iff, colB_no, colB_no, hlen] at hf
            simp only
            omega)
          exact (reckon_two_for a b _ len cap xs w p hs hx hr hf).mono fun e w' h => no (by simp [Cel.toldB, h0]) h
        · have hf2 := hf
          rw [Bool.and_eq_true, colB_iff, colB_iff] at hf2
          obtain ⟨ja, rfl⟩ : ∃ j : Nat, a = j := ⟨a.toNat, by omega⟩
          obtain ⟨jb, rfl⟩ : ∃ j : Nat, b = j := ⟨b.toNat, by omega⟩
          have hja : ja < xs.length := by omega
          have hjb : jb < xs.length := by omega
          have h0 : Cel.okB ⟨3, ja, jb, 0⟩ xs.length = true := ok_yes (.inr (.inr ⟨rfl, ⟨by simp only; omega, by simp only; omega, by simp only; omega⟩, ⟨by simp only; omega, by simp only; omega, by simp only; omega⟩, rfl⟩))
          have hu : Cel.num ⟨3, ja, jb, 0⟩ xs = xs.getD ja 0 + xs.getD jb 0 := by simp [Cel.num]
          have ra := row_cell hr hja
          have rb := row_cell hr hjb
          have hwr : IntKind.i64.wrap (xs.getD ja 0 + xs.getD jb 0) = xs.getD ja 0 + xs.getD jb 0 := wrap_sum ra rb
          cases hcb : cellB (xs.getD ja 0 + xs.getD jb 0)
          · have h1 : Cel.toldB ⟨3, ja, jb, 0⟩ xs = false := by unfold Cel.toldB; rw [hu, hcb, Bool.and_false]
            exact (reckon_two_no ja jb _ _ g off len cap xs w p hs hx (by omega) hbw (hc ja hja) (hc jb hjb) (by omega) (by omega) hf hwr hcb hr).mono fun e w' h => no h1 h
          · have h1 : Cel.toldB ⟨3, ja, jb, 0⟩ xs = true := by unfold Cel.toldB; rw [hr, h0, hu, hcb]; rfl
            refine (reckon_two_yes ja jb _ _ g off len cap xs w p hs hx (by omega) hbw (hc ja hja) (hc jb hjb) (by omega) (by omega) hf hwr hcb hr).mono fun e w' h => yes h1 ?_
            rw [hu]; exact h

set_option maxRecDepth 100000 in
set_option maxHeartbeats 1000000 in
theorem implCellOf_any (c : Cel) (v : Value) (xs : List Int) (w : World) (p : Addr) (hs : Sent w p) (hx : IntsAt w v xs) :
    Calls Tryz.prog 47 #[.agg #[.int .i64 c.k, .int .i64 c.a, .int .i64 c.b, .int .i64 c.n], v] w fun e w' => e = .returned (.tuple #[.int .i64 (c.valI xs), .bool (c.toldB xs)]) ∧ Below w.heap.size w w' := by
  obtain ⟨r, HR⟩ : ∃ r, Hid (r = c.valI xs) := ⟨_, Eq.refl _⟩
  obtain ⟨t, HT⟩ : ∃ t, Hid (t = c.toldB xs) := ⟨_, Eq.refl _⟩
  rw [← HR.out, ← HT.out]
  go_enter Tryz.func47, Tryz.ntmps47
  go_wp2_with fail
  refine (reckon_any c v xs _ p (hs.below (bel_alloc _)) (hx.below (bel_alloc _))).mono ?_
  rintro e w2 ⟨he, hb2⟩
  have HB : Hid (Below w.heap.size w w2) := bel_then (bel_alloc _) hb2
  have hg := (hs.below HB.out).2
  clear hb2 hs hx
  rcases he with ⟨h1, rfl⟩ | ⟨h1, rfl⟩
  · have h2 : c.valI xs = c.num xs := by rw [Cel.valI, if_pos h1]
    rw [← HT.out] at h1
    rw [← HR.out] at h2
    rw [← h2]
    subst h1
    clear h2
    go_wp2_with fail
    refine (is_nil p _).mono ?_
    rintro e w3 ⟨rfl, rfl⟩
    go_wp2
    go_ret2
    exact ⟨rfl, HB.out⟩
  · have h2 : c.valI xs = 0 := by rw [Cel.valI, if_neg (by rw [h1]; decide)]
    rw [← HT.out] at h1
    rw [← HR.out] at h2
    subst h1 h2
    go_wp2_with fail
    refine (is_same p _).mono ?_
    rintro e w3 ⟨rfl, rfl⟩
    go_wp2
    go_ret2
    exact ⟨rfl, HB.out⟩

end Go.Proofs.YtehfpceghdaajaaGreatDoor
