/-
  The contract of the program's own CellText at what is ok for rows of six cells: it writes Cel.tx.
-/
import Derived.Test.YtkgopbffgahhcaaGreatDoorItoa3
import Derived.Test.YtkgopbffgahhcaaGreatDoorCellImpl
import Derived.Test.YtkgopbffgahhcaaGreatDoorCellReadMath
import Derived.Deep.RegionWith
namespace Go.Proofs.YtkgopbffgahhcaaGreatDoor
open Go.RowKit
set_option linter.unusedVariables false

theorem cat_list (a b : ByteArray) : (a ++ b).data.toList = a.data.toList ++ b.data.toList := by rw [ByteArray.data_append]; simp

set_option maxRecDepth 100000 in
set_option maxHeartbeats 1000000 in
theorem columnText_any (a : Int) (w : World) (h : (-9223372036854775808 ≤ a ∧ a ≤ 9223372036854775807)) (ht : Tab3 w) :
    Calls Tryz.prog 182 #[.agg #[.int .i64 a]] w fun e w' => ∃ s : ByteArray, e = .returned (.string s) ∧ s.data.toList = 99 :: Lib.itoa a ∧ s.size ≤ 30 ∧ Below w.heap.size w w' := by
  have hl := Lib.itoa_length_le a h.1 h.2
  have hlen : ¬ 9223372036854775807 < 1 + (Lib.itoa a).length := by omega
  go_enter Tryz.func182, Tryz.ntmps182
  go_wp2_with fail
  refine (itoa3_any _ _ h (ht.below (bel_alloc _))).mono ?_
  rintro e w2 ⟨rfl, hb2⟩
  have HB : Hid (Below w.heap.size w w2) := bel_then (bel_alloc _) hb2
  clear hb2
  go_wp2
  go_ret
  exact ⟨_, rfl, by simp, by rw [ByteArray.size_append]; show 1 + (Lib.itoa a).toArray.size ≤ 30; simp; omega, HB.out⟩

set_option maxRecDepth 100000 in
set_option maxHeartbeats 1000000 in
theorem numberText_any (a : Int) (w : World) (h : (-9223372036854775808 ≤ a ∧ a ≤ 9223372036854775807)) (ht : Tab3 w) :
    Calls Tryz.prog 185 #[.agg #[.int .i64 a]] w fun e w' => ∃ s : ByteArray, e = .returned (.string s) ∧ s.data.toList = 35 :: Lib.itoa a ∧ s.size ≤ 30 ∧ Below w.heap.size w w' := by
  have hl := Lib.itoa_length_le a h.1 h.2
  have hlen : ¬ 9223372036854775807 < 1 + (Lib.itoa a).length := by omega
  go_enter Tryz.func185, Tryz.ntmps185
  go_wp2_with fail
  refine (itoa3_any _ _ h (ht.below (bel_alloc _))).mono ?_
  rintro e w2 ⟨rfl, hb2⟩
  have HB : Hid (Below w.heap.size w w2) := bel_then (bel_alloc _) hb2
  clear hb2
  go_wp2
  go_ret
  exact ⟨_, rfl, by simp, by rw [ByteArray.size_append]; show 1 + (Lib.itoa a).toArray.size ≤ 30; simp; omega, HB.out⟩

set_option maxRecDepth 100000 in
set_option maxHeartbeats 1000000 in
theorem twoText_any (a b : Int) (w : World) (h : (-9223372036854775808 ≤ a ∧ a ≤ 9223372036854775807)) (h2 : (-9223372036854775808 ≤ b ∧ b ≤ 9223372036854775807)) (ht : Tab3 w) :
    Calls Tryz.prog 188 #[.agg #[.int .i64 a, .int .i64 b]] w fun e w' => ∃ s : ByteArray, e = .returned (.string s) ∧ s.data.toList = 99 :: Lib.itoa a ++ 43 :: 99 :: Lib.itoa b ∧ s.size ≤ 62 ∧ Below w.heap.size w w' := by
  go_enter Tryz.func188, Tryz.ntmps188
  go_wp2_with fail
  go_region_with (first
    | (go_at_call 182; refine (columnText_any _ _ h2 (ht.below (by first | exact HB.out | exact HB.out.drew | exact below_drewN HB.out _))).mono ?_; rintro e w3 ⟨s2, rfl, hs2, hz2, hb3⟩; have hy2 : ¬ 9223372036854775807 < s.size + 1 + s2.size := (by omega); have HB2 : Hid (Below w.heap.size w w3) := bel_then (by first | exact HB.out | exact HB.out.drew | exact below_drewN HB.out _) hb3; have HS2 : Hid (s2.data.toList = 99 :: Lib.itoa b) := hs2; clear hb3 hs2)
    | (go_at_call 182; refine (columnText_any _ _ h (ht.below (by first | exact bel_alloc _ | exact (bel_alloc _).drew))).mono ?_; rintro e w2 ⟨s, rfl, hs, hz, hb2⟩; have hy : ¬ 9223372036854775807 < s.size + 1 := (by omega); have HB : Hid (Below w.heap.size w w2) := bel_then (by first | exact bel_alloc _ | exact (bel_alloc _).drew) hb2; have HS : Hid (s.data.toList = 99 :: Lib.itoa a) := hs; obtain ⟨c0, c1⟩ := cells2 (show Below (w.alloc (.cells #[.int .i64 a, .int .i64 b] 136)).heap.size (w.alloc (.cells #[.int .i64 a, .int .i64 b] 136)) w2 from (by first | exact hb2 | exact (Below.drew (Below.refl _ _)).trans hb2)); clear hb2 hs))
  all_goals (try go_wp2)
  all_goals (go_ret; exact ⟨_, rfl, by simp [HS.out, HS2.out], by rw [ByteArray.size_append, ByteArray.size_append]; show s.size + 1 + s2.size ≤ 62; omega, by first | exact HB2.out | exact HB2.out.drew | exact below_drewN HB2.out _⟩)
theorem invTx_column (v : Value) (w : World) : (Go.method 344 132 v "loop.example/milldam/impl.text").run Tryz.prog w = .ok (182, v) w := by kernel_rfl
theorem invTx_number (v : Value) (w : World) : (Go.method 344 134 v "loop.example/milldam/impl.text").run Tryz.prog w = .ok (185, v) w := by kernel_rfl
theorem invTx_twoColumns (v : Value) (w : World) : (Go.method 344 136 v "loop.example/milldam/impl.text").run Tryz.prog w = .ok (188, v) w := by kernel_rfl

set_option maxRecDepth 100000 in
set_option maxHeartbeats 1000000 in
theorem cellText_col (a : Int) (w : World) (p : Addr) (hs : Sent w p) (ht : Tab3 w) (h : (-9223372036854775808 ≤ a ∧ a ≤ 9223372036854775807)) (hf : colB a 6 = true) :
    Calls Tryz.prog 21 #[.agg #[.int .i64 1, .int .i64 a, .int .i64 0, .int .i64 0]] w fun e w' => ∃ s : ByteArray, e = .returned (.string s) ∧ s.data.toList = 99 :: Lib.itoa a ∧ s.size ≤ 62 ∧ Below w.heap.size w w' := by
  have hm := invCol
  have hv := invTx_column
  go_enter Tryz.func21, Tryz.ntmps21
  go_wp2_with fail
  refine (reck_col _ _).mono ?_
  rintro e w2 ⟨rfl, hb2⟩
  have HB : Hid (Below w.heap.size w w2) := bel_then (bel_alloc _) hb2
  have hg := (hs.below HB.out).2
  clear hb2
  go_wp2_with fail
  refine (is_nil p _).mono ?_
  rintro e w3 ⟨rfl, rfl⟩
  go_wp2_with fail
  refine (colFor_any _ _ _).mono ?_
  rintro e w4 ⟨rfl, hb4⟩
  rw [hf]
  have HB2 : Hid (Below w.heap.size w w4) := bel_then HB.out hb4
  clear hb4 hg
  go_wp2_with fail
  refine (columnText_any _ _ h (ht.below HB2.out)).mono ?_
  rintro e w5 ⟨s, rfl, hs5, hz5, hb5⟩
  have HB3 : Hid (Below w.heap.size w w5) := bel_then HB2.out hb5
  have HS : Hid (s.data.toList = 99 :: Lib.itoa a) := hs5
  clear hb5 hs5
  go_wp2
  go_ret
  exact ⟨_, rfl, HS.out, by omega, HB3.out⟩

set_option maxRecDepth 100000 in
set_option maxHeartbeats 1000000 in
theorem cellText_num (n : Int) (w : World) (p : Addr) (hs : Sent w p) (ht : Tab3 w) (h : (-9223372036854775808 ≤ n ∧ n ≤ 9223372036854775807)) (hf : cellB n = true) :
    Calls Tryz.prog 21 #[.agg #[.int .i64 2, .int .i64 0, .int .i64 0, .int .i64 n]] w fun e w' => ∃ s : ByteArray, e = .returned (.string s) ∧ s.data.toList = 35 :: Lib.itoa n ∧ s.size ≤ 62 ∧ Below w.heap.size w w' := by
  have hm := invNum
  have hv := invTx_number
  go_enter Tryz.func21, Tryz.ntmps21
  go_wp2_with fail
  refine (reck_num _ _).mono ?_
  rintro e w2 ⟨rfl, hb2⟩
  have HB : Hid (Below w.heap.size w w2) := bel_then (bel_alloc _) hb2
  have hg := (hs.below HB.out).2
  clear hb2
  go_wp2_with fail
  refine (is_nil p _).mono ?_
  rintro e w3 ⟨rfl, rfl⟩
  go_wp2_with fail
  refine (numFor_any _ _ _).mono ?_
  rintro e w4 ⟨rfl, hb4⟩
  rw [hf]
  have HB2 : Hid (Below w.heap.size w w4) := bel_then HB.out hb4
  clear hb4 hg
  go_wp2_with fail
  refine (numberText_any _ _ h (ht.below HB2.out)).mono ?_
  rintro e w5 ⟨s, rfl, hs5, hz5, hb5⟩
  have HB3 : Hid (Below w.heap.size w w5) := bel_then HB2.out hb5
  have HS : Hid (s.data.toList = 35 :: Lib.itoa n) := hs5
  clear hb5 hs5
  go_wp2
  go_ret
  exact ⟨_, rfl, HS.out, by omega, HB3.out⟩

set_option maxRecDepth 100000 in
set_option maxHeartbeats 1000000 in
theorem cellText_two (a b : Int) (w : World) (p : Addr) (hs : Sent w p) (ht : Tab3 w) (h : (-9223372036854775808 ≤ a ∧ a ≤ 9223372036854775807)) (h2 : (-9223372036854775808 ≤ b ∧ b ≤ 9223372036854775807)) (hf : (colB a 6 && colB b 6) = true) :
    Calls Tryz.prog 21 #[.agg #[.int .i64 3, .int .i64 a, .int .i64 b, .int .i64 0]] w fun e w' => ∃ s : ByteArray, e = .returned (.string s) ∧ s.data.toList = 99 :: Lib.itoa a ++ 43 :: 99 :: Lib.itoa b ∧ s.size ≤ 62 ∧ Below w.heap.size w w' := by
  have hm := invTwo
  have hv := invTx_twoColumns
  go_enter Tryz.func21, Tryz.ntmps21
  go_wp2_with fail
  refine (reck_two _ _ _).mono ?_
  rintro e w2 ⟨rfl, hb2⟩
  have HB : Hid (Below w.heap.size w w2) := bel_then (bel_alloc _) hb2
  have hg := (hs.below HB.out).2
  clear hb2
  go_wp2_with fail
  refine (is_nil p _).mono ?_
  rintro e w3 ⟨rfl, rfl⟩
  go_wp2_with fail
  refine (twoFor_any _ _ _ _).mono ?_
  rintro e w4 ⟨rfl, hb4⟩
  rw [hf]
  have HB2 : Hid (Below w.heap.size w w4) := bel_then HB.out hb4
  clear hb4 hg
  go_wp2_with fail
  refine (twoText_any _ _ _ h h2 (ht.below HB2.out)).mono ?_
  rintro e w5 ⟨s, rfl, hs5, hz5, hb5⟩
  have HB3 : Hid (Below w.heap.size w w5) := bel_then HB2.out hb5
  have HS : Hid (s.data.toList = 99 :: Lib.itoa a ++ 43 :: 99 :: Lib.itoa b) := hs5
  clear hb5 hs5
  go_wp2
  go_ret
  exact ⟨_, rfl, HS.out, by omega, HB3.out⟩

theorem implCellText_ok (c : Cel) (w : World) (p : Addr) (hs : Sent w p) (ht : Tab3 w) (hok : c.okB 6 = true) :
    Calls Tryz.prog 21 #[.agg #[.int .i64 c.k, .int .i64 c.a, .int .i64 c.b, .int .i64 c.n]] w fun e w' => ∃ s : ByteArray, e = .returned (.string s) ∧ s.data.toList = c.tx ∧ s.size ≤ 62 ∧ Below w.heap.size w w' := by
  rw [ok_iff] at hok
  obtain ⟨k, a, b, n⟩ := c
  simp only at hok ⊢
  rcases hok with ⟨rfl, h2, rfl, rfl⟩ | ⟨rfl, rfl, rfl, h4⟩ | ⟨rfl, h2, h3, rfl⟩
  · have e : Cel.tx ⟨1, a, 0, 0⟩ = 99 :: Lib.itoa a := by simp [Cel.tx]
    rw [e]
    exact cellText_col a w p hs ht (by omega) (colB_iff.2 h2)
  · have e : Cel.tx ⟨2, 0, 0, n⟩ = 35 :: Lib.itoa n := by simp [Cel.tx]
    rw [e]
    exact cellText_num n w p hs ht (by omega) (cellB_iff.2 h4)
  · have e : Cel.tx ⟨3, a, b, 0⟩ = 99 :: Lib.itoa a ++ 43 :: 99 :: Lib.itoa b := by simp [Cel.tx]
    rw [e]
    exact cellText_two a b w p hs ht (by omega) (by omega) (by rw [colB_iff.2 h2, colB_iff.2 h3]; rfl)

end Go.Proofs.YtkgopbffgahhcaaGreatDoor
