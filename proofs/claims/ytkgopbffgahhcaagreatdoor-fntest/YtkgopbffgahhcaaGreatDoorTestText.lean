/-
  The contract of the program's own TestText at what is ok for rows of six cells: it writes Tst.tx.
-/
import Derived.Test.YtkgopbffgahhcaaGreatDoorTestScan
namespace Go.Proofs.YtkgopbffgahhcaaGreatDoor
open Go.RowKit
set_option linter.unusedVariables false

theorem lessThanSign (w : World) : Calls Tryz.prog 190 #[.agg #[]] w fun e w' => e = .returned (.string ⟨#[60]⟩) ∧ Below w.heap.size w w' := by
  go_enter Tryz.func190, Tryz.ntmps190
  go_wp2
  go_ret
  exact ⟨rfl, bel_alloc _⟩
theorem invSign_lessThan (v : Value) (w : World) : (Go.method 344 148 v "loop.example/milldam/impl.sign").run Tryz.prog w = .ok (190, v) w := by kernel_rfl
theorem sameAsSign (w : World) : Calls Tryz.prog 192 #[.agg #[]] w fun e w' => e = .returned (.string ⟨#[61]⟩) ∧ Below w.heap.size w w' := by
  go_enter Tryz.func192, Tryz.ntmps192
  go_wp2
  go_ret
  exact ⟨rfl, bel_alloc _⟩
theorem invSign_sameAs (v : Value) (w : World) : (Go.method 344 149 v "loop.example/milldam/impl.sign").run Tryz.prog w = .ok (192, v) w := by kernel_rfl

set_option maxRecDepth 100000 in
set_option maxHeartbeats 2000000 in
theorem testText_1t (l r : Cel) (w : World) (p : Addr) (hs : Sent w p) (ht : Tab3 w) (hl : l.okB 6 = true) (hr : r.okB 6 = true) :
    Calls Tryz.prog 32 #[.agg #[.int .i64 1, .bool true, .int .i64 l.k, .int .i64 l.a, .int .i64 l.b, .int .i64 l.n, .int .i64 r.k, .int .i64 r.a, .int .i64 r.b, .int .i64 r.n]] w fun e w' => ∃ s : ByteArray, e = .returned (.string s) ∧ s.data.toList = 33 :: (l.tx ++ 60 :: r.tx) ∧ Below w.heap.size w w' := by
  have hm := invSign_lessThan
  have hok : Tst.okB ⟨1, true, l, r⟩ 6 = true := by simp [Tst.okB, hl, hr]
  go_enter Tryz.func32, Tryz.ntmps32
  go_wp2_with fail
  refine (rel_less _).mono ?_
  rintro e w1 ⟨rfl, hb1⟩
  have B1 : Hid (Below w.heap.size w w1) := bel_then (bel_alloc _) hb1
  have X1 : Hid (Box10 w1 w.heap.size ⟨1, true, l, r⟩) := (Box10.start w ⟨1, true, l, r⟩ _).below hb1
  have hg := (hs.below B1.out).2
  clear hb1
  obtain ⟨_, c0, c1, ⟨c2, c3, c4, c5⟩, c6, c7, c8, c9⟩ := X1.out
  simp only at c0 c1 c2 c3 c4 c5 c6 c7 c8 c9
  go_wp2_with fail
  refine (is_nil p _).mono ?_
  rintro e w2 ⟨rfl, rfl⟩
  go_wp2_with fail
  refine (implTestOk_any ⟨1, true, l, r⟩ _ _ p (hs.below B1.out)).mono ?_
  rw [hok]
  rintro e w3 ⟨rfl, hb3⟩
  have B3 : Hid (Below w.heap.size w w3) := bel_then B1.out hb3
  have X3 : Hid (Box10 w3 w.heap.size ⟨1, true, l, r⟩) := X1.out.below hb3
  clear hb3 hg c0 c1 c2 c3 c4 c5 c6 c7 c8 c9
  obtain ⟨hlt, c0, c1, ⟨c2, c3, c4, c5⟩, c6, c7, c8, c9⟩ := X3.out
  simp only at c0 c1 c2 c3 c4 c5 c6 c7 c8 c9
  go_wp2_with fail
  go_region_with (first
    | (have hB5 := B5; clear hB5; go_at_call 21; refine (implCellText_ok r _ p (hs.below (by first | exact B5.out | exact B5.out.drew | exact below_drewN B5.out _)) (ht.below (by first | exact B5.out | exact B5.out.drew | exact below_drewN B5.out _)) hr).mono ?_; rintro e w6 ⟨s3, rfl, hs3, hz3, hb6⟩; have hy3 : ¬ 9223372036854775807 < s1.size + 1 + s3.size := (by omega); have hy4 : ¬ 9223372036854775807 < 1 + (s1.size + 1 + s3.size) := (by omega); have B6 : Hid (Below w.heap.size w w6) := bel_then (by first | exact B5.out | exact B5.out.drew | exact below_drewN B5.out _) hb6; have HS3 : Hid (s3.data.toList = r.tx) := hs3; have X6 : Box10 w6 w.heap.size ⟨1, true, l, r⟩ := (by first | exact X5.out.below hb6 | exact (X5.out.below (Below.drew (Below.refl _ _))).below hb6); have q1 : w6.cell? ⟨w.heap.size, 1, none⟩ = some (.bool true) := X6.2.2.1; clear hb6 hs3 X6)
    | (have hB4 := B4; clear hB4; go_at_call 190; refine (lessThanSign _).mono ?_; rintro e w5 ⟨rfl, hb5⟩; have B5 : Hid (Below w.heap.size w w5) := bel_then (by first | exact B4.out | exact B4.out.drew | exact below_drewN B4.out _) hb5; have X5 : Hid (Box10 w5 w.heap.size ⟨1, true, l, r⟩) := (by first | exact X4.out.below hb5 | exact (X4.out.below (Below.drew (Below.refl _ _))).below hb5); clear hb5; obtain ⟨_, m0, m1, ⟨m2, m3, m4, m5⟩, m6, m7, m8, m9⟩ := X5.out; simp only at m0 m1 m2 m3 m4 m5 m6 m7 m8 m9)
    | (go_at_call 21; refine (implCellText_ok l _ p (hs.below (by first | exact B3.out | exact B3.out.drew | exact below_drewN B3.out _)) (ht.below (by first | exact B3.out | exact B3.out.drew | exact below_drewN B3.out _)) hl).mono ?_; rintro e w4 ⟨s1, rfl, hs1, hz1, hb4⟩; have hy1 : ¬ 9223372036854775807 < s1.size + 1 := (by omega); have B4 : Hid (Below w.heap.size w w4) := bel_then (by first | exact B3.out | exact B3.out.drew | exact below_drewN B3.out _) hb4; have HS1 : Hid (s1.data.toList = l.tx) := hs1; have X4 : Hid (Box10 w4 w.heap.size ⟨1, true, l, r⟩) := (by first | exact X3.out.below hb4 | exact (X3.out.below (Below.drew (Below.refl _ _))).below hb4); clear hb4 hs1; obtain ⟨_, n0, n1, ⟨n2, n3, n4, n5⟩, n6, n7, n8, n9⟩ := X4.out; simp only at n0 n1 n2 n3 n4 n5 n6 n7 n8 n9))
  all_goals (try go_wp2)
  all_goals (go_ret; exact ⟨_, rfl, by simp [HS1.out, HS3.out], by first | exact B6.out | exact B6.out.drew | exact below_drewN B6.out _⟩)

set_option maxRecDepth 100000 in
set_option maxHeartbeats 2000000 in
theorem testText_1f (l r : Cel) (w : World) (p : Addr) (hs : Sent w p) (ht : Tab3 w) (hl : l.okB 6 = true) (hr : r.okB 6 = true) :
    Calls Tryz.prog 32 #[.agg #[.int .i64 1, .bool false, .int .i64 l.k, .int .i64 l.a, .int .i64 l.b, .int .i64 l.n, .int .i64 r.k, .int .i64 r.a, .int .i64 r.b, .int .i64 r.n]] w fun e w' => ∃ s : ByteArray, e = .returned (.string s) ∧ s.data.toList = (l.tx ++ 60 :: r.tx) ∧ Below w.heap.size w w' := by
  have hm := invSign_lessThan
  have hok : Tst.okB ⟨1, false, l, r⟩ 6 = true := by simp [Tst.okB, hl, hr]
  go_enter Tryz.func32, Tryz.ntmps32
  go_wp2_with fail
  refine (rel_less _).mono ?_
  rintro e w1 ⟨rfl, hb1⟩
  have B1 : Hid (Below w.heap.size w w1) := bel_then (bel_alloc _) hb1
  have X1 : Hid (Box10 w1 w.heap.size ⟨1, false, l, r⟩) := (Box10.start w ⟨1, false, l, r⟩ _).below hb1
  have hg := (hs.below B1.out).2
  clear hb1
  obtain ⟨_, c0, c1, ⟨c2, c3, c4, c5⟩, c6, c7, c8, c9⟩ := X1.out
  simp only at c0 c1 c2 c3 c4 c5 c6 c7 c8 c9
  go_wp2_with fail
  refine (is_nil p _).mono ?_
  rintro e w2 ⟨rfl, rfl⟩
  go_wp2_with fail
  refine (implTestOk_any ⟨1, false, l, r⟩ _ _ p (hs.below B1.out)).mono ?_
  rw [hok]
  rintro e w3 ⟨rfl, hb3⟩
  have B3 : Hid (Below w.heap.size w w3) := bel_then B1.out hb3
  have X3 : Hid (Box10 w3 w.heap.size ⟨1, false, l, r⟩) := X1.out.below hb3
  clear hb3 hg c0 c1 c2 c3 c4 c5 c6 c7 c8 c9
  obtain ⟨hlt, c0, c1, ⟨c2, c3, c4, c5⟩, c6, c7, c8, c9⟩ := X3.out
  simp only at c0 c1 c2 c3 c4 c5 c6 c7 c8 c9
  go_wp2_with fail
  go_region_with (first
    | (have hB5 := B5; clear hB5; go_at_call 21; refine (implCellText_ok r _ p (hs.below (by first | exact B5.out | exact B5.out.drew | exact below_drewN B5.out _)) (ht.below (by first | exact B5.out | exact B5.out.drew | exact below_drewN B5.out _)) hr).mono ?_; rintro e w6 ⟨s3, rfl, hs3, hz3, hb6⟩; have hy3 : ¬ 9223372036854775807 < s1.size + 1 + s3.size := (by omega); have hy4 : ¬ 9223372036854775807 < 1 + (s1.size + 1 + s3.size) := (by omega); have B6 : Hid (Below w.heap.size w w6) := bel_then (by first | exact B5.out | exact B5.out.drew | exact below_drewN B5.out _) hb6; have HS3 : Hid (s3.data.toList = r.tx) := hs3; have X6 : Box10 w6 w.heap.size ⟨1, false, l, r⟩ := (by first | exact X5.out.below hb6 | exact (X5.out.below (Below.drew (Below.refl _ _))).below hb6); have q1 : w6.cell? ⟨w.heap.size, 1, none⟩ = some (.bool false) := X6.2.2.1; clear hb6 hs3 X6)
    | (have hB4 := B4; clear hB4; go_at_call 190; refine (lessThanSign _).mono ?_; rintro e w5 ⟨rfl, hb5⟩; have B5 : Hid (Below w.heap.size w w5) := bel_then (by first | exact B4.out | exact B4.out.drew | exact below_drewN B4.out _) hb5; have X5 : Hid (Box10 w5 w.heap.size ⟨1, false, l, r⟩) := (by first | exact X4.out.below hb5 | exact (X4.out.below (Below.drew (Below.refl _ _))).below hb5); clear hb5; obtain ⟨_, m0, m1, ⟨m2, m3, m4, m5⟩, m6, m7, m8, m9⟩ := X5.out; simp only at m0 m1 m2 m3 m4 m5 m6 m7 m8 m9)
    | (go_at_call 21; refine (implCellText_ok l _ p (hs.below (by first | exact B3.out | exact B3.out.drew | exact below_drewN B3.out _)) (ht.below (by first | exact B3.out | exact B3.out.drew | exact below_drewN B3.out _)) hl).mono ?_; rintro e w4 ⟨s1, rfl, hs1, hz1, hb4⟩; have hy1 : ¬ 9223372036854775807 < s1.size + 1 := (by omega); have B4 : Hid (Below w.heap.size w w4) := bel_then (by first | exact B3.out | exact B3.out.drew | exact below_drewN B3.out _) hb4; have HS1 : Hid (s1.data.toList = l.tx) := hs1; have X4 : Hid (Box10 w4 w.heap.size ⟨1, false, l, r⟩) := (by first | exact X3.out.below hb4 | exact (X3.out.below (Below.drew (Below.refl _ _))).below hb4); clear hb4 hs1; obtain ⟨_, n0, n1, ⟨n2, n3, n4, n5⟩, n6, n7, n8, n9⟩ := X4.out; simp only at n0 n1 n2 n3 n4 n5 n6 n7 n8 n9))
  all_goals (try go_wp2)
  all_goals (go_ret; exact ⟨_, rfl, by simp [HS1.out, HS3.out], by first | exact B6.out | exact B6.out.drew | exact below_drewN B6.out _⟩)

set_option maxRecDepth 100000 in
set_option maxHeartbeats 2000000 in
theorem testText_2t (l r : Cel) (w : World) (p : Addr) (hs : Sent w p) (ht : Tab3 w) (hl : l.okB 6 = true) (hr : r.okB 6 = true) :
    Calls Tryz.prog 32 #[.agg #[.int .i64 2, .bool true, .int .i64 l.k, .int .i64 l.a, .int .i64 l.b, .int .i64 l.n, .int .i64 r.k, .int .i64 r.a, .int .i64 r.b, .int .i64 r.n]] w fun e w' => ∃ s : ByteArray, e = .returned (.string s) ∧ s.data.toList = 33 :: (l.tx ++ 61 :: r.tx) ∧ Below w.heap.size w w' := by
  have hm := invSign_sameAs
  have hok : Tst.okB ⟨2, true, l, r⟩ 6 = true := by simp [Tst.okB, hl, hr]
  go_enter Tryz.func32, Tryz.ntmps32
  go_wp2_with fail
  refine (rel_same _).mono ?_
  rintro e w1 ⟨rfl, hb1⟩
  have B1 : Hid (Below w.heap.size w w1) := bel_then (bel_alloc _) hb1
  have X1 : Hid (Box10 w1 w.heap.size ⟨2, true, l, r⟩) := (Box10.start w ⟨2, true, l, r⟩ _).below hb1
  have hg := (hs.below B1.out).2
  clear hb1
  obtain ⟨_, c0, c1, ⟨c2, c3, c4, c5⟩, c6, c7, c8, c9⟩ := X1.out
  simp only at c0 c1 c2 c3 c4 c5 c6 c7 c8 c9
  go_wp2_with fail
  refine (is_nil p _).mono ?_
  rintro e w2 ⟨rfl, rfl⟩
  go_wp2_with fail
  refine (implTestOk_any ⟨2, true, l, r⟩ _ _ p (hs.below B1.out)).mono ?_
  rw [hok]
  rintro e w3 ⟨rfl, hb3⟩
  have B3 : Hid (Below w.heap.size w w3) := bel_then B1.out hb3
  have X3 : Hid (Box10 w3 w.heap.size ⟨2, true, l, r⟩) := X1.out.below hb3
  clear hb3 hg c0 c1 c2 c3 c4 c5 c6 c7 c8 c9
  obtain ⟨hlt, c0, c1, ⟨c2, c3, c4, c5⟩, c6, c7, c8, c9⟩ := X3.out
  simp only at c0 c1 c2 c3 c4 c5 c6 c7 c8 c9
  go_wp2_with fail
  go_region_with (first
    | (have hB5 := B5; clear hB5; go_at_call 21; refine (implCellText_ok r _ p (hs.below (by first | exact B5.out | exact B5.out.drew | exact below_drewN B5.out _)) (ht.below (by first | exact B5.out | exact B5.out.drew | exact below_drewN B5.out _)) hr).mono ?_; rintro e w6 ⟨s3, rfl, hs3, hz3, hb6⟩; have hy3 : ¬ 9223372036854775807 < s1.size + 1 + s3.size := (by omega); have hy4 : ¬ 9223372036854775807 < 1 + (s1.size + 1 + s3.size) := (by omega); have B6 : Hid (Below w.heap.size w w6) := bel_then (by first | exact B5.out | exact B5.out.drew | exact below_drewN B5.out _) hb6; have HS3 : Hid (s3.data.toList = r.tx) := hs3; have X6 : Box10 w6 w.heap.size ⟨2, true, l, r⟩ := (by first | exact X5.out.below hb6 | exact (X5.out.below (Below.drew (Below.refl _ _))).below hb6); have q1 : w6.cell? ⟨w.heap.size, 1, none⟩ = some (.bool true) := X6.2.2.1; clear hb6 hs3 X6)
    | (have hB4 := B4; clear hB4; go_at_call 192; refine (sameAsSign _).mono ?_; rintro e w5 ⟨rfl, hb5⟩; have B5 : Hid (Below w.heap.size w w5) := bel_then (by first | exact B4.out | exact B4.out.drew | exact below_drewN B4.out _) hb5; have X5 : Hid (Box10 w5 w.heap.size ⟨2, true, l, r⟩) := (by first | exact X4.out.below hb5 | exact (X4.out.below (Below.drew (Below.refl _ _))).below hb5); clear hb5; obtain ⟨_, m0, m1, ⟨m2, m3, m4, m5⟩, m6, m7, m8, m9⟩ := X5.out; simp only at m0 m1 m2 m3 m4 m5 m6 m7 m8 m9)
    | (go_at_call 21; refine (implCellText_ok l _ p (hs.below (by first | exact B3.out | exact B3.out.drew | exact below_drewN B3.out _)) (ht.below (by first | exact B3.out | exact B3.out.drew | exact below_drewN B3.out _)) hl).mono ?_; rintro e w4 ⟨s1, rfl, hs1, hz1, hb4⟩; have hy1 : ¬ 9223372036854775807 < s1.size + 1 := (by omega); have B4 : Hid (Below w.heap.size w w4) := bel_then (by first | exact B3.out | exact B3.out.drew | exact below_drewN B3.out _) hb4; have HS1 : Hid (s1.data.toList = l.tx) := hs1; have X4 : Hid (Box10 w4 w.heap.size ⟨2, true, l, r⟩) := (by first | exact X3.out.below hb4 | exact (X3.out.below (Below.drew (Below.refl _ _))).below hb4); clear hb4 hs1; obtain ⟨_, n0, n1, ⟨n2, n3, n4, n5⟩, n6, n7, n8, n9⟩ := X4.out; simp only at n0 n1 n2 n3 n4 n5 n6 n7 n8 n9))
  all_goals (try go_wp2)
  all_goals (go_ret; exact ⟨_, rfl, by simp [HS1.out, HS3.out], by first | exact B6.out | exact B6.out.drew | exact below_drewN B6.out _⟩)

set_option maxRecDepth 100000 in
set_option maxHeartbeats 2000000 in
theorem testText_2f (l r : Cel) (w : World) (p : Addr) (hs : Sent w p) (ht : Tab3 w) (hl : l.okB 6 = true) (hr : r.okB 6 = true) :
    Calls Tryz.prog 32 #[.agg #[.int .i64 2, .bool false, .int .i64 l.k, .int .i64 l.a, .int .i64 l.b, .int .i64 l.n, .int .i64 r.k, .int .i64 r.a, .int .i64 r.b, .int .i64 r.n]] w fun e w' => ∃ s : ByteArray, e = .returned (.string s) ∧ s.data.toList = (l.tx ++ 61 :: r.tx) ∧ Below w.heap.size w w' := by
  have hm := invSign_sameAs
  have hok : Tst.okB ⟨2, false, l, r⟩ 6 = true := by simp [Tst.okB, hl, hr]
  go_enter Tryz.func32, Tryz.ntmps32
  go_wp2_with fail
  refine (rel_same _).mono ?_
  rintro e w1 ⟨rfl, hb1⟩
  have B1 : Hid (Below w.heap.size w w1) := bel_then (bel_alloc _) hb1
  have X1 : Hid (Box10 w1 w.heap.size ⟨2, false, l, r⟩) := (Box10.start w ⟨2, false, l, r⟩ _).below hb1
  have hg := (hs.below B1.out).2
  clear hb1
  obtain ⟨_, c0, c1, ⟨c2, c3, c4, c5⟩, c6, c7, c8, c9⟩ := X1.out
  simp only at c0 c1 c2 c3 c4 c5 c6 c7 c8 c9
  go_wp2_with fail
  refine (is_nil p _).mono ?_
  rintro e w2 ⟨rfl, rfl⟩
  go_wp2_with fail
  refine (implTestOk_any ⟨2, false, l, r⟩ _ _ p (hs.below B1.out)).mono ?_
  rw [hok]
  rintro e w3 ⟨rfl, hb3⟩
  have B3 : Hid (Below w.heap.size w w3) := bel_then B1.out hb3
  have X3 : Hid (Box10 w3 w.heap.size ⟨2, false, l, r⟩) := X1.out.below hb3
  clear hb3 hg c0 c1 c2 c3 c4 c5 c6 c7 c8 c9
  obtain ⟨hlt, c0, c1, ⟨c2, c3, c4, c5⟩, c6, c7, c8, c9⟩ := X3.out
  simp only at c0 c1 c2 c3 c4 c5 c6 c7 c8 c9
  go_wp2_with fail
  go_region_with (first
    | (have hB5 := B5; clear hB5; go_at_call 21; refine (implCellText_ok r _ p (hs.below (by first | exact B5.out | exact B5.out.drew | exact below_drewN B5.out _)) (ht.below (by first | exact B5.out | exact B5.out.drew | exact below_drewN B5.out _)) hr).mono ?_; rintro e w6 ⟨s3, rfl, hs3, hz3, hb6⟩; have hy3 : ¬ 9223372036854775807 < s1.size + 1 + s3.size := (by omega); have hy4 : ¬ 9223372036854775807 < 1 + (s1.size + 1 + s3.size) := (by omega); have B6 : Hid (Below w.heap.size w w6) := bel_then (by first | exact B5.out | exact B5.out.drew | exact below_drewN B5.out _) hb6; have HS3 : Hid (s3.data.toList = r.tx) := hs3; have X6 : Box10 w6 w.heap.size ⟨2, false, l, r⟩ := (by first | exact X5.out.below hb6 | exact (X5.out.below (Below.drew (Below.refl _ _))).below hb6); have q1 : w6.cell? ⟨w.heap.size, 1, none⟩ = some (.bool false) := X6.2.2.1; clear hb6 hs3 X6)
    | (have hB4 := B4; clear hB4; go_at_call 192; refine (sameAsSign _).mono ?_; rintro e w5 ⟨rfl, hb5⟩; have B5 : Hid (Below w.heap.size w w5) := bel_then (by first | exact B4.out | exact B4.out.drew | exact below_drewN B4.out _) hb5; have X5 : Hid (Box10 w5 w.heap.size ⟨2, false, l, r⟩) := (by first | exact X4.out.below hb5 | exact (X4.out.below (Below.drew (Below.refl _ _))).below hb5); clear hb5; obtain ⟨_, m0, m1, ⟨m2, m3, m4, m5⟩, m6, m7, m8, m9⟩ := X5.out; simp only at m0 m1 m2 m3 m4 m5 m6 m7 m8 m9)
    | (go_at_call 21; refine (implCellText_ok l _ p (hs.below (by first | exact B3.out | exact B3.out.drew | exact below_drewN B3.out _)) (ht.below (by first | exact B3.out | exact B3.out.drew | exact below_drewN B3.out _)) hl).mono ?_; rintro e w4 ⟨s1, rfl, hs1, hz1, hb4⟩; have hy1 : ¬ 9223372036854775807 < s1.size + 1 := (by omega); have B4 : Hid (Below w.heap.size w w4) := bel_then (by first | exact B3.out | exact B3.out.drew | exact below_drewN B3.out _) hb4; have HS1 : Hid (s1.data.toList = l.tx) := hs1; have X4 : Hid (Box10 w4 w.heap.size ⟨2, false, l, r⟩) := (by first | exact X3.out.below hb4 | exact (X3.out.below (Below.drew (Below.refl _ _))).below hb4); clear hb4 hs1; obtain ⟨_, n0, n1, ⟨n2, n3, n4, n5⟩, n6, n7, n8, n9⟩ := X4.out; simp only at n0 n1 n2 n3 n4 n5 n6 n7 n8 n9))
  all_goals (try go_wp2)
  all_goals (go_ret; exact ⟨_, rfl, by simp [HS1.out, HS3.out], by first | exact B6.out | exact B6.out.drew | exact below_drewN B6.out _⟩)

theorem implTestText_ok (t : Tst) (w : World) (p : Addr) (hs : Sent w p) (ht : Tab3 w) (hok : t.okB 6 = true) :
    Calls Tryz.prog 32 #[.agg #[.int .i64 t.k, .bool t.no, .int .i64 t.l.k, .int .i64 t.l.a, .int .i64 t.l.b, .int .i64 t.l.n, .int .i64 t.r.k, .int .i64 t.r.a, .int .i64 t.r.b, .int .i64 t.r.n]] w fun e w' => ∃ s : ByteArray, e = .returned (.string s) ∧ s.data.toList = t.tx ∧ Below w.heap.size w w' := by
  obtain ⟨k, no, l, r⟩ := t
  simp only [Tst.okB, Bool.and_eq_true, decide_eq_true_eq] at hok
  obtain ⟨⟨hk, hl⟩, hr⟩ := hok
  simp only
  rcases hk with rfl | rfl
  · cases no
    · exact testText_1f l r w p hs ht hl hr
    · exact testText_1t l r w p hs ht hl hr
  · cases no
    · exact testText_2f l r w p hs ht hl hr
    · exact testText_2t l r w p hs ht hl hr


end Go.Proofs.YtkgopbffgahhcaaGreatDoor
