/-
  TestText of both sides, at every test: what is ok for rows of six cells is written as Tst.tx, all else is the empty text.
-/
import Derived.Test.YtkgopbffgahhcaaGreatDoorTestText
import Derived.Test.YtkgopbffgahhcaaGreatDoorTestReadMath
import Derived.Test.YtkgopbffgahhcaaGreatDoorTestSpec
import Derived.Test.YtkgopbffgahhcaaGreatDoorCellText2
import Derived.Deep.RegionWith
namespace Go.Proofs.YtkgopbffgahhcaaGreatDoor
set_option maxRecDepth 100000
open Go.RowKit
set_option linter.unusedVariables false

def Tst.txO (t : Tst) : List UInt8 := if t.okB 6 = true then t.tx else []
theorem tx_len {c : Cel} (h : c.okB 6 = true) : c.tx.length ≤ 62 := by
  rw [ok_iff] at h
  unfold Cel.tx
  rcases h with ⟨h1, h2, h3, h4⟩ | ⟨h1, h2, h3, h4⟩ | ⟨h1, h2, h3, h4⟩
  · have := Lib.itoa_length_le c.a (by omega) (by omega)
    rw [if_pos h1]; simp only [List.length_cons]; omega
  · have := Lib.itoa_length_le c.n (by omega) (by omega)
    rw [if_neg (by omega), if_pos h1]; simp only [List.length_cons]; omega
  · have h5 := Lib.itoa_length_le c.a (by omega) (by omega)
    have h6 := Lib.itoa_length_le c.b (by omega) (by omega)
    rw [if_neg (by omega), if_neg (by omega)]; simp only [List.length_append, List.length_cons]; omega
theorem ttx_len {t : Tst} (h : t.okB 6 = true) : t.tx.length ≤ 130 := by
  simp only [Tst.okB, Bool.and_eq_true] at h
  have h1 := tx_len h.1.2
  have h2 := tx_len h.2
  unfold Tst.tx
  split <;> simp only [List.length_append, List.length_cons, List.length_nil] <;> omega

set_option maxHeartbeats 2000000 in
theorem testText_kind (k : Int) (no : Bool) (l r : Cel) (w : World) (p : Addr) (hs : Sent w p) (h1 : (k == 1) = false) (h2 : (k == 2) = false) :
    Calls Tryz.prog 32 #[.agg #[.int .i64 k, .bool no, .int .i64 l.k, .int .i64 l.a, .int .i64 l.b, .int .i64 l.n, .int .i64 r.k, .int .i64 r.a, .int .i64 r.b, .int .i64 r.n]] w fun e w' => e = .returned (.string ⟨#[]⟩) ∧ Below w.heap.size w w' := by
  go_enter Tryz.func32, Tryz.ntmps32
  go_wp2_with fail
  refine (rel_none k _ p (hs.below (bel_alloc _)) h1 h2).mono ?_
  rintro e w2 ⟨rfl, hb2⟩
  have HB : Hid (Below w.heap.size w w2) := bel_then (bel_alloc _) hb2
  have hg := (hs.below HB.out).2
  clear hb2
  go_wp2_with fail
  refine (is_same p _).mono ?_
  rintro e w3 ⟨rfl, rfl⟩
  go_wp2
  go_ret
  exact ⟨rfl, HB.out⟩

set_option maxHeartbeats 2000000 in
theorem testText_no1 (no : Bool) (l r : Cel) (w : World) (p : Addr) (hs : Sent w p) (hok : Tst.okB ⟨1, no, l, r⟩ 6 = false) :
    Calls Tryz.prog 32 #[.agg #[.int .i64 1, .bool no, .int .i64 l.k, .int .i64 l.a, .int .i64 l.b, .int .i64 l.n, .int .i64 r.k, .int .i64 r.a, .int .i64 r.b, .int .i64 r.n]] w fun e w' => e = .returned (.string ⟨#[]⟩) ∧ Below w.heap.size w w' := by
  go_enter Tryz.func32, Tryz.ntmps32
  go_wp2_with fail
  refine (rel_less _).mono ?_
  rintro e w1 ⟨rfl, hb1⟩
  have B1 : Hid (Below w.heap.size w w1) := bel_then (bel_alloc _) hb1
  obtain ⟨_, c0, c1, ⟨c2, c3, c4, c5⟩, c6, c7, c8, c9⟩ := (Box10.start w ⟨1, no, l, r⟩ _).below hb1
  simp only at c0 c1 c2 c3 c4 c5 c6 c7 c8 c9
  have hg := (hs.below B1.out).2
  clear hb1
  go_wp2_with fail
  refine (is_nil p _).mono ?_
  rintro e w2 ⟨rfl, rfl⟩
  go_wp2_with fail
  refine (implTestOk_any ⟨1, no, l, r⟩ _ _ p (hs.below B1.out)).mono ?_
  rw [hok]
  rintro e w3 ⟨rfl, hb3⟩
  have B3 : Hid (Below w.heap.size w w3) := bel_then B1.out hb3
  clear hb3 hg c0 c1 c2 c3 c4 c5 c6 c7 c8 c9
  go_wp2
  go_ret
  exact ⟨rfl, B3.out⟩

set_option maxHeartbeats 2000000 in
theorem testText_no2 (no : Bool) (l r : Cel) (w : World) (p : Addr) (hs : Sent w p) (hok : Tst.okB ⟨2, no, l, r⟩ 6 = false) :
    Calls Tryz.prog 32 #[.agg #[.int .i64 2, .bool no, .int .i64 l.k, .int .i64 l.a, .int .i64 l.b, .int .i64 l.n, .int .i64 r.k, .int .i64 r.a, .int .i64 r.b, .int .i64 r.n]] w fun e w' => e = .returned (.string ⟨#[]⟩) ∧ Below w.heap.size w w' := by
  go_enter Tryz.func32, Tryz.ntmps32
  go_wp2_with fail
  refine (rel_same _).mono ?_
  rintro e w1 ⟨rfl, hb1⟩
  have B1 : Hid (Below w.heap.size w w1) := bel_then (bel_alloc _) hb1
  obtain ⟨_, c0, c1, ⟨c2, c3, c4, c5⟩, c6, c7, c8, c9⟩ := (Box10.start w ⟨2, no, l, r⟩ _).below hb1
  simp only at c0 c1 c2 c3 c4 c5 c6 c7 c8 c9
  have hg := (hs.below B1.out).2
  clear hb1
  go_wp2_with fail
  refine (is_nil p _).mono ?_
  rintro e w2 ⟨rfl, rfl⟩
  go_wp2_with fail
  refine (implTestOk_any ⟨2, no, l, r⟩ _ _ p (hs.below B1.out)).mono ?_
  rw [hok]
  rintro e w3 ⟨rfl, hb3⟩
  have B3 : Hid (Below w.heap.size w w3) := bel_then B1.out hb3
  clear hb3 hg c0 c1 c2 c3 c4 c5 c6 c7 c8 c9
  go_wp2
  go_ret
  exact ⟨rfl, B3.out⟩

theorem implTestText_any (t : Tst) (w : World) (p : Addr) (hs : Sent w p) (ht : Tab3 w) :
    Calls Tryz.prog 32 #[.agg #[.int .i64 t.k, .bool t.no, .int .i64 t.l.k, .int .i64 t.l.a, .int .i64 t.l.b, .int .i64 t.l.n, .int .i64 t.r.k, .int .i64 t.r.a, .int .i64 t.r.b, .int .i64 t.r.n]] w fun e w' => ∃ s : ByteArray, e = .returned (.string s) ∧ s.data.toList = t.txO ∧ s.size ≤ 130 ∧ Below w.heap.size w w' := by
  cases hok : t.okB 6
  · have e0 : t.txO = [] := by rw [Tst.txO, hok]; rfl
    rw [e0]
    obtain ⟨k, no, l, r⟩ := t
    simp only
    by_cases h1 : k = 1
    · subst h1
      exact (testText_no1 no l r w p hs hok).mono fun e w' ⟨he, hb⟩ => ⟨_, he, rfl, by decide, hb⟩
    · by_cases h2 : k = 2
      · subst h2
        exact (testText_no2 no l r w p hs hok).mono fun e w' ⟨he, hb⟩ => ⟨_, he, rfl, by decide, hb⟩
      · exact (testText_kind k no l r w p hs (by simpa using h1) (by simpa using h2)).mono fun e w' ⟨he, hb⟩ => ⟨_, he, rfl, by decide, hb⟩
  · refine (implTestText_ok t w p hs ht hok).mono fun e w' ⟨s, he, h1, hb⟩ => ⟨s, he, ?_, ?_, hb⟩
    · rw [Tst.txO, hok, h1]; rfl
    · have := ttx_len hok
      rw [← h1, Array.length_toList] at this
      exact this

set_option maxHeartbeats 2000000 in
theorem specTestText_no (t : Tst) (w : World) (hok : t.okB 6 = false) :
    Calls Tryz.prog 34 #[.agg #[.int .i64 t.k, .bool t.no, .int .i64 t.l.k, .int .i64 t.l.a, .int .i64 t.l.b, .int .i64 t.l.n, .int .i64 t.r.k, .int .i64 t.r.a, .int .i64 t.r.b, .int .i64 t.r.n]] w fun e w' => e = .returned (.string ⟨#[]⟩) ∧ Below w.heap.size w w' := by
  go_enter Tryz.func34, Tryz.ntmps34
  go_wp2_with fail
  refine (specTestOk_any t 6 _).mono ?_
  rw [hok]
  rintro e w2 ⟨rfl, hb2⟩
  have HB : Hid (Below w.heap.size w w2) := bel_then (bel_alloc _) hb2
  clear hb2
  go_wp2
  go_ret
  exact ⟨rfl, HB.out⟩

set_option maxHeartbeats 4000000 in
theorem specTestText_1t (l r : Cel) (w : World) (hl : l.okB 6 = true) (hr : r.okB 6 = true) :
    Calls Tryz.prog 34 #[.agg #[.int .i64 1, .bool true, .int .i64 l.k, .int .i64 l.a, .int .i64 l.b, .int .i64 l.n, .int .i64 r.k, .int .i64 r.a, .int .i64 r.b, .int .i64 r.n]] w fun e w' => ∃ s : ByteArray, e = .returned (.string s) ∧ s.data.toList = 33 :: (l.tx ++ 60 :: r.tx) ∧ Below w.heap.size w w' := by
  have hok : Tst.okB ⟨1, true, l, r⟩ 6 = true := by simp [Tst.okB, hl, hr]
  have el : l.txO = l.tx := by rw [Cel.txO, hl]; rfl
  have er : r.txO = r.tx := by rw [Cel.txO, hr]; rfl
  go_enter Tryz.func34, Tryz.ntmps34
  go_wp2_with fail
  refine (specTestOk_any ⟨1, true, l, r⟩ 6 _).mono ?_
  rw [hok]
  rintro e w2 ⟨rfl, hb2⟩
  have B2 : Hid (Below w.heap.size w w2) := bel_then (bel_alloc _) hb2
  have X2 : Hid (Box10 w2 w.heap.size ⟨1, true, l, r⟩) := (Box10.start w ⟨1, true, l, r⟩ _).below hb2
  clear hb2
  obtain ⟨_, x20, x21, ⟨x22, x23, x24, x25⟩, x26, x27, x28, x29⟩ := X2.out
  simp only at x20 x21 x22 x23 x24 x25 x26 x27 x28 x29
  go_wp2_with fail
  go_region_with (first
    | (have hG := B3; clear hG; go_at_call 23; refine (specCellText_any r _).mono ?_; rintro e w4 ⟨s2, rfl, hs2, hz2, hb4⟩; rw [er] at hs2; have HS2 : Hid (s2.data.toList = r.tx) := hs2; have hy2 : ¬ 9223372036854775807 < 1 + s.size + 1 + s2.size := (by omega); have hy3 : ¬ 9223372036854775807 < s.size + 1 + s2.size := (by omega); have B4 : Hid (Below w.heap.size w w4) := bel_then (by first | exact B3.out | exact B3.out.drew | exact below_drewN B3.out _) hb4; clear hs2 hb4)
    | (go_at_call 23; refine (specCellText_any l _).mono ?_; rintro e w3 ⟨s, rfl, hs, hz, hb3⟩; rw [el] at hs; have HS : Hid (s.data.toList = l.tx) := hs; have hy : ¬ 9223372036854775807 < 1 + s.size := (by omega); have hy1 : ¬ 9223372036854775807 < 1 + s.size + 1 := (by omega); have hy4 : ¬ 9223372036854775807 < s.size := (by omega); have hy5 : ¬ 9223372036854775807 < s.size + 1 := (by omega); have B3 : Hid (Below w.heap.size w w3) := bel_then (by first | exact B2.out | exact B2.out.drew | exact below_drewN B2.out _) hb3; have X3 : Hid (Box10 w3 w.heap.size ⟨1, true, l, r⟩) := (by first | exact X2.out.below hb3 | exact (X2.out.below (Below.drew (Below.refl _ _))).below hb3); obtain ⟨_, x30, x31, ⟨x32, x33, x34, x35⟩, x36, x37, x38, x39⟩ := X3.out; simp only at x30 x31 x32 x33 x34 x35 x36 x37 x38 x39; clear hs hb3))
  all_goals (try go_wp2)
  all_goals (go_ret; exact ⟨_, rfl, by simp [HS.out, HS2.out], (by first | exact B4.out | exact B4.out.drew | exact below_drewN B4.out _)⟩)

set_option maxHeartbeats 4000000 in
theorem specTestText_1f (l r : Cel) (w : World) (hl : l.okB 6 = true) (hr : r.okB 6 = true) :
    Calls Tryz.prog 34 #[.agg #[.int .i64 1, .bool false, .int .i64 l.k, .int .i64 l.a, .int .i64 l.b, .int .i64 l.n, .int .i64 r.k, .int .i64 r.a, .int .i64 r.b, .int .i64 r.n]] w fun e w' => ∃ s : ByteArray, e = .returned (.string s) ∧ s.data.toList = l.tx ++ 60 :: r.tx ∧ Below w.heap.size w w' := by
  have hok : Tst.okB ⟨1, false, l, r⟩ 6 = true := by simp [Tst.okB, hl, hr]
  have el : l.txO = l.tx := by rw [Cel.txO, hl]; rfl
  have er : r.txO = r.tx := by rw [Cel.txO, hr]; rfl
  go_enter Tryz.func34, Tryz.ntmps34
  go_wp2_with fail
  refine (specTestOk_any ⟨1, false, l, r⟩ 6 _).mono ?_
  rw [hok]
  rintro e w2 ⟨rfl, hb2⟩
  have B2 : Hid (Below w.heap.size w w2) := bel_then (bel_alloc _) hb2
  have X2 : Hid (Box10 w2 w.heap.size ⟨1, false, l, r⟩) := (Box10.start w ⟨1, false, l, r⟩ _).below hb2
  clear hb2
  obtain ⟨_, x20, x21, ⟨x22, x23, x24, x25⟩, x26, x27, x28, x29⟩ := X2.out
  simp only at x20 x21 x22 x23 x24 x25 x26 x27 x28 x29
  go_wp2_with fail
  go_region_with (first
    | (have hG := B3; clear hG; go_at_call 23; refine (specCellText_any r _).mono ?_; rintro e w4 ⟨s2, rfl, hs2, hz2, hb4⟩; rw [er] at hs2; have HS2 : Hid (s2.data.toList = r.tx) := hs2; have hy2 : ¬ 9223372036854775807 < 0 + s.size + 1 + s2.size := (by omega); have hy3 : ¬ 9223372036854775807 < s.size + 1 + s2.size := (by omega); have B4 : Hid (Below w.heap.size w w4) := bel_then (by first | exact B3.out | exact B3.out.drew | exact below_drewN B3.out _) hb4; clear hs2 hb4)
    | (go_at_call 23; refine (specCellText_any l _).mono ?_; rintro e w3 ⟨s, rfl, hs, hz, hb3⟩; rw [el] at hs; have HS : Hid (s.data.toList = l.tx) := hs; have hy : ¬ 9223372036854775807 < 0 + s.size := (by omega); have hy1 : ¬ 9223372036854775807 < 0 + s.size + 1 := (by omega); have hy4 : ¬ 9223372036854775807 < s.size := (by omega); have hy5 : ¬ 9223372036854775807 < s.size + 1 := (by omega); have B3 : Hid (Below w.heap.size w w3) := bel_then (by first | exact B2.out | exact B2.out.drew | exact below_drewN B2.out _) hb3; have X3 : Hid (Box10 w3 w.heap.size ⟨1, false, l, r⟩) := (by first | exact X2.out.below hb3 | exact (X2.out.below (Below.drew (Below.refl _ _))).below hb3); obtain ⟨_, x30, x31, ⟨x32, x33, x34, x35⟩, x36, x37, x38, x39⟩ := X3.out; simp only at x30 x31 x32 x33 x34 x35 x36 x37 x38 x39; clear hs hb3))
  all_goals (try go_wp2)
  all_goals (go_ret; exact ⟨_, rfl, by simp [HS.out, HS2.out], (by first | exact B4.out | exact B4.out.drew | exact below_drewN B4.out _)⟩)

set_option maxHeartbeats 4000000 in
theorem specTestText_2t (l r : Cel) (w : World) (hl : l.okB 6 = true) (hr : r.okB 6 = true) :
    Calls Tryz.prog 34 #[.agg #[.int .i64 2, .bool true, .int .i64 l.k, .int .i64 l.a, .int .i64 l.b, .int .i64 l.n, .int .i64 r.k, .int .i64 r.a, .int .i64 r.b, .int .i64 r.n]] w fun e w' => ∃ s : ByteArray, e = .returned (.string s) ∧ s.data.toList = 33 :: (l.tx ++ 61 :: r.tx) ∧ Below w.heap.size w w' := by
  have hok : Tst.okB ⟨2, true, l, r⟩ 6 = true := by simp [Tst.okB, hl, hr]
  have el : l.txO = l.tx := by rw [Cel.txO, hl]; rfl
  have er : r.txO = r.tx := by rw [Cel.txO, hr]; rfl
  go_enter Tryz.func34, Tryz.ntmps34
  go_wp2_with fail
  refine (specTestOk_any ⟨2, true, l, r⟩ 6 _).mono ?_
  rw [hok]
  rintro e w2 ⟨rfl, hb2⟩
  have B2 : Hid (Below w.heap.size w w2) := bel_then (bel_alloc _) hb2
  have X2 : Hid (Box10 w2 w.heap.size ⟨2, true, l, r⟩) := (Box10.start w ⟨2, true, l, r⟩ _).below hb2
  clear hb2
  obtain ⟨_, x20, x21, ⟨x22, x23, x24, x25⟩, x26, x27, x28, x29⟩ := X2.out
  simp only at x20 x21 x22 x23 x24 x25 x26 x27 x28 x29
  go_wp2_with fail
  go_region_with (first
    | (have hG := B3; clear hG; go_at_call 23; refine (specCellText_any r _).mono ?_; rintro e w4 ⟨s2, rfl, hs2, hz2, hb4⟩; rw [er] at hs2; have HS2 : Hid (s2.data.toList = r.tx) := hs2; have hy2 : ¬ 9223372036854775807 < 1 + s.size + 1 + s2.size := (by omega); have hy3 : ¬ 9223372036854775807 < s.size + 1 + s2.size := (by omega); have B4 : Hid (Below w.heap.size w w4) := bel_then (by first | exact B3.out | exact B3.out.drew | exact below_drewN B3.out _) hb4; clear hs2 hb4)
    | (go_at_call 23; refine (specCellText_any l _).mono ?_; rintro e w3 ⟨s, rfl, hs, hz, hb3⟩; rw [el] at hs; have HS : Hid (s.data.toList = l.tx) := hs; have hy : ¬ 9223372036854775807 < 1 + s.size := (by omega); have hy1 : ¬ 9223372036854775807 < 1 + s.size + 1 := (by omega); have hy4 : ¬ 9223372036854775807 < s.size := (by omega); have hy5 : ¬ 9223372036854775807 < s.size + 1 := (by omega); have B3 : Hid (Below w.heap.size w w3) := bel_then (by first | exact B2.out | exact B2.out.drew | exact below_drewN B2.out _) hb3; have X3 : Hid (Box10 w3 w.heap.size ⟨2, true, l, r⟩) := (by first | exact X2.out.below hb3 | exact (X2.out.below (Below.drew (Below.refl _ _))).below hb3); obtain ⟨_, x30, x31, ⟨x32, x33, x34, x35⟩, x36, x37, x38, x39⟩ := X3.out; simp only at x30 x31 x32 x33 x34 x35 x36 x37 x38 x39; clear hs hb3))
  all_goals (try go_wp2)
  all_goals (go_ret; exact ⟨_, rfl, by simp [HS.out, HS2.out], (by first | exact B4.out | exact B4.out.drew | exact below_drewN B4.out _)⟩)

set_option maxHeartbeats 4000000 in
theorem specTestText_2f (l r : Cel) (w : World) (hl : l.okB 6 = true) (hr : r.okB 6 = true) :
    Calls Tryz.prog 34 #[.agg #[.int .i64 2, .bool false, .int .i64 l.k, .int .i64 l.a, .int .i64 l.b, .int .i64 l.n, .int .i64 r.k, .int .i64 r.a, .int .i64 r.b, .int .i64 r.n]] w fun e w' => ∃ s : ByteArray, e = .returned (.string s) ∧ s.data.toList = l.tx ++ 61 :: r.tx ∧ Below w.heap.size w w' := by
  have hok : Tst.okB ⟨2, false, l, r⟩ 6 = true := by simp [Tst.okB, hl, hr]
  have el : l.txO = l.tx := by rw [Cel.txO, hl]; rfl
  have er : r.txO = r.tx := by rw [Cel.txO, hr]; rfl
  go_enter Tryz.func34, Tryz.ntmps34
  go_wp2_with fail
  refine (specTestOk_any ⟨2, false, l, r⟩ 6 _).mono ?_
  rw [hok]
  rintro e w2 ⟨rfl, hb2⟩
  have B2 : Hid (Below w.heap.size w w2) := bel_then (bel_alloc _) hb2
  have X2 : Hid (Box10 w2 w.heap.size ⟨2, false, l, r⟩) := (Box10.start w ⟨2, false, l, r⟩ _).below hb2
  clear hb2
  obtain ⟨_, x20, x21, ⟨x22, x23, x24, x25⟩, x26, x27, x28, x29⟩ := X2.out
  simp only at x20 x21 x22 x23 x24 x25 x26 x27 x28 x29
  go_wp2_with fail
  go_region_with (first
    | (have hG := B3; clear hG; go_at_call 23; refine (specCellText_any r _).mono ?_; rintro e w4 ⟨s2, rfl, hs2, hz2, hb4⟩; rw [er] at hs2; have HS2 : Hid (s2.data.toList = r.tx) := hs2; have hy2 : ¬ 9223372036854775807 < 0 + s.size + 1 + s2.size := (by omega); have hy3 : ¬ 9223372036854775807 < s.size + 1 + s2.size := (by omega); have B4 : Hid (Below w.heap.size w w4) := bel_then (by first | exact B3.out | exact B3.out.drew | exact below_drewN B3.out _) hb4; clear hs2 hb4)
    | (go_at_call 23; refine (specCellText_any l _).mono ?_; rintro e w3 ⟨s, rfl, hs, hz, hb3⟩; rw [el] at hs; have HS : Hid (s.data.toList = l.tx) := hs; have hy : ¬ 9223372036854775807 < 0 + s.size := (by omega); have hy1 : ¬ 9223372036854775807 < 0 + s.size + 1 := (by omega); have hy4 : ¬ 9223372036854775807 < s.size := (by omega); have hy5 : ¬ 9223372036854775807 < s.size + 1 := (by omega); have B3 : Hid (Below w.heap.size w w3) := bel_then (by first | exact B2.out | exact B2.out.drew | exact below_drewN B2.out _) hb3; have X3 : Hid (Box10 w3 w.heap.size ⟨2, false, l, r⟩) := (by first | exact X2.out.below hb3 | exact (X2.out.below (Below.drew (Below.refl _ _))).below hb3); obtain ⟨_, x30, x31, ⟨x32, x33, x34, x35⟩, x36, x37, x38, x39⟩ := X3.out; simp only at x30 x31 x32 x33 x34 x35 x36 x37 x38 x39; clear hs hb3))
  all_goals (try go_wp2)
  all_goals (go_ret; exact ⟨_, rfl, by simp [HS.out, HS2.out], (by first | exact B4.out | exact B4.out.drew | exact below_drewN B4.out _)⟩)

theorem specTestText_any (t : Tst) (w : World) :
    Calls Tryz.prog 34 #[.agg #[.int .i64 t.k, .bool t.no, .int .i64 t.l.k, .int .i64 t.l.a, .int .i64 t.l.b, .int .i64 t.l.n, .int .i64 t.r.k, .int .i64 t.r.a, .int .i64 t.r.b, .int .i64 t.r.n]] w fun e w' => ∃ s : ByteArray, e = .returned (.string s) ∧ s.data.toList = t.txO ∧ s.size ≤ 130 ∧ Below w.heap.size w w' := by
  cases hok : t.okB 6
  · refine (specTestText_no t w hok).mono fun e w' ⟨he, hb⟩ => ⟨_, he, ?_, by decide, hb⟩
    rw [Tst.txO, hok]; rfl
  · have e : t.txO = t.tx := by rw [Tst.txO, hok]; rfl
    rw [e]
    have hlen := ttx_len hok
    have key : Calls Tryz.prog 34 #[.agg #[.int .i64 t.k, .bool t.no, .int .i64 t.l.k, .int .i64 t.l.a, .int .i64 t.l.b, .int .i64 t.l.n, .int .i64 t.r.k, .int .i64 t.r.a, .int .i64 t.r.b, .int .i64 t.r.n]] w fun e w' => ∃ s : ByteArray, e = .returned (.string s) ∧ s.data.toList = t.tx ∧ Below w.heap.size w w' := by
      obtain ⟨k, no, l, r⟩ := t
      simp only [Tst.okB, Bool.and_eq_true, decide_eq_true_eq] at hok
      obtain ⟨⟨hk, hl⟩, hr⟩ := hok
      simp only
      rcases hk with rfl | rfl
      · cases no
        · exact specTestText_1f l r w hl hr
        · exact specTestText_1t l r w hl hr
      · cases no
        · exact specTestText_2f l r w hl hr
        · exact specTestText_2t l r w hl hr
    refine key.mono fun e w' ⟨s, he, h1, hb⟩ => ⟨s, he, h1, ?_, hb⟩
    rw [← h1, Array.length_toList] at hlen
    exact hlen

end Go.Proofs.YtkgopbffgahhcaaGreatDoor
