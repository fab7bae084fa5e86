/-
  CellText of both sides, at every cell: what is ok for rows of six cells is written as Cel.tx, all else is the empty text.
-/
import Derived.Test.YtkgopbffgahhcaaGreatDoorCellText
import Derived.Test.YtkgopbffgahhcaaGreatDoorDec
import Derived.Test.YtkgopbffgahhcaaGreatDoorCellBox
namespace Go.Proofs.YtkgopbffgahhcaaGreatDoor
open Go.RowKit
set_option linter.unusedVariables false

def Cel.txO (c : Cel) : List UInt8 := if c.okB 6 = true then c.tx else []

set_option maxRecDepth 100000 in
set_option maxHeartbeats 1000000 in
theorem cellText_none (c : Cel) (w : World) (p : Addr) (hs : Sent w p) (hk : c.kindB = false) :
    Calls Tryz.prog 21 #[.agg #[.int .i64 c.k, .int .i64 c.a, .int .i64 c.b, .int .i64 c.n]] w fun e w' => e = .returned (.string ⟨#[]⟩) ∧ Below w.heap.size w w' := by
  go_enter Tryz.func21, Tryz.ntmps21
  go_wp2_with fail
  refine (reck_none c _ p (hs.below (bel_alloc _)) hk).mono ?_
  rintro e w2 ⟨rfl, hb2⟩
  have HB : Hid (Below w.heap.size w w2) := bel_then (bel_alloc _) hb2
  have hg := (hs.below HB.out).2
  clear hb2
  go_wp2_with fail
  refine (is_same p _).mono ?_
  rintro e w3 ⟨rfl, rfl⟩
  go_wp2
  go_ret
  exact ⟨rfl, HB.out⟩

set_option maxRecDepth 100000 in
set_option maxHeartbeats 1000000 in
theorem cellText_colNo (a : Int) (w : World) (p : Addr) (hs : Sent w p) (hf : colB a 6 = false) :
    Calls Tryz.prog 21 #[.agg #[.int .i64 1, .int .i64 a, .int .i64 0, .int .i64 0]] w fun e w' => e = .returned (.string ⟨#[]⟩) ∧ Below w.heap.size w w' := by
  have hm := invCol
  go_enter Tryz.func21, Tryz.ntmps21
  go_wp2_with fail
  refine (reck_col _ _).mono ?_
  rintro e w2 ⟨rfl, hb2⟩
  have HB : Hid (Below w.heap.size w w2) := bel_then (bel_alloc _) hb2
  have hg := (hs.below HB.out).2
  clear hb2
  go_wp2_with fail
  refine (is_nil p _).mono ?_
  rintro e w3 ⟨rfl, rfl⟩
  go_wp2_with fail
  refine (colFor_any _ _ _).mono ?_
  rintro e w4 ⟨rfl, hb4⟩
  rw [hf]
  have HB2 : Hid (Below w.heap.size w w4) := bel_then HB.out hb4
  clear hb4 hg
  go_wp2
  go_ret
  exact ⟨rfl, HB2.out⟩

set_option maxRecDepth 100000 in
set_option maxHeartbeats 1000000 in
theorem cellText_numNo (n : Int) (w : World) (p : Addr) (hs : Sent w p) (hf : cellB n = false) :
    Calls Tryz.prog 21 #[.agg #[.int .i64 2, .int .i64 0, .int .i64 0, .int .i64 n]] w fun e w' => e = .returned (.string ⟨#[]⟩) ∧ Below w.heap.size w w' := by
  have hm := invNum
  go_enter Tryz.func21, Tryz.ntmps21
  go_wp2_with fail
  refine (reck_num _ _).mono ?_
  rintro e w2 ⟨rfl, hb2⟩
  have HB : Hid (Below w.heap.size w w2) := bel_then (bel_alloc _) hb2
  have hg := (hs.below HB.out).2
  clear hb2
  go_wp2_with fail
  refine (is_nil p _).mono ?_
  rintro e w3 ⟨rfl, rfl⟩
  go_wp2_with fail
  refine (numFor_any _ _ _).mono ?_
  rintro e w4 ⟨rfl, hb4⟩
  rw [hf]
  have HB2 : Hid (Below w.heap.size w w4) := bel_then HB.out hb4
  clear hb4 hg
  go_wp2
  go_ret
  exact ⟨rfl, HB2.out⟩

set_option maxRecDepth 100000 in
set_option maxHeartbeats 1000000 in
theorem cellText_twoNo (a b : Int) (w : World) (p : Addr) (hs : Sent w p) (hf : (colB a 6 && colB b 6) = false) :
    Calls Tryz.prog 21 #[.agg #[.int .i64 3, .int .i64 a, .int .i64 b, .int .i64 0]] w fun e w' => e = .returned (.string ⟨#[]⟩) ∧ Below w.heap.size w w' := by
  have hm := invTwo
  go_enter Tryz.func21, Tryz.ntmps21
  go_wp2_with fail
  refine (reck_two _ _ _).mono ?_
  rintro e w2 ⟨rfl, hb2⟩
  have HB : Hid (Below w.heap.size w w2) := bel_then (bel_alloc _) hb2
  have hg := (hs.below HB.out).2
  clear hb2
  go_wp2_with fail
  refine (is_nil p _).mono ?_
  rintro e w3 ⟨rfl, rfl⟩
  go_wp2_with fail
  refine (twoFor_any _ _ _ _).mono ?_
  rintro e w4 ⟨rfl, hb4⟩
  rw [hf]
  have HB2 : Hid (Below w.heap.size w w4) := bel_then HB.out hb4
  clear hb4 hg
  go_wp2
  go_ret
  exact ⟨rfl, HB2.out⟩

theorem implCellText_no (c : Cel) (w : World) (p : Addr) (hs : Sent w p) (hok : c.okB 6 = false) :
    Calls Tryz.prog 21 #[.agg #[.int .i64 c.k, .int .i64 c.a, .int .i64 c.b, .int .i64 c.n]] w fun e w' => e = .returned (.string ⟨#[]⟩) ∧ Below w.heap.size w w' := by
  cases hk : c.kindB
  · exact cellText_none c w p hs hk
  · have hno : ¬ c.okB 6 = true := by simp [hok]
    rw [ok_iff] at hno
    obtain ⟨k, a, b, n⟩ := c
    simp only [Cel.kindB, decide_eq_true_eq] at hk
    simp only at hno ⊢
    rcases hk with ⟨rfl, rfl, rfl⟩ | ⟨rfl, rfl, rfl⟩ | ⟨rfl, rfl⟩
    · exact cellText_colNo a w p hs (colB_no.2 (by omega))
    · exact cellText_numNo n w p hs (by rw [Bool.eq_false_iff, Ne, cellB_iff]; omega)
    · refine cellText_twoNo a b w p hs ?_
      rw [Bool.eq_false_iff, Ne, Bool.and_eq_true, colB_iff, colB_iff]
      omega
theorem implCellText_any (c : Cel) (w : World) (p : Addr) (hs : Sent w p) (ht : Tab3 w) :
    Calls Tryz.prog 21 #[.agg #[.int .i64 c.k, .int .i64 c.a, .int .i64 c.b, .int .i64 c.n]] w fun e w' => ∃ s : ByteArray, e = .returned (.string s) ∧ s.data.toList = c.txO ∧ s.size ≤ 62 ∧ Below w.heap.size w w' := by
  cases hok : c.okB 6
  · refine (implCellText_no c w p hs hok).mono fun e w' ⟨he, hb⟩ => ⟨_, he, ?_, by decide, hb⟩
    rw [Cel.txO, hok]; rfl
  · refine (implCellText_ok c w p hs ht hok).mono fun e w' ⟨s, he, h1, h2, hb⟩ => ⟨s, he, ?_, h2, hb⟩
    rw [Cel.txO, hok, h1]; rfl

set_option maxRecDepth 100000 in
set_option maxHeartbeats 1000000 in
theorem specCellText_no (c : Cel) (w : World) (hok : c.okB 6 = false) :
    Calls Tryz.prog 23 #[.agg #[.int .i64 c.k, .int .i64 c.a, .int .i64 c.b, .int .i64 c.n]] w fun e w' => e = .returned (.string ⟨#[]⟩) ∧ Below w.heap.size w w' := by
  go_enter Tryz.func23, Tryz.ntmps23
  go_wp2_with fail
  refine (specCellOk_any c 6 _).mono ?_
  rw [hok]
  rintro e w2 ⟨rfl, hb2⟩
  have HB : Hid (Below w.heap.size w w2) := bel_then (bel_alloc _) hb2
  clear hb2
  go_wp2
  go_ret
  exact ⟨rfl, HB.out⟩

theorem dec_size {s : ByteArray} {n : Int} (h : s.data.toList = Lib.itoa n) (h0 : -9223372036854775808 ≤ n) (h1 : n ≤ 9223372036854775807) : s.size ≤ 21 := by
  have := Lib.itoa_length_le n h0 h1
  rw [← h, Array.length_toList] at this
  exact this

set_option maxRecDepth 100000 in
set_option maxHeartbeats 1000000 in
theorem specCellText_col (a : Int) (w : World) (h : 0 ≤ a ∧ a < 6) (hok : Cel.okB ⟨1, a, 0, 0⟩ 6 = true) :
    Calls Tryz.prog 23 #[.agg #[.int .i64 1, .int .i64 a, .int .i64 0, .int .i64 0]] w fun e w' => ∃ s : ByteArray, e = .returned (.string s) ∧ s.data.toList = 99 :: Lib.itoa a ∧ s.size ≤ 62 ∧ Below w.heap.size w w' := by
  go_enter Tryz.func23, Tryz.ntmps23
  go_wp2_with fail
  refine (specCellOk_any ⟨1, a, 0, 0⟩ 6 _).mono ?_
  rw [hok]
  rintro e w2 ⟨rfl, hb2⟩
  have HB : Hid (Below w.heap.size w w2) := bel_then (bel_alloc _) hb2
  obtain ⟨_, c0, c1, c2, c3⟩ := (Box4.start w ⟨1, a, 0, 0⟩ _).below hb2
  simp only at c0 c1 c2 c3
  clear hb2
  go_wp2_with fail
  refine (l12Dec_any a _ (by omega) (by omega)).mono ?_
  rintro e w3 ⟨s, rfl, hs, hb3⟩
  have hz := dec_size hs (by omega) (by omega)
  have HS : Hid (s.data.toList = Lib.itoa a) := hs
  have HB3 : Hid (Below w.heap.size w w3) := bel_then HB.out hb3
  have hlen : ¬ 9223372036854775807 < 1 + s.size := by omega
  clear hs hb3 c0 c1 c2 c3
  go_wp2
  go_ret
  exact ⟨_, rfl, by simp [HS.out], by rw [ByteArray.size_append]; show 1 + s.size ≤ 62; omega, HB3.out⟩

set_option maxRecDepth 100000 in
set_option maxHeartbeats 1000000 in
theorem specCellText_num (n : Int) (w : World) (h : -1000000000 ≤ n ∧ n ≤ 1000000000) (hok : Cel.okB ⟨2, 0, 0, n⟩ 6 = true) :
    Calls Tryz.prog 23 #[.agg #[.int .i64 2, .int .i64 0, .int .i64 0, .int .i64 n]] w fun e w' => ∃ s : ByteArray, e = .returned (.string s) ∧ s.data.toList = 35 :: Lib.itoa n ∧ s.size ≤ 62 ∧ Below w.heap.size w w' := by
  go_enter Tryz.func23, Tryz.ntmps23
  go_wp2_with fail
  refine (specCellOk_any ⟨2, 0, 0, n⟩ 6 _).mono ?_
  rw [hok]
  rintro e w2 ⟨rfl, hb2⟩
  have HB : Hid (Below w.heap.size w w2) := bel_then (bel_alloc _) hb2
  obtain ⟨_, c0, c1, c2, c3⟩ := (Box4.start w ⟨2, 0, 0, n⟩ _).below hb2
  simp only at c0 c1 c2 c3
  clear hb2
  go_wp2_with fail
  refine (l12Dec_any n _ (by omega) (by omega)).mono ?_
  rintro e w3 ⟨s, rfl, hs, hb3⟩
  have hz := dec_size hs (by omega) (by omega)
  have HS : Hid (s.data.toList = Lib.itoa n) := hs
  have HB3 : Hid (Below w.heap.size w w3) := bel_then HB.out hb3
  have hlen : ¬ 9223372036854775807 < 1 + s.size := by omega
  clear hs hb3 c0 c1 c2 c3
  go_wp2
  go_ret
  exact ⟨_, rfl, by simp [HS.out], by rw [ByteArray.size_append]; show 1 + s.size ≤ 62; omega, HB3.out⟩

set_option maxRecDepth 100000 in
set_option maxHeartbeats 4000000 in
theorem specCellText_two (a b : Int) (w : World) (h : 0 ≤ a ∧ a < 6) (h2 : 0 ≤ b ∧ b < 6) (hok : Cel.okB ⟨3, a, b, 0⟩ 6 = true) :
    Calls Tryz.prog 23 #[.agg #[.int .i64 3, .int .i64 a, .int .i64 b, .int .i64 0]] w fun e w' => ∃ s : ByteArray, e = .returned (.string s) ∧ s.data.toList = 99 :: Lib.itoa a ++ 43 :: 99 :: Lib.itoa b ∧ s.size ≤ 62 ∧ Below w.heap.size w w' := by
  go_enter Tryz.func23, Tryz.ntmps23
  go_wp2_with fail
  refine (specCellOk_any ⟨3, a, b, 0⟩ 6 _).mono ?_
  rw [hok]
  rintro e w2 ⟨rfl, hb2⟩
  have HB : Hid (Below w.heap.size w w2) := bel_then (bel_alloc _) hb2
  have X2 : Hid (Box4 w2 w.heap.size ⟨3, a, b, 0⟩) := (Box4.start w ⟨3, a, b, 0⟩ _).below hb2
  obtain ⟨_, c0, c1, c2, c3⟩ := X2.out
  simp only at c0 c1 c2 c3
  clear hb2
  go_wp2_with fail
  go_region_with (first
    | (have hB3 := HB3; clear hB3; go_at_call 50; refine (l12Dec_any b _ (by omega) (by omega)).mono ?_; rintro e w4 ⟨s2, rfl, hs2, hb4⟩; have hz2 := dec_size hs2 (by omega) (by omega); have HS2 : Hid (s2.data.toList = Lib.itoa b) := hs2; have hy2 : ¬ 9223372036854775807 < 1 + s.size + 2 + s2.size := (by omega); have HB4 : Hid (Below w.heap.size w w4) := bel_then (by first | exact HB3.out | exact HB3.out.drew | exact below_drewN HB3.out _) hb4; clear hs2 hb4)
    | (go_at_call 50; refine (l12Dec_any a _ (by omega) (by omega)).mono ?_; rintro e w3 ⟨s, rfl, hs, hb3⟩; have hz := dec_size hs (by omega) (by omega); have HS : Hid (s.data.toList = Lib.itoa a) := hs; have hy : ¬ 9223372036854775807 < 1 + s.size := (by omega); have hy1 : ¬ 9223372036854775807 < 1 + s.size + 2 := (by omega); have HB3 : Hid (Below w.heap.size w w3) := bel_then (by first | exact HB.out | exact HB.out.drew | exact below_drewN HB.out _) hb3; have X3 : Hid (Box4 w3 w.heap.size ⟨3, a, b, 0⟩) := (by first | exact X2.out.below hb3 | exact (X2.out.below (Below.drew (Below.refl _ _))).below hb3); obtain ⟨_, d0, d1, d2, d3⟩ := X3.out; simp only at d0 d1 d2 d3; clear hs hb3))
  all_goals (try go_wp2)
  all_goals (go_ret; exact ⟨_, rfl, by simp [HS.out, HS2.out], by rw [ByteArray.size_append, ByteArray.size_append, ByteArray.size_append]; show 1 + s.size + 2 + s2.size ≤ 62; omega, (by first | exact HB4.out | exact HB4.out.drew | exact below_drewN HB4.out _)⟩)

theorem specCellText_any (c : Cel) (w : World) :
    Calls Tryz.prog 23 #[.agg #[.int .i64 c.k, .int .i64 c.a, .int .i64 c.b, .int .i64 c.n]] w fun e w' => ∃ s : ByteArray, e = .returned (.string s) ∧ s.data.toList = c.txO ∧ s.size ≤ 62 ∧ Below w.heap.size w w' := by
  cases hok : c.okB 6
  · refine (specCellText_no c w hok).mono fun e w' ⟨he, hb⟩ => ⟨_, he, ?_, by decide, hb⟩
    rw [Cel.txO, hok]; rfl
  · have e : c.txO = c.tx := by rw [Cel.txO, hok]; rfl
    rw [e]
    have hok' := hok
    rw [ok_iff] at hok
    obtain ⟨k, a, b, n⟩ := c
    simp only at hok ⊢
    rcases hok with ⟨rfl, h2, rfl, rfl⟩ | ⟨rfl, rfl, rfl, h4⟩ | ⟨rfl, h2, h3, rfl⟩
    · have e : Cel.tx ⟨1, a, 0, 0⟩ = 99 :: Lib.itoa a := by simp [Cel.tx]
      rw [e]
      exact specCellText_col a w (by omega) hok'
    · have e : Cel.tx ⟨2, 0, 0, n⟩ = 35 :: Lib.itoa n := by simp [Cel.tx]
      rw [e]
      exact specCellText_num n w h4 hok'
    · have e : Cel.tx ⟨3, a, b, 0⟩ = 99 :: Lib.itoa a ++ 43 :: 99 :: Lib.itoa b := by simp [Cel.tx]
      rw [e]
      exact specCellText_two a b w (by omega) (by omega) hok'

end Go.Proofs.YtkgopbffgahhcaaGreatDoor
