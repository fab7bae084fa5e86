/-
  The contract of the program's own TestRead: it answers readT. Conditions: what the library's variables hold (Can).
-/
import Derived.Test.YtkgopbffgahhcaaGreatDoorTestText
import Derived.Test.YtkgopbffgahhcaaGreatDoorTestReadSpec
namespace Go.Proofs.YtkgopbffgahhcaaGreatDoor
open Go.RowKit
set_option linter.unusedVariables false

theorem str_ne3 (a b : ByteArray) : (a.toList == b.toList) = decide (a.data.toList = b.data.toList) := by
  rw [ByteArray.toList_eq, ByteArray.toList_eq]
  by_cases h : a.data.toList = b.data.toList
  · simp [h]
  · rw [decide_eq_false h, beq_eq_false_iff_ne]; exact h

set_option maxRecDepth 100000 in
set_option maxHeartbeats 2000000 in
theorem tread_no (s : ByteArray) (hs : s.size ≤ 1048576) (w : World) (p : Addr) (hc : Can p w) (t : Tst) (hsc : scanT s.data.toList = t) (hok : t.okB 6 = false) :
    Calls Tryz.prog 33 #[.string s] w fun e w' => e = .returned (.tuple #[.agg #[.int .i64 0, .bool false, .int .i64 0, .int .i64 0, .int .i64 0, .int .i64 0, .int .i64 0, .int .i64 0, .int .i64 0, .int .i64 0], .bool false]) ∧ Below w.heap.size w w' := by
  obtain ⟨k, no, ⟨lk, la, lb, ln⟩, ⟨rk, ra, rb, rn⟩⟩ := t
  try simp only
  go_enter Tryz.func33, Tryz.ntmps33
  go_wp2_with fail
  refine (scanTest_any s hs _ p (hc.below (bel_alloc _))).mono ?_
  rw [hsc]
  simp only
  rintro e w1 ⟨rfl, hb1⟩
  have z1 := at_below (alloc_at w _) hb1
  have B1 : Hid (Below w.heap.size w w1) := bel_then (bel_alloc _) hb1
  clear hb1
  go_wp2_with fail
  refine (implTestOk_any ⟨k, no, ⟨lk, la, lb, ln⟩, ⟨rk, ra, rb, rn⟩⟩ _ _ p (hc.1.below (bel_then B1.out (bel_alloc _)))).mono ?_
  rw [hok]
  rintro e w2 ⟨rfl, hb2⟩
  have hs1 : w.heap.size < w1.heap.size := (Array.getElem?_eq_some_iff.1 z1).1
  have z2 := at_below z1 (bel_then (bel_alloc _) hb2)
  have X2 : Hid (Box10 w2 w1.heap.size ⟨k, no, ⟨lk, la, lb, ln⟩, ⟨rk, ra, rb, rn⟩⟩) := (Box10.start w1 ⟨k, no, ⟨lk, la, lb, ln⟩, ⟨rk, ra, rb, rn⟩⟩ _).below hb2
  have B2 : Hid (Below w.heap.size w w2) := bel_then B1.out (bel_then (bel_alloc _) hb2)
  clear hb2 z1
  have BL := B2.out
  obtain ⟨⟨d0, d1, d2, d3, d4, d5, d6, d7, d8, d9⟩, f0, f1, f2, f3, f4, f5, f6, f7, f8, f9⟩ := ten_cells z2
  have hnb : w.heap.size ≠ w1.heap.size := by omega
  have hnb2 : w1.heap.size ≠ w.heap.size := by omega
  go_wp2
  refine bodyPost_ret (v := .tuple #[.agg #[.int .i64 0, .bool false, .int .i64 0, .int .i64 0, .int .i64 0, .int .i64 0, .int .i64 0, .int .i64 0, .int .i64 0, .int .i64 0], .bool false]) (by simp [results, Tryz.results33, go_sem, d0, d1, d2, d3, d4, d5, d6, d7, d8, d9]) rfl ⟨rfl, ?_⟩
  iterate 10 refine Below.setCell ?_ (by simp) _
  exact BL

set_option maxRecDepth 100000 in
set_option maxHeartbeats 2000000 in
theorem tread_tx (s : ByteArray) (hs : s.size ≤ 1048576) (w : World) (p : Addr) (hc : Can p w) (t : Tst) (hsc : scanT s.data.toList = t) (hok : t.okB 6 = true) (htx : ¬ t.tx = s.data.toList) :
    Calls Tryz.prog 33 #[.string s] w fun e w' => e = .returned (.tuple #[.agg #[.int .i64 0, .bool false, .int .i64 0, .int .i64 0, .int .i64 0, .int .i64 0, .int .i64 0, .int .i64 0, .int .i64 0, .int .i64 0], .bool false]) ∧ Below w.heap.size w w' := by
  obtain ⟨k, no, ⟨lk, la, lb, ln⟩, ⟨rk, ra, rb, rn⟩⟩ := t
  try simp only
  go_enter Tryz.func33, Tryz.ntmps33
  go_wp2_with fail
  refine (scanTest_any s hs _ p (hc.below (bel_alloc _))).mono ?_
  rw [hsc]
  simp only
  rintro e w1 ⟨rfl, hb1⟩
  have z1 := at_below (alloc_at w _) hb1
  have B1 : Hid (Below w.heap.size w w1) := bel_then (bel_alloc _) hb1
  clear hb1
  go_wp2_with fail
  refine (implTestOk_any ⟨k, no, ⟨lk, la, lb, ln⟩, ⟨rk, ra, rb, rn⟩⟩ _ _ p (hc.1.below (bel_then B1.out (bel_alloc _)))).mono ?_
  rw [hok]
  rintro e w2 ⟨rfl, hb2⟩
  have hs1 : w.heap.size < w1.heap.size := (Array.getElem?_eq_some_iff.1 z1).1
  have z2 := at_below z1 (bel_then (bel_alloc _) hb2)
  have X2 : Hid (Box10 w2 w1.heap.size ⟨k, no, ⟨lk, la, lb, ln⟩, ⟨rk, ra, rb, rn⟩⟩) := (Box10.start w1 ⟨k, no, ⟨lk, la, lb, ln⟩, ⟨rk, ra, rb, rn⟩⟩ _).below hb2
  have B2 : Hid (Below w.heap.size w w2) := bel_then B1.out (bel_then (bel_alloc _) hb2)
  clear hb2 z1
  obtain ⟨_, c0, c1, ⟨c2, c3, c4, c5⟩, c6, c7, c8, c9⟩ := X2.out
  simp only at c0 c1 c2 c3 c4 c5 c6 c7 c8 c9
  go_wp2_with fail
  refine (implTestText_ok ⟨k, no, ⟨lk, la, lb, ln⟩, ⟨rk, ra, rb, rn⟩⟩ _ p (hc.1.below B2.out) (hc.2.1.below B2.out) hok).mono ?_
  rintro e w3 ⟨s2, rfl, hs2, hb3⟩
  have z3 := at_below z2 hb3
  have X3 : Hid (Box10 w3 w1.heap.size ⟨k, no, ⟨lk, la, lb, ln⟩, ⟨rk, ra, rb, rn⟩⟩) := X2.out.below hb3
  have B3 : Hid (Below w.heap.size w w3) := bel_then B2.out hb3
  have he : (s2.toList == s.toList) = false := by rw [str_ne3, hs2]; simpa using htx
  have hn : (s2.toList != s.toList) = true := by rw [bne, he]; rfl
  clear hb3 z2 c0 c1 c2 c3 c4 c5 c6 c7 c8 c9 hs2
  obtain ⟨_, c0, c1, ⟨c2, c3, c4, c5⟩, c6, c7, c8, c9⟩ := X3.out
  simp only at c0 c1 c2 c3 c4 c5 c6 c7 c8 c9
  have BL := B3.out
  obtain ⟨⟨d0, d1, d2, d3, d4, d5, d6, d7, d8, d9⟩, f0, f1, f2, f3, f4, f5, f6, f7, f8, f9⟩ := ten_cells z3
  have hnb : w.heap.size ≠ w1.heap.size := by omega
  have hnb2 : w1.heap.size ≠ w.heap.size := by omega
  go_wp2
  refine bodyPost_ret (v := .tuple #[.agg #[.int .i64 0, .bool false, .int .i64 0, .int .i64 0, .int .i64 0, .int .i64 0, .int .i64 0, .int .i64 0, .int .i64 0, .int .i64 0], .bool false]) (by simp [results, Tryz.results33, go_sem, d0, d1, d2, d3, d4, d5, d6, d7, d8, d9]) rfl ⟨rfl, ?_⟩
  iterate 10 refine Below.setCell ?_ (by simp) _
  exact BL

set_option maxRecDepth 100000 in
set_option maxHeartbeats 2000000 in
theorem tread_yes (s : ByteArray) (hs : s.size ≤ 1048576) (w : World) (p : Addr) (hc : Can p w) (t : Tst) (hsc : scanT s.data.toList = t) (hok : t.okB 6 = true) (htx : t.tx = s.data.toList) :
    Calls Tryz.prog 33 #[.string s] w fun e w' => e = .returned (.tuple #[.agg #[.int .i64 t.k, .bool t.no, .int .i64 t.l.k, .int .i64 t.l.a, .int .i64 t.l.b, .int .i64 t.l.n, .int .i64 t.r.k, .int .i64 t.r.a, .int .i64 t.r.b, .int .i64 t.r.n], .bool true]) ∧ Below w.heap.size w w' := by
  obtain ⟨k, no, ⟨lk, la, lb, ln⟩, ⟨rk, ra, rb, rn⟩⟩ := t
  try simp only
  go_enter Tryz.func33, Tryz.ntmps33
  go_wp2_with fail
  refine (scanTest_any s hs _ p (hc.below (bel_alloc _))).mono ?_
  rw [hsc]
  simp only
  rintro e w1 ⟨rfl, hb1⟩
  have z1 := at_below (alloc_at w _) hb1
  have B1 : Hid (Below w.heap.size w w1) := bel_then (bel_alloc _) hb1
  clear hb1
  go_wp2_with fail
  refine (implTestOk_any ⟨k, no, ⟨lk, la, lb, ln⟩, ⟨rk, ra, rb, rn⟩⟩ _ _ p (hc.1.below (bel_then B1.out (bel_alloc _)))).mono ?_
  rw [hok]
  rintro e w2 ⟨rfl, hb2⟩
  have hs1 : w.heap.size < w1.heap.size := (Array.getElem?_eq_some_iff.1 z1).1
  have z2 := at_below z1 (bel_then (bel_alloc _) hb2)
  have X2 : Hid (Box10 w2 w1.heap.size ⟨k, no, ⟨lk, la, lb, ln⟩, ⟨rk, ra, rb, rn⟩⟩) := (Box10.start w1 ⟨k, no, ⟨lk, la, lb, ln⟩, ⟨rk, ra, rb, rn⟩⟩ _).below hb2
  have B2 : Hid (Below w.heap.size w w2) := bel_then B1.out (bel_then (bel_alloc _) hb2)
  clear hb2 z1
  obtain ⟨_, c0, c1, ⟨c2, c3, c4, c5⟩, c6, c7, c8, c9⟩ := X2.out
  simp only at c0 c1 c2 c3 c4 c5 c6 c7 c8 c9
  go_wp2_with fail
  refine (implTestText_ok ⟨k, no, ⟨lk, la, lb, ln⟩, ⟨rk, ra, rb, rn⟩⟩ _ p (hc.1.below B2.out) (hc.2.1.below B2.out) hok).mono ?_
  rintro e w3 ⟨s2, rfl, hs2, hb3⟩
  have z3 := at_below z2 hb3
  have X3 : Hid (Box10 w3 w1.heap.size ⟨k, no, ⟨lk, la, lb, ln⟩, ⟨rk, ra, rb, rn⟩⟩) := X2.out.below hb3
  have B3 : Hid (Below w.heap.size w w3) := bel_then B2.out hb3
  have he : (s2.toList == s.toList) = true := by rw [str_ne3, hs2]; simpa using htx
  have hn : (s2.toList != s.toList) = false := by rw [bne, he]; rfl
  clear hb3 z2 c0 c1 c2 c3 c4 c5 c6 c7 c8 c9 hs2
  obtain ⟨_, c0, c1, ⟨c2, c3, c4, c5⟩, c6, c7, c8, c9⟩ := X3.out
  simp only at c0 c1 c2 c3 c4 c5 c6 c7 c8 c9
  have BL := B3.out
  obtain ⟨⟨d0, d1, d2, d3, d4, d5, d6, d7, d8, d9⟩, f0, f1, f2, f3, f4, f5, f6, f7, f8, f9⟩ := ten_cells z3
  have hnb : w.heap.size ≠ w1.heap.size := by omega
  have hnb2 : w1.heap.size ≠ w.heap.size := by omega
  go_wp2
  refine bodyPost_ret (v := .tuple #[.agg #[.int .i64 k, .bool no, .int .i64 lk, .int .i64 la, .int .i64 lb, .int .i64 ln, .int .i64 rk, .int .i64 ra, .int .i64 rb, .int .i64 rn], .bool true]) (by simp [results, Tryz.results33, go_sem, d0, d1, d2, d3, d4, d5, d6, d7, d8, d9]) rfl ⟨rfl, ?_⟩
  iterate 10 refine Below.setCell ?_ (by simp) _
  exact BL

theorem implTestRead_any (s : ByteArray) (hs : s.size ≤ 1048576) (w : World) (p : Addr) (hc : Can p w) :
    Calls Tryz.prog 33 #[.string s] w fun e w' => e = .returned (.tuple #[.agg #[.int .i64 (outT (readT s.data.toList)).k, .bool (outT (readT s.data.toList)).no, .int .i64 (outT (readT s.data.toList)).l.k, .int .i64 (outT (readT s.data.toList)).l.a, .int .i64 (outT (readT s.data.toList)).l.b, .int .i64 (outT (readT s.data.toList)).l.n, .int .i64 (outT (readT s.data.toList)).r.k, .int .i64 (outT (readT s.data.toList)).r.a, .int .i64 (outT (readT s.data.toList)).r.b, .int .i64 (outT (readT s.data.toList)).r.n], .bool (readT s.data.toList).isSome]) ∧ Below w.heap.size w w' := by
  rw [readT_is]
  cases hok : (scanT s.data.toList).okB 6
  · rw [if_neg (by simp)]
    exact tread_no s hs w p hc _ rfl hok
  · by_cases htx : (scanT s.data.toList).tx = s.data.toList
    · rw [if_pos ⟨rfl, htx⟩]
      exact tread_yes s hs w p hc _ rfl hok htx
    · rw [if_neg (fun h => htx h.2)]
      exact tread_tx s hs w p hc _ rfl hok htx

end Go.Proofs.YtkgopbffgahhcaaGreatDoor
