/-
  The walk of laws.FnExactTestRead, out of the contracts: it answers true at every text, and nothing that was there is written. Conditions: the library's variables and the error of chapter 3 read as they were laid.
-/
import Derived.Test.YtegnpbkgfhjdoabDoorTestRead
import Derived.Test.YtegnpbkgfhjdoabDoorLawCellRead
namespace Go.Proofs.YtegnpbkgfhjdoabDoor
open Go.RowKit
set_option linter.unusedVariables false

set_option maxRecDepth 100000 in
set_option maxHeartbeats 2000000 in
theorem eqTest_same (t : Tst) (w : World) :
    Calls Tryd.prog 15 #[.agg #[.int .i64 t.k, .bool t.no, .int .i64 t.l.k, .int .i64 t.l.a, .int .i64 t.l.b, .int .i64 t.l.n, .int .i64 t.r.k, .int .i64 t.r.a, .int .i64 t.r.b, .int .i64 t.r.n], .agg #[.int .i64 t.k, .bool t.no, .int .i64 t.l.k, .int .i64 t.l.a, .int .i64 t.l.b, .int .i64 t.l.n, .int .i64 t.r.k, .int .i64 t.r.a, .int .i64 t.r.b, .int .i64 t.r.n]] w fun e w' => e = .returned (.bool true) ∧ Below w.heap.size w w' := by
  obtain ⟨k, no, ⟨lk, la, lb, ln⟩, ⟨rk, ra, rb, rn⟩⟩ := t
  simp only
  have h1 : (k != k) = false := by simp
  have h2 : (no != no) = false := by simp
  go_enter Tryd.func15, Tryd.ntmps15
  have XA := (Box10.start w ⟨k, no, ⟨lk, la, lb, ln⟩, ⟨rk, ra, rb, rn⟩⟩ 31).below (bel_alloc (.cells #[.int .i64 k, .bool no, .int .i64 lk, .int .i64 la, .int .i64 lb, .int .i64 ln, .int .i64 rk, .int .i64 ra, .int .i64 rb, .int .i64 rn] 31))
  have XB := Box10.start (w.alloc (.cells #[.int .i64 k, .bool no, .int .i64 lk, .int .i64 la, .int .i64 lb, .int .i64 ln, .int .i64 rk, .int .i64 ra, .int .i64 rb, .int .i64 rn] 31)) ⟨k, no, ⟨lk, la, lb, ln⟩, ⟨rk, ra, rb, rn⟩⟩ 31
  rw [alloc_size] at XB
  go_wp2_with fail
  refine (eqCell_same _ _ _ _ _).mono ?_
  rintro e w2 ⟨rfl, hb2⟩
  have B2 : Hid (Below w.heap.size w w2) := bel_then (bel_then (bel_alloc _) (bel_alloc _)) hb2
  obtain ⟨_, a0, a1, ⟨a2, a3, a4, a5⟩, a6, a7, a8, a9⟩ := XA.below hb2
  obtain ⟨_, b0, b1, ⟨b2, b3, b4, b5⟩, b6, b7, b8, b9⟩ := XB.below hb2
  simp only at a0 a1 a2 a3 a4 a5 a6 a7 a8 a9 b0 b1 b2 b3 b4 b5 b6 b7 b8 b9
  clear hb2 XA XB
  go_wp2_with fail
  refine (eqCell_same _ _ _ _ _).mono ?_
  rintro e w3 ⟨rfl, hb3⟩
  have B3 : Hid (Below w.heap.size w w3) := bel_then B2.out hb3
  clear hb3 a0 a1 a2 a3 a4 a5 a6 a7 a8 a9 b0 b1 b2 b3 b4 b5 b6 b7 b8 b9
  go_wp2
  go_ret
  exact ⟨rfl, B3.out⟩

set_option maxRecDepth 100000 in
set_option maxHeartbeats 2000000 in
theorem lawTestRead (s : ByteArray) (_h : s.size ≤ maxLen) (w : World) (hs : ∃ p, Can p w) :
    Calls Tryd.prog 5 #[.string s] w fun e w' => e = .returned (.bool true) ∧ Below w.heap.size w w' := by
  by_cases hlim : s.size ≤ 1048576
  · obtain ⟨p, hc⟩ := hs
    obtain ⟨t, HC⟩ : ∃ t, Hid (t = outT (readT s.data.toList)) := ⟨_, Eq.refl _⟩
    obtain ⟨d, HD⟩ : ∃ d, Hid (d = (readT s.data.toList).isSome) := ⟨_, Eq.refl _⟩
    have hd : (d != d) = false := by simp
    go_enter Tryd.func5, Tryd.ntmps5
    go_wp2_with fail
    refine (specTestRead_any s hlim _).mono ?_
    rw [← HC.out, ← HD.out]
    rintro e w1 ⟨rfl, hb1⟩
    have B1 : Hid (Below w.heap.size w w1) := hb1
    clear hb1
    go_wp2_with fail
    refine (implTestRead_any s hlim _ p (hc.below (bel_then B1.out (bel_alloc _)))).mono ?_
    rw [← HC.out, ← HD.out]
    rintro e w2 ⟨rfl, hb2⟩
    have X2 : Hid (Box10 w2 w1.heap.size t) := (Box10.start w1 t _).below hb2
    have B2 : Hid (Below w.heap.size w w2) := bel_then B1.out (bel_then (bel_alloc _) hb2)
    clear hb2
    obtain ⟨_, c0, c1, ⟨c2, c3, c4, c5⟩, c6, c7, c8, c9⟩ := X2.out
    go_wp2_with fail
    refine (eqTest_same t _).mono ?_
    rintro e w3 ⟨rfl, hb3⟩
    have B3 : Hid (Below w.heap.size w w3) := bel_then B2.out (bel_then (bel_alloc _) hb3)
    clear hb3 c0 c1 c2 c3 c4 c5 c6 c7 c8 c9
    go_wp2
    go_ret
    exact ⟨rfl, B3.out⟩
  · have hbig : (1048576 : Int) < (s.size : Int) := by omega
    go_enter Tryd.func5, Tryd.ntmps5
    go_wp2
    go_ret
    exact ⟨rfl, Below.refl _ _⟩

end Go.Proofs.YtegnpbkgfhjdoabDoor
