/-
  The walk of laws.FnExactCellRead, out of the contracts: it answers true at every text, and nothing that was there is written. Conditions: the library's variables and the error of chapter 3 read as they were laid.
-/
import Derived.Test.YtegnpbkgfhjdoaaDoorCellScan
namespace Go.Proofs.YtegnpbkgfhjdoaaDoor
open Go.RowKit
set_option linter.unusedVariables false

set_option maxRecDepth 100000 in
set_option maxHeartbeats 1000000 in
theorem eqCell_same (k a b n : Int) (w : World) :
    Calls Tryd.prog 22 #[.agg #[.int .i64 k, .int .i64 a, .int .i64 b, .int .i64 n], .agg #[.int .i64 k, .int .i64 a, .int .i64 b, .int .i64 n]] w fun e w' => e = .returned (.bool true) ∧ Below w.heap.size w w' := by
  have h1 : (k != k) = false := by simp
  have h2 : (a != a) = false := by simp
  have h3 : (b != b) = false := by simp
  have h4 : (n != n) = false := by simp
  go_enter Tryd.func22, Tryd.ntmps22
  go_wp2
  go_ret
  exact ⟨rfl, bel_then (bel_alloc _) (bel_alloc _)⟩

set_option maxRecDepth 100000 in
set_option maxHeartbeats 1000000 in
theorem lawCellRead (s : ByteArray) (_h : s.size ≤ maxLen) (w : World) (hs : ∃ p, Can p w) :
    Calls Tryd.prog 7 #[.string s] w fun e w' => e = .returned (.bool true) ∧ Below w.heap.size w w' := by
  by_cases hlim : s.size ≤ 1048576
  · obtain ⟨p, hc⟩ := hs
    obtain ⟨c, HC⟩ : ∃ c, Hid (c = outC (readC s.data.toList)) := ⟨_, Eq.refl _⟩
    obtain ⟨d, HD⟩ : ∃ d, Hid (d = (readC s.data.toList).isSome) := ⟨_, Eq.refl _⟩
    have hd : (d != d) = false := by simp
    go_enter Tryd.func7, Tryd.ntmps7
    go_wp2_with fail
    refine (specCellRead_any s hlim _).mono ?_
    rw [← HC.out, ← HD.out]
    obtain ⟨k, a, b, n⟩ := c
    simp only
    rintro e w1 ⟨rfl, hb1⟩
    have B1 : Hid (Below w.heap.size w w1) := hb1
    clear hb1
    go_wp2_with fail
    refine (implCellRead_any s hlim _ p (hc.below (bel_then B1.out (bel_alloc _)))).mono ?_
    rw [← HC.out, ← HD.out]
    simp only
    rintro e w2 ⟨rfl, hb2⟩
    have X2 : Hid (Box4 w2 w1.heap.size ⟨k, a, b, n⟩) := (Box4.start w1 ⟨k, a, b, n⟩ _).below hb2
    have B2 : Hid (Below w.heap.size w w2) := bel_then B1.out (bel_then (bel_alloc _) hb2)
    clear hb2
    obtain ⟨_, c0, c1, c2, c3⟩ := X2.out
    simp only at c0 c1 c2 c3
    go_wp2_with fail
    refine (eqCell_same _ _ _ _ _).mono ?_
    rintro e w3 ⟨rfl, hb3⟩
    have B3 : Hid (Below w.heap.size w w3) := bel_then B2.out (bel_then (bel_alloc _) hb3)
    clear hb3 c0 c1 c2 c3
    go_wp2
    go_ret
    exact ⟨rfl, B3.out⟩
  · have hbig : (1048576 : Int) < (s.size : Int) := by omega
    go_enter Tryd.func7, Tryd.ntmps7
    go_wp2
    go_ret
    exact ⟨rfl, Below.refl _ _⟩

end Go.Proofs.YtegnpbkgfhjdoaaDoor
