/-
  The walk of laws.FnExactTestOf, out of the contracts: it answers true at every test and int slice, and nothing that was there is written. Condition: the error of chapter 3 reads as it was laid.
-/
import Derived.Test.YtegnpbkgfhjdoabDoorTestSpec2
import Derived.Test.YtegnpbkgfhjdoabDoorTestImpl
import Derived.Test.YtegnpbkgfhjdoabDoorCellLaw
import Derived.Test.YtegnpbkgfhjdoabDoorCellIn
import Derived.Test.YtegnpbkgfhjdoabDoorInts
import Derived.Test.YtegnpbkgfhjdoabDoorLaidSent
namespace Go.Proofs.YtegnpbkgfhjdoabDoor
open Go.RowKit

set_option maxRecDepth 100000 in
set_option maxHeartbeats 1000000 in
theorem lawTestOf (t : Tst) (_h : t.Wf) (a : Option Addr) (len cap : Nat) (zs : List Int) (w : World) (h : IsRow .i64 w a len cap zs) (hs : HasSent w) :
    Calls Tryd.prog 3 #[.agg #[.int .i64 t.k, .bool t.no, .int .i64 t.l.k, .int .i64 t.l.a, .int .i64 t.l.b, .int .i64 t.l.n, .int .i64 t.r.k, .int .i64 t.r.a, .int .i64 t.r.b, .int .i64 t.r.n], .slice a len cap] w fun e w' => e = .returned (.bool true) ∧ Below w.heap.size w w' := by
  by_cases hlim : len ≤ 1048576
  · obtain ⟨p, hp⟩ := hs
    obtain ⟨xs, hlen, hx⟩ := h.ints (by omega)
    have HL : Hid (xs.length ≤ 1048576) := by show _ ≤ _; omega
    have HE : Hid (xs.length = len) := hlen
    clear hlen
    obtain ⟨r, HR⟩ : ∃ r, Hid (r = t.valB xs) := ⟨_, Eq.refl _⟩
    obtain ⟨d, HT⟩ : ∃ d, Hid (d = t.toldB xs) := ⟨_, Eq.refl _⟩
    have hr : (r != r) = false := by simp
    have ht : (d != d) = false := by simp
    go_enter Tryd.func3, Tryd.ntmps3
    go_wp2_with fail
    refine (toTest_any t _).mono ?_
    rintro e w1 ⟨rfl, hb1⟩
    have B1 : Hid (Below w.heap.size w w1) := bel_then (bel_alloc _) hb1
    have X1 : Hid (Box10 w1 w.heap.size t) := (Box10.start w t _).below hb1
    clear hb1
    go_wp2_with fail
    refine (toIntS_any _ xs _ (hx.below B1.out) HL.out).mono ?_
    rintro e w2 ⟨rfl, ho2, hb2⟩
    have B2 : Hid (Below w.heap.size w w2) := bel_then B1.out hb2
    have X2 : Hid (Box10 w2 w.heap.size t) := X1.out.below hb2
    have I2 : Hid (IntsAt w2 (.slice (some ⟨w1.heap.size, 0, none⟩) xs.length xs.length) xs) := ints_of_row (Nat.le_trans HL.out (by omega)) ho2
    clear hb2 ho2 X1
    go_wp2_with fail
    refine (specTestOf_any t _ xs _ I2.out).mono ?_
    rintro e w3 ⟨rfl, hb3⟩
    rw [← HR.out, ← HT.out]
    have B3 : Hid (Below w.heap.size w w3) := bel_then B2.out hb3
    have X3 : Hid (Box10 w3 w.heap.size t) := X2.out.below hb3
    clear hb3 I2 X2
    go_wp2_with fail
    refine (toIntS_any _ xs _ (hx.below B3.out) HL.out).mono ?_
    rintro e w4 ⟨rfl, ho4, hb4⟩
    have B4 : Hid (Below w.heap.size w w4) := bel_then B3.out hb4
    have X4 := X3.out.below hb4
    obtain ⟨_, c0, c1, ⟨c2, c3, c4, c5⟩, c6, c7, c8, c9⟩ := X4
    have I4 : Hid (IntsAt w4 (.slice (some ⟨w3.heap.size, 0, none⟩) xs.length xs.length) xs) := ints_of_row (Nat.le_trans HL.out (by omega)) ho4
    clear hb4 ho4 X3
    go_wp2_with fail
    refine (toTest_any t _).mono ?_
    rintro e w5 ⟨rfl, hb5⟩
    have B5 : Hid (Below w.heap.size w w5) := bel_then B4.out hb5
    have I5 : Hid (IntsAt w5 (.slice (some ⟨w3.heap.size, 0, none⟩) xs.length xs.length) xs) := I4.out.below hb5
    clear hb5 c0 c1 c2 c3 c4 c5 c6 c7 c8 c9
    go_wp2_with fail
    refine (implTestOf_any t _ xs _ p (hp.below B5.out) I5.out).mono ?_
    rintro e w6 ⟨rfl, hb6⟩
    rw [← HR.out, ← HT.out]
    have B6 : Hid (Below w.heap.size w w6) := bel_then B5.out hb6
    have I6 : Hid (IntsAt w6 (.slice (some ⟨w3.heap.size, 0, none⟩) xs.length xs.length) xs) := I5.out.below hb6
    clear hb6
    go_wp2_with fail
    refine (toIntS_any _ xs _ (hx.below B6.out) HL.out).mono ?_
    rintro e w7 ⟨rfl, ho7, hb7⟩
    have B7 : Hid (Below w.heap.size w w7) := bel_then B6.out hb7
    have I7 : Hid (IntsAt w7 (.slice (some ⟨w3.heap.size, 0, none⟩) xs.length xs.length) xs) := I6.out.below hb7
    have J7 : Hid (IntsAt w7 (.slice (some ⟨w6.heap.size, 0, none⟩) xs.length xs.length) xs) := ints_of_row (Nat.le_trans HL.out (by omega)) ho7
    clear hb7 ho7
    go_wp2_with fail
    refine (eqIntS_any _ _ xs xs _ I7.out J7.out).mono ?_
    rintro e w8 ⟨rfl, hb8⟩
    rw [sameB_refl]
    have B8 : Hid (Below w.heap.size w w8) := bel_then B7.out hb8
    clear hb8
    go_wp2
    go_ret
    exact ⟨rfl, B8.out⟩
  · have hbig : (1048576 : Int) < (len : Int) := by omega
    go_enter Tryd.func3, Tryd.ntmps3
    go_wp2
    go_ret
    exact ⟨rfl, bel_alloc _⟩

end Go.Proofs.YtegnpbkgfhjdoabDoor
