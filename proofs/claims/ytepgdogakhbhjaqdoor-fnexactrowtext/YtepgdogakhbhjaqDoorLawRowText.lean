/-
  The walk of laws.FnExactRowText, out of the contracts: it answers true at every int slice, and nothing that was there is written. Condition: the table of powers of ten reads as it was laid.
-/
import Derived.Test.YtepgdogakhbhjaqDoorText
import Derived.Test.YtepgdogakhbhjaqDoorInts
namespace Go.Proofs.YtepgdogakhbhjaqDoor
open Go.RowKit

theorem bytes_ext {s t : ByteArray} (h : s.data.toList = t.data.toList) : s = t := by
  obtain ⟨⟨a⟩⟩ := s
  obtain ⟨⟨b⟩⟩ := t
  simp at h
  rw [h]

set_option maxHeartbeats 1000000 in
theorem lawRowText (a : Option Addr) (len cap : Nat) (zs : List Int) (w : World) (h : IsRow .i64 w a len cap zs) (htab : Tab w) :
    Calls Tryd.prog 3 #[.slice a len cap] w fun e w' => e = .returned (.bool true) ∧ Below w.heap.size w w' := by
  by_cases hlim : len ≤ 1048576
  · obtain ⟨xs, HL, hx, hwf⟩ := h.intsWf (by omega)
    subst HL
    clear h
    go_enter Tryd.func3, Tryd.ntmps3
    go_wp2_with fail
    refine (toIntS_any _ xs _ hx hlim).mono ?_
    rintro e w1 ⟨rfl, ho1, hb1⟩
    have hc1 := ints_of_row (by omega) ho1
    clear ho1
    go_wp2_with fail
    refine (specRowText_any _ xs _ hc1 hwf hlim).mono ?_
    rintro e w2 ⟨s, rfl, hs, hb2⟩
    have hk2 : Below w.heap.size w w2 := hb1.trans (hb2.mono hb1.size)
    have HS : Hid (s.data.toList = rowTx xs) := hs
    clear hc1 hb1 hb2 hs
    go_wp2_with fail
    refine (toIntS_any _ xs _ (hx.below hk2) hlim).mono ?_
    rintro e w3 ⟨rfl, ho3, hb3⟩
    have hc3 := ints_of_row (by omega) ho3
    have hk3 : Below w.heap.size w w3 := hk2.trans (hb3.mono hk2.size)
    clear ho3 hb3 hk2
    go_wp2_with fail
    refine (implRowText_any _ xs _ (htab.below hk3) hc3 hwf hlim).mono ?_
    rintro e w4 ⟨t, rfl, ht, hb4⟩
    obtain rfl : t = s := bytes_ext (by rw [ht]; exact HS.out.symm)
    have hc4 := hc3.below hb4
    have hk4 : Below w.heap.size w w4 := hk3.trans (hb4.mono hk3.size)
    clear hc3 hb4 hk3 ht
    go_wp2_with fail
    refine (toIntS_any _ xs _ (hx.below hk4) hlim).mono ?_
    rintro e w5 ⟨rfl, ho5, hb5⟩
    have hc5 := ints_of_row (by omega) ho5
    have hd5 := hc4.below hb5
    have hk5 : Below w.heap.size w w5 := hk4.trans (hb5.mono hk4.size)
    clear ho5 hb5 hk4 hc4
    go_wp2_with fail
    refine (eqIntS_any _ _ xs xs _ hd5 hc5).mono ?_
    rintro e w6 ⟨rfl, hb6⟩
    rw [sameB_refl]
    have hk6 : Below w.heap.size w w6 := hk5.trans (hb6.mono hk5.size)
    clear hc5 hd5 hb6 hk5 hx hwf htab
    go_wp2
    go_ret
    exact ⟨rfl, hk6⟩
  · have hbig : (1048576 : Int) < (len : Int) := by omega
    go_enter Tryd.func3, Tryd.ntmps3
    go_wp2
    go_ret
    exact ⟨rfl, Below.refl _ _⟩

end Go.Proofs.YtepgdogakhbhjaqDoor
