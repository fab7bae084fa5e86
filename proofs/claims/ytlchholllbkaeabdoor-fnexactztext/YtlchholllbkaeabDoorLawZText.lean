/-
  The walk of laws.FnExactZText, out of the contracts: it answers true at all items, and nothing that was there is written. Condition: the table of powers of ten reads as it was laid.
-/
import Derived.Test.YtlchholllbkaeabDoorZText
namespace Go.Proofs.YtlchholllbkaeabDoor
open Go.RowKit

theorem bytes_ext' {s t : ByteArray} (h : s.data.toList = t.data.toList) : s = t := by
  obtain ⟨⟨a⟩⟩ := s
  obtain ⟨⟨b⟩⟩ := t
  simp at h
  rw [h]

set_option maxHeartbeats 4000000 in
theorem lawZText (v : Value) (zs : List It) (w : World) (h : RawItems w v zs) (hwf : WfItems zs) (htab : Tab w) :
    Calls Tryd.prog 3 #[v] w fun e w' => e = .returned (.bool true) ∧ Below w.heap.size w w' := by
  have hwz := hwf.all
  have HTAB : Hid (Tab w) := htab
  clear htab hwf
  go_enter Tryd.func3, Tryd.ntmps3
  go_wp2_with fail
  refine (szItemS_any v zs 1048576 _ h (by omega) (by omega)).mono ?_
  rintro e w1 ⟨r, rfl, hr, hb1⟩
  by_cases hneg : r < 0
  · clear hr
    go_wp2
    go_ret
    exact ⟨rfl, hb1⟩
  · have hlim : zs.length + rowsLen zs ≤ 1048576 := by omega
    have hz0 := (h.items hlim)
    clear hr h
    go_wp2_with fail
    refine (toItemS_any v zs _ (hz0.below hb1) hlim).mono ?_
    rintro e w2 ⟨v2, rfl, Z2, hb2⟩
    have hk2 := below_then hb1 hb2
    go_wp2_with fail
    refine (specZText_any v2 zs _ Z2.items hwz hlim).mono ?_
    rintro e w3 ⟨s, rfl, hs, hb3⟩
    have hk3 := below_then hk2 hb3
    have HS : Hid (s.data.toList = zTx zs) := hs
    clear Z2 hb1 hb2 hb3 hk2 hs
    go_wp2_with fail
    refine (toItemS_any v zs _ (hz0.below hk3) hlim).mono ?_
    rintro e w4 ⟨vx, rfl, X4, hb4⟩
    have hk4 := below_then hk3 hb4
    go_wp2_with fail
    refine (implZText_any vx zs _ (HTAB.out.below hk4) X4.items hwz hlim).mono ?_
    rintro e w5 ⟨t, rfl, ht, hb5⟩
    obtain rfl : t = s := bytes_ext' (by rw [ht]; exact HS.out.symm)
    have hk5 := below_then hk4 hb5
    have X5 := X4.keep' hb5
    clear X4 hb4 hb5 hk3 hk4 ht
    go_wp2_with fail
    refine (toItemS_any v zs _ (hz0.below hk5) hlim).mono ?_
    rintro e w7 ⟨v7, rfl, Z7, hb7⟩
    have hk7 := below_then hk5 hb7
    have X7 := X5.keep' hb7
    clear X5 hb7 hk5
    go_wp2_with fail
    refine (eqItemS_self vx v7 zs _ X7.items Z7.items).mono ?_
    rintro e w8 ⟨rfl, hb8⟩
    have hk8 := below_then hk7 hb8
    clear X7 Z7 hb8 hk7 hz0 hwz
    go_wp2
    go_ret
    exact ⟨rfl, hk8⟩

end Go.Proofs.YtlchholllbkaeabDoor
