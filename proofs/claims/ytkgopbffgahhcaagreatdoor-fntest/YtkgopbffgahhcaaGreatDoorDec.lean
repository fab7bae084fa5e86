/-
  The contract of spec.l12Dec: at every int it returns the number in decimals, and writes nothing that was there.
-/
import Derived.Test.YtkgopbffgahhcaaGreatDoorBase
import Derived.Lib.ItoaNum
import Derived.Lib.ItoaLen
import Derived.Laws.IdiomStrings
namespace Go.Proofs.YtkgopbffgahhcaaGreatDoor
open Go.RowKit

theorem conv_byte (w : World) (z : Int) (h0 : 0 ≤ z) (h1 : z < 256) :
    (convert 22 9 (.slice (some ⟨w.heap.size, 0, none⟩) 1 1)).run Tryz.prog (w.alloc (.cells #[.int .u8 z] 5)) = .ok (.string ⟨#[UInt8.ofNat z.toNat]⟩) (w.alloc (.cells #[.int .u8 z] 5)) := by
  have := run_convert_bytes_back (P := Tryz.prog) (w.alloc (.cells #[.int .u8 z] 5)) 22 9 5 ⟨w.heap.size, 0, none⟩ 1 [UInt8.ofNat z.toNat] Tryz.underlying22 Tryz.underlying5 Tryz.underlying9 (by
    intro j hj
    have : j = 0 := by simpa using hj
    subst this
    have hz : (UInt8.ofNat z.toNat).toNat = z.toNat := by rw [UInt8.toNat_ofNat']; omega
    simp [Addr.add]
    omega)
  exact this

theorem dec_step {m : Int} (h : 9 < m) : Lib.decDigits m.toNat = Lib.decDigits (m / 10).toNat ++ [UInt8.ofNat (48 + m % 10).toNat] := by
  rw [Lib.decDigits, dif_neg (by omega)]
  have e1 : m.toNat / 10 = (m / 10).toNat := by omega
  have e2 : 48 + m.toNat % 10 = (48 + m % 10).toNat := by omega
  rw [e1, e2]
theorem dec_last {m : Int} (h0 : 0 ≤ m) (h : m ≤ 9) : Lib.decDigits m.toNat = [UInt8.ofNat (48 + m).toNat] := by
  rw [Lib.decDigits, dif_pos (by omega)]
  have e2 : 48 + m.toNat = (48 + m).toNat := by omega
  rw [e2]

set_option maxHeartbeats 1000000 in
theorem l12Dec_pos (n : Int) (w : World) (h0 : 0 ≤ n) (h1 : n ≤ 9223372036854775807) :
    Calls Tryz.prog 50 #[.int .i64 n] w fun e w' => ∃ s : ByteArray, e = .returned (.string s) ∧ s.data.toList = Lib.decDigits n.toNat ∧ Below w.heap.size w w' := by
  have hlen : Hid ((Lib.decDigits n.toNat).length ≤ 21) := by
    have := Lib.itoa_length_le n (by omega) h1
    rw [Lib.itoa, if_neg (by omega)] at this
    exact this
  have ht1 : ¬ n < -9223372036854775807 := by omega
  have ht2 : ¬ n < 0 := by omega
  go_enter Tryz.func50, Tryz.ntmps50
  go_wp2
  go_loopw [0, 3] (fun v o wr => ∃ (m : Int) (s : ByteArray), 0 ≤ m ∧ m ≤ n ∧ v = .int .i64 m ∧ o = .string s ∧ s.size ≤ 21 ∧ Hid (Lib.decDigits n.toNat = Lib.decDigits m.toNat ++ s.data.toList) ∧ Below w.heap.size w wr)
    (fun v _ _ => (intOf v).toNat)
  case atStart => exact ⟨n, _, h0, Int.le_refl _, rfl, rfl, by simp [ByteArray.size], by simp [Hid], Below.refl _ _⟩
  case round =>
    obtain ⟨m, s, hm0, hm1, rfl, rfl, hs, HD, hb⟩ := hrel
    have hws := hb.size
    clear ht1 ht2
    by_cases hlt : 9 < m
    · have hcv := conv_byte wr (48 + m % 10) (by omega) (by omega)
      have HD2 : Hid (Lib.decDigits n.toNat = Lib.decDigits (m / 10).toNat ++ ((⟨#[UInt8.ofNat (48 + m % 10).toNat]⟩ : ByteArray) ++ s).data.toList) := by
        have := HD.out
        rw [dec_step hlt] at this
        show _ = _
        rw [this]
        simp
      have hs2 : ((⟨#[UInt8.ofNat (48 + m % 10).toNat]⟩ : ByteArray) ++ s).size ≤ 21 := by
        have h2 := hlen.out
        rw [HD2.out, List.length_append] at h2
        have h3 : ((⟨#[UInt8.ofNat (48 + m % 10).toNat]⟩ : ByteArray) ++ s).data.toList.length = ((⟨#[UInt8.ofNat (48 + m % 10).toNat]⟩ : ByteArray) ++ s).size := by rw [Array.length_toList]; rfl
        omega
      have hb2 : Below w.heap.size w (wr.alloc (.cells #[.int .u8 (48 + m % 10)] 5)) := hb.alloc hws _
      clear hb
      go_wp2
      go_roundw
      case rel => exact ⟨m / 10, _, by omega, by omega, rfl, rfl, hs2, HD2, hb2⟩
      case measure => simp [intOf]; omega
    · have hcv := conv_byte wr (48 + m) (by omega) (by omega)
      have HD2 : Hid (((⟨#[UInt8.ofNat (48 + m).toNat]⟩ : ByteArray) ++ s).data.toList = Lib.decDigits n.toNat) := by
        have := HD.out
        rw [dec_last hm0 (by omega)] at this
        show _ = _
        rw [this]
        simp
      have hb2 : Below w.heap.size w (wr.alloc (.cells #[.int .u8 (48 + m)] 5)) := hb.alloc hws _
      clear hb
      go_wp2
      go_ret
      exact ⟨_, rfl, HD2.out, hb2⟩

theorem itoa_min : Lib.itoa (-9223372036854775808) = [45, 57, 50, 50, 51, 51, 55, 50, 48, 51, 54, 56, 53, 52, 55, 55, 53, 56, 48, 56] := by
  simp [Lib.itoa, Lib.decDigits]

set_option maxHeartbeats 1000000 in
theorem l12Dec_any (n : Int) (w : World) (h0 : -9223372036854775808 ≤ n) (h1 : n ≤ 9223372036854775807) :
    Calls Tryz.prog 50 #[.int .i64 n] w fun e w' => ∃ s : ByteArray, e = .returned (.string s) ∧ s.data.toList = Lib.itoa n ∧ Below w.heap.size w w' := by
  by_cases hp : 0 ≤ n
  · refine (l12Dec_pos n w hp h1).mono fun e w' ⟨s, he, hs, hb⟩ => ⟨s, he, ?_, hb⟩
    rw [hs, Lib.itoa, if_neg (by omega)]
  · by_cases hq : n < -9223372036854775807
    · go_enter Tryz.func50, Tryz.ntmps50
      go_wp2
      go_ret
      refine ⟨_, rfl, ?_, Below.refl _ _⟩
      have : n = -9223372036854775808 := by omega
      rw [this, itoa_min]
    · have hn0 : n < 0 := by omega
      go_enter Tryz.func50, Tryz.ntmps50
      go_wp2_with fail
      refine (l12Dec_pos _ _ (by omega) (by omega)).mono ?_
      rintro e w1 ⟨s, rfl, hs, hb⟩
      have HS : Hid (s.data.toList = Lib.decDigits (-n).toNat) := hs
      have hsz : s.size ≤ 21 := by
        have h3 := Lib.itoa_length_le (-n) (by omega) (by omega)
        rw [Lib.itoa, if_neg (by omega), ← hs] at h3
        rw [Array.length_toList] at h3
        exact h3
      clear hs
      go_wp2
      go_ret
      refine ⟨_, rfl, ?_, hb⟩
      rw [Lib.itoa, if_pos hn0]
      have e : n.natAbs = (-n).toNat := by omega
      rw [e, ← HS.out]
      simp

end Go.Proofs.YtkgopbffgahhcaaGreatDoor
