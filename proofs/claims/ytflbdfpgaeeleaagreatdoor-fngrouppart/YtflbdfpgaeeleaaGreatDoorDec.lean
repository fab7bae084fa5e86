/-
  The contract of spec.l12Dec: at every int it returns the number in decimals, and writes nothing that was there.
-/
import Derived.Test.YtflbdfpgaeeleaaGreatDoorBase
import Derived.Lib.ItoaNum
import Derived.Lib.ItoaLen
import Derived.Laws.IdiomStrings
namespace Go.Proofs.YtflbdfpgaeeleaaGreatDoor
open Go.RowKit

theorem conv_byte (w : World) (z : Int) (h0 : 0 ≤ z) (h1 : z < 256) :
    (convert 22 9 (.slice (some ⟨w.heap.size, 0, none⟩) 1 1)).run Tryz.prog (w.alloc (.cells #[.int .u8 z] 5)) = .ok (.string ⟨#[UInt8.ofNat z.toNat]⟩) (w.alloc (.cells #[.int .u8 z] 5)) := by
  have := run_convert_bytes_back (P := Tryz.prog) (w.alloc (.cells #[.int .u8 z] 5)) 22 9 5 ⟨w.heap.size, 0, none⟩ 1 [UInt8.ofNat z.toNat] Tryz.underlying22 Tryz.underlying5 Tryz.underlying9 (by
    intro j hj
    have : j = 0 := by simpa using hj
    subst this
    have hz : (UInt8.ofNat z.toNat).toNat = z.toNat := by rw [UInt8.toNat_ofNat']; omega
    simp [Addr.add]
    omega)
  exact this

theorem dec_step {m : Int} (h : 9 < m) : Lib.decDigits m.toNat = Lib.decDigits (m / 10).toNat ++ [UInt8.ofNat (48 + m % 10).toNat] := by
  rw [Lib.decDigits, dif_neg (by omega)]
  have e1 : m.toNat / 10 = (m / 10).toNat := by omega
  have e2 : 48 + m.toNat % 10 = (48 + m % 10).toNat := by omega
  rw [e1, e2]
theorem dec_last {m : Int} (h0 : 0 ≤ m) (h : m ≤ 9) : Lib.decDigits m.toNat = [UInt8.ofNat (48 + m).toNat] := by
  rw [Lib.decDigits, dif_pos (by omega)]
  have e2 : 48 + m.toNat = (48 + m).toNat := by omega
  rw [e2]

theorem itoa_min : Lib.itoa (-9223372036854775808) = [45, 57, 50, 50, 51, 51, 55, 50, 48, 51, 54, 56, 53, 52, 55, 55, 53, 56, 48, 56] := by
  simp [Lib.itoa, Lib.decDigits]

end Go.Proofs.YtflbdfpgaeeleaaGreatDoor
