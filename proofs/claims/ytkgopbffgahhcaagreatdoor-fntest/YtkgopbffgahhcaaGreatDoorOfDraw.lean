/-
  The draw of one of some texts: (*l12Rd).of: whatever the bytes are, it returns one of them, and writes nothing that was there but the reader.
-/
import Derived.Test.YtkgopbffgahhcaaGreatDoorDraw
namespace Go.Proofs.YtkgopbffgahhcaaGreatDoor
open Go.RowKit

set_option maxHeartbeats 1000000 in
theorem of_any (g P b n : Nat) (ps : List ByteArray) (w : World) (hP : P ≤ 1099511627776) (h : Rd w g P) (hg : g ≠ b) (hn : n = ps.length) (hpos : 0 < n) (hmax : n ≤ 1000) (hc : ∀ j, j < n → w.cell? ⟨b, j, none⟩ = some (.string (ps.getD j ByteArray.empty))) :
    Calls Tryz.prog 57 #[.pointer (some ⟨g, 0, none⟩), .slice (some ⟨b, 0, none⟩) n n] w fun e w' => ∃ p, e = .returned (.string p) ∧ p ∈ ps ∧ Rd w' g (P + 1) ∧ w.grownBy w' (some g) := by
  have HN : Hid (n = ps.length) := hn
  clear hn
  go_enter Tryz.func57, Tryz.ntmps57
  go_wp2_with fail
  refine (pick_any g P n _ (by omega) (by omega) hP h).mono ?_
  rintro e w1 ⟨r, hr0, hrn, rfl, hrd, hgr⟩
  obtain ⟨j, rfl⟩ := Int.eq_ofNat_of_zero_le hr0
  have hjn : j < n := by omega
  obtain ⟨p, HPJ⟩ : ∃ p, Hid (p = ps.getD j ByteArray.empty) := ⟨_, Eq.refl _⟩
  have hcj : w1.cell? ⟨b, j, none⟩ = some (.string p) := by
    rw [HPJ.out]
    exact hgr.cell (hc j hjn) (by simp; omega)
  clear hc h
  go_wp2
  go_ret
  refine ⟨p, rfl, ?_, hrd, hgr⟩
  rw [HPJ.out]
  have : j < ps.length := by rw [← HN.out]; exact hjn
  simp [List.getD, this]

theorem wrap_in (m q n : Nat) (h : m + q ≤ n) (h2 : n ≤ 1000000) : 0 ≤ IntKind.i64.wrap ((m : Int) + (q : Int)) ∧ IntKind.i64.wrap ((m : Int) + (q : Int)) ≤ (n : Int) := by
  rw [IntKind.wrap_i64]
  omega
theorem drawn_below {w w1 : World} (h : Below w.heap.size w w1) {w' : World} (hg : w1.grownBy w' (some w.heap.size)) : Below w.heap.size w w' := h.grown hg h.size (fun k hk => by simp at hk; omega)

end Go.Proofs.YtkgopbffgahhcaaGreatDoor
