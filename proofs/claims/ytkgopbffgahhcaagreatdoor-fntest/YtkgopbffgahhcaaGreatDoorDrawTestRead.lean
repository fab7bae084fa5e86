/-
  spec.DrawTestRead: a drawn text, one in two torn: whatever the bytes are, it returns a text, and writes nothing that was there.
-/
import Derived.Test.YtkgopbffgahhcaaGreatDoorOfDraw
import Derived.Test.YtkgopbffgahhcaaGreatDoorTestText2
import Derived.Test.YtkgopbffgahhcaaGreatDoorDrawT
import Derived.Deep.RegionWith
namespace Go.Proofs.YtkgopbffgahhcaaGreatDoor
open Go.RowKit
set_option linter.unusedVariables false

def torn : List ByteArray := [⟨#[]⟩, ⟨#[48]⟩, ⟨#[99]⟩, ⟨#[60]⟩, ⟨#[61]⟩, ⟨#[33]⟩, ⟨#[54]⟩]
theorem torn_size : ∀ p ∈ torn, p.size ≤ 1 := by decide
theorem torn_cells (w5 : World) : ∀ j, j < 7 → (w5.alloc (.cells #[.string ⟨#[]⟩, .string ⟨#[48]⟩, .string ⟨#[99]⟩, .string ⟨#[60]⟩, .string ⟨#[61]⟩, .string ⟨#[33]⟩, .string ⟨#[54]⟩] 9)).drew.cell? ⟨w5.heap.size, j, none⟩ = some (.string (torn.getD j ByteArray.empty)) := by
  intro j hj
  match j, hj with
  | 0, _ => simp [torn]
  | 1, _ => simp [torn]
  | 2, _ => simp [torn]
  | 3, _ => simp [torn]
  | 4, _ => simp [torn]
  | 5, _ => simp [torn]
  | 6, _ => simp [torn]

set_option maxRecDepth 100000 in
set_option maxHeartbeats 4000000 in
theorem drawTorn_any (a : Option Addr) (len cap : Nat) (bs : List Int) (w : World) (h : IsRow .u8 w a len cap bs) :
    Calls Tryz.prog 37 #[.slice a len cap] w fun e w' => ∃ t : ByteArray, e = .returned (.string t) ∧ t.size ≤ 131 ∧ Below w.heap.size w w' := by
  go_enter Tryz.func37, Tryz.ntmps37
  go_wp2_with fail
  refine (l12Open_any a len cap bs _ h).mono ?_
  rintro e w1 ⟨rfl, hrd1, hb1⟩
  have hgl := hrd1.lt
  clear h
  go_wp2_with fail
  refine (l3TestBent_any _ _ 4 _ (by omega) (by omega) (by omega) hrd1).mono ?_
  rintro e w2 ⟨⟨tk, tn, ⟨lk, la, lb, ln⟩, ⟨rk, ra, rb, rn⟩⟩, rfl, -, hrd2, hg2⟩
  have hk2 := drawn_below hb1 hg2
  clear hrd1 hg2 hb1
  simp only
  go_wp2_with fail
  refine (specTestText_any ⟨tk, tn, ⟨lk, la, lb, ln⟩, ⟨rk, ra, rb, rn⟩⟩ _).mono ?_
  rintro e w3 ⟨s, rfl, -, hss, hb3⟩
  have hk3 : Below w.heap.size w w3 := hk2.trans (hb3.mono hk2.size)
  have hrd3 := hrd2.below hb3
  clear hb3 hrd2 hk2
  by_cases h0 : s.size = 0
  · have g0 : ((s.size : Int) == 0) = true := by simp [h0]
    clear h0
    go_wp2
    go_ret
    exact ⟨_, rfl, by omega, hk3⟩
  · have g0 : ((s.size : Int) == 0) = false := by rw [beq_eq_false_iff_ne]; omega
    go_wp2_with fail
    refine (pick_any _ _ 2 _ (by omega) (by omega) (by omega) hrd3).mono ?_
    rintro e w4 ⟨r, hr0, hr2, rfl, hrd4, hg4⟩
    have hk4 := drawn_below hk3 hg4
    clear hrd3 hg4 hk3
    by_cases hz : r = 0
    · subst hz
      go_wp2
      go_ret
      exact ⟨_, rfl, by omega, hk4⟩
    · have gz : (r == 0) = false := by rw [beq_eq_false_iff_ne]; exact hz
      clear hz
      go_wp2_with fail
      refine (pick_any _ _ s.size _ (by omega) (by omega) (by omega) hrd4).mono ?_
      rintro e w5 ⟨k, hk0, hks, rfl, hrd5, hg5⟩
      have hk5 := drawn_below hk4 hg5
      clear hrd4 hg5 hk4
      obtain ⟨m, rfl⟩ := Int.eq_ofNat_of_zero_le hk0
      have hms : m < s.size := by omega
      have hws5 := hk5.size
      have hbA : Below w5.heap.size w5 (w5.alloc (.cells #[.string ⟨#[]⟩, .string ⟨#[48]⟩, .string ⟨#[99]⟩, .string ⟨#[60]⟩, .string ⟨#[61]⟩, .string ⟨#[33]⟩, .string ⟨#[54]⟩] 9)).drew := ((Below.refl _ _).alloc (Nat.le_refl _) _).drew
      have hkA : Below w.heap.size w (w5.alloc (.cells #[.string ⟨#[]⟩, .string ⟨#[48]⟩, .string ⟨#[99]⟩, .string ⟨#[60]⟩, .string ⟨#[61]⟩, .string ⟨#[33]⟩, .string ⟨#[54]⟩] 9)).drew := hk5.trans (hbA.mono hws5)
      have hrdA := hrd5.below hbA
      have hlt5 := hrd5.lt
      have HCA : Hid (∀ j, j < 7 → (w5.alloc (.cells #[.string ⟨#[]⟩, .string ⟨#[48]⟩, .string ⟨#[99]⟩, .string ⟨#[60]⟩, .string ⟨#[61]⟩, .string ⟨#[33]⟩, .string ⟨#[54]⟩] 9)).drew.cell? ⟨w5.heap.size, j, none⟩ = some (.string (torn.getD j ByteArray.empty))) := torn_cells w5
      clear hrd5 hbA hk5
      go_wp2
      go_region_with (first | (go_at_call 57; refine (of_any _ _ w5.heap.size 7 torn _ (by omega) hrdA (by omega) rfl (by omega) (by omega) HCA.out).mono ?_; rintro e w6 ⟨p, rfl, hp, hrd6, hg6⟩; have hk6 := drawn_below hkA hg6; have hp1 := torn_size p hp; clear hp hg6) | (go_at_call 56; (refine (pick_any _ _ 2 _ (by omega) (by omega) (by omega) hrd6).mono ?_; rintro e w7 ⟨q, hq0, hq2, rfl, hrd7, hg7⟩; obtain ⟨q', rfl⟩ := Int.eq_ofNat_of_zero_le hq0; have hmq2 := wrap_in m q' s.size (by omega) (by omega); have hk7 := drawn_below hk6 hg7; clear hg7 hrd7 hrd6 hk6)) | (rw [if_pos hmq2]))
      all_goals clear hmq2
      all_goals go_wp2
      all_goals go_ret
      all_goals exact ⟨_, rfl, by simp only [ByteArray.size_append, ByteArray.size_extract]; omega, hk7⟩

end Go.Proofs.YtkgopbffgahhcaaGreatDoor
