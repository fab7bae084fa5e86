/-
  The draws of a text: (*l12Rd).of and spec.DrawRowRead, and spec.DrawRowText: whatever the bytes are, they return, and write nothing that was there.
-/
import Derived.Test.YtepgdogakhbhjaaDoorDraw
import Derived.Test.YtepgdogakhbhjaaDoorText
import Derived.Deep.RegionWith
namespace Go.Proofs.YtepgdogakhbhjaaDoor
open Go.RowKit

theorem l12Open_below {w w1 : World} (h : Below w.heap.size w w1) {w' : World} (hg : w1.grownBy w' (some w.heap.size)) : Below w.heap.size w w' := h.grown hg h.size (fun k hk => by simp at hk; omega)

set_option maxHeartbeats 1000000 in
theorem of_any (g P b n : Nat) (ps : List ByteArray) (w : World) (hP : P ≤ 1099511627776) (h : Rd w g P) (hg : g ≠ b) (hn : n = ps.length) (hpos : 0 < n) (hmax : n ≤ 1000) (hc : ∀ j, j < n → w.cell? ⟨b, j, none⟩ = some (.string (ps.getD j ByteArray.empty))) :
    Calls Tryd.prog 26 #[.pointer (some ⟨g, 0, none⟩), .slice (some ⟨b, 0, none⟩) n n] w fun e w' => ∃ p, e = .returned (.string p) ∧ p ∈ ps ∧ Rd w' g (P + 1) ∧ w.grownBy w' (some g) := by
  have HN : Hid (n = ps.length) := hn
  clear hn
  go_enter Tryd.func26, Tryd.ntmps26
  go_wp2_with fail
  refine (pick_any g P n _ (by omega) (by omega) hP h).mono ?_
  rintro e w1 ⟨r, hr0, hrn, rfl, hrd, hgr⟩
  obtain ⟨j, rfl⟩ := Int.eq_ofNat_of_zero_le hr0
  have hjn : j < n := by omega
  obtain ⟨p, HPJ⟩ : ∃ p, Hid (p = ps.getD j ByteArray.empty) := ⟨_, Eq.refl _⟩
  have hcj : w1.cell? ⟨b, j, none⟩ = some (.string p) := by
    rw [HPJ.out]
    exact hgr.cell (hc j hjn) (by simp; omega)
  clear hc h
  go_wp2
  go_ret
  refine ⟨p, rfl, ?_, hrd, hgr⟩
  rw [HPJ.out]
  have : j < ps.length := by rw [← HN.out]; exact hjn
  simp [List.getD, this]

theorem drawText_any (a : Option Addr) (len cap : Nat) (zs : List Int) (w : World) (h : IsRow .u8 w a len cap zs) :
    Calls Tryd.prog 4 #[.slice a len cap] w fun e w' =>
      ∃ v, e = .returned v ∧ ∃ xs : List Int, xs.length ≤ 7 ∧ Small xs ∧ Own w' w.heap.size w'.heap.size v xs ∧ Below w.heap.size w w' := by
  go_enter Tryd.func4, Tryd.ntmps4
  go_wp2_with fail
  refine (l12Open_any a len cap zs _ h).mono ?_
  rintro e w1 ⟨rfl, hrd1, hb1⟩
  clear h
  go_wp2_with fail
  refine (l1Bent_any _ _ _ (by omega) hrd1).mono ?_
  rintro e w2 ⟨v, rfl, xs, hxl, hsm, ho2, hrd2, hg2⟩
  have hk2 := l12Open_below hb1 hg2
  have ho3 := ho2.wide hb1.size (Nat.le_refl _) (Nat.le_refl _)
  have HSM : Hid (Small xs) := hsm
  clear hrd1 hg2 hb1 hrd2 ho2 hsm
  go_wp2
  go_ret
  exact ⟨_, rfl, xs, hxl, HSM.out, ho3, hk2⟩

def six : List ByteArray := [⟨#[]⟩, ⟨#[48]⟩, ⟨#[44]⟩, ⟨#[45]⟩, ⟨#[32]⟩, ⟨#[55]⟩]
theorem six_size : ∀ p ∈ six, p.size ≤ 1 := by decide
theorem six_cells (w5 : World) : ∀ j, j < 6 → (w5.alloc (.cells #[.string ⟨#[]⟩, .string ⟨#[48]⟩, .string ⟨#[44]⟩, .string ⟨#[45]⟩, .string ⟨#[32]⟩, .string ⟨#[55]⟩] 9)).drew.cell? ⟨w5.heap.size, j, none⟩ = some (.string (six.getD j ByteArray.empty)) := by
  intro j hj
  match j, hj with
  | 0, _ => simp [six]
  | 1, _ => simp [six]
  | 2, _ => simp [six]
  | 3, _ => simp [six]
  | 4, _ => simp [six]
  | 5, _ => simp [six]

theorem wrap_in (m q n : Nat) (h : m + q ≤ n) (h2 : n ≤ 4000) : 0 ≤ IntKind.i64.wrap ((m : Int) + (q : Int)) ∧ IntKind.i64.wrap ((m : Int) + (q : Int)) ≤ (n : Int) := by
  rw [IntKind.wrap_i64]
  omega

set_option maxHeartbeats 4000000 in
theorem drawRead_any (a : Option Addr) (len cap : Nat) (zs : List Int) (w : World) (h : IsRow .u8 w a len cap zs) :
    Calls Tryd.prog 11 #[.slice a len cap] w fun e w' => ∃ t : ByteArray, e = .returned (.string t) ∧ t.size ≤ 1000 ∧ Below w.heap.size w w' := by
  go_enter Tryd.func11, Tryd.ntmps11
  go_wp2_with fail
  refine (l12Open_any a len cap zs _ h).mono ?_
  rintro e w1 ⟨rfl, hrd1, hb1⟩
  have hgl := hrd1.lt
  clear h
  go_wp2_with fail
  refine (l1Bent_any _ _ _ (by omega) hrd1).mono ?_
  rintro e w2 ⟨v, rfl, xs, hxl, hsm, ho2, hrd2, hg2⟩
  have hk2 := l12Open_below hb1 hg2
  clear hrd1 hg2 hb1
  go_wp2_with fail
  refine (specRowText_any _ xs _ ho2.ints hsm.wf (by omega)).mono ?_
  rintro e w3 ⟨s, rfl, hs, hb3⟩
  have hk3 : Below w.heap.size w w3 := hk2.trans (hb3.mono hk2.size)
  have hrd3 := hrd2.below hb3
  have hss : s.size ≤ 154 := by
    rw [← size_list, hs]
    have := rowTx_le xs hsm.wf
    omega
  clear ho2 hsm hs hb3 hrd2 hk2
  by_cases h0 : s.size = 0
  · have g0 : ((s.size : Int) == 0) = true := by simp [h0]
    clear h0
    go_wp2
    go_ret
    exact ⟨_, rfl, by omega, hk3⟩
  · have g0 : ((s.size : Int) == 0) = false := by rw [beq_eq_false_iff_ne]; omega
    go_wp2_with fail
    refine (pick_any _ _ 2 _ (by omega) (by omega) (by omega) hrd3).mono ?_
    rintro e w4 ⟨r, hr0, hr2, rfl, hrd4, hg4⟩
    have hk4 := l12Open_below hk3 hg4
    clear hrd3 hg4 hk3
    by_cases hz : r = 0
    · subst hz
      go_wp2
      go_ret
      exact ⟨_, rfl, by omega, hk4⟩
    · have gz : (r == 0) = false := by rw [beq_eq_false_iff_ne]; exact hz
      clear hz
      go_wp2_with fail
      refine (pick_any _ _ s.size _ (by omega) (by omega) (by omega) hrd4).mono ?_
      rintro e w5 ⟨k, hk0, hks, rfl, hrd5, hg5⟩
      have hk5 := l12Open_below hk4 hg5
      clear hrd4 hg5 hk4
      obtain ⟨m, rfl⟩ := Int.eq_ofNat_of_zero_le hk0
      have hms : m < s.size := by omega
      have hws5 := hk5.size
      have hbA : Below w5.heap.size w5 (w5.alloc (.cells #[.string ⟨#[]⟩, .string ⟨#[48]⟩, .string ⟨#[44]⟩, .string ⟨#[45]⟩, .string ⟨#[32]⟩, .string ⟨#[55]⟩] 9)).drew := ((Below.refl _ _).alloc (Nat.le_refl _) _).drew
      have hkA : Below w.heap.size w (w5.alloc (.cells #[.string ⟨#[]⟩, .string ⟨#[48]⟩, .string ⟨#[44]⟩, .string ⟨#[45]⟩, .string ⟨#[32]⟩, .string ⟨#[55]⟩] 9)).drew := hk5.trans (hbA.mono hws5)
      have hrdA := hrd5.below hbA
      have hlt5 := hrd5.lt
      have hcA : ∀ j, j < 6 → (w5.alloc (.cells #[.string ⟨#[]⟩, .string ⟨#[48]⟩, .string ⟨#[44]⟩, .string ⟨#[45]⟩, .string ⟨#[32]⟩, .string ⟨#[55]⟩] 9)).drew.cell? ⟨w5.heap.size, j, none⟩ = some (.string (six.getD j ByteArray.empty)) := six_cells w5
      have HCA : Hid (∀ j, j < 6 → (w5.alloc (.cells #[.string ⟨#[]⟩, .string ⟨#[48]⟩, .string ⟨#[44]⟩, .string ⟨#[45]⟩, .string ⟨#[32]⟩, .string ⟨#[55]⟩] 9)).drew.cell? ⟨w5.heap.size, j, none⟩ = some (.string (six.getD j ByteArray.empty))) := hcA
      clear hcA hrd5 hbA hk5
      go_wp2
      go_region_with (first | (go_at_call 26; refine (of_any _ _ w5.heap.size 6 six _ (by omega) hrdA (by omega) rfl (by omega) (by omega) HCA.out).mono ?_; rintro e w6 ⟨p, rfl, hp, hrd6, hg6⟩; have hk6 := l12Open_below hkA hg6; have hp1 := six_size p hp; clear hp hg6) | (go_at_call 25; (refine (pick_any _ _ 2 _ (by omega) (by omega) (by omega) hrd6).mono ?_; rintro e w7 ⟨q, hq0, hq2, rfl, hrd7, hg7⟩; obtain ⟨q', rfl⟩ := Int.eq_ofNat_of_zero_le hq0; have hmq2 := wrap_in m q' s.size (by omega) (by omega); have hk7 := l12Open_below hk6 hg7; clear hg7 hrd7 hrd6 hk6)) | (rw [if_pos hmq2]))
      all_goals clear hmq2
      all_goals go_wp2
      all_goals go_ret
      all_goals exact ⟨_, rfl, by simp only [ByteArray.size_append, ByteArray.size_extract]; omega, hk7⟩

end Go.Proofs.YtepgdogakhbhjaaDoor
