/-
  The draws of rows and items once more, told finer: what spec.l2Z draws is right.
-/
import Derived.Test.YtjaehoehfmklcaaDrawZ
import Derived.Test.YtjaehoehfmklcaaPosFacts
namespace Go.Proofs.Ytjaehoehfmklcaa
set_option maxRecDepth 100000
open Go.RowKit

def Tiny (xs : List Int) : Prop := ∀ x ∈ xs, -10 ≤ x ∧ x ≤ 10
theorem tiny_snoc {xs : List Int} {z : Int} (h : Tiny xs) (hz : -10 ≤ z ∧ z ≤ 10) : Tiny (xs ++ [z]) := fun x hx => by
  rcases List.mem_append.1 hx with h1 | h1
  · exact h x h1
  · simp at h1; subst h1; exact hz
theorem tiny_ok {xs : List Int} (h : Tiny xs) (h1 : 1 ≤ xs.length) (h6 : xs.length ≤ 6) : rowOkB xs = true := by
  unfold rowOkB
  rw [decide_eq_true ⟨h1, h6⟩, Bool.true_and, List.all_eq_true]
  intro x hx
  have := h x hx
  simp [cellB]
  omega
/-- Items in order, none with nothing, of rows that wide with tiny cells, with weights of at most B. -/
def FineZ (wd B : Int) (zs : List It) : Prop := Srt zs ∧ Nz zs ∧ ∀ p ∈ zs, p.1.length = wd.toNat ∧ Tiny p.1 ∧ -B ≤ p.2 ∧ p.2 ≤ B
theorem fine_nil (wd B : Int) : FineZ wd B [] := ⟨Srt.nil, fun p hp => by simp at hp, fun p hp => by simp at hp⟩
theorem fine_put {wd B C : Int} {zs : List It} {r : List Int} {y : Int} (h : FineZ wd B zs) (hB : 0 ≤ B) (hC : 0 ≤ C) (hr : r.length = wd.toNat) (hs : Tiny r) (hy : -C ≤ y ∧ y ≤ C) : FineZ wd (B + C) (putZ zs r y) :=
  ⟨srt_put h.1, nz_put h.2.1, fun x hx => by
    have h2 := put_bound (r := r) hy hB hC (fun p hp => (h.2.2 p hp).2.2) x hx
    rcases mem_put hx with hm | hm
    · exact ⟨(h.2.2 x hm).1, (h.2.2 x hm).2.1, h2⟩
    · rw [hm]; exact ⟨hr, hs, h2⟩⟩
theorem FineZ.at {wd B : Int} {zs : List It} (h : FineZ wd B zs) (hB : B ≤ 1000000) : ∀ j, j < zs.length → -4611686018427387904 ≤ (zs.getD j ([], 0)).2 ∧ (zs.getD j ([], 0)).2 ≤ 4611686018427387903 := fun j hj => by
  have := (h.2.2 _ (getZ_mem hj)).2.2
  omega
theorem FineZ.up {wd B C : Int} {zs : List It} (h : FineZ wd B zs) (hBC : B ≤ C) : FineZ wd C zs := ⟨h.1, h.2.1, fun p hp => by
  have := h.2.2 p hp
  exact ⟨this.1, this.2.1, by omega, by omega⟩⟩
theorem FineZ.ok {wd B : Int} {zs : List It} (h : FineZ wd B zs) (h1 : 1 ≤ wd) (h6 : wd ≤ 6) (hB : B ≤ 10000) (hl : zs.length ≤ 100) : zOkB zs = true :=
  zOk_mkD hl (fun p hp => by
    obtain ⟨g1, g2, g3⟩ := h.2.2 p hp
    exact ⟨tiny_ok g2 (by omega) (by omega), wB_yes (h.2.1 p hp) (by omega) (by omega)⟩) h.1

set_option maxHeartbeats 1000000 in
theorem l1Row_fine (g P : Nat) (wd : Int) (w : World) (h0 : 0 ≤ wd) (h7 : wd ≤ 7) (hP : P ≤ 1099511627000) (h : Rd w g P) :
    Calls Try.prog 69 #[.pointer (some ⟨g, 0, none⟩), .int .i64 wd] w fun e w' =>
      ∃ v, e = .returned v ∧ ∃ xs : List Int, xs.length = wd.toNat ∧ Tiny xs ∧ Own w' w.heap.size w'.heap.size v xs ∧ Rd w' g (P + 7) ∧ w.grownBy w' (some g) := by
  obtain ⟨i0, hi, hz0, hz1, hz2⟩ := info_parts infoInt
  have hgw := h.lt
  have ho1 : (w.alloc (.cells #[] 3)).ownsRow w.heap.size 3 1 (.slice (some ⟨w.heap.size, 0, none⟩) 0 0) 0 [] := World.ownsRow_lit w #[] 0 (Nat.le_refl _) (by unfold maxLen; omega) rfl
  have hr1 : Rd (w.alloc (.cells #[] 3)) g P := h.below ((Below.refl _ _).alloc (Nat.le_refl _) _)
  clear h
  go_enter Try.func69, Try.ntmps69
  go_wp2
  go_loopw [5, 6] (fun v i wr => ∃ (k : Nat) (xs : List Int), (k : Int) ≤ wd ∧ Hid (Tiny xs) ∧ i = .int .i64 k ∧ wr.ownsRow w.heap.size 3 1 v k (xs.map (Value.int .i64)) ∧ Rd wr g (P + k) ∧ w.grownBy wr (some g))
    (fun _ i _ => wd.toNat - (intOf i).toNat)
  case atStart => exact ⟨0, [], h0, (fun x hx => by simp at hx), rfl, ho1, hr1, World.grownBy_alloc w _ _⟩
  case round =>
    obtain ⟨k, xs, hk, HSM, rfl, ho, hr, hg⟩ := hrel
    clear ho1 hr1
    by_cases hlt : (k : Int) < wd
    · have hlit : Own (wr.alloc (.cells #[.int .i64 0, .int .i64 1, .int .i64 2, .int .i64 3, .int .i64 1, .int .i64 2, .int .i64 (-1), .int .i64 5] 3)) wr.heap.size (wr.heap.size + 1) (.slice (some ⟨wr.heap.size, 0, none⟩) 8 8) [0, 1, 2, 3, 1, 2, -1, 5] := own_lit wr [0, 1, 2, 3, 1, 2, -1, 5] (by decide)
      have hr1 : Rd (wr.alloc (.cells #[.int .i64 0, .int .i64 1, .int .i64 2, .int .i64 3, .int .i64 1, .int .i64 2, .int .i64 (-1), .int .i64 5] 3)) g (P + k) := hr.below ((Below.refl _ _).alloc (Nat.le_refl _) _)
      have ho1 := ho.alloc (.cells #[.int .i64 0, .int .i64 1, .int .i64 2, .int .i64 3, .int .i64 1, .int .i64 2, .int .i64 (-1), .int .i64 5] 3)
      have hg1 := grown_alloc hg (.cells #[.int .i64 0, .int .i64 1, .int .i64 2, .int .i64 3, .int .i64 1, .int .i64 2, .int .i64 (-1), .int .i64 5] 3)
      have hgs := hg.size
      clear ho hr hg
      go_wp2_with fail
      refine (num_any g _ _ _ _ _ _ (by omega) hr1 hlit (by omega) (by decide) (by decide)).mono ?_
      rintro e w1 ⟨z, hz, rfl, hrd, hgr⟩
      have HSM2 : Hid (Tiny (xs ++ [z])) := tiny_snoc HSM.out (by simp at hz; omega)
      clear hz hlit hr1
      have hkl : xs.length = k := by simpa using ho1.1
      have ho2 := ho1.kept hgr (.inr fun e => by have := (ho1.lt g e).1; omega)
      have hg2 : w.grownBy w1 (some g) := grown_trans hg1 hgr
      have hgs1 := hgr.size
      simp only [World.size_alloc] at hgs1
      have hs1 : IntsAt (w1.alloc (.cells #[.int .i64 z] 3)) (.slice (some ⟨w1.heap.size, 0, none⟩) 1 1) [z] := (own_lit w1 [z] (by simp)).ints
      have ho3 := ho2.alloc (.cells #[.int .i64 z] 3)
      have hr3 : Rd (w1.alloc (.cells #[.int .i64 z] 3)) g (P + k + 1) := hrd.below ((Below.refl _ _).alloc (Nat.le_refl _) _)
      have hg3 := grown_alloc hg2 (.cells #[.int .i64 z] 3)
      clear ho1 ho2 hg1 hg2 hgr hrd
      go_wp2_with (at_builtin; refine wpList_append_ints rfl (.tmp 13) (.tmp 17) 29 rfl w.heap.size 3 i0 Try.underlying29 hi hz0 hz1 hz2 u5 k _ rfl ho3 (.slice (some ⟨w1.heap.size, 0, none⟩) 1 1) [z] rfl hs1 (by simp; omega) (by simp; omega) ?_; intro v' w2 hown2 hgrow2 _)
      have hr4 : Rd w2 g (P + (k + 1)) := hr3.grown hgrow2 (fun b e => by have := (ho3.lt b e).1; omega)
      have hg4 : w.grownBy w2 (some g) := grown_via hg3 hgrow2 (fun i hi' => (ho3.lt i hi').1)
      have ho4 : w2.ownsRow w.heap.size 3 1 v' (k + 1) ((xs ++ [z]).map (Value.int .i64)) := by simpa using hown2
      clear ho3 hr3 hg3 hown2 hgrow2 hs1
      go_wp2
      go_roundw
      case rel => exact ⟨k + 1, xs ++ [z], by omega, HSM2, by go_num, ho4, hr4, hg4⟩
      case measure => simp [intOf]; omega
    · have hkl : xs.length = k := by simpa using ho.1
      have ho2 := own_new ho (by omega)
      have hr2 : Rd wr g (P + 7) := hr.le (by omega)
      clear ho hr
      go_wp2
      go_ret
      exact ⟨_, rfl, xs, by omega, HSM.out, ho2, hr2, hg⟩


set_option maxHeartbeats 4000000 in
theorem l2Z_fine (g P : Nat) (wd most : Int) (w : World) (h0 : 1 ≤ wd) (h7 : wd ≤ 6) (hm0 : 0 ≤ most) (hm : most ≤ 40) (hP : P ≤ 1099511620000) (h : Rd w g P) :
    Calls Try.prog 46 #[.pointer (some ⟨g, 0, none⟩), .int .i64 wd, .int .i64 most] w fun e w' =>
      ∃ v, e = .returned v ∧ ∃ zs : List It, (zs.length : Int) ≤ most ∧ zOkB zs = true ∧ OwnZ w' w.heap.size w'.heap.size v zs ∧ Rd w' g (P + 400) ∧ w.grownBy w' (some g) := by
  have hgw := h.lt
  have Z1 : OwnZ (w.alloc (.cells #[] 31)) w.heap.size (w.alloc (.cells #[] 31)).heap.size (.slice (some ⟨w.heap.size, 0, none⟩) 0 0) [] := lit_ownZ w
  have hr1 : Rd (w.alloc (.cells #[] 31)) g P := h.below (below_alloc _)
  clear h
  go_enter Try.func46, Try.ntmps46
  go_wp2_with fail
  refine (pick_any g P (most + 1) _ (by omega) (by omega) (by omega) hr1).mono ?_
  rintro e w1 ⟨m, hm1, hm2, rfl, hrd1, hg1⟩
  obtain ⟨m, rfl⟩ := Int.eq_ofNat_of_zero_le hm1
  have HZ1 : Hid (OwnZ w1 w.heap.size w1.heap.size (.slice (some ⟨w.heap.size, 0, none⟩) 0 0) []) := (Z1.far hg1 hgw).wide (Nat.le_refl _) hg1.size (Nat.le_refl _)
  have HR1 : Hid (Rd w1 g (P + 1)) := hrd1
  have HG1 : Hid (w.grownBy w1 (some g)) := grown_trans (World.grownBy_alloc w _ _) hg1
  have hmm : m ≤ 40 := by omega
  have hmo : (m : Int) ≤ most := by omega
  clear Z1 hr1 hrd1 hg1 hm1 hm2
  go_wp2
  go_loopw [7, 8] (fun s i wr => ∃ (j k : Nat) (zs : List It), j + k = m ∧ i = .int .i64 j ∧ Hid (zs.length ≤ k) ∧ Hid (FineZ wd (5 * k) zs) ∧ Hid (OwnZ wr w.heap.size wr.heap.size s zs) ∧ Hid (Rd wr g (P + 1 + 9 * k)) ∧ Hid (w.grownBy wr (some g)))
    (fun _ i _ => (intOf i).toNat)
  case atStart => exact ⟨m, 0, [], by omega, rfl, by simp [Hid], fine_nil _ _, HZ1.out, HR1.out, HG1.out⟩
  case round =>
    obtain ⟨j, k, zs, hjk, rfl, HL, HGd, HZ, HR, HG⟩ := hrel
    clear HZ1 HR1 HG1
    have hgs := HG.out.size
    by_cases hlt : 0 < j
    · have hltI : (0 : Int) < (j : Int) := by omega
      have hrd := HR.out
      go_wp2_with fail
      refine (l1Row_fine g _ wd _ (by omega) (by omega) (by omega) hrd).mono ?_
      rintro e w2 ⟨v2, rfl, xs, hxl, hsm, O2, hrd2, hg2⟩
      have Z2 := (HZ.out.far hg2 hgw).wide (Nat.le_refl _) hg2.size (Nat.le_refl _)
      have hG2 := grown_trans HG.out hg2
      have hgs2 := hG2.size
      have hxl7 : xs.length ≤ 7 := by omega
      have HXL : Hid (xs.length = wd.toNat) := hxl
      clear hrd hxl
      have hlit : Own (w2.alloc (.cells #[.int .i64 1, .int .i64 1, .int .i64 1, .int .i64 2, .int .i64 (-1), .int .i64 3, .int .i64 (-2)] 3)) w2.heap.size (w2.heap.size + 1) (.slice (some ⟨w2.heap.size, 0, none⟩) 7 7) [1, 1, 1, 2, -1, 3, -2] := own_lit w2 [1, 1, 1, 2, -1, 3, -2] (by decide)
      have hr3 : Rd (w2.alloc (.cells #[.int .i64 1, .int .i64 1, .int .i64 1, .int .i64 2, .int .i64 (-1), .int .i64 3, .int .i64 (-2)] 3)) g (P + 1 + 9 * k + 7) := hrd2.below (below_alloc _)
      have Z3 := (Z2.keep' (below_alloc (.cells #[.int .i64 1, .int .i64 1, .int .i64 1, .int .i64 2, .int .i64 (-1), .int .i64 3, .int .i64 (-2)] 3)))
      have O3 := O2.keep' (below_alloc (.cells #[.int .i64 1, .int .i64 1, .int .i64 1, .int .i64 2, .int .i64 (-1), .int .i64 3, .int .i64 (-2)] 3))
      have hG3 := grown_alloc hG2 (.cells #[.int .i64 1, .int .i64 1, .int .i64 1, .int .i64 2, .int .i64 (-1), .int .i64 3, .int .i64 (-2)] 3)
      have hgw2 : w.heap.size ≤ wr.heap.size := hgs
      clear Z2 O2 hrd2 hG2 hg2
      go_wp2_with fail
      refine (num_any g _ _ _ _ _ _ (by omega) hr3 hlit (by omega) (by decide) (by decide)).mono ?_
      rintro e w4 ⟨z, hz, rfl, hrd4, hg4⟩
      have hzb : -3 ≤ z ∧ z ≤ 3 := by simp at hz; omega
      have Z4 := Z3.far hg4 hgw
      have O4 := O3.far hg4 (by omega)
      have hG4 := grown_trans hG3 hg4
      have hlo4 : w.heap.size ≤ w2.heap.size := hgs2
      have hzl : zs.length ≤ 1099511627775 := by have := HL.out; omega
      have hat := HGd.out.at (by omega)
      clear Z3 O3 hr3 hlit hG3 hz hg4
      go_wp2_with fail
      refine (l2Put_any _ w.heap.size w2.heap.size zs _ xs z _ Z4 hlo4 O4.ints hzl (by omega) hat (by omega)).mono ?_
      rintro e w5 ⟨v5, rfl, Z5, O5⟩
      have HZ5 : Hid (OwnZ w5 w.heap.size w5.heap.size v5 (putZ zs xs z)) := Z5
      have HR5 : Hid (Rd w5 g (P + 1 + 9 * (k + 1))) := (hrd4.only O5 hgw).le (by omega)
      have HG5 : Hid (w.grownBy w5 (some g)) := grown_only hG4 O5
      have HL5 : Hid ((putZ zs xs z).length ≤ k + 1) := by have h1 := put_len xs z zs; have h2 := HL.out; show _ ≤ _; omega
      have HD5 : Hid (FineZ wd (5 * ((k + 1 : Nat) : Int)) (putZ zs xs z)) := by
        have h1 := fine_put (C := 5) HGd.out (by omega) (by omega) HXL.out hsm (show -5 ≤ z ∧ z ≤ 5 by omega)
        exact h1.up (by omega)
      clear Z4 O4 Z5 O5 hrd4 hG4 hat hsm
      go_wp2
      go_roundw
      case rel => exact ⟨j - 1, k + 1, putZ zs xs z, by omega, by rw [show ((j - 1 : Nat) : Int) = (j : Int) - 1 by omega], HL5.out, HD5.out, HZ5.out, HR5.out, HG5.out⟩
      case measure => simp [intOf]; omega
    · obtain rfl : j = 0 := by omega
      go_wp2
      go_ret
      refine ⟨_, rfl, zs, by have := HL.out; omega, HGd.out.ok h0 h7 (by omega) (by have := HL.out; omega), HZ.out, HR.out.le (by omega), HG.out⟩

end Go.Proofs.Ytjaehoehfmklcaa
