/-
  The reader of drawn inputs: spec.l12Open, (*l12Rd).pick and (*l12Rd).num: whatever the bytes are, a pick answers a number from 0 up to n, and only the reader's own block is written.
-/
import Derived.Test.YtflbdfpgaeeleaaGreatDoorOwn
import Derived.Laws.BitsLemmas
namespace Go.Proofs.YtflbdfpgaeeleaaGreatDoor
open Go.RowKit

/-- In the memory w block g is a reader at a place of at most P; its bytes lie elsewhere. -/
def Rd (w : World) (g P : Nat) : Prop :=
  ∃ (ab : Option Addr) (nb cb p : Nat) (zs : List Int), w.heap[g]? = some (.cells #[.slice ab nb cb, .int .i64 p] 73 (0, 0)) ∧ p ≤ P ∧ nb ≤ 2000 ∧
    (0 < nb → ∃ b off, ab = some ⟨b, off, none⟩ ∧ b < g ∧ b < w.heap.size ∧ ∀ j, j < nb → w.cell? ⟨b, off + j, none⟩ = some (.int .u8 (zs.getD j 0))) ∧ ∀ j, 0 ≤ zs.getD j 0 ∧ zs.getD j 0 ≤ 255

theorem Rd.lt {w : World} {g P : Nat} (h : Rd w g P) : g < w.heap.size := by
  obtain ⟨ab, nb, cb, p, zs, hh, _⟩ := h
  exact (Array.getElem?_eq_some_iff.1 hh).1

theorem Rd.below {w w' : World} {g P : Nat} (h : Rd w g P) (hb : Below w.heap.size w w') : Rd w' g P := by
  have hg := h.lt
  obtain ⟨ab, nb, cb, p, zs, hh, hp, hn, hc, hz⟩ := h
  refine ⟨ab, nb, cb, p, zs, (hb.block g hg).trans hh, hp, hn, fun h0 => ?_, hz⟩
  obtain ⟨b, off, rfl, hne, hbl, hcell⟩ := hc h0
  exact ⟨b, off, rfl, hne, Nat.lt_of_lt_of_le hbl hb.size, fun j hj => (hb.cell (p := ⟨b, off + j, none⟩) hbl).trans (hcell j hj)⟩

set_option maxHeartbeats 1000000 in
theorem pick_none (g cb p : Nat) (ab : Option Addr) (n : Int) (w : World) (hn : 1 ≤ n) (hp : p ≤ 1099511627776)
    (hh : w.heap[g]? = some (.cells #[.slice ab 0 cb, .int .i64 p] 73 (0, 0))) :
    Calls Tryz.prog 14 #[.pointer (some ⟨g, 0, none⟩), .int .i64 n] w fun e w' => e = .returned (.int .i64 0) ∧ w' = w.setCell ⟨g, 1, none⟩ (.int .i64 (p + 1)) := by
  have hc0 : w.cell? ⟨g, 0, none⟩ = some (.slice ab 0 cb) := by rw [cell_of_row w g 0 _ _ _ hh]; rfl
  have hc1 : w.cell? ⟨g, 1, none⟩ = some (.int .i64 p) := by rw [cell_of_row w g 1 _ _ _ hh]; rfl
  have hf1 : w.frozen? ⟨g, 1, none⟩ = false := frozen_of_row w g 1 _ _ hh
  clear hh
  go_enter Tryz.func14, Tryz.ntmps14
  go_wp2
  go_ret
  exact ⟨rfl, rfl⟩

set_option maxHeartbeats 1000000 in
theorem pick_near (g cb p b off nb : Nat) (zs : List Int) (n : Int) (w : World) (hn : 1 ≤ n) (hn2 : n ≤ 1099511627776) (hp : p < nb) (hnb : nb ≤ 2000) (hbg : b ≠ g)
    (hh : w.heap[g]? = some (.cells #[.slice (some ⟨b, off, none⟩) nb cb, .int .i64 p] 73 (0, 0)))
    (hcell : ∀ j, j < nb → w.cell? ⟨b, off + j, none⟩ = some (.int .u8 (zs.getD j 0))) (hz : ∀ j, 0 ≤ zs.getD j 0 ∧ zs.getD j 0 ≤ 255) :
    Calls Tryz.prog 14 #[.pointer (some ⟨g, 0, none⟩), .int .i64 n] w fun e w' => e = .returned (.int .i64 (zs.getD p 0 % n)) ∧ w' = w.setCell ⟨g, 1, none⟩ (.int .i64 (p + 1)) := by
  have hc0 : w.cell? ⟨g, 0, none⟩ = some (.slice (some ⟨b, off, none⟩) nb cb) := by rw [cell_of_row w g 0 _ _ _ hh]; rfl
  have hc1 : w.cell? ⟨g, 1, none⟩ = some (.int .i64 p) := by rw [cell_of_row w g 1 _ _ _ hh]; rfl
  have hf1 : w.frozen? ⟨g, 1, none⟩ = false := frozen_of_row w g 1 _ _ hh
  have hx := hcell p hp
  have hzp := hz p
  obtain ⟨z, HZ⟩ : ∃ z, Hid (z = zs.getD p 0) := ⟨_, rfl⟩
  rw [← HZ.out] at hx hzp ⊢
  obtain ⟨hz1, hz2⟩ := hzp
  clear hh hcell hz
  have hd1 : decide (n < 1) = false := by simp; omega
  have hd2 : ((nb : Int) == 0) = false := by simp; omega
  go_enter Tryz.func14, Tryz.ntmps14
  go_wp2
  go_ret
  exact ⟨rfl, rfl⟩

theorem getD_mem {xs : List Int} {j : Nat} (h : j < xs.length) : xs.getD j 0 ∈ xs := by
  simp [List.getD, h]

theorem xor_nonneg (x y : Int) (h1 : 0 ≤ x) (h2 : x < 4611686018427387904) (h3 : 0 ≤ y) (h4 : y < 4611686018427387904) : 0 ≤ bits .xor .i64 x y := by
  obtain ⟨a, rfl⟩ := Int.eq_ofNat_of_zero_le h1
  obtain ⟨b, rfl⟩ := Int.eq_ofNat_of_zero_le h3
  have hx : a ^^^ b < 2 ^ 62 := Nat.xor_lt_two_pow (by omega) (by omega)
  have ha : (BitVec.ofInt 64 (a : Int)).toNat = a := by
    rw [BitVec.ofInt_natCast, BitVec.toNat_ofNat]; exact Nat.mod_eq_of_lt (by omega)
  have hb : (BitVec.ofInt 64 (b : Int)).toNat = b := by
    rw [BitVec.ofInt_natCast, BitVec.toNat_ofNat]; exact Nat.mod_eq_of_lt (by omega)
  show 0 ≤ IntKind.i64.wrap ((BitVec.ofInt 64 (a : Int) ^^^ BitVec.ofInt 64 (b : Int)).toNat : Int)
  rw [BitVec.toNat_xor, ha, hb, IntKind.wrap_i64]
  omega

set_option maxHeartbeats 1000000 in
theorem pick_far (g cb p b off nb : Nat) (zs : List Int) (n : Int) (w : World) (hn : 1 ≤ n) (hn2 : n ≤ 1099511627776) (hp : nb ≤ p) (hp2 : p ≤ 1099511627776) (hnb : nb ≤ 2000) (hnb0 : 0 < nb) (hbg : b ≠ g)
    (hh : w.heap[g]? = some (.cells #[.slice (some ⟨b, off, none⟩) nb cb, .int .i64 p] 73 (0, 0)))
    (hcell : ∀ j, j < nb → w.cell? ⟨b, off + j, none⟩ = some (.int .u8 (zs.getD j 0))) (hz : ∀ j, 0 ≤ zs.getD j 0 ∧ zs.getD j 0 ≤ 255) :
    Calls Tryz.prog 14 #[.pointer (some ⟨g, 0, none⟩), .int .i64 n] w fun e w' => ∃ (x : Int) (q : Nat), 0 ≤ x ∧ e = .returned (.int .i64 (x.tmod n)) ∧ w' = (w.setCell ⟨g, 1, none⟩ (.int .i64 (p + 1))).drewN q := by
  have hc0 : w.cell? ⟨g, 0, none⟩ = some (.slice (some ⟨b, off, none⟩) nb cb) := by rw [cell_of_row w g 0 _ _ _ hh]; rfl
  have hc1 : w.cell? ⟨g, 1, none⟩ = some (.int .i64 p) := by rw [cell_of_row w g 1 _ _ _ hh]; rfl
  have hf1 : w.frozen? ⟨g, 1, none⟩ = false := frozen_of_row w g 1 _ _ hh
  have hx := hcell (p % nb) (Nat.mod_lt _ hnb0)
  have hy := hcell ((p * 7 + 3) % nb) (Nat.mod_lt _ hnb0)
  have hzp := hz (p % nb)
  have hzy := hz ((p * 7 + 3) % nb)
  obtain ⟨z, HZ⟩ : ∃ z, Hid (z = zs.getD (p % nb) 0) := ⟨_, rfl⟩
  obtain ⟨y, HY⟩ : ∃ y, Hid (y = zs.getD ((p * 7 + 3) % nb) 0) := ⟨_, rfl⟩
  rw [← HZ.out] at hx hzp
  rw [← HY.out] at hy hzy
  obtain ⟨hz1, hz2⟩ := hzp
  obtain ⟨hy1, hy2⟩ := hzy
  clear hh hcell hz
  have hd1 : decide (n < 1) = false := by simp; omega
  have hd2 : ((nb : Int) == 0) = false := by simp; omega
  have hm1 : 0 ≤ (p : Int) % (nb : Int) := Int.emod_nonneg _ (by omega)
  have hm2 : (p : Int) % (nb : Int) < (nb : Int) := Int.emod_lt_of_pos _ (by omega)
  have hm3 : 0 ≤ ((p : Int) * 7 + 3) % (nb : Int) := Int.emod_nonneg _ (by omega)
  have hm4 : ((p : Int) * 7 + 3) % (nb : Int) < (nb : Int) := Int.emod_lt_of_pos _ (by omega)
  have hq1 : 0 ≤ (p : Int) / (nb : Int) := Int.ediv_nonneg (by omega) (by omega)
  have hq2 : (p : Int) / (nb : Int) ≤ (p : Int) := Int.ediv_le_self _ (by omega)
  go_enter Tryz.func14, Tryz.ntmps14
  go_wp2
  go_quiet (fail)
  go_wp2
  go_ret
  exact ⟨_, _, xor_nonneg (z * 131 + y * 1117 + (p : Int) * 29 + (p : Int) / (nb : Int) * 53) _ (by omega) (by omega) (by omega) (by omega), rfl, rfl⟩

theorem Rd.after {w : World} {g P : Nat} (ab : Option Addr) (nb cb p : Nat) (zs : List Int) (hh : w.heap[g]? = some (.cells #[.slice ab nb cb, .int .i64 p] 73 (0, 0))) (hp : p ≤ P) (hn : nb ≤ 2000)
    (hc : 0 < nb → ∃ b off, ab = some ⟨b, off, none⟩ ∧ b < g ∧ b < w.heap.size ∧ ∀ j, j < nb → w.cell? ⟨b, off + j, none⟩ = some (.int .u8 (zs.getD j 0))) (hz : ∀ j, 0 ≤ zs.getD j 0 ∧ zs.getD j 0 ≤ 255) :
    Rd (w.setCell ⟨g, 1, none⟩ (.int .i64 (p + 1))) g (P + 1) ∧ w.grownBy (w.setCell ⟨g, 1, none⟩ (.int .i64 (p + 1))) (some g) := by
  have hsz : (w.setCell ⟨g, 1, none⟩ (.int .i64 (p + 1))).heap.size = w.heap.size := by simp [World.setCell]
  refine ⟨⟨ab, nb, cb, p + 1, zs, ?_, by omega, hn, fun h0 => ?_, hz⟩, ⟨rfl, rfl, rfl, by rw [hsz]; exact Nat.le_refl _, fun k _ hk => heap_setCell_other w ⟨g, 1, none⟩ k _ (fun e => hk (by simp [e]))⟩⟩
  · rw [heap_setCell_same w g 1 _ _ _ hh]; rfl
  · obtain ⟨b, off, rfl, hne, hbl, hcell⟩ := hc h0
    refine ⟨b, off, rfl, hne, by rw [hsz]; exact hbl, fun j hj => ?_⟩
    rw [World.cell?_of_block (w := w) (heap_setCell_other w ⟨g, 1, none⟩ b _ (Nat.ne_of_lt hne))]
    exact hcell j hj

theorem rd_drewN {w : World} {g P n : Nat} (h : Rd w g P) : Rd (w.drewN n) g P := h.below (below_drewN (Below.refl _ _) _)

theorem pick_any (g P : Nat) (n : Int) (w : World) (hn : 1 ≤ n) (hn2 : n ≤ 1099511627776) (hP : P ≤ 1099511627776) (h : Rd w g P) :
    Calls Tryz.prog 14 #[.pointer (some ⟨g, 0, none⟩), .int .i64 n] w fun e w' => ∃ r : Int, 0 ≤ r ∧ r < n ∧ e = .returned (.int .i64 r) ∧ Rd w' g (P + 1) ∧ w.grownBy w' (some g) := by
  obtain ⟨ab, nb, cb, p, zs, hh, hp, hnb, hc, hz⟩ := h
  have R := Rd.after ab nb cb p zs hh hp hnb hc hz
  by_cases h0 : 0 < nb
  · obtain ⟨b, off, rfl, hbg, hbl, hcell⟩ := hc h0
    by_cases hlt : p < nb
    · refine (pick_near g cb p b off nb zs n w hn hn2 hlt hnb (Nat.ne_of_lt hbg) hh hcell hz).mono fun e w' ⟨he, hw⟩ => ?_
      subst hw
      exact ⟨_, Int.emod_nonneg _ (by omega), Int.emod_lt_of_pos _ (by omega), he, R.1, R.2⟩
    · refine (pick_far g cb p b off nb zs n w hn hn2 (by omega) (by omega) hnb h0 (Nat.ne_of_lt hbg) hh hcell hz).mono fun e w' ⟨x, q, hx, he, hw⟩ => ?_
      subst hw
      exact ⟨_, Int.tmod_nonneg _ hx, Int.tmod_lt_of_pos _ (by omega), he, rd_drewN R.1, grown_below R.2 (below_drewN (Below.refl _ _) _)⟩
  · obtain rfl : nb = 0 := by omega
    refine (pick_none g cb p ab n w hn (by omega) hh).mono fun e w' ⟨he, hw⟩ => ?_
    subst hw
    exact ⟨0, by omega, by omega, he, R.1, R.2⟩

set_option maxHeartbeats 1000000 in
theorem num_any (g P lo hi : Nat) (v : Value) (xs : List Int) (w : World) (hP : P ≤ 1099511627776) (h : Rd w g P) (ho : Own w lo hi v xs) (hg : g < lo) (hpos : 0 < xs.length) (hmax : xs.length ≤ 1099511627776) :
    Calls Tryz.prog 15 #[.pointer (some ⟨g, 0, none⟩), v] w fun e w' => ∃ z : Int, z ∈ xs ∧ e = .returned (.int .i64 z) ∧ Rd w' g (P + 1) ∧ w.grownBy w' (some g) := by
  rcases ho.ints.cases with ⟨a, cap, rfl, rfl⟩ | ⟨b, off, cap, _, hlim, rfl, hbw, hc⟩
  · simp at hpos
  · obtain ⟨n, hn⟩ : ∃ n, n = xs.length := ⟨_, rfl⟩
    have HN : Hid (n = xs.length) := hn
    rw [← hn] at hpos hmax hlim ⊢
    clear hn
    go_enter Tryz.func15, Tryz.ntmps15
    go_wp2_with fail
    refine (pick_any g P n _ (by omega) (by omega) hP h).mono ?_
    rintro e w1 ⟨r, hr0, hrn, rfl, hrd, hgr⟩
    have ho1 := ho.kept hgr (fun k hk => by simp at hk; omega)
    obtain ⟨j, rfl⟩ := Int.eq_ofNat_of_zero_le hr0
    have hjn : j < n := by omega
    have hcj : w1.cell? ⟨b, off + j, none⟩ = some (.int .i64 (xs.getD j 0)) := by
      rcases ho1.ints.cases with ⟨a, cap', h1, h2⟩ | ⟨b', off', cap', _, _, h2, _, hc'⟩
      · subst h1; simp at HN; have := HN.out; omega
      · simp only [Value.slice.injEq, Option.some.injEq, Addr.mk.injEq, and_true] at h2
        obtain ⟨⟨rfl, rfl⟩, _⟩ := h2
        exact hc' j (by rw [← HN.out]; exact hjn)
    obtain ⟨z, HZ⟩ : ∃ z, Hid (z = xs.getD j 0) := ⟨_, rfl⟩
    rw [← HZ.out] at hcj
    clear ho ho1 hc h
    go_wp2
    go_ret
    exact ⟨z, by rw [HZ.out]; exact getD_mem (by rw [← HN.out]; exact hjn), rfl, hrd, hgr⟩

end Go.Proofs.YtflbdfpgaeeleaaGreatDoor
