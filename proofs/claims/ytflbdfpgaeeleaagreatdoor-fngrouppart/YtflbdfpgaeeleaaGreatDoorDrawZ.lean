/-
  The draws of items: spec.l2Z, l2Bent, l2Two and what calls them: whatever the bytes are, they return items of small numbers, and write nothing that was there but the reader.
-/
import Derived.Test.YtflbdfpgaeeleaaGreatDoorZAdd
import Derived.Test.YtflbdfpgaeeleaaGreatDoorDraw
namespace Go.Proofs.YtflbdfpgaeeleaaGreatDoor
set_option maxRecDepth 100000
open Go.RowKit

/-- Items of small numbers, whose weights are at most B. -/
def GoodB (B : Int) (zs : List It) : Prop := ∀ p ∈ zs, p.1.length ≤ 7 ∧ Small p.1 ∧ -B ≤ p.2 ∧ p.2 ≤ B
def GoodZ (zs : List It) : Prop := zs.length ≤ 200 ∧ GoodB 1000000 zs

theorem good_put {B C : Int} {zs : List It} {r : List Int} {y : Int} (h : GoodB B zs) (hB : 0 ≤ B) (hC : 0 ≤ C) (hr : r.length ≤ 7) (hs : Small r) (hy : -C ≤ y ∧ y ≤ C) : GoodB (B + C) (putZ zs r y) := fun x hx => by
  have h2 := put_bound (r := r) hy hB hC (fun p hp => (h p hp).2.2) x hx
  rcases mem_put hx with hm | hm
  · exact ⟨(h x hm).1, (h x hm).2.1, h2⟩
  · rw [hm]; exact ⟨hr, hs, h2⟩
theorem GoodB.at {B : Int} {zs : List It} (h : GoodB B zs) (hB : B ≤ 1000000) : ∀ j, j < zs.length → -4611686018427387904 ≤ (zs.getD j ([], 0)).2 ∧ (zs.getD j ([], 0)).2 ≤ 4611686018427387903 := fun j hj => by
  have := (h _ (getZ_mem hj)).2.2
  omega
theorem GoodB.up {B C : Int} {zs : List It} (h : GoodB B zs) (hBC : B ≤ C) : GoodB C zs := fun p hp => by
  have := h p hp
  exact ⟨this.1, this.2.1, by omega, by omega⟩
theorem GoodZ.mild {zs : List It} (h : GoodZ zs) : Mild zs := by
  refine ⟨by have := h.1; omega, fun k hk => by have := (h.2 _ (getZ_mem hk)).1; omega, fun p hp => by have := (h.2 p hp).2.2; omega⟩

theorem grown_only {w0 a b : World} {g hi : Nat} (h : w0.grownBy a (some g)) (k : Only w0.heap.size hi a b) : w0.grownBy b (some g) :=
  ⟨k.os.trans h.os, k.tape.trans h.tape, k.output.trans h.output, Nat.le_trans h.size k.size, fun i hi' hne => (k.block i (Nat.lt_of_lt_of_le hi' h.size) (.inl hi')).trans (h.block i hi' hne)⟩
theorem Rd.only {w w' : World} {g P lo hi : Nat} (h : Rd w g P) (k : Only lo hi w w') (hg : g < lo) : Rd w' g P := by
  have hgl := h.lt
  obtain ⟨ab, nb, cb, p, zs, hh, hp, hn, hc, hz⟩ := h
  refine ⟨ab, nb, cb, p, zs, (k.block g hgl (.inl hg)).trans hh, hp, hn, fun h0 => ?_, hz⟩
  obtain ⟨b, off, rfl, hbg, hbl, hcell⟩ := hc h0
  exact ⟨b, off, rfl, hbg, Nat.lt_of_lt_of_le hbl k.size, fun j hj => (World.cell?_of_block (k.block b hbl (.inl (by omega)))).trans (hcell j hj)⟩
theorem OwnZ.far {w w' : World} {lo hi g : Nat} {v : Value} {zs : List It} (h : OwnZ w lo hi v zs) (hg : w.grownBy w' (some g)) (hlt : g < lo) : OwnZ w' lo hi v zs :=
  h.only (lo := g) (hi := g + 1) (Only.of_grown hg (fun k hk => by simp at hk; omega)) (.inr hlt)
theorem Own.far {w w' : World} {lo hi g : Nat} {v : Value} {xs : List Int} (h : Own w lo hi v xs) (hg : w.grownBy w' (some g)) (hlt : g < lo) : Own w' lo hi v xs :=
  h.only (lo := g) (hi := g + 1) (Only.of_grown hg (fun k hk => by simp at hk; omega)) (.inr hlt)
theorem Spine.far {w w' : World} {lo hi g : Nat} {v : Value} {ps : List (Value × Int)} (h : Spine w lo hi v ps) (hg : w.grownBy w' (some g)) (hlt : g < lo) : Spine w' lo hi v ps :=
  h.only (lo := g) (hi := g + 1) (Only.of_grown hg (fun k hk => by simp at hk; omega)) (.inr hlt)
theorem Spine.tailZ {w : World} {lo hi : Nat} {v : Value} {l : List Rw} (S : Spine w lo hi v (prs l)) (hr : RowsIn w l) : TailZ w v (its l) := by
  refine ⟨l, rfl, ⟨S.pairs hr.shape, ?_⟩, hr⟩
  rcases S.1.2 with ⟨rfl, h0⟩ | ⟨g, cap, cur, rfl, _, _, hnc, hcm, _⟩
  · exact ⟨none, 0, by rw [h0], by omega, by omega⟩
  · exact ⟨_, cap, rfl, hnc, by have := hcm; simp only [maxLen] at this; omega⟩

set_option maxHeartbeats 4000000 in
theorem l2Z_any (g P : Nat) (wd most : Int) (w : World) (h0 : 0 ≤ wd) (h7 : wd ≤ 7) (hm0 : 0 ≤ most) (hm : most ≤ 40) (hP : P ≤ 1099511620000) (h : Rd w g P) :
    Calls Tryz.prog 42 #[.pointer (some ⟨g, 0, none⟩), .int .i64 wd, .int .i64 most] w fun e w' =>
      ∃ v, e = .returned v ∧ ∃ zs : List It, (zs.length : Int) ≤ most ∧ GoodB 200 zs ∧ OwnZ w' w.heap.size w'.heap.size v zs ∧ Rd w' g (P + 400) ∧ w.grownBy w' (some g) := by
  have hgw := h.lt
  have Z1 : OwnZ (w.alloc (.cells #[] 36)) w.heap.size (w.alloc (.cells #[] 36)).heap.size (.slice (some ⟨w.heap.size, 0, none⟩) 0 0) [] := lit_ownZ w
  have hr1 : Rd (w.alloc (.cells #[] 36)) g P := h.below (below_alloc _)
  clear h
  go_enter Tryz.func42, Tryz.ntmps42
  go_wp2_with fail
  refine (pick_any g P (most + 1) _ (by omega) (by omega) (by omega) hr1).mono ?_
  rintro e w1 ⟨m, hm1, hm2, rfl, hrd1, hg1⟩
  obtain ⟨m, rfl⟩ := Int.eq_ofNat_of_zero_le hm1
  have HZ1 : Hid (OwnZ w1 w.heap.size w1.heap.size (.slice (some ⟨w.heap.size, 0, none⟩) 0 0) []) := (Z1.far hg1 hgw).wide (Nat.le_refl _) hg1.size (Nat.le_refl _)
  have HR1 : Hid (Rd w1 g (P + 1)) := hrd1
  have HG1 : Hid (w.grownBy w1 (some g)) := grown_trans (World.grownBy_alloc w _ _) hg1
  have hmm : m ≤ 40 := by omega
  have hmo : (m : Int) ≤ most := by omega
  clear Z1 hr1 hrd1 hg1 hm1 hm2
  go_wp2
  go_loopw [7, 8] (fun s i wr => ∃ (j k : Nat) (zs : List It), j + k = m ∧ i = .int .i64 j ∧ Hid (zs.length ≤ k) ∧ Hid (GoodB (5 * k) zs) ∧ Hid (OwnZ wr w.heap.size wr.heap.size s zs) ∧ Hid (Rd wr g (P + 1 + 9 * k)) ∧ Hid (w.grownBy wr (some g)))
    (fun _ i _ => (intOf i).toNat)
  case atStart => exact ⟨m, 0, [], by omega, rfl, by simp [Hid], fun p hp => by simp at hp, HZ1.out, HR1.out, HG1.out⟩
  case round =>
    obtain ⟨j, k, zs, hjk, rfl, HL, HGd, HZ, HR, HG⟩ := hrel
    clear HZ1 HR1 HG1
    have hgs := HG.out.size
    by_cases hlt : 0 < j
    · have hltI : (0 : Int) < (j : Int) := by omega
      have hrd := HR.out
      go_wp2_with fail
      refine (l1Row_any g _ wd _ h0 h7 (by omega) hrd).mono ?_
      rintro e w2 ⟨v2, rfl, xs, hxl, hsm, O2, hrd2, hg2⟩
      have Z2 := (HZ.out.far hg2 hgw).wide (Nat.le_refl _) hg2.size (Nat.le_refl _)
      have hG2 := grown_trans HG.out hg2
      have hgs2 := hG2.size
      have hxl7 : xs.length ≤ 7 := by omega
      clear hrd hxl
      have hlit : Own (w2.alloc (.cells #[.int .i64 1, .int .i64 1, .int .i64 1, .int .i64 2, .int .i64 (-1), .int .i64 3, .int .i64 (-2)] 3)) w2.heap.size (w2.heap.size + 1) (.slice (some ⟨w2.heap.size, 0, none⟩) 7 7) [1, 1, 1, 2, -1, 3, -2] := own_lit w2 [1, 1, 1, 2, -1, 3, -2] (by decide)
      have hr3 : Rd (w2.alloc (.cells #[.int .i64 1, .int .i64 1, .int .i64 1, .int .i64 2, .int .i64 (-1), .int .i64 3, .int .i64 (-2)] 3)) g (P + 1 + 9 * k + 7) := hrd2.below (below_alloc _)
      have Z3 := (Z2.keep' (below_alloc (.cells #[.int .i64 1, .int .i64 1, .int .i64 1, .int .i64 2, .int .i64 (-1), .int .i64 3, .int .i64 (-2)] 3)))
      have O3 := O2.keep' (below_alloc (.cells #[.int .i64 1, .int .i64 1, .int .i64 1, .int .i64 2, .int .i64 (-1), .int .i64 3, .int .i64 (-2)] 3))
      have hG3 := grown_alloc hG2 (.cells #[.int .i64 1, .int .i64 1, .int .i64 1, .int .i64 2, .int .i64 (-1), .int .i64 3, .int .i64 (-2)] 3)
      have hgw2 : w.heap.size ≤ wr.heap.size := hgs
      clear Z2 O2 hrd2 hG2 hg2
      go_wp2_with fail
      refine (num_any g _ _ _ _ _ _ (by omega) hr3 hlit (by omega) (by decide) (by decide)).mono ?_
      rintro e w4 ⟨z, hz, rfl, hrd4, hg4⟩
      have hzb : -3 ≤ z ∧ z ≤ 3 := by simp at hz; omega
      have Z4 := Z3.far hg4 hgw
      have O4 := O3.far hg4 (by omega)
      have hG4 := grown_trans hG3 hg4
      have hlo4 : w.heap.size ≤ w2.heap.size := hgs2
      have hzl : zs.length ≤ 1099511627775 := by have := HL.out; omega
      have hat := HGd.out.at (by omega)
      clear Z3 O3 hr3 hlit hG3 hz hg4
      go_wp2_with fail
      refine (l2Put_any _ w.heap.size w2.heap.size zs _ xs z _ Z4 hlo4 O4.ints hzl (by omega) hat (by omega)).mono ?_
      rintro e w5 ⟨v5, rfl, Z5, O5⟩
      have HZ5 : Hid (OwnZ w5 w.heap.size w5.heap.size v5 (putZ zs xs z)) := Z5
      have HR5 : Hid (Rd w5 g (P + 1 + 9 * (k + 1))) := (hrd4.only O5 hgw).le (by omega)
      have HG5 : Hid (w.grownBy w5 (some g)) := grown_only hG4 O5
      have HL5 : Hid ((putZ zs xs z).length ≤ k + 1) := by have h1 := put_len xs z zs; have h2 := HL.out; show _ ≤ _; omega
      have HD5 : Hid (GoodB (5 * ((k + 1 : Nat) : Int)) (putZ zs xs z)) := by
        have h1 := good_put (C := 5) HGd.out (by omega) (by omega) hxl7 hsm (show -5 ≤ z ∧ z ≤ 5 by omega)
        exact h1.up (by omega)
      clear Z4 O4 Z5 O5 hrd4 hG4 hat hsm
      go_wp2
      go_roundw
      case rel => exact ⟨j - 1, k + 1, putZ zs xs z, by omega, by rw [show ((j - 1 : Nat) : Int) = (j : Int) - 1 by omega], HL5.out, HD5.out, HZ5.out, HR5.out, HG5.out⟩
      case measure => simp [intOf]; omega
    · obtain rfl : j = 0 := by omega
      go_wp2
      go_ret
      refine ⟨_, rfl, zs, by have := HL.out; omega, HGd.out.up (by omega), HZ.out, HR.out.le (by omega), HG.out⟩

/-- Items that were drawn by the reader g: they stay while the reader alone is written. -/
def Drawn (w : World) (g : Nat) (v : Value) (zs : List It) : Prop := ∀ w'', Only 0 (g + 1) w w'' → TailZ w'' v zs
theorem only_at {w w' : World} {g b : Nat} (h : w.grownBy w' (some b)) (hb : b ≤ g) : Only 0 (g + 1) w w' := Only.of_grown h (fun k e => by simp at e; omega)
theorem Drawn.now {w : World} {g : Nat} {v : Value} {zs : List It} (h : Drawn w g v zs) : TailZ w v zs := h w (Only.refl _ _ _)
theorem Drawn.next {w w' : World} {g : Nat} {v : Value} {zs : List It} (h : Drawn w g v zs) (hg : w.grownBy w' (some g)) : Drawn w' g v zs := fun w'' hg'' => h w'' ((only_at hg (Nat.le_refl _)).trans hg'')
theorem OwnZ.drawn {w : World} {lo hi g : Nat} {v : Value} {zs : List It} (h : OwnZ w lo hi v zs) (hg : g < lo) : Drawn w g v zs := fun _ hw => (h.only hw (.inr hg)).tail

theorem prs_set (l : List Rw) (k : Nat) (x : Rw) : prs (l.set k x) = (prs l).set k (x.1, x.2.2) := by simp [prs, List.map_set]
theorem its_set (l : List Rw) (k : Nat) (x : Rw) : its (l.set k x) = (its l).set k x.2 := by simp [its, List.map_set]
theorem small_nil : Small [] := fun x hx => by simp at hx
theorem small_one {x : Int} (h : -2000000000 ≤ x ∧ x ≤ 2000000000) : Small [x] := fun y hy => by simp at hy; rw [hy]; exact h
theorem good_set {B : Int} {zs : List It} {k : Nat} {p : It} (h : GoodB B zs) (hp : p.1.length ≤ 7 ∧ Small p.1 ∧ -B ≤ p.2 ∧ p.2 ≤ B) : GoodB B (zs.set k p) := fun x hx => by
  rcases List.mem_or_eq_of_mem_set hx with e | e
  · exact h x e
  · rw [e]; exact hp

set_option maxHeartbeats 16000000 in
theorem l2Bent_any (g P : Nat) (w : World) (hP : P ≤ 1099511610000) (h : Rd w g P) :
    Calls Tryz.prog 41 #[.pointer (some ⟨g, 0, none⟩)] w fun e w' =>
      ∃ v, e = .returned v ∧ ∃ zs : List It, GoodZ zs ∧ Drawn w' g v zs ∧ Rd w' g (P + 500) ∧ w.grownBy w' (some g) := by
  obtain ⟨i0, hi0, hz0, hz1, hz2⟩ := info_parts infoItem
  have hgw := h.lt
  go_enter Tryz.func41, Tryz.ntmps41
  go_wp2_with fail
  refine (pick_any g P 3 _ (by omega) (by omega) (by omega) h).mono ?_
  rintro e w1 ⟨r0, hr0, hr3, rfl, hrd1, hg1⟩
  clear h
  have hs1 := hg1.size
  go_wp2_with fail
  refine (l2Z_any g _ (1 + r0) 6 _ (by omega) (by omega) (by omega) (by omega) (by omega) hrd1).mono ?_
  rintro e w2 ⟨v2, rfl, zs, hzl, hgd, Z2', hrd2, hg2'⟩
  have Z2 := Z2'.wide hs1 (Nat.le_refl _) (Nat.le_refl _)
  have hg2 := grown_trans hg1 hg2'
  have hs2 := hg2.size
  have HGD : Hid (GoodB 200 zs) := hgd
  have HZL : Hid (zs.length ≤ 6) := by show _ ≤ _; omega
  clear hrd1 hg1 hg2' Z2' hgd hr0 hr3
  by_cases hne : zs = []
  · subst hne
    obtain ⟨a, cap, rfl⟩ := Z2.shape
    have HD : Hid (Drawn w2 g (.slice a 0 cap) []) := Z2.drawn hgw
    have HR : Hid (Rd w2 g (P + 500)) := hrd2.le (by omega)
    clear Z2 hrd2
    go_wp2
    go_ret
    exact ⟨_, rfl, [], ⟨by simp, fun p hp => by simp at hp⟩, HD.out, HR.out, hg2⟩
  · obtain ⟨gz, cap, rfl, hgz1, hgz2, hcap⟩ : ∃ gz cap, v2 = .slice (some ⟨gz, 0, none⟩) zs.length cap ∧ w.heap.size ≤ gz ∧ gz < w2.heap.size ∧ zs.length ≤ cap := by
      obtain ⟨ps, he, hs, _⟩ := Z2
      have hl := snd_len he
      have hpos : 0 < zs.length := List.length_pos_iff.2 hne
      obtain ⟨g', cap, rfl, h1, h2, h3, _⟩ := hs.shape (by omega)
      exact ⟨g', cap, by rw [hl], h1, h2, by omega⟩
    obtain ⟨n, hn⟩ : ∃ n, n = zs.length := ⟨_, rfl⟩
    have HN : Hid (n = zs.length) := hn
    have hpos : 0 < n := by rw [hn]; exact List.length_pos_iff.2 hne
    have hn6 : n ≤ 6 := by rw [hn]; exact HZL.out
    rw [← hn] at Z2 hcap ⊢
    clear hn hne hzl
    have hn0 : ((n : Int) == 0) = false := by simp; omega
    go_wp2_with fail
    refine (pick_any g _ n _ (by omega) (by omega) (by omega) hrd2).mono ?_
    rintro e w3 ⟨k, hk0, hkn, rfl, hrd3, hg3⟩
    obtain ⟨k, rfl⟩ := Int.eq_ofNat_of_zero_le hk0
    have hkn' : k < n := by omega
    have Z3 := Z2.far hg3 hgw
    have hG3 := grown_trans hg2 hg3
    have z23 := hg3.size
    clear Z2 hrd2 hg2 hg3 hk0 hkn
    go_wp2_with fail
    refine (pick_any g _ 40 _ (by omega) (by omega) (by omega) hrd3).mono ?_
    rintro e w4 ⟨q, hq0, hq40, rfl, hrd4, hg4⟩
    have Z4 := Z3.far hg4 hgw
    have hG4 := grown_trans hG3 hg4
    have z34 := hg4.size
    have hs4 := hG4.size
    clear Z3 hrd3 hG3 hg4
    have hkz : k < zs.length := by rw [← HN.out]; exact hkn'
    by_cases hq0' : q = 0
    · subst hq0'
      have hlit : Own (w4.alloc (.cells #[.int .i64 0, .int .i64 10000, .int .i64 10001, .int .i64 (-10000)] 3)) w4.heap.size (w4.heap.size + 1) (.slice (some ⟨w4.heap.size, 0, none⟩) 4 4) [0, 10000, 10001, -10000] := own_lit w4 [0, 10000, 10001, -10000] (by decide)
      have hr5 := hrd4.below (below_alloc (.cells #[.int .i64 0, .int .i64 10000, .int .i64 10001, .int .i64 (-10000)] 3))
      have Z5 := Z4.keep' (below_alloc (.cells #[.int .i64 0, .int .i64 10000, .int .i64 10001, .int .i64 (-10000)] 3))
      have hG5 := grown_alloc hG4 (.cells #[.int .i64 0, .int .i64 10000, .int .i64 10001, .int .i64 (-10000)] 3)
      clear Z4 hrd4 hG4
      go_wp2_with fail
      refine (num_any g _ _ _ _ _ _ (by omega) hr5 hlit (by omega) (by decide) (by decide)).mono ?_
      rintro e w6 ⟨z, hz, rfl, hrd6, hg6⟩
      have hzb : -10001 ≤ z ∧ z ≤ 10001 := by simp at hz; omega
      have Z6 := Z5.far hg6 hgw
      have hG6 := grown_trans hG5 hg6
      clear Z5 hr5 hlit hG5 hz hg6
      obtain ⟨Z7, hg7⟩ := Z6.putW hkz z
      obtain ⟨u1, c1⟩ := Z6.cellAt1 hkz
      have f1 := Z6.frozenAt (k * 2 + 1)
      have HD : Hid (Drawn (w6.setCell ⟨gz, k * 2 + 1, none⟩ (.int .i64 z)) g (.slice (some ⟨gz, 0, none⟩) n cap) (zs.set k ((zs.getD k ([], 0)).1, z))) := Z7.drawn hgw
      have HR : Hid (Rd (w6.setCell ⟨gz, k * 2 + 1, none⟩ (.int .i64 z)) g (P + 500)) := (hrd6.grown hg7 (fun b e => by simp at e; omega)).le (by omega)
      have HG : Hid (w.grownBy (w6.setCell ⟨gz, k * 2 + 1, none⟩ (.int .i64 z)) (some g)) := grown_via hG6 hg7 (fun i e => by simp at e; omega)
      have HGZ : Hid (GoodZ (zs.set k ((zs.getD k ([], 0)).1, z))) := by
        have h1 := HGD.out _ (getZ_mem hkz)
        refine ⟨by rw [List.length_set]; have := HZL.out; omega, good_set (HGD.out.up (by omega)) ⟨h1.1, h1.2.1, by show -1000000 ≤ z; omega, by show z ≤ 1000000; omega⟩⟩
      clear Z6 Z7 hg7 hrd6 hG6
      go_wp2
      go_ret
      exact ⟨_, rfl, _, HGZ.out, HD.out, HR.out, HG.out⟩
    · have hqf0 : (q == 0) = false := by simp [hq0']
      by_cases hq1' : q = 1
      · subst hq1'
        obtain ⟨l, HL, S4, R4, A4⟩ := Z4.opened
        have hkl : k < l.length := by rw [← its_length, ← HL]; exact hkz
        have hA : Below w4.heap.size w4 (w4.alloc (.cells #[] 3)) := below_alloc _
        have S5 := S4.keep' hA
        have hkp : k < (prs l).length := by rw [prs_length]; exact hkl
        have s6 := S5.stored0 hkp (.slice (some ⟨w4.heap.size, 0, none⟩) 0 0)
        have c0 := S5.cell0 hkp
        have f0 := S5.frozenAt (k * 2)
        have e1 : (prs l).set k (Value.slice (some ⟨w4.heap.size, 0, none⟩) 0 0, ((prs l).getD k (vn, 0)).2) = prs (l.set k (Value.slice (some ⟨w4.heap.size, 0, none⟩) 0 0, ([], (zs.getD k ([], 0)).2))) := by
          rw [prs_set, HL]
          simp [prs, its, List.getD, hkl]
        have onew : Own (w4.alloc (.cells #[] 3)) w4.heap.size (w4.heap.size + 1) (.slice (some ⟨w4.heap.size, 0, none⟩) 0 0) [] := own_lit w4 [] (by simp)
        have onew2 := onew.keptB s6.2 (.inr (by simp [Value.ownBlock]; omega))
        rw [e1] at s6
        have HD : Hid (Drawn ((w4.alloc (.cells #[] 3)).setCell ⟨gz, k * 2, none⟩ (.slice (some ⟨w4.heap.size, 0, none⟩) 0 0)) g (.slice (some ⟨gz, 0, none⟩) n cap) (zs.set k ([], (zs.getD k ([], 0)).2))) := fun w'' hw'' => by
          have e2 : zs.set k ([], (zs.getD k ([], 0)).2) = its (l.set k (Value.slice (some ⟨w4.heap.size, 0, none⟩) 0 0, ([], (zs.getD k ([], 0)).2))) := by rw [its_set, ← HL]
          rw [e2]
          refine (s6.1.only hw'' (.inr hgw)).tailZ fun x hx => ?_
          rcases List.mem_or_eq_of_mem_set hx with e | e
          · have hrow := (R4 x e).keep' hA
            exact ((hrow.keptB s6.2 (row_ne_spine S5 hrow)).only hw'' (.inr hgw)).ints
          · rw [e]; exact (onew2.only hw'' (.inr (by omega))).ints
        have HR : Hid (Rd ((w4.alloc (.cells #[] 3)).setCell ⟨gz, k * 2, none⟩ (.slice (some ⟨w4.heap.size, 0, none⟩) 0 0)) g (P + 500)) := ((hrd4.below hA).grown s6.2 (fun b e => by simp at e; omega)).le (by omega)
        have HG : Hid (w.grownBy ((w4.alloc (.cells #[] 3)).setCell ⟨gz, k * 2, none⟩ (.slice (some ⟨w4.heap.size, 0, none⟩) 0 0)) (some g)) := grown_via (grown_alloc hG4 _) s6.2 (fun i e => by simp at e; omega)
        have HGZ : Hid (GoodZ (zs.set k ([], (zs.getD k ([], 0)).2))) := by
          have h1 := (HGD.out _ (getZ_mem hkz)).2.2
          refine ⟨by rw [List.length_set]; have := HZL.out; omega, good_set (HGD.out.up (by omega)) ⟨by simp, small_nil, by show -1000000 ≤ (zs.getD k ([], 0)).2; omega, by show (zs.getD k ([], 0)).2 ≤ 1000000; omega⟩⟩
        clear Z4 S4 S5 R4 A4 s6 hrd4 hG4 onew onew2 e1 hA HL
        go_wp2
        go_ret
        exact ⟨_, rfl, _, HGZ.out, HD.out, HR.out, HG.out⟩
      · have hqf1 : (q == 1) = false := by simp [hq1']
        by_cases hq2' : q = 2
        · subst hq2'
          obtain ⟨l, HL, S4, R4, A4⟩ := Z4.opened
          have hl0 : 0 < l.length := by rw [← its_length, ← HL, ← HN.out]; exact hpos
          have hp0 : 0 < (prs l).length := by rw [prs_length]; exact hl0
          have c0 := S4.cell0 hp0
          have c1 := S4.cell1 hp0
          have hin : IntsAt w4 l[0].1 l[0].2.1 := (R4 _ (List.getElem_mem hl0)).ints
          have e0 : (prs l).getD 0 (vn, 0) = (l[0].1, l[0].2.2) := by simp [prs, List.getD, hl0]
          obtain ⟨xa, xn, xc, hxv⟩ := hin.shape
          obtain ⟨y, HY⟩ : ∃ y : Int, Hid (y = (l[0]'hl0).2.2) := ⟨(l[0]'hl0).2.2, (rfl : (l[0]'hl0).2.2 = (l[0]'hl0).2.2)⟩
          rw [e0] at c0 c1
          simp only [hxv] at c0
          rw [← HY.out] at c1
          simp only [Nat.zero_mul, Nat.zero_add] at c0 c1
          have hlD : l.length = n := by rw [← its_length, ← HL, HN.out]
          obtain ⟨hspW, hprW, hfin⟩ := merge_ready (xv := .slice xa xn xc) y S4 ⟨_, _, _, rfl⟩ hs4 (by omega)
          have hpl : (prs l).length = n := by rw [prs_length, hlD]
          go_wp2_with (at_builtin; refine wpList_append_pairs rfl _ _ 23 rfl w.heap.size 36 i0 Tryz.underlying23 hi0 hz0 hz1 hz2 (.slice (some ⟨gz, 0, none⟩) n cap) (prs l) rfl hspW _ [(.slice xa xn xc, y)] rfl hprW (by rw [hpl]; simp; omega) (by simp; omega) ?_; intro v5 w5 hown5 hg5 _)
          obtain ⟨S5, B5⟩ := hfin v5 w5 l[0].2.1 hown5 hg5
          have hgr5 : w.grownBy w5 (some g) := grown_via (grown_alloc hG4 _) hg5 (fun i e => (hspW.lt i e).1)
          have HD : Hid (Drawn w5 g v5 (its (l ++ [(.slice xa xn xc, (l[0].2.1, y))]))) := fun w'' hw'' => by
            refine (S5.only hw'' (.inr hgw)).tailZ fun x hx => ?_
            have keep : ∀ x ∈ l, IntsAt w'' x.1 x.2.1 := fun x e => by
              have hrow := (R4 x e).keep' (below_alloc (.cells #[.slice xa xn xc, .int .i64 y] 36))
              have hsp := S4.keep' (below_alloc (.cells #[.slice xa xn xc, .int .i64 y] 36))
              exact ((hrow.keptB hg5 (row_ne_spine hsp hrow)).only hw'' (.inr hgw)).ints
            rcases List.mem_append.1 hx with e | e
            · exact keep x e
            · simp at e
              subst e
              have := keep _ (List.getElem_mem hl0)
              rwa [hxv] at this
          have HR : Hid (Rd w5 g (P + 500)) := ((hrd4.below (below_alloc _)).grown hg5 (fun b e => by have := (hspW.lt b e).1; omega)).le (by omega)
          have HG : Hid (w.grownBy w5 (some g)) := hgr5
          have HGZ : Hid (GoodZ (its (l ++ [(.slice xa xn xc, (l[0].2.1, y))]))) := by
            refine ⟨by rw [its_length]; simp; omega, fun p hp => ?_⟩
            rw [its_append, ← HL] at hp
            rcases List.mem_append.1 hp with e | e
            · exact HGD.out.up (by omega) p e
            · simp [its] at e
              subst e
              have := HGD.out.up (C := 1000000) (by omega) l[0].2 (by rw [HL]; exact List.mem_map.2 ⟨_, List.getElem_mem hl0, rfl⟩)
              rw [HY.out]; exact this
          clear S5 B5 hgr5 hspW hprW hfin hown5 hg5 Z4 S4 R4 A4 hrd4 hG4 HL
          go_wp2
          go_ret
          exact ⟨_, rfl, _, HGZ.out, HD.out, HR.out, HG.out⟩
        · have hqf2 : (q == 2) = false := by simp [hq2']
          by_cases hq3' : q = 3
          · subst hq3'
            have HZ4 : Hid (OwnZ w4 w.heap.size w4.heap.size (.slice (some ⟨gz, 0, none⟩) n cap) zs) := Z4.wide (Nat.le_refl _) (by have := Z4.hi_le; omega) (Nat.le_refl _)
            have HR4 : Hid (Rd w4 g (P + 450)) := hrd4.le (by omega)
            have HG4 : Hid (w.grownBy w4 (some g)) := hG4
            clear Z4 hrd4 hG4 hkz hkn' hn0 hq0 hq40 hqf0 hqf1 hqf2 hq0' hq1' hq2'
            go_wp2
            go_loopw [3, 5] (fun s i wr => ∃ (j : Nat) (ys : List It), j ≤ 101 ∧ i = .int .i64 j ∧ Hid (ys.length ≤ 6 + j) ∧ Hid (GoodB (200 + 2 * j) ys) ∧ Hid (OwnZ wr w.heap.size wr.heap.size s ys) ∧ Hid (Rd wr g (P + 450)) ∧ Hid (w.grownBy wr (some g)))
              (fun _ i _ => 101 - (intOf i).toNat)
            case atStart => exact ⟨0, zs, by omega, rfl, by have := HZL.out; show _ ≤ _; omega, HGD.out.up (by omega), HZ4.out, HR4.out, HG4.out⟩
            case round =>
              obtain ⟨j, ys, hj, rfl, HL, HGd, HZ, HR, HG⟩ := hrel
              clear HZ4 HR4 HG4
              by_cases hlt : j < 101
              · have hlit : Own (wr.alloc (.cells #[.int .i64 (10 + (j : Int))] 3)) wr.heap.size (wr.heap.size + 1) (.slice (some ⟨wr.heap.size, 0, none⟩) 1 1) [10 + (j : Int)] := own_lit wr [10 + (j : Int)] (by simp)
                have Z5 := HZ.out.keep' (below_alloc (.cells #[.int .i64 (10 + (j : Int))] 3))
                have hr5 := HR.out.below (below_alloc (.cells #[.int .i64 (10 + (j : Int))] 3))
                have hG5 := grown_alloc HG.out (.cells #[.int .i64 (10 + (j : Int))] 3)
                have hlo : w.heap.size ≤ wr.heap.size := HG.out.size
                have hat := HGd.out.at (by omega)
                have hyl : ys.length ≤ 1099511627775 := by have := HL.out; omega
                have hin := hlit.ints
                clear hlit
                go_wp2_with fail
                refine (l2Put_any _ w.heap.size wr.heap.size ys _ [10 + (j : Int)] 1 _ Z5 hlo hin hyl (by simp) hat (by omega)).mono ?_
                rintro e w5 ⟨v5, rfl, Z6, O6⟩
                have HZ6 : Hid (OwnZ w5 w.heap.size w5.heap.size v5 (putZ ys [10 + (j : Int)] 1)) := Z6
                have HR6 : Hid (Rd w5 g (P + 450)) := hr5.only O6 hgw
                have HG6 : Hid (w.grownBy w5 (some g)) := grown_only hG5 O6
                have HL6 : Hid ((putZ ys [10 + (j : Int)] 1).length ≤ 6 + (j + 1)) := by have h1 := put_len [10 + (j : Int)] 1 ys; have h2 := HL.out; show _ ≤ _; omega
                have HD6 : Hid (GoodB (200 + 2 * ((j + 1 : Nat) : Int)) (putZ ys [10 + (j : Int)] 1)) := by
                  have h1 := good_put (r := [10 + (j : Int)]) (y := 1) (C := 2) HGd.out (by omega) (by omega) (by simp) (small_one (x := 10 + (j : Int)) (by omega)) (show -2 ≤ (1 : Int) ∧ (1 : Int) ≤ 2 by omega)
                  exact h1.up (by omega)
                clear Z5 Z6 O6 hr5 hG5 hat hin
                go_wp2
                go_roundw
                case rel => exact ⟨j + 1, _, by omega, by go_num, HL6.out, HD6.out, HZ6.out, HR6.out, HG6.out⟩
                case measure => simp [intOf]; omega
              · obtain rfl : j = 101 := by omega
                go_wp2
                go_ret
                exact ⟨_, rfl, ys, ⟨by have := HL.out; omega, HGd.out.up (by omega)⟩, HZ.out.drawn hgw, HR.out.le (by omega), HG.out⟩
          · have hqf3 : (q == 3) = false := by simp [hq3']
            have HD : Hid (Drawn w4 g (.slice (some ⟨gz, 0, none⟩) n cap) zs) := Z4.drawn hgw
            have HR : Hid (Rd w4 g (P + 500)) := hrd4.le (by omega)
            have HG : Hid (w.grownBy w4 (some g)) := hG4
            have HGZ : Hid (GoodZ zs) := ⟨by have := HZL.out; omega, HGD.out.up (by omega)⟩
            clear Z4 hrd4 hG4 hq0' hq1' hq2' hq3'
            go_wp2
            go_ret
            exact ⟨_, rfl, _, HGZ.out, HD.out, HR.out, HG.out⟩

end Go.Proofs.YtflbdfpgaeeleaaGreatDoor
