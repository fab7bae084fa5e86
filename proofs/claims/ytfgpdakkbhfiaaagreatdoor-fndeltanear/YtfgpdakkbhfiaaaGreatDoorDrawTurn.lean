/-
  What is drawn for the laws of what is turned: spec.l6Turn, DrawDeltaOnce, DrawDeltaJoin.
-/
import Derived.Test.YtfgpdakkbhfiaaaGreatDoorDrawJoin
import Derived.Deep.RegionHeld3
namespace Go.Proofs.YtfgpdakkbhfiaaaGreatDoor
open Go.RowKit
set_option linter.unusedVariables false
set_option maxRecDepth 100000

theorem TailZ.atT {w : World} {a : Option Addr} {n cap : Nat} {zs : List It} (h : TailZ w (.slice a n cap) zs) {k : Nat} (hk : k < zs.length) :
    ∃ b off xa xn xc, a = some ⟨b, off, none⟩ ∧ b < w.heap.size ∧ w.cell? ⟨b, off + k * 2, none⟩ = some (.slice xa xn xc) ∧ w.cell? ⟨b, off + k * 2 + 1, none⟩ = some (.int .i64 (zs.getD k ([], 0)).2) ∧ IntsAt w (.slice xa xn xc) (zs.getD k ([], 0)).1 := by
  obtain ⟨_, a', c', e, _, hc⟩ := h.items
  obtain ⟨b, off, rfl, hb, hcell⟩ := hc (fun e => by rw [e] at hk; simp at hk)
  obtain ⟨rv, c0, c1, c2⟩ := hcell k hk
  obtain ⟨xa, xn, xc, rfl⟩ := c2.shape
  simp at e
  exact ⟨b, off, xa, xn, xc, e.1, hb, c0, c1, c2⟩
theorem TailZ.shapeT {w : World} {v : Value} {zs : List It} (h : TailZ w v zs) : ∃ a c, v = .slice a zs.length c := by
  obtain ⟨_, a, c, e, _⟩ := h.items
  exact ⟨a, c, e⟩

/-- What was drawn lies in another block than the reader, and its rows stay while the reader alone is written. -/
theorem Drawn.fixedT {w : World} {g : Nat} {a : Option Addr} {n cap : Nat} {zs : List It} (h : Drawn w g (.slice a n cap) zs) {k : Nat} (hk : k < zs.length) :
    ∃ b off xa xn xc, a = some ⟨b, off, none⟩ ∧ b < w.heap.size ∧ w.cell? ⟨b, off + k * 2, none⟩ = some (.slice xa xn xc) ∧ w.cell? ⟨b, off + k * 2 + 1, none⟩ = some (.int .i64 (zs.getD k ([], 0)).2) ∧ ∀ w', w.grownBy w' (some g) → IntsAt w' (.slice xa xn xc) (zs.getD k ([], 0)).1 := by
  obtain ⟨b, off, xa, xn, xc, rfl, hb, c0, c1, c2⟩ := h.now.atT hk
  have hne : b ≠ g := fun e => by
    have ho : Only 0 (g + 1) w (w.setCell ⟨b, off + k * 2 + 1, none⟩ (.int .i64 ((zs.getD k ([], 0)).2 + 1))) := (Only.refl _ _ _).setCell (Nat.zero_le _) (by show b < g + 1; omega) _
    obtain ⟨b', off', _, _, _, e1, _, _, d1, _⟩ := (h _ ho).atT hk
    simp only [Option.some.injEq, Addr.mk.injEq] at e1
    obtain ⟨rfl, rfl, _⟩ := e1
    rw [World.cell?_setCell_same' w _ _ (by rw [c1]; rfl)] at d1
    simp at d1
    omega
  refine ⟨b, off, xa, xn, xc, rfl, hb, c0, c1, fun w' hg => ?_⟩
  obtain ⟨b', off', ya, yn, yc, e1, _, d0, _, d2⟩ := (h.next hg).now.atT hk
  simp only [Option.some.injEq, Addr.mk.injEq] at e1
  obtain ⟨rfl, rfl, _⟩ := e1
  rw [World.cell?_of_block (hg.block b hb (by simp; omega)), c0] at d0
  simp only [Option.some.injEq, Value.slice.injEq] at d0
  obtain ⟨rfl, rfl, rfl⟩ := d0
  exact d2

/-- Items whose rows stay while the reader alone is written. -/
def TurnAt (w : World) (g : Nat) (va : Option Addr) (zs : List It) : Prop := ∀ w3, w.grownBy w3 (some g) → ∀ k, k < zs.length →
    ∃ b off xa xn xc, va = some ⟨b, off, none⟩ ∧ b < w3.heap.size ∧ w3.cell? ⟨b, off + k * 2, none⟩ = some (.slice xa xn xc) ∧ w3.cell? ⟨b, off + k * 2 + 1, none⟩ = some (.int .i64 (zs.getD k ([], 0)).2) ∧ ∀ w', w3.grownBy w' (some g) → IntsAt w' (.slice xa xn xc) (zs.getD k ([], 0)).1
theorem turnAt_below {w1 w : World} {g n vc : Nat} {va : Option Addr} {zs : List It} (h : TailZ w1 (.slice va n vc) zs) (hb : Below w1.heap.size w1 w) (hg : w1.heap.size ≤ g) : TurnAt w g va zs := by
  intro w3 h3 k hk
  have hB3 : Below w1.heap.size w1 w3 := hb.grown h3 hb.size (fun j e => by simp at e; omega)
  obtain ⟨b, off, xa, xn, xc, rfl, hbw, c0, c1, hrow⟩ := h.atT hk
  exact ⟨b, off, xa, xn, xc, rfl, Nat.lt_of_lt_of_le hbw hB3.size, cell_is (p := ⟨b, off + k * 2, none⟩) hB3 hbw c0, cell_is (p := ⟨b, off + k * 2 + 1, none⟩) hB3 hbw c1, fun w' h' => hrow.below (hB3.grown h' hB3.size (fun j e => by simp at e; omega))⟩
set_option maxHeartbeats 16000000 in
theorem l6TurnG_any (g P : Nat) (wd : Int) (va : Option Addr) (vc : Nat) (zs : List It) (w : World) (h0 : 0 ≤ wd) (h7 : wd ≤ 7) (hP : P ≤ 1099511600000) (h : Rd w g P) (hd : TurnAt w g va zs) (hgz : GoodZ zs) :
    Calls Tryz.prog 24 #[.pointer (some ⟨g, 0, none⟩), .slice va zs.length vc, .int .i64 wd] w fun e w' =>
      ∃ u, e = .returned u ∧ ∃ ds : List It, ds.length ≤ 4 ∧ OwnZ w' w.heap.size w'.heap.size u ds ∧ Rd w' g (P + 100) ∧ w.grownBy w' (some g) := by
  have hgw := h.lt
  have HD : Hid (TurnAt w g va zs) := hd
  have HGZ : Hid (GoodZ zs) := hgz
  have hzl2 : zs.length ≤ 200 := hgz.1
  clear hd hgz
  have Z1 : OwnZ (w.alloc (.cells #[] 42)) w.heap.size (w.alloc (.cells #[] 42)).heap.size (.slice (some ⟨w.heap.size, 0, none⟩) 0 0) [] := lit_ownZ w
  have hr1 : Rd (w.alloc (.cells #[] 42)) g P := h.below (below_alloc _)
  clear h
  go_enter Tryz.func24, Tryz.ntmps24
  go_wp2_with fail
  refine (pick_any g P 5 _ (by omega) (by omega) (by omega) hr1).mono ?_
  rintro e w1 ⟨m, hm1, hm2, rfl, hrd1, hg1⟩
  obtain ⟨m, rfl⟩ := Int.eq_ofNat_of_zero_le hm1
  have HZ1 : Hid (OwnZ w1 w.heap.size w1.heap.size (.slice (some ⟨w.heap.size, 0, none⟩) 0 0) []) := (Z1.far hg1 hgw).wide (Nat.le_refl _) hg1.size (Nat.le_refl _)
  have HR1 : Hid (Rd w1 g (P + 1)) := hrd1
  have HG1 : Hid (w.grownBy w1 (some g)) := grown_trans (World.grownBy_alloc w _ _) hg1
  have hmm : m ≤ 4 := by omega
  clear Z1 hr1 hrd1 hg1 hm1 hm2
  go_wp2
  go_loopw [7, 8] (fun s i wr => ∃ (j k : Nat) (ds : List It), j + k = m ∧ i = .int .i64 j ∧ Hid (ds.length ≤ k) ∧ Hid (GoodB (1000005 * k) ds) ∧ Hid (OwnZ wr w.heap.size wr.heap.size s ds) ∧ Hid (Rd wr g (P + 1 + 12 * k)) ∧ Hid (w.grownBy wr (some g)))
    (fun _ i _ => (intOf i).toNat)
  case atStart => exact ⟨m, 0, [], by omega, rfl, by simp [Hid], fun p hp => by simp at hp, HZ1.out, HR1.out, HG1.out⟩
  case round =>
    obtain ⟨j, k, ds, hjk, rfl, HL, HGd, HZ, HR, HG⟩ := hrel
    clear HZ1 HR1 HG1
    by_cases hlt : 0 < j
    · have hltI : (0 : Int) < (j : Int) := by omega
      by_cases hpos : 0 < zs.length
      · have hposI : (0 : Int) < (zs.length : Int) := by omega
        have hrd := HR.out
        go_wp2_with fail
        refine (pick_any g _ 2 _ (by omega) (by omega) (by omega) hrd).mono ?_
        rintro e w2 ⟨q, hq0, hq1, rfl, hrd2, hg2⟩
        have hZ := (HZ.out.far hg2 hgw).wide (Nat.le_refl _) hg2.size (Nat.le_refl _)
        have hG := grown_trans HG.out hg2
        clear hrd hg2
        by_cases hq : q = 0
        · subst hq
          go_wp2_with fail
          refine (pick_any g _ (zs.length : Int) _ (by omega) (by omega) (by omega) hrd2).mono ?_
          rintro e w3 ⟨q, hq2, hq3, rfl, hrd3, hg3⟩
          obtain ⟨q, rfl⟩ := Int.eq_ofNat_of_zero_le hq2
          have hqz : q < zs.length := by omega
          have hZ3 := (hZ.far hg3 hgw).wide (Nat.le_refl _) hg3.size (Nat.le_refl _)
          have hG3 := grown_trans hG hg3
          obtain ⟨b, off, xa, xn, xc, hva, hbw, c0, c1, hrow⟩ := HD.out w3 hG3 q hqz
          have hgd := HGZ.out.2 _ (getZ_mem hqz)
          obtain ⟨x, HX⟩ : ∃ x, Hid (x = (zs.getD q ([], 0)).1) := ⟨_, rfl⟩
          obtain ⟨y, HY⟩ : ∃ y, Hid (y = (zs.getD q ([], 0)).2) := ⟨_, rfl⟩
          rw [← HX.out] at hrow hgd
          rw [← HY.out] at c1 hgd
          have hwrap : IntKind.i64.wrap (-y) = -y := by rw [IntKind.wrap_i64]; omega
          have hgs3 := hG3.size
          have hw3 := hrd3.lt
          subst hva
          obtain ⟨wa, hwa⟩ : ∃ wa, wa = w3.alloc (.cells #[.slice xa xn xc, .int .i64 y] 42) := ⟨_, rfl⟩
          have hba : Below w3.heap.size w3 wa := by rw [hwa]; exact below_alloc _
          have hga : w3.grownBy wa (some g) := by rw [hwa]; exact World.grownBy_alloc _ _ _
          have hbl : w3.heap.size < wa.heap.size := by rw [hwa]; simp
          have t0 : wa.cell? ⟨w3.heap.size, 0, none⟩ = some (.slice xa xn xc) := by rw [hwa]; simp [go_sem]
          have t1 : wa.cell? ⟨w3.heap.size, 1, none⟩ = some (.int .i64 y) := by rw [hwa]; simp [go_sem]
          have hbd : Below wa.heap.size wa (wa.drew.alloc (.cells #[.int .i64 (-1), .int .i64 (-y), .int .i64 1] 3)) := (Below.drew (Below.refl _ _)).alloc (Nat.le_refl _) _
          have hgd2 : w3.grownBy (wa.drew.alloc (.cells #[.int .i64 (-1), .int .i64 (-y), .int .i64 1] 3)) (some g) := grown_trans hga (grown_drew (World.grownBy_alloc wa.drew (.cells #[.int .i64 (-1), .int .i64 (-y), .int .i64 1] 3) (some g)))
          have hb3 : Below w3.heap.size w3 (wa.drew.alloc (.cells #[.int .i64 (-1), .int .i64 (-y), .int .i64 1] 3)) := hba.trans (hbd.mono (by omega))
          have hlit : Own (wa.drew.alloc (.cells #[.int .i64 (-1), .int .i64 (-y), .int .i64 1] 3)) wa.heap.size (wa.heap.size + 1) (.slice (some ⟨wa.heap.size, 0, none⟩) 3 3) [-1, -y, 1] := own_lit wa.drew [-1, -y, 1] (by simp)
          have hrL : Rd (wa.drew.alloc (.cells #[.int .i64 (-1), .int .i64 (-y), .int .i64 1] 3)) g (P + 1 + 12 * k + 1 + 1) := hrd3.below hb3
          have hZL : OwnZ (wa.drew.alloc (.cells #[.int .i64 (-1), .int .i64 (-y), .int .i64 1] 3)) w.heap.size w3.heap.size u7 ds := hZ3.keep' hb3
          have u0 := cell_is (p := ⟨w3.heap.size, 0, none⟩) hbd hbl t0
          have u1 := cell_is (p := ⟨w3.heap.size, 1, none⟩) hbd hbl t1
          have hgne : ∀ {X : World}, (wa.drew.alloc (.cells #[.int .i64 (-1), .int .i64 (-y), .int .i64 1] 3)).grownBy X (some g) → X.cell? ⟨w3.heap.size, 0, none⟩ = some (.slice xa xn xc) ∧ X.cell? ⟨w3.heap.size, 1, none⟩ = some (.int .i64 y) := fun {X} hX => by
            have hb := hX.block w3.heap.size (Nat.lt_of_lt_of_le hbl hbd.size) (by simp; omega)
            exact ⟨(World.cell?_of_block hb).trans u0, (World.cell?_of_block hb).trans u1⟩
          have hzl : ds.length ≤ 1099511627775 := by have := HL.out; omega
          have hat : ∀ q, q < ds.length → -4611686018427387904 ≤ (ds.getD q ([], 0)).2 ∧ (ds.getD q ([], 0)).2 ≤ 4611686018427387903 := fun q hq => by have := (HGd.out _ (getZ_mem hq)).2.2; omega
          have hxl : x.length ≤ 8796093022208 := by omega
          clear hZ hG hrd2 hg3
          go_wp2
          rw [← hwa]
          clear hwa
          go_region_held3 (fun w' => w'.cell? ⟨w3.heap.size, 0, none⟩ = some (.slice xa xn xc) ∧ w'.cell? ⟨w3.heap.size, 1, none⟩ = some (.int .i64 y)) (first | go_keep | (exact ⟨u0, u1⟩) | (exact ⟨r0, r1⟩) | (exact ⟨r2, r3⟩)) (first
            | (have hN := hg4; go_at_call 58; refine (l2Put_any _ w.heap.size w3.heap.size ds _ x z _ (hZL.far hN hgw) hgs3 (hrow _ (grown_trans hgd2 hN)) hzl hxl hat (by omega)).mono ?_; rintro e w5 ⟨v5, rfl, Z5, O5⟩; have hx5 := World.cell?_of_block (a := ⟨w3.heap.size, 0, none⟩) (O5.block w3.heap.size (by have := hN.size; have := hbd.size; omega) (.inr (Nat.le_refl _))); have hx6 := World.cell?_of_block (a := ⟨w3.heap.size, 1, none⟩) (O5.block w3.heap.size (by have := hN.size; have := hbd.size; omega) (.inr (Nat.le_refl _))); have r2 := hx5.trans r0; have r3 := hx6.trans r1)
            | (go_at_call 57; refine (num_any g _ _ _ _ _ _ (by omega) hrL hlit (by omega) (by simp) (by simp)).mono ?_; rintro e w4 ⟨z, hz, rfl, hrd4, hg4⟩; have hzb : -1000000 ≤ z ∧ z ≤ 1000000 := (by simp at hz; omega); obtain ⟨r0, r1⟩ := hgne hg4))
          all_goals
            have HZ5 : Hid (OwnZ w5 w.heap.size w5.heap.size v5 (putZ ds x z)) := Z5
            have HR5 : Hid (Rd w5 g (P + 1 + 12 * (k + 1))) := (hrd4.only O5 hgw).le (by omega)
            have HG5 : Hid (w.grownBy w5 (some g)) := grown_only (grown_trans hG3 (grown_trans hgd2 hg4)) O5
            have HL5 : Hid ((putZ ds x z).length ≤ k + 1) := by have h1 := put_len x z ds; have h2 := HL.out; show _ ≤ _; omega
            have HD5 : Hid (GoodB (1000005 * ((k + 1 : Nat) : Int)) (putZ ds x z)) := by
              have h1 := good_put (C := 1000005) HGd.out (by omega) (by omega) hgd.1 hgd.2.1 (show -1000005 ≤ z ∧ z ≤ 1000005 by omega)
              exact h1.up (by omega)
            clear Z5 O5 hrd4 hat hg4 r0 r1 r2 r3 u0 u1 t0 t1 hrow hgne hrL hZL hlit c0 c1 hgd2 hbd hb3 hba hga
            go_wp2
            go_roundw
            case rel => exact ⟨j - 1, k + 1, putZ ds x z, by omega, by rw [show ((j - 1 : Nat) : Int) = (j : Int) - 1 by omega], HL5.out, HD5.out, HZ5.out, HR5.out, HG5.out⟩
            case measure => simp [intOf]; omega
        · have hqf : (q == 0) = false := by simp [hq]
          have hR := hrd2
          clear hrd2 hq
          have hgsO := hG.size
          go_wp2_with fail
          refine (l1Row_any g _ wd _ h0 h7 (by omega) hR).mono ?_
          rintro e x2 ⟨rv2, rfl, xs, hxl, hsm, O2, hrd2, hg2⟩
          have Z2 := (hZ.far hg2 hgw).wide (Nat.le_refl _) hg2.size (Nat.le_refl _)
          have hG2 := grown_trans hG hg2
          have hgs2 := hG2.size
          have hxl7 : xs.length ≤ 7 := by omega
          clear hR hxl hZ hG
          have hlit : Own (x2.alloc (.cells #[.int .i64 1, .int .i64 1, .int .i64 2, .int .i64 (-1)] 3)) x2.heap.size (x2.heap.size + 1) (.slice (some ⟨x2.heap.size, 0, none⟩) 4 4) [1, 1, 2, -1] := own_lit x2 [1, 1, 2, -1] (by decide)
          have hr3 := hrd2.below (below_alloc (w := x2) (.cells #[.int .i64 1, .int .i64 1, .int .i64 2, .int .i64 (-1)] 3))
          have Z3 := (Z2.keep' (below_alloc (.cells #[.int .i64 1, .int .i64 1, .int .i64 2, .int .i64 (-1)] 3)))
          have O3 := O2.keep' (below_alloc (.cells #[.int .i64 1, .int .i64 1, .int .i64 2, .int .i64 (-1)] 3))
          have hG3 := grown_alloc hG2 (.cells #[.int .i64 1, .int .i64 1, .int .i64 2, .int .i64 (-1)] 3)
          clear Z2 O2 hrd2 hG2 hg2
          go_wp2_with fail
          refine (num_any g _ _ _ _ _ _ (by omega) hr3 hlit (by omega) (by decide) (by decide)).mono ?_
          rintro e x4 ⟨z, hz, rfl, hrd4, hg4⟩
          have hzb : -2 ≤ z ∧ z ≤ 2 := by simp at hz; omega
          have Z4 := Z3.far hg4 hgw
          have O4 := O3.far hg4 (by omega)
          have hG4 := grown_trans hG3 hg4
          have hzl : ds.length ≤ 1099511627775 := by have := HL.out; omega
          have hat : ∀ q, q < ds.length → -4611686018427387904 ≤ (ds.getD q ([], 0)).2 ∧ (ds.getD q ([], 0)).2 ≤ 4611686018427387903 := fun q hq => by have := (HGd.out _ (getZ_mem hq)).2.2; omega
          clear Z3 O3 hr3 hlit hG3 hz hg4
          go_wp2_with fail
          refine (l2Put_any _ w.heap.size x2.heap.size ds _ xs z _ Z4 hgs2 O4.ints hzl (by omega) hat (by omega)).mono ?_
          rintro e x5 ⟨v5, rfl, Z5, O5⟩
          have HZ5 : Hid (OwnZ x5 w.heap.size x5.heap.size v5 (putZ ds xs z)) := Z5
          have HR5 : Hid (Rd x5 g (P + 1 + 12 * (k + 1))) := (hrd4.only O5 hgw).le (by omega)
          have HG5 : Hid (w.grownBy x5 (some g)) := grown_only hG4 O5
          have HL5 : Hid ((putZ ds xs z).length ≤ k + 1) := by have h1 := put_len xs z ds; have h2 := HL.out; show _ ≤ _; omega
          have HD5 : Hid (GoodB (1000005 * ((k + 1 : Nat) : Int)) (putZ ds xs z)) := by
            have h1 := good_put (C := 5) HGd.out (by omega) (by omega) hxl7 hsm (show -5 ≤ z ∧ z ≤ 5 by omega)
            exact h1.up (by omega)
          clear Z4 O4 Z5 O5 hrd4 hG4 hat hsm
          go_wp2
          go_roundw
          case rel => exact ⟨j - 1, k + 1, putZ ds xs z, by omega, by rw [show ((j - 1 : Nat) : Int) = (j : Int) - 1 by omega], HL5.out, HD5.out, HZ5.out, HR5.out, HG5.out⟩
          case measure => simp [intOf]; omega
      · have hz0 : zs.length = 0 := by omega
        have hR := HR.out
        have hZ := HZ.out
        have hG := HG.out
        rw [hz0]
        have hgsO := hG.size
        go_wp2_with fail
        refine (l1Row_any g _ wd _ h0 h7 (by omega) hR).mono ?_
        rintro e x2 ⟨rv2, rfl, xs, hxl, hsm, O2, hrd2, hg2⟩
        have Z2 := (hZ.far hg2 hgw).wide (Nat.le_refl _) hg2.size (Nat.le_refl _)
        have hG2 := grown_trans hG hg2
        have hgs2 := hG2.size
        have hxl7 : xs.length ≤ 7 := by omega
        clear hR hxl hZ hG
        have hlit : Own (x2.alloc (.cells #[.int .i64 1, .int .i64 1, .int .i64 2, .int .i64 (-1)] 3)) x2.heap.size (x2.heap.size + 1) (.slice (some ⟨x2.heap.size, 0, none⟩) 4 4) [1, 1, 2, -1] := own_lit x2 [1, 1, 2, -1] (by decide)
        have hr3 := hrd2.below (below_alloc (w := x2) (.cells #[.int .i64 1, .int .i64 1, .int .i64 2, .int .i64 (-1)] 3))
        have Z3 := (Z2.keep' (below_alloc (.cells #[.int .i64 1, .int .i64 1, .int .i64 2, .int .i64 (-1)] 3)))
        have O3 := O2.keep' (below_alloc (.cells #[.int .i64 1, .int .i64 1, .int .i64 2, .int .i64 (-1)] 3))
        have hG3 := grown_alloc hG2 (.cells #[.int .i64 1, .int .i64 1, .int .i64 2, .int .i64 (-1)] 3)
        clear Z2 O2 hrd2 hG2 hg2
        go_wp2_with fail
        refine (num_any g _ _ _ _ _ _ (by omega) hr3 hlit (by omega) (by decide) (by decide)).mono ?_
        rintro e x4 ⟨z, hz, rfl, hrd4, hg4⟩
        have hzb : -2 ≤ z ∧ z ≤ 2 := by simp at hz; omega
        have Z4 := Z3.far hg4 hgw
        have O4 := O3.far hg4 (by omega)
        have hG4 := grown_trans hG3 hg4
        have hzl : ds.length ≤ 1099511627775 := by have := HL.out; omega
        have hat : ∀ q, q < ds.length → -4611686018427387904 ≤ (ds.getD q ([], 0)).2 ∧ (ds.getD q ([], 0)).2 ≤ 4611686018427387903 := fun q hq => by have := (HGd.out _ (getZ_mem hq)).2.2; omega
        clear Z3 O3 hr3 hlit hG3 hz hg4
        go_wp2_with fail
        refine (l2Put_any _ w.heap.size x2.heap.size ds _ xs z _ Z4 hgs2 O4.ints hzl (by omega) hat (by omega)).mono ?_
        rintro e x5 ⟨v5, rfl, Z5, O5⟩
        have HZ5 : Hid (OwnZ x5 w.heap.size x5.heap.size v5 (putZ ds xs z)) := Z5
        have HR5 : Hid (Rd x5 g (P + 1 + 12 * (k + 1))) := (hrd4.only O5 hgw).le (by omega)
        have HG5 : Hid (w.grownBy x5 (some g)) := grown_only hG4 O5
        have HL5 : Hid ((putZ ds xs z).length ≤ k + 1) := by have h1 := put_len xs z ds; have h2 := HL.out; show _ ≤ _; omega
        have HD5 : Hid (GoodB (1000005 * ((k + 1 : Nat) : Int)) (putZ ds xs z)) := by
          have h1 := good_put (C := 5) HGd.out (by omega) (by omega) hxl7 hsm (show -5 ≤ z ∧ z ≤ 5 by omega)
          exact h1.up (by omega)
        clear Z4 O4 Z5 O5 hrd4 hG4 hat hsm
        go_wp2
        go_roundw
        case rel => exact ⟨j - 1, k + 1, putZ ds xs z, by omega, by rw [show ((j - 1 : Nat) : Int) = (j : Int) - 1 by omega], HL5.out, HD5.out, HZ5.out, HR5.out, HG5.out⟩
        case measure => simp [intOf]; omega
    · obtain rfl : j = 0 := by omega
      go_wp2
      go_ret
      refine ⟨_, rfl, ds, by have := HL.out; omega, HZ.out, HR.out.le (by omega), HG.out⟩
theorem l6Turn_any (g P : Nat) (wd : Int) (v : Value) (zs : List It) (w : World) (h0 : 0 ≤ wd) (h7 : wd ≤ 7) (hP : P ≤ 1099511600000) (h : Rd w g P) (hd : Drawn w g v zs) (hgz : GoodZ zs) :
    Calls Tryz.prog 24 #[.pointer (some ⟨g, 0, none⟩), v, .int .i64 wd] w fun e w' =>
      ∃ u, e = .returned u ∧ ∃ ds : List It, ds.length ≤ 4 ∧ OwnZ w' w.heap.size w'.heap.size u ds ∧ Rd w' g (P + 100) ∧ w.grownBy w' (some g) := by
  obtain ⟨va, vc, rfl⟩ := hd.now.shapeT
  exact l6TurnG_any g P wd va vc zs w h0 h7 hP h (fun w3 hg k hk => (hd.next hg).fixedT hk) hgz
set_option maxHeartbeats 4000000 in
theorem drawDeltaOnce_any (a : Option Addr) (len cap : Nat) (bs : List Int) (w : World) (h : IsRow .u8 w a len cap bs) :
    Calls Tryz.prog 15 #[.slice a len cap] w fun e w' =>
      ∃ (v u : Value) (zs ds : List It), e = .returned (.tuple #[v, u]) ∧ GoodZ zs ∧ ds.length ≤ 4 ∧ TailZ w' v zs ∧ TailZ w' u ds ∧ Below w.heap.size w w' := by
  go_enter Tryz.func15, Tryz.ntmps15
  go_wp2_with fail
  refine (l12Open_any a len cap bs _ h).mono ?_
  rintro e w1 ⟨rfl, hrd1, hb1⟩
  have B1 : Hid (Below w.heap.size w w1) := hb1
  clear hb1 h
  obtain ⟨g, hg⟩ : ∃ g, g = w.heap.size := ⟨_, rfl⟩
  rw [← hg] at hrd1 ⊢
  have HG : Hid (g = w.heap.size) := hg
  clear hg
  go_wp2_with fail
  refine (l5Wide_any g _ _ (by omega) hrd1).mono ?_
  rintro e w2 ⟨v, wd, rfl, ⟨hwd1, hwd2⟩, zs, hgz, hd2, hrd2, hg2⟩
  have B2 : Hid (Below w.heap.size w w2) := B1.out.grown hg2 B1.out.size (fun k hk => by simp at hk; have := HG.out; omega)
  have HGZ : Hid (GoodZ zs) := hgz
  have HD2 : Hid (Drawn w2 g v zs) := hd2
  clear hg2 hrd1 B1
  go_wp2_with fail
  refine (l6Turn_any g _ wd v zs _ (by omega) (by omega) (by omega) hrd2 hd2 hgz).mono ?_
  rintro e w3 ⟨u, rfl, ds, hl, hz3, hrd3, hg3⟩
  have B3 : Hid (Below w.heap.size w w3) := B2.out.grown hg3 B2.out.size (fun k hk => by simp at hk; have := HG.out; omega)
  have HDz3 : Hid (Drawn w3 g v zs) := HD2.out.next hg3
  have HDd3 : Hid (TailZ w3 u ds) := hz3.tail
  clear hg3 hrd2 hd2 B2 HD2 hz3 hrd3 hgz
  go_wp2
  exact bodyPost_ret (v := .tuple #[v, u]) (by simp [results, Tryz.results15, go_sem]) rfl ⟨v, u, zs, ds, rfl, HGZ.out, hl, HDz3.out.now, HDd3.out, B3.out⟩

end Go.Proofs.YtfgpdakkbhfiaaaGreatDoor
