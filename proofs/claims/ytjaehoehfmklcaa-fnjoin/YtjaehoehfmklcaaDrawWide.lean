/-
  What is drawn for the laws of joins, and that it is of one width where it is right: l2Z, l2Bent, l5Wide, DrawJoinOf.
-/
import Derived.Test.YtjaehoehfmklcaaDrawJoin
import Derived.Test.YtjaehoehfmklcaaPosFacts
namespace Go.Proofs.Ytjaehoehfmklcaa
open Go.RowKit
set_option linter.unusedVariables false
set_option maxRecDepth 100000

/-- In order, and so wide. -/
def SW (m : Nat) (zs : List It) : Prop := Srt zs ∧ ∀ p ∈ zs, p.1.length = m
def OneWide (zs : List It) : Prop := ∃ m, ∀ p ∈ zs, p.1.length = m
theorem sw_nil (m : Nat) : SW m [] := ⟨Srt.nil, fun p hp => by simp at hp⟩
theorem sw_put {m : Nat} {zs : List It} {r : List Int} (y : Int) (h : SW m zs) (hr : r.length = m) : SW m (putZ zs r y) := ⟨srt_put h.1, fun p hp => by
  rcases mem_put hp with h1 | h1
  · exact h.2 p h1
  · rw [h1]; exact hr⟩
theorem SW.one {m : Nat} {zs : List It} (h : SW m zs) : OneWide zs := ⟨m, h.2⟩
theorem one_nil : OneWide [] := ⟨0, fun p hp => by simp at hp⟩
theorem one_set {m : Nat} {zs : List It} {k : Nat} (h : SW m zs) (hk : k < zs.length) (z : Int) : OneWide (zs.set k ((zs.getD k ([], 0)).1, z)) := ⟨m, fun p hp => by
  rcases List.mem_or_eq_of_mem_set hp with e | e
  · exact h.2 p e
  · rw [e]; show (zs.getD k ([], 0)).1.length = m; exact h.2 _ (getZ_mem hk)⟩
theorem none_set {zs : List It} {k : Nat} (hk : k < zs.length) (z : Int) (h : zOkB (zs.set k ([], z)) = true) : OneWide (zs.set k ([], z)) := by
  have hm : (([], z) : It) ∈ zs.set k ([], z) := List.mem_iff_getElem.2 ⟨k, by simpa using hk, by simp⟩
  have := (zOk_partsD h hm).1
  simp [rowOkB] at this
/-- Behind j rounds of the last way: rows of one cell that none of the others is. -/
def Q3 (m j : Nat) (ys : List It) : Prop := Srt ys ∧ (∀ p ∈ ys, p.1.length = m ∨ ∃ i : Nat, i < j ∧ p.1 = [10 + (i : Int)]) ∧ (m ≠ 1 → ∀ i : Nat, i < j → getZ ys [10 + (i : Int)] = 1)
theorem q3_start {m : Nat} {zs : List It} (h : SW m zs) : Q3 m 0 zs := ⟨h.1, fun p hp => .inl (h.2 p hp), fun _ i hi => by omega⟩
theorem q3_next {m j : Nat} {ys : List It} (h : Q3 m j ys) : Q3 m (j + 1) (putZ ys [10 + (j : Int)] 1) := by
  refine ⟨srt_put h.1, fun p hp => ?_, fun hm i hi => ?_⟩
  · rcases mem_put hp with h1 | h1
    · rcases h.2.1 p h1 with e | ⟨i, hi, e⟩
      · exact .inl e
      · exact .inr ⟨i, by omega, e⟩
    · exact .inr ⟨j, by omega, h1⟩
  · rw [getZ_put h.1]
    by_cases e : i = j
    · subst e
      have h0 : getZ ys [10 + (i : Int)] = 0 := getZ_zero fun p hp e1 => by
        rcases h.2.1 p hp with e2 | ⟨k, hk, e2⟩
        · rw [e1] at e2; simp at e2; omega
        · rw [e1] at e2; simp at e2; omega
      rw [h0, if_pos rfl]; rfl
    · have hne : ¬ ([10 + (j : Int)] = [10 + (i : Int)]) := fun e2 => e (by simp at e2; omega)
      rw [if_neg hne, h.2.2 hm i (by omega)]; rfl
theorem many_rows : ∀ (m : Nat) (ys : List It), (∀ i : Nat, i < m → ∃ p ∈ ys, p.1 = [10 + (i : Int)]) → m ≤ ys.length
  | 0, _, _ => Nat.zero_le _
  | m + 1, ys, h => by
    have h1 := drop_rowD [10 + (m : Int)] ys (h m (by omega))
    have h2 := many_rows m (ys.filter fun q => decide (q.1 ≠ [10 + (m : Int)])) (fun i hi => by
      obtain ⟨p, hp, e⟩ := h i (by omega)
      refine ⟨p, List.mem_filter.2 ⟨hp, ?_⟩, e⟩
      simp only [decide_eq_true_eq, e]
      intro e2
      simp at e2
      omega)
    omega
theorem q3_end {m : Nat} {ys : List It} (h : Q3 m 101 ys) (hz : zOkB ys = true) : OneWide ys := by
  by_cases hm : m = 1
  · refine ⟨1, fun p hp => ?_⟩
    rcases h.2.1 p hp with e | ⟨i, _, e⟩
    · rw [e, hm]
    · rw [e]; rfl
  · have h1 := many_rows 101 ys (fun i hi => getZ_hereD (by rw [h.2.2 hm i hi]; omega))
    have h2 := zOk_le hz
    omega

set_option maxHeartbeats 4000000 in
theorem l2Z_wide (g P : Nat) (wd most : Int) (w : World) (h0 : 0 ≤ wd) (h7 : wd ≤ 7) (hm0 : 0 ≤ most) (hm : most ≤ 40) (hP : P ≤ 1099511620000) (h : Rd w g P) :
    Calls Try.prog 46 #[.pointer (some ⟨g, 0, none⟩), .int .i64 wd, .int .i64 most] w fun e w' =>
      ∃ v, e = .returned v ∧ ∃ zs : List It, (zs.length : Int) ≤ most ∧ GoodB 200 zs ∧ SW wd.toNat zs ∧ OwnZ w' w.heap.size w'.heap.size v zs ∧ Rd w' g (P + 400) ∧ w.grownBy w' (some g) := by
  have hgw := h.lt
  have Z1 : OwnZ (w.alloc (.cells #[] 31)) w.heap.size (w.alloc (.cells #[] 31)).heap.size (.slice (some ⟨w.heap.size, 0, none⟩) 0 0) [] := lit_ownZ w
  have hr1 : Rd (w.alloc (.cells #[] 31)) g P := h.below (below_alloc _)
  clear h
  go_enter Try.func46, Try.ntmps46
  go_wp2_with fail
  refine (pick_any g P (most + 1) _ (by omega) (by omega) (by omega) hr1).mono ?_
  rintro e w1 ⟨m, hm1, hm2, rfl, hrd1, hg1⟩
  obtain ⟨m, rfl⟩ := Int.eq_ofNat_of_zero_le hm1
  have HZ1 : Hid (OwnZ w1 w.heap.size w1.heap.size (.slice (some ⟨w.heap.size, 0, none⟩) 0 0) []) := (Z1.far hg1 hgw).wide (Nat.le_refl _) hg1.size (Nat.le_refl _)
  have HR1 : Hid (Rd w1 g (P + 1)) := hrd1
  have HG1 : Hid (w.grownBy w1 (some g)) := grown_trans (World.grownBy_alloc w _ _) hg1
  have hmm : m ≤ 40 := by omega
  have hmo : (m : Int) ≤ most := by omega
  clear Z1 hr1 hrd1 hg1 hm1 hm2
  go_wp2
  go_loopw [7, 8] (fun s i wr => ∃ (j k : Nat) (zs : List It), j + k = m ∧ i = .int .i64 j ∧ Hid (zs.length ≤ k) ∧ Hid (GoodB (5 * k) zs) ∧ Hid (SW wd.toNat zs) ∧ Hid (OwnZ wr w.heap.size wr.heap.size s zs) ∧ Hid (Rd wr g (P + 1 + 9 * k)) ∧ Hid (w.grownBy wr (some g)))
    (fun _ i _ => (intOf i).toNat)
  case atStart => exact ⟨m, 0, [], by omega, rfl, by simp [Hid], fun p hp => by simp at hp, sw_nil _, HZ1.out, HR1.out, HG1.out⟩
  case round =>
    obtain ⟨j, k, zs, hjk, rfl, HL, HGd, HS, HZ, HR, HG⟩ := hrel
    clear HZ1 HR1 HG1
    have hgs := HG.out.size
    by_cases hlt : 0 < j
    · have hltI : (0 : Int) < (j : Int) := by omega
      have hrd := HR.out
      go_wp2_with fail
      refine (l1Row_any g _ wd _ h0 h7 (by omega) hrd).mono ?_
      rintro e w2 ⟨v2, rfl, xs, hxl, hsm, O2, hrd2, hg2⟩
      have Z2 := (HZ.out.far hg2 hgw).wide (Nat.le_refl _) hg2.size (Nat.le_refl _)
      have hG2 := grown_trans HG.out hg2
      have hgs2 := hG2.size
      have hxl7 : xs.length ≤ 7 := by omega
      have HXL : Hid (xs.length = wd.toNat) := hxl
      clear hrd hxl
      have hlit : Own (w2.alloc (.cells #[.int .i64 1, .int .i64 1, .int .i64 1, .int .i64 2, .int .i64 (-1), .int .i64 3, .int .i64 (-2)] 3)) w2.heap.size (w2.heap.size + 1) (.slice (some ⟨w2.heap.size, 0, none⟩) 7 7) [1, 1, 1, 2, -1, 3, -2] := own_lit w2 [1, 1, 1, 2, -1, 3, -2] (by decide)
      have hr3 : Rd (w2.alloc (.cells #[.int .i64 1, .int .i64 1, .int .i64 1, .int .i64 2, .int .i64 (-1), .int .i64 3, .int .i64 (-2)] 3)) g (P + 1 + 9 * k + 7) := hrd2.below (below_alloc _)
      have Z3 := (Z2.keep' (below_alloc (.cells #[.int .i64 1, .int .i64 1, .int .i64 1, .int .i64 2, .int .i64 (-1), .int .i64 3, .int .i64 (-2)] 3)))
      have O3 := O2.keep' (below_alloc (.cells #[.int .i64 1, .int .i64 1, .int .i64 1, .int .i64 2, .int .i64 (-1), .int .i64 3, .int .i64 (-2)] 3))
      have hG3 := grown_alloc hG2 (.cells #[.int .i64 1, .int .i64 1, .int .i64 1, .int .i64 2, .int .i64 (-1), .int .i64 3, .int .i64 (-2)] 3)
      have hgw2 : w.heap.size ≤ wr.heap.size := hgs
      clear Z2 O2 hrd2 hG2 hg2
      go_wp2_with fail
      refine (num_any g _ _ _ _ _ _ (by omega) hr3 hlit (by omega) (by decide) (by decide)).mono ?_
      rintro e w4 ⟨z, hz, rfl, hrd4, hg4⟩
      have hzb : -3 ≤ z ∧ z ≤ 3 := by simp at hz; omega
      have Z4 := Z3.far hg4 hgw
      have O4 := O3.far hg4 (by omega)
      have hG4 := grown_trans hG3 hg4
      have hlo4 : w.heap.size ≤ w2.heap.size := hgs2
      have hzl : zs.length ≤ 1099511627775 := by have := HL.out; omega
      have hat := HGd.out.at (by omega)
      clear Z3 O3 hr3 hlit hG3 hz hg4
      go_wp2_with fail
      refine (l2Put_any _ w.heap.size w2.heap.size zs _ xs z _ Z4 hlo4 O4.ints hzl (by omega) hat (by omega)).mono ?_
      rintro e w5 ⟨v5, rfl, Z5, O5⟩
      have HZ5 : Hid (OwnZ w5 w.heap.size w5.heap.size v5 (putZ zs xs z)) := Z5
      have HR5 : Hid (Rd w5 g (P + 1 + 9 * (k + 1))) := (hrd4.only O5 hgw).le (by omega)
      have HG5 : Hid (w.grownBy w5 (some g)) := grown_only hG4 O5
      have HL5 : Hid ((putZ zs xs z).length ≤ k + 1) := by have h1 := put_len xs z zs; have h2 := HL.out; show _ ≤ _; omega
      have HD5 : Hid (GoodB (5 * ((k + 1 : Nat) : Int)) (putZ zs xs z)) := by
        have h1 := good_put (C := 5) HGd.out (by omega) (by omega) hxl7 hsm (show -5 ≤ z ∧ z ≤ 5 by omega)
        exact h1.up (by omega)
      clear Z4 O4 Z5 O5 hrd4 hG4 hat hsm
      go_wp2
      go_roundw
      case rel => exact ⟨j - 1, k + 1, putZ zs xs z, by omega, by rw [show ((j - 1 : Nat) : Int) = (j : Int) - 1 by omega], HL5.out, HD5.out, sw_put z HS.out HXL.out, HZ5.out, HR5.out, HG5.out⟩
      case measure => simp [intOf]; omega
    · obtain rfl : j = 0 := by omega
      go_wp2
      go_ret
      refine ⟨_, rfl, zs, by have := HL.out; omega, HGd.out.up (by omega), HS.out, HZ.out, HR.out.le (by omega), HG.out⟩

set_option maxHeartbeats 16000000 in
theorem l2Bent_wide (g P : Nat) (w : World) (hP : P ≤ 1099511610000) (h : Rd w g P) :
    Calls Try.prog 45 #[.pointer (some ⟨g, 0, none⟩)] w fun e w' =>
      ∃ v, e = .returned v ∧ ∃ zs : List It, GoodZ zs ∧ (zOkB zs = true → OneWide zs) ∧ Drawn w' g v zs ∧ Rd w' g (P + 500) ∧ w.grownBy w' (some g) := by
  obtain ⟨i0, hi0, hz0, hz1, hz2⟩ := info_parts infoItem
  have hgw := h.lt
  go_enter Try.func45, Try.ntmps45
  go_wp2_with fail
  refine (pick_any g P 3 _ (by omega) (by omega) (by omega) h).mono ?_
  rintro e w1 ⟨r0, hr0, hr3, rfl, hrd1, hg1⟩
  clear h
  have hs1 := hg1.size
  go_wp2_with fail
  refine (l2Z_wide g _ (1 + r0) 6 _ (by omega) (by omega) (by omega) (by omega) (by omega) hrd1).mono ?_
  rintro e w2 ⟨v2, rfl, zs, hzl, hgd, hsw, Z2', hrd2, hg2'⟩
  obtain ⟨wm, hwm⟩ : ∃ wm, wm = (1 + r0).toNat := ⟨_, rfl⟩
  rw [← hwm] at hsw
  have HSW : Hid (SW wm zs) := hsw
  clear hsw hwm
  have Z2 := Z2'.wide hs1 (Nat.le_refl _) (Nat.le_refl _)
  have hg2 := grown_trans hg1 hg2'
  have hs2 := hg2.size
  have HGD : Hid (GoodB 200 zs) := hgd
  have HZL : Hid (zs.length ≤ 6) := by show _ ≤ _; omega
  clear hrd1 hg1 hg2' Z2' hgd hr0 hr3
  by_cases hne : zs = []
  · subst hne
    obtain ⟨a, cap, rfl⟩ := Z2.shape
    have HD : Hid (Drawn w2 g (.slice a 0 cap) []) := Z2.drawn hgw
    have HR : Hid (Rd w2 g (P + 500)) := hrd2.le (by omega)
    clear Z2 hrd2
    go_wp2
    go_ret
    exact ⟨_, rfl, [], ⟨by simp, fun p hp => by simp at hp⟩, fun _ => one_nil, HD.out, HR.out, hg2⟩
  · obtain ⟨gz, cap, rfl, hgz1, hgz2, hcap⟩ : ∃ gz cap, v2 = .slice (some ⟨gz, 0, none⟩) zs.length cap ∧ w.heap.size ≤ gz ∧ gz < w2.heap.size ∧ zs.length ≤ cap := by
      obtain ⟨ps, he, hs, _⟩ := Z2
      have hl := snd_len he
      have hpos : 0 < zs.length := List.length_pos_iff.2 hne
      obtain ⟨g', cap, rfl, h1, h2, h3, _⟩ := hs.shape (by omega)
      exact ⟨g', cap, by rw [hl], h1, h2, by omega⟩
    obtain ⟨n, hn⟩ : ∃ n, n = zs.length := ⟨_, rfl⟩
    have HN : Hid (n = zs.length) := hn
    have hpos : 0 < n := by rw [hn]; exact List.length_pos_iff.2 hne
    have hn6 : n ≤ 6 := by rw [hn]; exact HZL.out
    rw [← hn] at Z2 hcap ⊢
    clear hn hne hzl
    have hn0 : ((n : Int) == 0) = false := by simp; omega
    go_wp2_with fail
    refine (pick_any g _ n _ (by omega) (by omega) (by omega) hrd2).mono ?_
    rintro e w3 ⟨k, hk0, hkn, rfl, hrd3, hg3⟩
    obtain ⟨k, rfl⟩ := Int.eq_ofNat_of_zero_le hk0
    have hkn' : k < n := by omega
    have Z3 := Z2.far hg3 hgw
    have hG3 := grown_trans hg2 hg3
    have z23 := hg3.size
    clear Z2 hrd2 hg2 hg3 hk0 hkn
    go_wp2_with fail
    refine (pick_any g _ 40 _ (by omega) (by omega) (by omega) hrd3).mono ?_
    rintro e w4 ⟨q, hq0, hq40, rfl, hrd4, hg4⟩
    have Z4 := Z3.far hg4 hgw
    have hG4 := grown_trans hG3 hg4
    have z34 := hg4.size
    have hs4 := hG4.size
    clear Z3 hrd3 hG3 hg4
    have hkz : k < zs.length := by rw [← HN.out]; exact hkn'
    by_cases hq0' : q = 0
    · subst hq0'
      have hlit : Own (w4.alloc (.cells #[.int .i64 0, .int .i64 10000, .int .i64 10001, .int .i64 (-10000)] 3)) w4.heap.size (w4.heap.size + 1) (.slice (some ⟨w4.heap.size, 0, none⟩) 4 4) [0, 10000, 10001, -10000] := own_lit w4 [0, 10000, 10001, -10000] (by decide)
      have hr5 := hrd4.below (below_alloc (.cells #[.int .i64 0, .int .i64 10000, .int .i64 10001, .int .i64 (-10000)] 3))
      have Z5 := Z4.keep' (below_alloc (.cells #[.int .i64 0, .int .i64 10000, .int .i64 10001, .int .i64 (-10000)] 3))
      have hG5 := grown_alloc hG4 (.cells #[.int .i64 0, .int .i64 10000, .int .i64 10001, .int .i64 (-10000)] 3)
      clear Z4 hrd4 hG4
      go_wp2_with fail
      refine (num_any g _ _ _ _ _ _ (by omega) hr5 hlit (by omega) (by decide) (by decide)).mono ?_
      rintro e w6 ⟨z, hz, rfl, hrd6, hg6⟩
      have hzb : -10001 ≤ z ∧ z ≤ 10001 := by simp at hz; omega
      have Z6 := Z5.far hg6 hgw
      have hG6 := grown_trans hG5 hg6
      clear Z5 hr5 hlit hG5 hz hg6
      obtain ⟨Z7, hg7⟩ := Z6.putW hkz z
      obtain ⟨u1, c1⟩ := Z6.cellAt1 hkz
      have f1 := Z6.frozenAt (k * 2 + 1)
      have HD : Hid (Drawn (w6.setCell ⟨gz, k * 2 + 1, none⟩ (.int .i64 z)) g (.slice (some ⟨gz, 0, none⟩) n cap) (zs.set k ((zs.getD k ([], 0)).1, z))) := Z7.drawn hgw
      have HR : Hid (Rd (w6.setCell ⟨gz, k * 2 + 1, none⟩ (.int .i64 z)) g (P + 500)) := (hrd6.grown hg7 (fun b e => by simp at e; omega)).le (by omega)
      have HG : Hid (w.grownBy (w6.setCell ⟨gz, k * 2 + 1, none⟩ (.int .i64 z)) (some g)) := grown_via hG6 hg7 (fun i e => by simp at e; omega)
      have HGZ : Hid (GoodZ (zs.set k ((zs.getD k ([], 0)).1, z))) := by
        have h1 := HGD.out _ (getZ_mem hkz)
        refine ⟨by rw [List.length_set]; have := HZL.out; omega, good_set (HGD.out.up (by omega)) ⟨h1.1, h1.2.1, by show -1000000 ≤ z; omega, by show z ≤ 1000000; omega⟩⟩
      clear Z6 Z7 hg7 hrd6 hG6
      go_wp2
      go_ret
      exact ⟨_, rfl, _, HGZ.out, fun _ => one_set HSW.out hkz z, HD.out, HR.out, HG.out⟩
    · have hqf0 : (q == 0) = false := by simp [hq0']
      by_cases hq1' : q = 1
      · subst hq1'
        obtain ⟨l, HL, S4, R4, A4⟩ := Z4.opened
        have hkl : k < l.length := by rw [← its_length, ← HL]; exact hkz
        have hA : Below w4.heap.size w4 (w4.alloc (.cells #[] 3)) := below_alloc _
        have S5 := S4.keep' hA
        have hkp : k < (prs l).length := by rw [prs_length]; exact hkl
        have s6 := S5.stored0 hkp (.slice (some ⟨w4.heap.size, 0, none⟩) 0 0)
        have c0 := S5.cell0 hkp
        have f0 := S5.frozenAt (k * 2)
        have e1 : (prs l).set k (Value.slice (some ⟨w4.heap.size, 0, none⟩) 0 0, ((prs l).getD k (vn, 0)).2) = prs (l.set k (Value.slice (some ⟨w4.heap.size, 0, none⟩) 0 0, ([], (zs.getD k ([], 0)).2))) := by
          rw [prs_set, HL]
          simp [prs, its, List.getD, hkl]
        have onew : Own (w4.alloc (.cells #[] 3)) w4.heap.size (w4.heap.size + 1) (.slice (some ⟨w4.heap.size, 0, none⟩) 0 0) [] := own_lit w4 [] (by simp)
        have onew2 := onew.keptB s6.2 (.inr (by simp [Value.ownBlock]; omega))
        rw [e1] at s6
        have HD : Hid (Drawn ((w4.alloc (.cells #[] 3)).setCell ⟨gz, k * 2, none⟩ (.slice (some ⟨w4.heap.size, 0, none⟩) 0 0)) g (.slice (some ⟨gz, 0, none⟩) n cap) (zs.set k ([], (zs.getD k ([], 0)).2))) := fun w'' hw'' => by
          have e2 : zs.set k ([], (zs.getD k ([], 0)).2) = its (l.set k (Value.slice (some ⟨w4.heap.size, 0, none⟩) 0 0, ([], (zs.getD k ([], 0)).2))) := by rw [its_set, ← HL]
          rw [e2]
          refine (s6.1.only hw'' (.inr hgw)).tailZ fun x hx => ?_
          rcases List.mem_or_eq_of_mem_set hx with e | e
          · have hrow := (R4 x e).keep' hA
            exact ((hrow.keptB s6.2 (row_ne_spine S5 hrow)).only hw'' (.inr hgw)).ints
          · rw [e]; exact (onew2.only hw'' (.inr (by omega))).ints
        have HR : Hid (Rd ((w4.alloc (.cells #[] 3)).setCell ⟨gz, k * 2, none⟩ (.slice (some ⟨w4.heap.size, 0, none⟩) 0 0)) g (P + 500)) := ((hrd4.below hA).grown s6.2 (fun b e => by simp at e; omega)).le (by omega)
        have HG : Hid (w.grownBy ((w4.alloc (.cells #[] 3)).setCell ⟨gz, k * 2, none⟩ (.slice (some ⟨w4.heap.size, 0, none⟩) 0 0)) (some g)) := grown_via (grown_alloc hG4 _) s6.2 (fun i e => by simp at e; omega)
        have HGZ : Hid (GoodZ (zs.set k ([], (zs.getD k ([], 0)).2))) := by
          have h1 := (HGD.out _ (getZ_mem hkz)).2.2
          refine ⟨by rw [List.length_set]; have := HZL.out; omega, good_set (HGD.out.up (by omega)) ⟨by simp, small_nil, by show -1000000 ≤ (zs.getD k ([], 0)).2; omega, by show (zs.getD k ([], 0)).2 ≤ 1000000; omega⟩⟩
        clear Z4 S4 S5 R4 A4 s6 hrd4 hG4 onew onew2 e1 hA HL
        go_wp2
        go_ret
        exact ⟨_, rfl, _, HGZ.out, none_set hkz _, HD.out, HR.out, HG.out⟩
      · have hqf1 : (q == 1) = false := by simp [hq1']
        by_cases hq2' : q = 2
        · subst hq2'
          obtain ⟨l, HL, S4, R4, A4⟩ := Z4.opened
          have hl0 : 0 < l.length := by rw [← its_length, ← HL, ← HN.out]; exact hpos
          have hp0 : 0 < (prs l).length := by rw [prs_length]; exact hl0
          have c0 := S4.cell0 hp0
          have c1 := S4.cell1 hp0
          have hin : IntsAt w4 l[0].1 l[0].2.1 := (R4 _ (List.getElem_mem hl0)).ints
          have e0 : (prs l).getD 0 (vn, 0) = (l[0].1, l[0].2.2) := by simp [prs, List.getD, hl0]
          obtain ⟨xa, xn, xc, hxv⟩ := hin.shape
          obtain ⟨y, HY⟩ : ∃ y : Int, Hid (y = (l[0]'hl0).2.2) := ⟨(l[0]'hl0).2.2, (rfl : (l[0]'hl0).2.2 = (l[0]'hl0).2.2)⟩
          rw [e0] at c0 c1
          simp only [hxv] at c0
          rw [← HY.out] at c1
          simp only [Nat.zero_mul, Nat.zero_add] at c0 c1
          have hlD : l.length = n := by rw [← its_length, ← HL, HN.out]
          obtain ⟨hspW, hprW, hfin⟩ := merge_ready (xv := .slice xa xn xc) y S4 ⟨_, _, _, rfl⟩ hs4 (by omega)
          have hpl : (prs l).length = n := by rw [prs_length, hlD]
          go_wp2_with (at_builtin; refine wpList_append_pairs rfl _ _ 23 rfl w.heap.size 31 i0 Try.underlying23 hi0 hz0 hz1 hz2 (.slice (some ⟨gz, 0, none⟩) n cap) (prs l) rfl hspW _ [(.slice xa xn xc, y)] rfl hprW (by rw [hpl]; simp; omega) (by simp; omega) ?_; intro v5 w5 hown5 hg5 _)
          obtain ⟨S5, B5⟩ := hfin v5 w5 l[0].2.1 hown5 hg5
          have hgr5 : w.grownBy w5 (some g) := grown_via (grown_alloc hG4 _) hg5 (fun i e => (hspW.lt i e).1)
          have HD : Hid (Drawn w5 g v5 (its (l ++ [(.slice xa xn xc, (l[0].2.1, y))]))) := fun w'' hw'' => by
            refine (S5.only hw'' (.inr hgw)).tailZ fun x hx => ?_
            have keep : ∀ x ∈ l, IntsAt w'' x.1 x.2.1 := fun x e => by
              have hrow := (R4 x e).keep' (below_alloc (.cells #[.slice xa xn xc, .int .i64 y] 31))
              have hsp := S4.keep' (below_alloc (.cells #[.slice xa xn xc, .int .i64 y] 31))
              exact ((hrow.keptB hg5 (row_ne_spine hsp hrow)).only hw'' (.inr hgw)).ints
            rcases List.mem_append.1 hx with e | e
            · exact keep x e
            · simp at e
              subst e
              have := keep _ (List.getElem_mem hl0)
              rwa [hxv] at this
          have HR : Hid (Rd w5 g (P + 500)) := ((hrd4.below (below_alloc _)).grown hg5 (fun b e => by have := (hspW.lt b e).1; omega)).le (by omega)
          have HG : Hid (w.grownBy w5 (some g)) := hgr5
          have HGZ : Hid (GoodZ (its (l ++ [(.slice xa xn xc, (l[0].2.1, y))]))) := by
            refine ⟨by rw [its_length]; simp; omega, fun p hp => ?_⟩
            rw [its_append, ← HL] at hp
            rcases List.mem_append.1 hp with e | e
            · exact HGD.out.up (by omega) p e
            · simp [its] at e
              subst e
              have := HGD.out.up (C := 1000000) (by omega) l[0].2 (by rw [HL]; exact List.mem_map.2 ⟨_, List.getElem_mem hl0, rfl⟩)
              rw [HY.out]; exact this
          have HONE : Hid (OneWide (its (l ++ [(.slice xa xn xc, (l[0].2.1, y))]))) := by
            refine ⟨wm, fun p hp => ?_⟩
            rw [its_append, ← HL] at hp
            rcases List.mem_append.1 hp with e | e
            · exact HSW.out.2 p e
            · simp [its] at e
              subst e
              exact HSW.out.2 l[0].2 (by rw [HL]; exact List.mem_map.2 ⟨_, List.getElem_mem hl0, rfl⟩)
          clear S5 B5 hgr5 hspW hprW hfin hown5 hg5 Z4 S4 R4 A4 hrd4 hG4 HL
          go_wp2
          go_ret
          exact ⟨_, rfl, _, HGZ.out, fun _ => HONE.out, HD.out, HR.out, HG.out⟩
        · have hqf2 : (q == 2) = false := by simp [hq2']
          by_cases hq3' : q = 3
          · subst hq3'
            have HZ4 : Hid (OwnZ w4 w.heap.size w4.heap.size (.slice (some ⟨gz, 0, none⟩) n cap) zs) := Z4.wide (Nat.le_refl _) (by have := Z4.hi_le; omega) (Nat.le_refl _)
            have HR4 : Hid (Rd w4 g (P + 450)) := hrd4.le (by omega)
            have HG4 : Hid (w.grownBy w4 (some g)) := hG4
            clear Z4 hrd4 hG4 hkz hkn' hn0 hq0 hq40 hqf0 hqf1 hqf2 hq0' hq1' hq2'
            go_wp2
            go_loopw [3, 5] (fun s i wr => ∃ (j : Nat) (ys : List It), j ≤ 101 ∧ i = .int .i64 j ∧ Hid (ys.length ≤ 6 + j) ∧ Hid (GoodB (200 + 2 * j) ys) ∧ Hid (Q3 wm j ys) ∧ Hid (OwnZ wr w.heap.size wr.heap.size s ys) ∧ Hid (Rd wr g (P + 450)) ∧ Hid (w.grownBy wr (some g)))
              (fun _ i _ => 101 - (intOf i).toNat)
            case atStart => exact ⟨0, zs, by omega, rfl, by have := HZL.out; show _ ≤ _; omega, HGD.out.up (by omega), q3_start HSW.out, HZ4.out, HR4.out, HG4.out⟩
            case round =>
              obtain ⟨j, ys, hj, rfl, HL, HGd, HQ, HZ, HR, HG⟩ := hrel
              clear HZ4 HR4 HG4
              by_cases hlt : j < 101
              · have hlit : Own (wr.alloc (.cells #[.int .i64 (10 + (j : Int))] 3)) wr.heap.size (wr.heap.size + 1) (.slice (some ⟨wr.heap.size, 0, none⟩) 1 1) [10 + (j : Int)] := own_lit wr [10 + (j : Int)] (by simp)
                have Z5 := HZ.out.keep' (below_alloc (.cells #[.int .i64 (10 + (j : Int))] 3))
                have hr5 := HR.out.below (below_alloc (.cells #[.int .i64 (10 + (j : Int))] 3))
                have hG5 := grown_alloc HG.out (.cells #[.int .i64 (10 + (j : Int))] 3)
                have hlo : w.heap.size ≤ wr.heap.size := HG.out.size
                have hat := HGd.out.at (by omega)
                have hyl : ys.length ≤ 1099511627775 := by have := HL.out; omega
                have hin := hlit.ints
                clear hlit
                go_wp2_with fail
                refine (l2Put_any _ w.heap.size wr.heap.size ys _ [10 + (j : Int)] 1 _ Z5 hlo hin hyl (by simp) hat (by omega)).mono ?_
                rintro e w5 ⟨v5, rfl, Z6, O6⟩
                have HZ6 : Hid (OwnZ w5 w.heap.size w5.heap.size v5 (putZ ys [10 + (j : Int)] 1)) := Z6
                have HR6 : Hid (Rd w5 g (P + 450)) := hr5.only O6 hgw
                have HG6 : Hid (w.grownBy w5 (some g)) := grown_only hG5 O6
                have HL6 : Hid ((putZ ys [10 + (j : Int)] 1).length ≤ 6 + (j + 1)) := by have h1 := put_len [10 + (j : Int)] 1 ys; have h2 := HL.out; show _ ≤ _; omega
                have HD6 : Hid (GoodB (200 + 2 * ((j + 1 : Nat) : Int)) (putZ ys [10 + (j : Int)] 1)) := by
                  have h1 := good_put (r := [10 + (j : Int)]) (y := 1) (C := 2) HGd.out (by omega) (by omega) (by simp) (small_one (x := 10 + (j : Int)) (by omega)) (show -2 ≤ (1 : Int) ∧ (1 : Int) ≤ 2 by omega)
                  exact h1.up (by omega)
                clear Z5 Z6 O6 hr5 hG5 hat hin
                go_wp2
                go_roundw
                case rel => exact ⟨j + 1, _, by omega, by go_num, HL6.out, HD6.out, q3_next HQ.out, HZ6.out, HR6.out, HG6.out⟩
                case measure => simp [intOf]; omega
              · obtain rfl : j = 101 := by omega
                go_wp2
                go_ret
                exact ⟨_, rfl, ys, ⟨by have := HL.out; omega, HGd.out.up (by omega)⟩, q3_end HQ.out, HZ.out.drawn hgw, HR.out.le (by omega), HG.out⟩
          · have hqf3 : (q == 3) = false := by simp [hq3']
            have HD : Hid (Drawn w4 g (.slice (some ⟨gz, 0, none⟩) n cap) zs) := Z4.drawn hgw
            have HR : Hid (Rd w4 g (P + 500)) := hrd4.le (by omega)
            have HG : Hid (w.grownBy w4 (some g)) := hG4
            have HGZ : Hid (GoodZ zs) := ⟨by have := HZL.out; omega, HGD.out.up (by omega)⟩
            clear Z4 hrd4 hG4 hq0' hq1' hq2' hq3'
            go_wp2
            go_ret
            exact ⟨_, rfl, _, HGZ.out, fun _ => HSW.out.one, HD.out, HR.out, HG.out⟩


set_option maxRecDepth 100000 in
set_option maxHeartbeats 2000000 in
theorem l5Wide_wide (g P : Nat) (w : World) (hP : P ≤ 1099511600000) (h : Rd w g P) :
    Calls Try.prog 20 #[.pointer (some ⟨g, 0, none⟩)] w fun e w' =>
      ∃ v, ∃ wd : Int, e = .returned (.tuple #[v, .int .i64 wd]) ∧ (1 ≤ wd ∧ wd ≤ 3) ∧ ∃ zs : List It, GoodZ zs ∧ (zOkB zs = true → OneWide zs) ∧ Drawn w' g v zs ∧ Rd w' g (P + 600) ∧ w.grownBy w' (some g) := by
  go_enter Try.func20, Try.ntmps20
  go_wp2_with fail
  refine (pick_any g P 3 _ (by omega) (by omega) (by omega) h).mono ?_
  rintro e w1 ⟨n, hn0, hn3, rfl, hrd1, hg1⟩
  clear h
  go_wp2_with fail
  refine (pick_any g _ 20 _ (by omega) (by omega) (by omega) hrd1).mono ?_
  rintro e w2 ⟨q, hq0, hq5, rfl, hrd2, hg2⟩
  have hG2 := grown_trans hg1 hg2
  have hgl : g < w2.heap.size := hrd2.lt
  clear hrd1 hg1 hg2
  by_cases hq : q = 0
  · subst hq
    go_wp2_with fail
    refine (l2Bent_wide _ _ _ (by omega) hrd2).mono ?_
    rintro e w3 ⟨v3, rfl, zs, hgz, hone, hd3, hrd3, hg3⟩
    have HONE : Hid (zOkB zs = true → OneWide zs) := hone
    clear hone
    have HG : Hid (w.grownBy w3 (some g)) := grown_trans hG2 hg3
    have HR : Hid (Rd w3 g (P + 600)) := hrd3.le (by omega)
    have HD : Hid (Drawn w3 g v3 zs) := hd3
    have HGZ : Hid (GoodZ zs) := hgz
    clear hd3 hrd3 hg3 hG2 hrd2 hgz
    go_wp2
    go_ret2
    exact ⟨_, _, rfl, ⟨by omega, by omega⟩, zs, HGZ.out, HONE.out, HD.out, HR.out, HG.out⟩
  · have hqf : (q == 0) = false := by simp [hq]
    have hne : ¬ q = 0 := hq
    clear hq
    go_wp2_with fail
    refine (l2Z_wide _ _ (1 + n) 7 _ (by omega) (by omega) (by omega) (by omega) (by omega) hrd2).mono ?_
    rintro e w3 ⟨v3, rfl, zs, hlen, hgz, hsw, hz3, hrd3, hg3⟩
    have HONE : Hid (zOkB zs = true → OneWide zs) := fun _ => hsw.one
    clear hsw
    have HG : Hid (w.grownBy w3 (some g)) := grown_trans hG2 hg3
    have HR : Hid (Rd w3 g (P + 600)) := hrd3.le (by omega)
    have HD : Hid (Drawn w3 g v3 zs) := hz3.drawn hgl
    have HGZ : Hid (GoodZ zs) := good_fewJ hlen hgz
    clear hz3 hrd3 hg3 hG2 hrd2 hgz hlen
    go_wp2
    go_ret2
    exact ⟨_, _, rfl, ⟨by omega, by omega⟩, zs, HGZ.out, HONE.out, HD.out, HR.out, HG.out⟩


set_option maxRecDepth 100000 in
set_option maxHeartbeats 4000000 in
theorem drawJoinOf_wide (a : Option Addr) (len cap : Nat) (bs : List Int) (w : World) (h : IsRow .u8 w a len cap bs) :
    Calls Try.prog 5 #[.slice a len cap] w fun e w' =>
      ∃ (v u : Value) (x y : Int) (zs ys : List It), e = .returned (.tuple #[v, u, .int .i64 x, .int .i64 y]) ∧ (0 ≤ x ∧ x ≤ 3) ∧ (-1 ≤ y ∧ y ≤ 2) ∧ GoodZ zs ∧ GoodZ ys ∧ (zOkB zs = true → OneWide zs) ∧ (zOkB ys = true → OneWide ys) ∧ TailZ w' v zs ∧ TailZ w' u ys ∧ Below w.heap.size w w' := by
  go_enter Try.func5, Try.ntmps5
  go_wp2_with fail
  refine (l12Open_any a len cap bs _ h).mono ?_
  rintro e w1 ⟨rfl, hrd1, hb1⟩
  have B1 : Hid (Below w.heap.size w w1) := hb1
  clear hb1 h
  obtain ⟨g, hg⟩ : ∃ g, g = w.heap.size := ⟨_, rfl⟩
  rw [← hg] at hrd1 ⊢
  have HG : Hid (g = w.heap.size) := hg
  clear hg
  go_wp2_with fail
  refine (l5Wide_wide g _ _ (by omega) hrd1).mono ?_
  rintro e w2 ⟨v, wd, rfl, ⟨hwd1, hwd2⟩, zs, hgz, hone1, hd2, hrd2, hg2⟩
  have HONE1 : Hid (zOkB zs = true → OneWide zs) := hone1
  clear hone1
  have B2 : Hid (Below w.heap.size w w2) := B1.out.grown hg2 B1.out.size (fun k hk => by simp at hk; have := HG.out; omega)
  have HGZ : Hid (GoodZ zs) := hgz
  have HD2 : Hid (Drawn w2 g v zs) := hd2
  clear hg2 hrd1 hgz hd2 B1
  go_wp2_with fail
  refine (l5Wide_wide g _ _ (by omega) hrd2).mono ?_
  rintro e w3 ⟨u, we, rfl, ⟨hwe1, hwe2⟩, ys, hgy, hone2, hd3, hrd3, hg3⟩
  have HONE2 : Hid (zOkB ys = true → OneWide ys) := hone2
  clear hone2
  have B3 : Hid (Below w.heap.size w w3) := B2.out.grown hg3 B2.out.size (fun k hk => by simp at hk; have := HG.out; omega)
  have HGY : Hid (GoodZ ys) := hgy
  have HDz3 : Hid (Drawn w3 g v zs) := HD2.out.next hg3
  have HDy3 : Hid (Drawn w3 g u ys) := hd3
  clear hg3 hrd2 hgy hd3 B2 HD2
  go_wp2_with fail
  refine (pick_any g _ wd _ (by omega) (by omega) (by omega) hrd3).mono ?_
  rintro e w4 ⟨p1, hp10, hp11, rfl, hrd4, hg4⟩
  have B4 : Hid (Below w.heap.size w w4) := B3.out.grown hg4 B3.out.size (fun k hk => by simp at hk; have := HG.out; omega)
  have HDz4 : Hid (Drawn w4 g v zs) := HDz3.out.next hg4
  have HDy4 : Hid (Drawn w4 g u ys) := HDy3.out.next hg4
  clear hg4 hrd3 B3 HDz3 HDy3
  go_wp2_with fail
  refine (pick_any g _ 20 _ (by omega) (by omega) (by omega) hrd4).mono ?_
  rintro e w5 ⟨p2, hp20, hp21, rfl, hrd5, hg5⟩
  have B5 : Hid (Below w.heap.size w w5) := B4.out.grown hg5 B4.out.size (fun k hk => by simp at hk; have := HG.out; omega)
  have HDz5 : Hid (Drawn w5 g v zs) := HDz4.out.next hg5
  have HDy5 : Hid (Drawn w5 g u ys) := HDy4.out.next hg5
  have ht2 := quot19 hp20 hp21
  clear hg5 hrd4 B4 HDz4 HDy4
  go_wp2_with fail
  refine (pick_any g _ we _ (by omega) (by omega) (by omega) hrd5).mono ?_
  rintro e w6 ⟨p3, hp30, hp31, rfl, hrd6, hg6⟩
  have B6 : Hid (Below w.heap.size w w6) := B5.out.grown hg6 B5.out.size (fun k hk => by simp at hk; have := HG.out; omega)
  have HDz6 : Hid (Drawn w6 g v zs) := HDz5.out.next hg6
  have HDy6 : Hid (Drawn w6 g u ys) := HDy5.out.next hg6
  clear hg6 hrd5 B5 HDz5 HDy5
  go_wp2_with fail
  refine (pick_any g _ 20 _ (by omega) (by omega) (by omega) hrd6).mono ?_
  rintro e w7 ⟨p4, hp40, hp41, rfl, hrd7, hg7⟩
  have B7 : Hid (Below w.heap.size w w7) := B6.out.grown hg7 B6.out.size (fun k hk => by simp at hk; have := HG.out; omega)
  have HDz7 : Hid (Drawn w7 g v zs) := HDz6.out.next hg7
  have HDy7 : Hid (Drawn w7 g u ys) := HDy6.out.next hg7
  have ht4 := quot19 hp40 hp41
  clear hg7 hrd6 B6 HDz6 HDy6
  go_wp2
  exact bodyPost_ret (v := .tuple #[v, u, .int .i64 (p1 + p2.tdiv 19), .int .i64 (p3 - p4.tdiv 19)]) (by simp [results, Try.results5, go_sem]) rfl ⟨v, u, _, _, zs, ys, rfl, by omega, by omega, HGZ.out, HGY.out, HONE1.out, HONE2.out, HDz7.out.now, HDy7.out.now, B7.out⟩


end Go.Proofs.Ytjaehoehfmklcaa
