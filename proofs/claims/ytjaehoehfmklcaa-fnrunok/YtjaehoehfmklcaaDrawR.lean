/-
  What is drawn of runs: spec.l7Spine: whatever the bytes are, it returns runs that stay while the reader alone is written.
-/
import Derived.Test.YtjaehoehfmklcaaDrawRKit
import Derived.Deep.AppendLies
import Derived.Deep.RegionHeld3
namespace Go.Proofs.Ytjaehoehfmklcaa
set_option maxRecDepth 100000
set_option linter.unusedVariables false
open Go.RowKit

theorem row_slice {w : World} {lo n size : Nat} {e : TypeId} {v : Value} {xs : List Value} (h : w.ownsRow lo e size v n xs) : ∃ a n c, v = Value.slice a n c := by
  rcases h.2 with ⟨e, _⟩ | ⟨_, _, _, e, _⟩
  · exact ⟨_, _, _, e⟩
  · exact ⟨_, _, _, e⟩
theorem hidK {p : Prop} (h : p) : Hid p := h
set_option maxHeartbeats 16000000 in
theorem l7Spine_any (g P : Nat) (w : World) (hP : P ≤ 1099511600000) (h : Rd w g P) :
    Calls Try.prog 35 #[.pointer (some ⟨g, 0, none⟩)] w fun e w' =>
      ∃ v, e = .returned (.agg #[v]) ∧ ∃ s : Rn, DrawnR w' g v s ∧ Rd w' g (P + 3000) ∧ w.grownBy w' (some g) := by
  obtain ⟨i0, hi0, hz0, hz1, hz2⟩ := info_parts infoRun
  obtain ⟨j0, hj0, hy0, hy1, hy2⟩ := info_parts infoItem
  have hgw := h.lt
  have SA : St w ((w.alloc (.cells #[.slice none 0 0] 38)).alloc (.cells #[.slice none 0 0] 38)) g P (.slice none 0 0) [] := by
    have hba : Below w.heap.size w ((w.alloc (.cells #[.slice none 0 0] 38)).alloc (.cells #[.slice none 0 0] 38)) := below_then (below_alloc _) (below_alloc _)
    refine ⟨?_, OwnR.nil _ _ (by simp), (boxAt_new _ _).below (below_alloc _), h.below hba, grown_trans (World.grownBy_alloc w _ _) (World.grownBy_alloc _ _ _)⟩
    have := boxAt_new (w.alloc (.cells #[.slice none 0 0] 38)) (.slice none 0 0)
    rw [show (w.alloc (.cells #[.slice none 0 0] 38)).heap.size = w.heap.size + 1 by simp] at this
    exact this
  have hrA := SA.2.2.2.1
  clear h
  go_enter Try.func35, Try.ntmps35
  go_wp2_with fail
  refine (pick_any g P 2 _ (by omega) (by omega) (by omega) hrA).mono ?_
  rintro e w1 ⟨q1, hq10, hq12, rfl, hr1, hg1⟩
  have S1 := SA.drawn hgw hg1 hr1
  clear SA hrA hg1
  go_wp2_with fail
  refine (pick_any g _ 7 _ (by omega) (by omega) (by omega) hr1).mono ?_
  rintro e w2 ⟨q2, hq20, hq22, rfl, hr2, hg2⟩
  have S2 := S1.drawn hgw hg2 hr2
  obtain ⟨m, rfl⟩ := Int.eq_ofNat_of_zero_le hq20
  have hm7 : m ≤ 6 := by omega
  have hwd1 : 1 ≤ 1 + q1 := by omega
  have hwd6 : 1 + q1 ≤ 6 := by omega
  obtain ⟨wd, HWD⟩ : ∃ wd, Hid (wd = 1 + q1) := ⟨_, rfl⟩
  rw [← HWD.out] at hwd1 hwd6
  clear S1 hr1 hr2 hg2 hq20 hq22
  go_wp2
  rw [← HWD.out]
  go_loopw [5] (fun i wr => ∃ (j k : Nat), j + k = m ∧ i = .int .i64 j ∧ Hid (∃ (x : Rn) (vx : Value), St w wr g (P + 2 + 400 * k) vx x ∧ runOkB x = true)) (fun i _ => (intOf i).toNat)
  case atStart => exact ⟨m, 0, by omega, rfl, [], .slice none 0 0, S2.le (by omega), none_ok⟩
  case round =>
    obtain ⟨j, k, hjk, rfl, x, vx, S3, hxo⟩ := hrel
    clear S2
    have zr := S3.size
    obtain ⟨xa, xc, hshx⟩ := S3.2.1.shape
    obtain ⟨xn, HXN⟩ : ∃ n, Hid (n = x.length) := ⟨_, rfl⟩
    rw [← HXN.out] at hshx
    subst hshx
    have cB := S3.1.cell
    have fB := S3.1.frozen
    have hx5 := runOk_le hxo
    have HOK : Hid (runOkB x = true) := hxo
    by_cases hlt : 0 < j
    · have hltI : (0 : Int) < (j : Int) := by omega
      have hrd := S3.2.2.2.1
      have zb := S3.1.lt
      have cBa := ((S3.1.below (Below.drew (Below.refl _ _))).below (below_alloc (.cells #[.slice none 0 0] 38))).cell
      go_upto_region 6 with fail
      go_cut [6, 7] (fun p q wx => ∃ (b6 : Nat) (va : Option Addr) (vn vc : Nat) (c : Bool) (x' : Rn), p = .pointer (some ⟨b6, 0, none⟩) ∧ q = .bool c ∧ Hid (BoxAt wx b6 (.slice va vn vc) ∧ OwnR wx (w.heap.size + 2) wx.heap.size (.slice va vn vc) x' ∧ (c = true → runOkB x' = true) ∧ St w wx g (P + 2 + 400 * k + 400) (.slice xa xn xc) x ∧ w.heap.size + 2 ≤ b6))
      case first =>
        go_wp2_with fail
        go_region_with (first
          | (go_at_call 62; have hO := S4; refine (l7Put_any _ x _ zs (w.heap.size + 2) _ _ (by first | exact S4.2.1 | exact S4.2.1.keep' (below_alloc _)) (by first | exact z4 | exact Nat.le_trans z4 (below_alloc (w := w4) _).size) (by first | exact ZZ4 | exact ZZ4.below (below_alloc _)) HOK.out hzo).mono ?_; rintro e w5 ⟨v5, rfl, O5, hb5⟩; obtain ⟨a5, n5, c5, rfl⟩ := O5.runs.shapeN; have hb5' : Below w4.heap.size w4 w5 := (by first | exact hb5 | exact below_then (below_alloc _) hb5); have S5 := S4.below hb5'; first | (have k8 : BoxAt w5 wr.heap.size (.slice none 0 0) := (k7.below hb5'); have k8c := k8.cell; have k8f := k8.frozen) | (have k9 : BoxAt w5 w4.heap.size (.slice none 0 0) := (BoxAt.below (boxAt_new w4 (.slice none 0 0)) hb5); have k9c := k9.cell; have k9f := k9.frozen) | skip)
          | (go_at_call 46; refine (l2Z_fine g (P + 2 + 400 * k) wd 4 _ hwd1 hwd6 (by omega) (by omega) (by omega) (by first | exact hrd.below (Below.drew (Below.refl _ _)) | exact hrd.below (below_then (Below.drew (Below.refl _ _)) (below_alloc _)))).mono ?_; rintro e w4 ⟨v4, rfl, zs, hzl, hzo, Z4, hrd4, hg4⟩; obtain ⟨a4, n4, c4, rfl⟩ := Z4.shapeN; have hgr4 : wr.grownBy w4 (some g) := (by first | exact grown_drew hg4 | exact grown_drew (grown_trans (World.grownBy_alloc wr.drew _ _) hg4)); have S4 := S3.drawn hgw hgr4 hrd4; have z4 := S4.size; have ZZ4 := Z4.tail; have cB4 := S4.1.cell; have cB4a := (S4.1.below (below_alloc (.cells #[.slice none 0 0] 38))).cell; first | (have k7 : BoxAt w4 wr.heap.size (.slice none 0 0) := (BoxAt.grown (boxAt_new wr.drew (.slice none 0 0)) hg4 (fun e => by simp at e; omega)); have k7c := k7.cell; have k7f := k7.frozen) | skip))
        all_goals
          have hput : putOk x zs = true → runOkB (putRuns x zs) = true := fun e => (putRuns_ok e).1
          clear cB fB cBa hrd cB4 cB4a
          go_wp2_with fail
          go_meet
          case rel =>
            have z5 := hb5'.size
            first
              | exact ⟨w5.heap.size, a5, n5, c5, putOk x zs, putRuns x zs, rfl, rfl, boxAt_new _ _, (O5.keep' (below_alloc _)).wide (Nat.le_refl _) (below_alloc _).size (Nat.le_refl _), hput, S5.below (below_alloc _), Nat.le_trans z4 z5⟩
              | exact ⟨w4.heap.size, a5, n5, c5, putOk x zs, putRuns x zs, rfl, rfl, k9.put _, (O5.put k9).wide (Nat.le_refl _) (by rw [setc_size]; exact Nat.le_refl _) (Nat.le_refl _), hput, S5.put hgw k9 z4 _, z4⟩
              | exact ⟨wr.heap.size, a5, n5, c5, putOk x zs, putRuns x zs, rfl, rfl, k8.put _, (O5.put k8).wide (Nat.le_refl _) (by rw [setc_size]; exact Nat.le_refl _) (Nat.le_refl _), hput, S5.put hgw k8 zr _, zr⟩
      case rest =>
        obtain ⟨b6, va, vn', vc', c, x', rfl, rfl, HC⟩ := hcut
        obtain ⟨K6, O6, hco, S6, hle6⟩ := HC.out
        clear S3 cB fB cBa hrd HC
        have c6 := K6.cell
        have cB := S6.1.cell
        have fB := S6.1.frozen
        have hwj : IntKind.i64.wrap ((j : Int) - 1) = (j : Int) - 1 := wrap_small (by omega) (by omega)
        have hj1 : (j : Int) - 1 = ((j - 1 : Nat) : Int) := by omega
        cases c with
        | true =>
          have HN : Hid (∃ (x : Rn) (vx : Value), St w (wc.setCell ⟨w.heap.size + 1, 0, none⟩ (.slice va vn' vc')) g (P + 2 + 400 * (k + 1)) vx x ∧ runOkB x = true) := ⟨x', _, (S6.set hgw O6).le (by omega), hco rfl⟩
          clear S6 K6 O6 hco
          go_wp2
          go_roundw
          case rel => exact ⟨j - 1, k + 1, by omega, by rw [show ((j - 1 : Nat) : Int) = (j : Int) - 1 by omega], HN.out⟩
          case measure => simp [intOf]; omega
        | false =>
          have HN : Hid (∃ (x : Rn) (vx : Value), St w wc g (P + 2 + 400 * (k + 1)) vx x ∧ runOkB x = true) := ⟨x, _, S6.le (by omega), HOK.out⟩
          clear S6 K6 O6 hco
          go_wp2
          go_roundw
          case rel => exact ⟨j - 1, k + 1, by omega, by rw [show ((j - 1 : Nat) : Int) = (j : Int) - 1 by omega], HN.out⟩
          case measure => simp [intOf]; omega
    · obtain rfl : j = 0 := by omega
      have S4 : St w wr g (P + 2402) (.slice xa xn xc) x := S3.le (by omega)
      have hrd := S4.2.2.2.1
      clear S3 cB fB
      go_wp2_with fail
      refine (pick_any g (P + 2402) 40 _ (by omega) (by omega) (by omega) hrd).mono ?_
      rintro e w4 ⟨q, hq0, hq40, rfl, hr4, hg4⟩
      have S5 := S4.drawn hgw hg4 hr4
      have z4 := S5.size
      have cB := S5.1.cell
      have fB := S5.1.frozen
      have hxn6 : xn ≤ 5 := by rw [HXN.out]; exact hx5
      clear S4 hrd hr4 hg4
      by_cases hqa : q = 0
      · subst hqa
        have hbl : Below w4.heap.size w4 (w4.alloc (.cells #[] 31)) := below_alloc _
        obtain ⟨ps, p1, p2, p3, p4⟩ := push_ready (n5 := w4.heap.size + 1) S5 hgw hbl (lit_ownZ w4) (by simp) (by omega)
        rw [← HXN.out] at p1 p4
        have HP4 := hidK p4
        clear p4 hbl
        go_wp2_with (at_builtin; refine wpList_append_lies _ rfl _ _ 36 rfl (w.heap.size + 2) 23 i0 (.slice none 0 0) 1 24 Try.underlying36 hi0 hz0 hz1 hz2 rfl (by decide) (.slice xa xn xc) xn ps rfl p1 ⟨w4.heap.size + 1, 0, none⟩ 1 1 [.slice (some ⟨w4.heap.size, 0, none⟩) 0 0] rfl rfl p2 (one_of (fun p hp => by simp at hp; exact ⟨_, _, _, hp⟩)) (by omega) (by unfold maxLen; omega) (by omega) p3 _ rfl ?_; intro g6 cap6 w6 hown6 hgrow6 hat6 hlt6; obtain ⟨B6, B6r, S7⟩ := HP4.out g6 cap6 w6 hown6 hgrow6 hat6; have c6 := B6.cell; have f6 := B6.frozen; have c6r := B6r.cell; have f6r := B6r.frozen)
        have F7 := hidK (S7.fin hgw (Q' := P + 3000) (by omega))
        have c7 := S7.1.cell
        have cR := S7.2.2.1.cell
        have fR := S7.2.2.1.frozen
        have cE := (S7.2.2.1.put (.slice (some ⟨g6, 0, none⟩) (xn + 1) cap6)).cell
        clear S7 B6 B6r hown6 hgrow6 hat6 hlt6 HP4 S5 cB fB cR fR
        go_wp2
        refine bodyPost_ret (v := .agg #[.slice (some ⟨g6, 0, none⟩) (xn + 1) cap6]) (by simp [results, Try.results35, go_sem, cE]) rfl ⟨_, rfl, _, F7.out⟩
      · have hqaf : (q == 0) = false := by simp [hqa]
        by_cases hqb : q = 1
        · subst hqb
          have S5' := hidK S5
          clear S5 cB fB
          go_wp2
          go_loopw [45] (fun _ wr => Hid (∃ (x : Rn) (vx : Value), St w wr g (P + 2402 + 1) vx x ∧ x.length ≤ 6)) (fun _ wr => 6 - lenAt wr (w.heap.size + 1))
          case atStart => exact ⟨x, _, S5'.out, by omega⟩
          case round =>
            obtain ⟨y, vy, S6, hy6⟩ := hrel
            clear S5'
            obtain ⟨ya, yc, hshy⟩ := S6.2.1.shape
            obtain ⟨yn, HYN⟩ : ∃ n, Hid (n = y.length) := ⟨_, rfl⟩
            rw [← HYN.out] at hshy hy6
            subst hshy
            have cY := S6.1.cell
            have fY := S6.1.frozen
            have HLEN : Hid (lenAt wr (w.heap.size + 1) = yn) := lenAt_box S6.1
            by_cases hle : yn ≤ 5
            · have hleI : (yn : Int) ≤ 5 := by omega
              have hbl : Below wr.heap.size wr ((wr.alloc (.cells #[.int .i64 (yn : Int)] 3)).alloc (.cells #[.slice (some ⟨wr.heap.size, 0, none⟩) 1 1, .int .i64 1] 31)) := below_then (below_alloc _) (below_alloc _)
              obtain ⟨ps, p1, p2, p3, p4⟩ := push_ready (n5 := wr.heap.size + 1 + 1) S6 hgw hbl (one_ownZ wr yn 1) (by simp) (by rw [← HYN.out]; exact hy6)
              rw [← HYN.out] at p1 p4
              have HP4 := hidK p4
              clear p4 hbl
              go_wp2_with (at_builtin; refine wpList_append_lies _ rfl _ _ 36 rfl (w.heap.size + 2) 23 i0 (.slice none 0 0) 1 24 Try.underlying36 hi0 hz0 hz1 hz2 rfl (by decide) (.slice ya yn yc) yn ps rfl p1 ⟨wr.heap.size + 1 + 1, 0, none⟩ 1 1 [.slice (some ⟨wr.heap.size + 1, 0, none⟩) 1 1] rfl rfl p2 (one_of (fun p hp => by simp at hp; exact ⟨_, _, _, hp⟩)) (by omega) (by unfold maxLen; omega) (by omega) p3 _ rfl ?_; intro g6 cap6 w6 hown6 hgrow6 hat6 hlt6; obtain ⟨B6, B6r, S7⟩ := HP4.out g6 cap6 w6 hown6 hgrow6 hat6; have c6 := B6.cell; have f6 := B6.frozen; have c6r := B6r.cell; have f6r := B6r.frozen)
              have HS7 := hidK S7
              have HL7 : Hid (lenAt (w6.setCell ⟨w.heap.size + 1, 0, none⟩ (.slice (some ⟨g6, 0, none⟩) (yn + 1) cap6)) (w.heap.size + 1) = yn + 1) := lenAt_box S7.1
              clear S7 B6 B6r hown6 hgrow6 hat6 hlt6 HP4 S6 cY fY
              go_wp2
              go_roundw
              case rel => exact ⟨_, _, HS7.out, by rw [List.length_append, ← HYN.out]; simp; omega⟩
              case measure => rw [HL7.out, HLEN.out]; omega
            · have hleI : ¬ (yn : Int) ≤ 5 := by omega
              have F7 := hidK (S6.fin hgw (Q' := P + 3000) (by omega))
              have cR := S6.2.2.1.cell
              have fR := S6.2.2.1.frozen
              have cE := (S6.2.2.1.put (.slice ya yn yc)).cell
              clear S6
              go_wp2
              refine bodyPost_ret (v := .agg #[.slice ya yn yc]) (by simp [results, Try.results35, go_sem, cE]) rfl ?_
              first
                | exact ⟨_, rfl, _, F7.out⟩
                | exact ⟨_, rfl, ⟨_, F7.out.1⟩, F7.out.2⟩
        · have hqbf : (q == 1) = false := by simp [hqb]
          have F7 := hidK (S5.fin hgw (Q' := P + 3000) (by omega))
          have cR := S5.2.2.1.cell
          have fR := S5.2.2.1.frozen
          have cE := (S5.2.2.1.put (.slice xa xn xc)).cell
          by_cases hqc : q = 2
          · subst hqc
            by_cases hpos : 0 < xn
            · have hposI : (0 : Int) < (xn : Int) := by omega
              have hxp : 0 < x.length := by rw [← HXN.out]; exact hpos
              obtain ⟨gz, ez, hcz⟩ : ∃ gz cz, Value.slice xa xn xc = .slice (some ⟨gz, 0, none⟩) xn cz ∧ xn ≤ cz := by
                obtain ⟨ps, o1, _⟩ := S5.2.1
                rcases o1.2 with ⟨_, h0⟩ | ⟨g', cap', cur, e, _, _, hnc, _⟩
                · omega
                · rw [← HXN.out] at e hnc
                  exact ⟨g', cap', e, hnc⟩
              obtain ⟨hcz, hczn⟩ := hcz
              simp only [Value.slice.injEq, true_and] at hcz
              obtain ⟨rfl, rfl⟩ := hcz
              obtain ⟨pa, pn, pc, ps, m1, hm1, hgz, hgz2, c0, f0, hpl, hown, hpr, hm6, hfin⟩ := bend_ready S5 hgw hxp (by have := ok_len100 HOK.out hxp; omega)
              have HFIN := hidK hfin
              clear F7 cR fR cE S5 hfin
              go_upto_region 17 with fail
              have hA1 : Below w4.heap.size w4 (w4.drew.alloc (.cells #[.int .i64 0] 3)) := below_then (Below.drew (Below.refl _ _)) (below_alloc (w := w4.drew) _)
              have hA2 : Below w4.heap.size w4 ((w4.drew.alloc (.cells #[.int .i64 0] 3)).alloc (.cells #[.slice (some ⟨w4.heap.size, 0, none⟩) 1 1, .int .i64 0] 31)) := below_then hA1 (below_alloc _)
              have zb4 : w.heap.size + 1 < w4.heap.size := by omega
              have d1 := cell_is hA1 (p := ⟨w.heap.size + 1, 0, none⟩) zb4 cB
              have d2 := cell_is hA2 (p := ⟨w.heap.size + 1, 0, none⟩) zb4 cB
              have d3 := cell_is hA1 (p := ⟨gz, 0, none⟩) hgz2 c0
              have d4 := cell_is hA2 (p := ⟨gz, 0, none⟩) hgz2 c0
              have hA3 : Below w4.heap.size w4 (w4.alloc (.cells #[.int .i64 0] 3)) := below_alloc _
              have hA4 : Below w4.heap.size w4 ((w4.alloc (.cells #[.int .i64 0] 3)).alloc (.cells #[.slice (some ⟨w4.heap.size, 0, none⟩) 1 1, .int .i64 0] 31)) := below_then hA3 (below_alloc _)
              have d5 := cell_is hA3 (p := ⟨w.heap.size + 1, 0, none⟩) zb4 cB
              have d6 := cell_is hA4 (p := ⟨w.heap.size + 1, 0, none⟩) zb4 cB
              have d7 := cell_is hA3 (p := ⟨gz, 0, none⟩) hgz2 c0
              have d8 := cell_is hA4 (p := ⟨gz, 0, none⟩) hgz2 c0
              clear hA1 hA2 hA3 hA4
              go_region_law (first | (refine step_append_at rfl (.tmp 66) (.tmp 69) 23 rfl m1 31 j0 Try.underlying23 hj0 hy0 hy1 hy2 (.slice pa pn pc) ps (by simp [Act.eval]) hown ⟨w4.heap.size + 1, 0, none⟩ 1 1 [(.slice (some ⟨w4.heap.size, 0, none⟩) 1 1, 0)] (by simp [Act.eval]) hpr (by simp; omega) hm6 ?_; intro v7 w7 hown7 hg7 hat7; obtain ⟨sa7, sn7, sc7, rfl⟩ := row_slice hown7; obtain ⟨r1, rf, r0, B8, D8, R8, Rd8, G8⟩ := HFIN.out _ w7 hown7 hg7))
              all_goals
                have F8 := hidK (fin_of hgw D8 Rd8 G8 (Q' := P + 3000) (by omega))
                have cR := R8.cell
                have fR := R8.frozen
                have c8 := B8.cell
                have cE := (R8.put (.slice (some ⟨gz, 0, none⟩) xn xc)).cell
                clear B8 D8 R8 Rd8 G8 hown hpr HFIN hown7 hg7 hat7
                go_wp2
                refine bodyPost_ret (v := .agg #[.slice (some ⟨gz, 0, none⟩) xn xc]) (by simp [results, Try.results35, go_sem, cE]) rfl ⟨_, rfl, _, F8.out⟩
            · have hposI : ¬ (0 : Int) < (xn : Int) := by omega
              clear S5
              go_wp2
              refine bodyPost_ret (v := .agg #[.slice xa xn xc]) (by simp [results, Try.results35, go_sem, cE]) rfl ⟨_, rfl, _, F7.out⟩
          · have hqcf : (q == 2) = false := by simp [hqc]
            clear S5
            go_wp2
            refine bodyPost_ret (v := .agg #[.slice xa xn xc]) (by simp [results, Try.results35, go_sem, cE]) rfl ⟨_, rfl, _, F7.out⟩

end Go.Proofs.Ytjaehoehfmklcaa
