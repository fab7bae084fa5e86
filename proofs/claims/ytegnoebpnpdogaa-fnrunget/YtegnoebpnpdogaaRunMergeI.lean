/-
  The contract of impl.RunMerge at all runs and numbers.
-/
import Derived.Test.YtegnoebpnpdogaaRunFar
import Derived.Deep.DeepCutAuto
namespace Go.Proofs.Ytegnoebpnpdogaa
set_option maxRecDepth 100000
set_option linter.unusedVariables false
open Go.RowKit

theorem ret_ri {v : Value} {a b : Int} (h : a = b) : Ending.returned (.tuple #[.agg #[v], .int .i64 a]) = .returned (.tuple #[.agg #[v], .int .i64 b]) := by rw [h]

set_option maxHeartbeats 8000000 in
theorem implRunMerge_any (v : Value) (zss : Rn) (f : Int) (w : World) (h : RunsAt w v zss) (hf1 : f ≤ 9223372036854775807) :
    Calls Try.prog 23 #[.agg #[v], .int .i64 f] w fun e w' => ∃ v', e = .returned (.tuple #[.agg #[v'], .int .i64 (mrgLeft zss f)]) ∧ OwnR w' w.heap.size w'.heap.size v' (mrgOut zss f) ∧ Below w.heap.size w w' := by
  obtain ⟨a, n, cap, rfl⟩ := h.shapeN
  obtain ⟨os, HO⟩ : ∃ os, Hid (os = mrgOut zss f) := ⟨_, rfl⟩
  obtain ⟨lf, HLF⟩ : ∃ lf, Hid (lf = mrgLeft zss f) := ⟨_, rfl⟩
  rw [← HO.out, ← HLF.out]
  have hba : Below w.heap.size w ((w.alloc (.cells #[.slice a n cap] 25)).alloc (.cells #[.slice none 0 0] 25)) := below_then (below_alloc _) (below_alloc _)
  have x0 : BoxAt ((w.alloc (.cells #[.slice a n cap] 25)).alloc (.cells #[.slice none 0 0] 25)) w.heap.size (.slice a n cap) := (boxAt_new _ _).below (below_alloc _)
  have x1 : BoxAt ((w.alloc (.cells #[.slice a n cap] 25)).alloc (.cells #[.slice none 0 0] 25)) (w.heap.size + 1) (.slice none 0 0) := by
    have := boxAt_new (w.alloc (.cells #[.slice a n cap] 25)) (.slice none 0 0)
    rw [show (w.alloc (.cells #[.slice a n cap] 25)).heap.size = w.heap.size + 1 by simp] at this
    exact this
  cases hok : runOkB zss with
  | false =>
    have H1 : Hid (os = [] ∧ lf = 0) := by
      show _ ∧ _
      rw [HO.out, HLF.out]
      simp [mrgOut, mrgLeft, hok]
    go_enter Try.func23, Try.ntmps23
    go_wp2_with fail
    refine (implRunOk_any _ zss _ (h.below hba)).mono ?_
    rw [hok]
    rintro e w1 ⟨rfl, hb1⟩
    have y1 := (x1.below hb1)
    have c1 := y1.cell
    have f1 := y1.frozen
    have HK : Hid (Below w.heap.size w (w1.setCell ⟨w.heap.size + 1, 0, none⟩ (.slice none 0 0))) := (below_then hba hb1).setCell (by simp) _
    clear hb1 hba x0 x1 h hok y1
    go_wp2
    refine bodyPost_ret (v := .tuple #[.agg #[.slice none 0 0], .int .i64 0]) (by simp [results, Try.results23, go_sem, c1]) rfl ⟨_, ret_ri H1.out.2.symm, ?_, HK.out⟩
    rw [H1.out.1]
    exact OwnR.nil _ _ HK.out.size
  | true =>
    by_cases hf : f < 0
    · have H1 : Hid (os = [] ∧ lf = 0) := by
        show _ ∧ _
        rw [HO.out, HLF.out]
        simp [mrgOut, mrgLeft, show ¬ 0 ≤ f by omega]
      go_enter Try.func23, Try.ntmps23
      go_wp2_with fail
      refine (implRunOk_any _ zss _ (h.below hba)).mono ?_
      rw [hok]
      rintro e w1 ⟨rfl, hb1⟩
      have y1 := (x1.below hb1)
      have c1 := y1.cell
      have f1 := y1.frozen
      have HK : Hid (Below w.heap.size w (w1.setCell ⟨w.heap.size + 1, 0, none⟩ (.slice none 0 0))) := (below_then hba hb1).setCell (by simp) _
      clear hb1 hba x0 x1 h hok y1
      go_wp2
      refine bodyPost_ret (v := .tuple #[.agg #[.slice none 0 0], .int .i64 0]) (by simp [results, Try.results23, go_sem, c1]) rfl ⟨_, ret_ri H1.out.2.symm, ?_, HK.out⟩
      rw [H1.out.1]
      exact OwnR.nil _ _ HK.out.size
    · have hf0 : 0 ≤ f := by omega
      have H1 : Hid (os = (mergeTo zss.length zss f).1 ∧ lf = (mergeTo zss.length zss f).2) := by
        show _ ∧ _
        rw [HO.out, HLF.out]
        simp [mrgOut, mrgLeft, hok, hf0]
      have HOK : Hid (runOkB zss = true) := hok
      have h5 := runOk_le hok
      go_enter Try.func23, Try.ntmps23
      go_wp2_with fail
      refine (implRunOk_any _ zss _ (h.below hba)).mono ?_
      rw [hok]
      rintro e w1 ⟨rfl, hb1⟩
      have hk1 := below_then hba hb1
      have y0 := (x0.below hb1).cell
      have y1 := x1.below hb1
      have z1 : w.heap.size + 2 ≤ w1.heap.size := by have := hb1.size; simp at this; omega
      have hR1 := h.below hk1
      clear hb1 hba x0 x1 h hok
      go_wp2_with fail
      refine (copyRuns_any _ zss _ hR1 (by omega) (ok_mild HOK.out)).mono ?_
      rintro e w2 ⟨v2, rfl, O2, hb2⟩
      have hk2 := below_then hk1 hb2
      have y2 := y1.below hb2
      have z2 := hb2.size
      obtain ⟨a2, n2, c2, rfl⟩ := O2.runs.shapeN
      have O3 : OwnR (w2.alloc (.cells #[.slice a2 n2 c2] 25)) (w.heap.size + 2) (w2.alloc (.cells #[.slice a2 n2 c2] 25)).heap.size (.slice a2 n2 c2) zss := (O2.keep' (below_alloc _)).wide z1 (below_alloc _).size (Nat.le_refl _)
      have B3 := boxAt_new w2 (.slice a2 n2 c2)
      have y3 := y2.below (below_alloc (.cells #[.slice a2 n2 c2] 25))
      have hk3 := below_then hk2 (below_alloc (.cells #[.slice a2 n2 c2] 25))
      clear O2 hb2 hk2 y2 y1 y0 hR1 hk1
      go_wp2
      go_loopw [1] (fun q wr => ∃ (f' : Int), q = .int .i64 f' ∧ 0 ≤ f' ∧ f' ≤ 9223372036854775807 ∧ Hid (∃ (x : Rn) (vx : Value) (t : Nat), BoxAt wr w2.heap.size vx ∧ OwnR wr (w.heap.size + 2) wr.heap.size vx x ∧ BoxAt wr (w.heap.size + 1) (.slice none 0 0) ∧ Below w.heap.size w wr ∧ runOkB x = true ∧ x.length ≤ t ∧ mergeTo t x f' = mergeTo zss.length zss f)) (fun _ wr => lenAt wr w2.heap.size)
      case atStart => exact ⟨f, rfl, hf0, hf1, zss, _, zss.length, B3, O3, y3, hk3, HOK.out, Nat.le_refl _, rfl⟩
      case round =>
        obtain ⟨f', rfl, hf'0, hf'1, x, vx, t, Bx, Ox, yr, hkr, hxo, hxt, hmt⟩ := hrel
        have HX : Hid (runOkB x = true ∧ x.length ≤ t ∧ mergeTo t x f' = mergeTo zss.length zss f) := ⟨hxo, hxt, hmt⟩
        clear O3 B3 y3 hk3 hxt hmt
        have hx5 := runOk_le hxo
        obtain ⟨xa, xc, hsh⟩ := Ox.shape
        obtain ⟨m, HM⟩ : ∃ m, Hid (m = x.length) := ⟨_, rfl⟩
        rw [← HM.out] at hsh hx5
        subst hsh
        have cB := Bx.cell
        have c1 := yr.cell
        have f1 := yr.frozen
        have z3 := hkr.size
        have zb := Bx.lt
        have zy := yr.lt
        have HLEN : Hid (lenAt wr w2.heap.size = m) := lenAt_box Bx
        by_cases hm1 : m ≤ 1
        · have HE : Hid (mergeTo zss.length zss f = (x, f')) := by
            show _ = _
            rw [← HX.out.2.2]
            exact mergeTo_one _ _ (by rw [← HM.out]; exact hm1)
          have HR : Hid (OwnR (wr.setCell ⟨w.heap.size + 1, 0, none⟩ (.slice xa m xc)) (w.heap.size + 2) (wr.setCell ⟨w.heap.size + 1, 0, none⟩ (.slice xa m xc)).heap.size (.slice xa m xc) x) := (Ox.put yr).wide (Nat.le_refl _) (by simp) (Nat.le_refl _)
          have HK : Hid (Below w.heap.size w (wr.setCell ⟨w.heap.size + 1, 0, none⟩ (.slice xa m xc))) := hkr.setCell (by simp) _
          clear Bx Ox yr hkr HX hxo
          go_wp2
          refine bodyPost_ret (v := .tuple #[.agg #[.slice xa m xc], .int .i64 f']) (by simp [results, Try.results23, go_sem, c1]) rfl ⟨_, ret_ri (by rw [H1.out.2, HE.out]), ?_, HK.out⟩
          rw [H1.out.1, HE.out]
          exact HR.out.wide (by omega) (Nat.le_refl _) (Nat.le_refl _)
        · have hm2 : 2 ≤ x.length := by rw [← HM.out]; omega
          have hml := many_le hxo hm2
          have hma := ok_light hxo (j := x.length - 2) (by omega)
          have hmb := ok_light hxo (j := x.length - 1) (by omega)
          have hna := ok_len100 hxo (j := x.length - 2) (by omega)
          have hnb := ok_len100 hxo (j := x.length - 1) (by omega)
          have hxl : x.length ≤ 1048576 := by rw [← HM.out]; omega
          have hlo : w.heap.size + 2 ≤ wr.heap.size := by omega
          have hRx := Ox.runs
          have hmgt : (1 : Int) < m := by omega
          have cBa := ((Bx.below (Below.drew (Below.refl _ _))).below (below_alloc (.cells #[.slice none 0 0] 25))).cell
          go_upto_region 5 with fail
          go_cut [7, 8] (fun p q wx => ∃ (b7 : Nat) (va : Option Addr) (vn vc : Nat), p = .pointer (some ⟨b7, 0, none⟩) ∧ q = .int .i64 (lastMany x) ∧ Hid (BoxAt wx b7 (.slice va vn vc) ∧ OwnR wx (w.heap.size + 2) wx.heap.size (.slice va vn vc) (lastR x) ∧ Below wr.heap.size wr wx ∧ wr.heap.size ≤ b7))
          case first =>
            go_wp2_with fail
            go_region_with (first
              | (go_at_call 58; have hO := O4; refine (lastTwoMany_any _ x _ (by first | exact hRx.below hb4' | exact (hRx.below hb4').below (below_alloc _)) hm2 hxl (by omega) (by omega)).mono ?_; rintro e w5 ⟨rfl, hb5⟩; have hb5' : Below w4.heap.size w4 w5 := (by first | exact hb5 | exact below_then (below_alloc _) hb5); first | (have k8 : BoxAt w5 wr.heap.size (.slice none 0 0) := (k7.below hb5'); have k8c := k8.cell; have k8f := k8.frozen) | (have k9 : BoxAt w5 w4.heap.size (.slice none 0 0) := (BoxAt.below (boxAt_new w4 (.slice none 0 0)) hb5); have k9c := k9.cell; have k9f := k9.frozen) | skip)
              | (go_at_call 42; refine (lastTwoMerged_any _ x (w.heap.size + 2) _ _ (by first | exact Ox.keep' (Below.drew (Below.refl _ _)) | exact Ox.keep' (below_then (Below.drew (Below.refl _ _)) (below_alloc _))) (by first | exact hlo | exact Nat.le_trans hlo (below_alloc (w := wr.drew) _).size) hm2 hxl hma hmb).mono ?_; rintro e w4 ⟨v4, rfl, O4, hb4⟩; obtain ⟨a4, n4, c4, rfl⟩ := O4.runs.shapeN; have hb4' : Below wr.heap.size wr w4 := (by first | exact below_then (Below.drew (Below.refl _ _)) hb4 | exact below_then (below_then (Below.drew (Below.refl _ _)) (below_alloc _)) hb4); have cB4 := (Bx.below hb4').cell; have cB4a := ((Bx.below hb4').below (below_alloc (.cells #[.slice none 0 0] 25))).cell; first | (have k7 : BoxAt w4 wr.heap.size (.slice none 0 0) := (BoxAt.below (boxAt_new wr.drew (.slice none 0 0)) hb4); have k7c := k7.cell; have k7f := k7.frozen) | skip))
            all_goals
              clear hRx Bx Ox yr cB c1 f1 cBa
              go_wp2_with fail
              go_meet
              case rel =>
                have z5 := hb5'.size
                have z4 := hb4'.size
                first
                  | exact ⟨w5.heap.size, a4, n4, c4, rfl, rfl, boxAt_new _ _, ((O4.keep' hb5').keep' (below_alloc _)).wide (Nat.le_refl _) (Nat.le_trans z5 (below_alloc _).size) (Nat.le_refl _), below_then (below_then hb4' hb5') (below_alloc _), Nat.le_trans z4 z5⟩
                  | exact ⟨w4.heap.size, a4, n4, c4, rfl, rfl, k9.put _, ((O4.keep' hb5').put k9).wide (Nat.le_refl _) (by simp; exact z5) (Nat.le_refl _), (below_then hb4' hb5').setCell z4 _, z4⟩
                  | exact ⟨wr.heap.size, a4, n4, c4, rfl, rfl, k8.put _, ((O4.keep' hb5').put k8).wide (Nat.le_refl _) (by simp; exact z5) (Nat.le_refl _), (below_then hb4' hb5').setCell (Nat.le_refl _) _, Nat.le_refl _⟩
          case rest =>
            obtain ⟨b7, va, vn', vc', rfl, rfl, HC⟩ := hcut
            obtain ⟨K7, O7, hb7, hle7⟩ := HC.out
            have Bc := Bx.below hb7
            have yc := yr.below hb7
            have Oc := Ox.keep' hb7
            have hkc := below_then hkr hb7
            have z7 := hb7.size
            obtain ⟨q, HQ⟩ : ∃ q, Hid (q = lastMany x) := ⟨_, rfl⟩
            rw [← HQ.out] at hml ⊢
            obtain ⟨t', HT'⟩ : ∃ t', Hid (t = t' + 1) := ⟨t - 1, by have := HX.out.2.1; show _ = _; omega⟩
            clear Bx yr Ox hkr hb7 hRx cB c1 f1 cBa HC hma hmb hna hnb
            have c7 := K7.cell
            have f7 := K7.frozen
            have cB := Bc.cell
            have fB := Bc.frozen
            have c1 := yc.cell
            have f1 := yc.frozen
            have hnx1 : ¬ x.length ≤ 1 := by omega
            by_cases hfm : f' < q
            · have HE : Hid (mergeTo zss.length zss f = (x, f')) := by
                show _ = _
                rw [← HX.out.2.2, HT'.out]
                exact mergeTo_stop _ hnx1 (.inl (by rw [← HQ.out]; exact hfm))
              have HR : Hid (OwnR (wc.setCell ⟨w.heap.size + 1, 0, none⟩ (.slice xa m xc)) (w.heap.size + 2) (wc.setCell ⟨w.heap.size + 1, 0, none⟩ (.slice xa m xc)).heap.size (.slice xa m xc) x) := (Oc.put yc).wide (Nat.le_refl _) (by simp; exact z7) (Nat.le_refl _)
              have HK : Hid (Below w.heap.size w (wc.setCell ⟨w.heap.size + 1, 0, none⟩ (.slice xa m xc))) := hkc.setCell (by simp) _
              clear Bc Oc yc hkc HX hxo K7 O7
              go_wp2
              refine bodyPost_ret (v := .tuple #[.agg #[.slice xa m xc], .int .i64 f']) (by simp [results, Try.results23, go_sem, c1]) rfl ⟨_, ret_ri (by rw [H1.out.2, HE.out]), ?_, HK.out⟩
              rw [H1.out.1, HE.out]
              exact HR.out.wide (by omega) (Nat.le_refl _) (Nat.le_refl _)
            · cases hro : runOkB (lastR x) with
              | false =>
                go_wp2_with fail
                refine (implRunOk_any _ (lastR x) _ O7.runs).mono ?_
                rw [hro]
                rintro e w8 ⟨rfl, hb8⟩
                have z8 := hb8.size
                have HE : Hid (mergeTo zss.length zss f = (x, f')) := by
                  show _ = _
                  rw [← HX.out.2.2, HT'.out]
                  exact mergeTo_stop _ hnx1 (.inr hro)
                have c8 := (Bc.below hb8).cell
                have y8 := yc.below hb8
                have c18 := y8.cell
                have f18 := y8.frozen
                have HR : Hid (OwnR (w8.setCell ⟨w.heap.size + 1, 0, none⟩ (.slice xa m xc)) (w.heap.size + 2) (w8.setCell ⟨w.heap.size + 1, 0, none⟩ (.slice xa m xc)).heap.size (.slice xa m xc) x) := ((Oc.keep' hb8).put y8).wide (Nat.le_refl _) (by simp; omega) (Nat.le_refl _)
                have HK : Hid (Below w.heap.size w (w8.setCell ⟨w.heap.size + 1, 0, none⟩ (.slice xa m xc))) := (below_then hkc hb8).setCell (by simp) _
                clear Bc Oc yc hkc HX hxo K7 O7 hb8 y8 hro c7 f7 cB fB c1 f1
                go_wp2
                refine bodyPost_ret (v := .tuple #[.agg #[.slice xa m xc], .int .i64 f']) (by simp [results, Try.results23, go_sem, c18]) rfl ⟨_, ret_ri (by rw [H1.out.2, HE.out]), ?_, HK.out⟩
                rw [H1.out.1, HE.out]
                exact HR.out.wide (by omega) (Nat.le_refl _) (Nat.le_refl _)
              | true =>
                go_wp2_with fail
                refine (implRunOk_any _ (lastR x) _ O7.runs).mono ?_
                rw [hro]
                rintro e w8 ⟨rfl, hb8⟩
                have z8 := hb8.size
                have B8 := Bc.below hb8
                have K8 := K7.below hb8
                have y8 := yc.below hb8
                have O8 := O7.keep' hb8
                have c8 := B8.cell
                have f8 := B8.frozen
                have c78 := K8.cell
                have hl7 : vn' = (lastR x).length := by
                  obtain ⟨a', c', e'⟩ := O7.shape
                  simp only [Value.slice.injEq] at e'
                  exact e'.2.1
                have R : Hid (∃ (x : Rn) (vx : Value) (t : Nat), BoxAt (w8.setCell ⟨w2.heap.size, 0, none⟩ (.slice va vn' vc')) w2.heap.size vx ∧ OwnR (w8.setCell ⟨w2.heap.size, 0, none⟩ (.slice va vn' vc')) (w.heap.size + 2) (w8.setCell ⟨w2.heap.size, 0, none⟩ (.slice va vn' vc')).heap.size vx x ∧ BoxAt (w8.setCell ⟨w2.heap.size, 0, none⟩ (.slice va vn' vc')) (w.heap.size + 1) (.slice none 0 0) ∧ Below w.heap.size w (w8.setCell ⟨w2.heap.size, 0, none⟩ (.slice va vn' vc')) ∧ runOkB x = true ∧ x.length ≤ t ∧ mergeTo t x (f' - q) = mergeTo zss.length zss f) := by
                  refine ⟨lastR x, .slice va vn' vc', t', B8.put _, (O8.put B8).wide (Nat.le_refl _) (by simp; exact z8) (Nat.le_refl _), y8.other _ (by omega), (below_then hkc hb8).setCell (by simp; omega) _, hro, ?_, ?_⟩
                  · have h1 := lastR_len hm2
                    have h2 := HX.out.2.1
                    have h3 := HT'.out
                    omega
                  · rw [← HX.out.2.2, HT'.out, mergeTo_go _ hnx1 (by rw [← HQ.out]; omega) hro, HQ.out]
                have HL8 : Hid (vn' < m) := by
                  show _ < _
                  rw [hl7, HM.out]
                  exact lastR_len hm2
                have hq0 : 0 ≤ f' - (q : Int) ∧ f' - (q : Int) ≤ 9223372036854775807 := by omega
                have HLN : Hid (lenAt (w8.setCell ⟨w2.heap.size, 0, none⟩ (.slice va vn' vc')) w2.heap.size = vn') := lenAt_box (B8.put _)
                clear Bc Oc yc hkc HX hxo K7 O7 hb8 y8 hro c7 f7 cB fB c1 f1 B8 K8 O8 hl7
                go_wp2
                go_roundw
                case rel => exact ⟨f' - q, by go_num, hq0.1, hq0.2, R.out⟩
                case measure =>
                  rw [HLN.out, HLEN.out]
                  exact HL8.out

end Go.Proofs.Ytegnoebpnpdogaa
