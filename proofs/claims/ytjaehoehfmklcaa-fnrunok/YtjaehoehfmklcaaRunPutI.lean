/-
  The contract of impl.RunPut at all runs and items.
-/
import Derived.Test.YtjaehoehfmklcaaRunPutMath
namespace Go.Proofs.Ytjaehoehfmklcaa
set_option maxRecDepth 100000
set_option linter.unusedVariables false
open Go.RowKit

theorem BoxAt.grown {w w' : World} {b : Nat} {v : Value} {row : Option Nat} (h : BoxAt w b v) (hg : w.grownBy w' row) (hne : some b ≠ row) : BoxAt w' b v := (hg.block b h.lt hne).trans h
theorem ret_rb {v : Value} {a b : Bool} (h : a = b) : Ending.returned (.tuple #[.agg #[v], .bool a]) = .returned (.tuple #[.agg #[v], .bool b]) := by rw [h]
theorem ownR_push {w w4 : World} {lo hi m1 m2 : Nat} {v2 p : Value} {ps : List Value} {s : Rn} {z : List It} {g4 cap4 : Nat} {o : Obj} (T : RunsIn w v2 lo hi ps s) (h1 : hi ≤ m1) (h2 : m1 ≤ m2) (hm2 : m2 ≤ w.heap.size) (Z : OwnZ w m1 m2 p z)
    (hbl : ∀ j, v2.ownBlock = some j → lo ≤ j ∧ j < m1) (hg : (w.alloc o).grownBy w4 v2.ownBlock) (hat : v2.ownBlock = some g4 ∨ g4 = (w.alloc o).heap.size)
    (hown : w4.ownsRow lo 23 1 (.slice (some ⟨g4, 0, none⟩) (s.length + 1) cap4) (s.length + 1) (ps ++ [p])) (hl : s.length + 1 ≤ 140737488355328) :
    OwnR w4 lo w4.heap.size (.slice (some ⟨g4, 0, none⟩) (s.length + 1) cap4) (s ++ [z]) := by
  have hsz : (w.alloc o).heap.size = w.heap.size + 1 := by simp
  have z4 := hg.size
  have hgc : (lo ≤ g4 ∧ g4 < m1 ∧ v2.ownBlock = some g4) ∨ m2 < g4 := by
    rcases hat with e | e
    · exact .inl ⟨(hbl g4 e).1, (hbl g4 e).2, e⟩
    · right; omega
  have T3 := (T.keep ((below_alloc o).mono (by omega))).grown hg
  have Z3 : OwnZ w4 m1 m2 p z := (Z.keep ((below_alloc o).mono hm2)).grown hg (fun j hj => .inl (hbl j hj).2)
  have T4 := RunsIn.snoc (v := .slice (some ⟨g4, 0, none⟩) (s.length + 1) cap4) h2 Z3 (fun j hj => by simp [Value.ownBlock] at hj; omega) (T3.chV (v' := .slice (some ⟨g4, 0, none⟩) (s.length + 1) cap4) (by
    rcases hgc with ⟨_, _, e⟩ | e
    · exact .inl (by rw [e]; rfl)
    · exact .inr (fun j hj => by simp [Value.ownBlock] at hj; omega))) h1
  refine ⟨ps ++ [p], by rw [List.length_append]; exact hown, fun j hj => (hown.lt j hj).2, by rw [List.length_append]; exact hl, Nat.le_refl _, T4.wide (Nat.le_refl _) (by omega)⟩

set_option maxHeartbeats 8000000 in
theorem implRunPut_any (v : Value) (s : Rn) (u : Value) (z : List It) (w : World) (h : RunsAt w v s) (hz : TailZ w u z) :
    Calls Try.prog 15 #[.agg #[v], u] w fun e w' => ∃ v', e = .returned (.tuple #[.agg #[v'], .bool (putOk s z)]) ∧ OwnR w' w.heap.size w'.heap.size v' (putOut s z) ∧ Below w.heap.size w w' := by
  obtain ⟨i0, hi0, hz0, hz1, hz2⟩ := info_parts infoRun
  obtain ⟨a, n, cap, rfl⟩ := h.shapeN
  have hshz : ∃ a n c, u = .slice a n c := by obtain ⟨a, c, e⟩ := hz.shape1; exact ⟨a, _, c, e⟩
  obtain ⟨ua, uc, hshu⟩ := hz.shape1
  obtain ⟨un, HUN⟩ : ∃ un, Hid (un = z.length) := ⟨_, rfl⟩
  rw [← HUN.out] at hshu
  subst hshu
  obtain ⟨os, HO⟩ : ∃ os, Hid (os = putOut s z) := ⟨_, rfl⟩
  obtain ⟨c, HC⟩ : ∃ c, Hid (c = putOk s z) := ⟨_, rfl⟩
  rw [← HO.out, ← HC.out]
  have hba : Below w.heap.size w ((w.alloc (.cells #[.slice a n cap] 38)).alloc (.cells #[.slice none 0 0] 38)) := below_then (below_alloc _) (below_alloc _)
  have x0 : BoxAt ((w.alloc (.cells #[.slice a n cap] 38)).alloc (.cells #[.slice none 0 0] 38)) w.heap.size (.slice a n cap) := (boxAt_new _ _).below (below_alloc _)
  have x1 : BoxAt ((w.alloc (.cells #[.slice a n cap] 38)).alloc (.cells #[.slice none 0 0] 38)) (w.heap.size + 1) (.slice none 0 0) := by
    have := boxAt_new (w.alloc (.cells #[.slice a n cap] 38)) (.slice none 0 0)
    rw [show (w.alloc (.cells #[.slice a n cap] 38)).heap.size = w.heap.size + 1 by simp] at this
    exact this
  go_enter Try.func15, Try.ntmps15
  go_wp2_with fail
  refine (runsTogether_any _ s _ (h.below hba)).mono ?_
  rintro e w1 ⟨v1, rfl, Z1, hb1⟩
  have hk1 := below_then hba hb1
  have y0 := x0.below hb1
  have y1 := x1.below hb1
  have z1 : w.heap.size + 2 ≤ w1.heap.size := by have := hb1.size; simp at this; omega
  have hR1 := h.below hk1
  have hz1 := hz.below hk1
  obtain ⟨va, vm, vc, rfl⟩ := Z1.shapeN
  clear hb1 hba x0 x1 h hz
  cases hok : runOkB s with
  | false =>
    have H1 : Hid (os = [] ∧ c = false) := by
      show _ ∧ _
      rw [HO.out, HC.out]
      simp [putOut, putOk, hok]
    have c1 := y1.cell
    have f1 := y1.frozen
    have HK : Hid (Below w.heap.size w (w1.setCell ⟨w.heap.size + 1, 0, none⟩ (.slice none 0 0))) := hk1.setCell (by simp) _
    clear hok y0 y1 hR1 hz1 Z1 hk1
    go_wp2
    refine bodyPost_ret (v := .tuple #[.agg #[.slice none 0 0], .bool false]) (by simp [results, Try.results15, go_sem, c1]) rfl ⟨_, ret_rb H1.out.2.symm, ?_, HK.out⟩
    rw [H1.out.1]
    exact OwnR.nil _ _ HK.out.size
  | true =>
    cases hzo : zOkB z with
    | false =>
      have H1 : Hid (os = [] ∧ c = false) := by
        show _ ∧ _
        rw [HO.out, HC.out]
        simp [putOut, putOk, hzo]
      go_wp2_with fail
      refine (implZOk_any _ z _ hz1.items).mono ?_
      rw [hzo]
      rintro e w2 ⟨rfl, hb2⟩
      have y2 := y1.below hb2
      have c1 := y2.cell
      have f1 := y2.frozen
      have HK : Hid (Below w.heap.size w (w2.setCell ⟨w.heap.size + 1, 0, none⟩ (.slice none 0 0))) := (below_then hk1 hb2).setCell (by simp) _
      clear hok y0 y1 y2 hR1 hz1 Z1 hk1 hb2 hzo
      go_wp2
      refine bodyPost_ret (v := .tuple #[.agg #[.slice none 0 0], .bool false]) (by simp [results, Try.results15, go_sem, c1]) rfl ⟨_, ret_rb H1.out.2.symm, ?_, HK.out⟩
      rw [H1.out.1]
      exact OwnR.nil _ _ HK.out.size
    | true =>
      have HOK : Hid (runOkB s = true ∧ zOkB z = true) := ⟨hok, hzo⟩
      have hs5 := runOk_le hok
      have HTO : Hid (togOut s = sumR s) := by simp [Hid, togOut, hok]
      have hul : un ≤ 100 := by rw [HUN.out]; exact zOk_le hzo
      go_wp2_with fail
      refine (implZOk_any _ z _ hz1.items).mono ?_
      rw [hzo]
      rintro e w2 ⟨rfl, hb2⟩
      have hk2 := below_then hk1 hb2
      have y02 := (y0.below hb2).cell
      have y2 := y1.below hb2
      have hR2 := hR1.below hb2
      have hz2' := hz1.below hb2
      have Z2 := Z1.keep' hb2
      have z2 := hb2.size
      clear y0 y1 hR1 hz1 Z1 hk1 hb2 hok hzo
      go_wp2_with fail
      refine (copyRuns_any _ s _ hR2 (by omega) (ok_mild HOK.out.1)).mono ?_
      rintro e w3 ⟨v3, rfl, O3, hb3⟩
      have hk3 := below_then hk2 hb3
      have y3 := y2.below hb3
      have hz3 := hz2'.below hb3
      have Z3 := Z2.keep' hb3
      have z3 := hb3.size
      obtain ⟨ra, rn, rc, rfl⟩ := O3.runs.shapeN
      clear y02 y2 hR2 hz2' Z2 hk2 hb3
      have c3 := y3.cell
      have f3 := y3.frozen
      by_cases hun : un = 0
      · have hz0' : z = [] := List.length_eq_zero_iff.1 (by rw [← HUN.out]; exact hun)
        have H1 : Hid (os = s ∧ c = true) := by
          show _ ∧ _
          rw [HO.out, HC.out]
          simp [putOut, putOk, putRuns, HOK.out.1, hz0', zOk_nil]
        have HR : Hid (OwnR (w3.setCell ⟨w.heap.size + 1, 0, none⟩ (.slice ra rn rc)) w.heap.size (w3.setCell ⟨w.heap.size + 1, 0, none⟩ (.slice ra rn rc)).heap.size (.slice ra rn rc) s) := (O3.put y3).wide (by omega) (by simp) (Nat.le_refl _)
        have HK : Hid (Below w.heap.size w (w3.setCell ⟨w.heap.size + 1, 0, none⟩ (.slice ra rn rc))) := hk3.setCell (by simp) _
        clear O3 y3 hk3 Z3 hz3 hz0'
        subst hun
        go_wp2
        refine bodyPost_ret (v := .tuple #[.agg #[.slice ra rn rc], .bool true]) (by simp [results, Try.results15, go_sem, c3]) rfl ⟨_, ret_rb H1.out.2.symm, ?_, HK.out⟩
        rw [H1.out.1]
        exact HR.out
      · have hzn : Hid (z ≠ []) := fun e => hun (by rw [HUN.out, e]; rfl)
        have hune : ((un : Int) == 0) = false := by simp; omega
        have hune2 : ¬ (un : Int) = 0 := by omega
        rw [HTO.out] at Z3
        have hadd : addOk (sumR s) z = zOkB (addZ (sumR s) z) := by simp [addOk, sum_ok HOK.out.1, HOK.out.2]
        cases hao : zOkB (addZ (sumR s) z) with
        | false =>
          have H1 : Hid (os = s ∧ c = false) := by
            show _ ∧ _
            rw [HO.out, HC.out]
            simp [putOut, putOk, putRuns, HOK.out.1, HOK.out.2, hzn.out, hao]
          go_wp2_with fail
          refine (implZAdd_any _ _ (sumR s) z _ Z3.tail hz3).mono ?_
          rw [hadd, hao]
          rintro e w4 ⟨v4, rfl, Z4, hb4⟩
          obtain ⟨sa, sn, sc, rfl⟩ := Z4.shapeN
          have y4 := y3.below hb4
          have c4 := y4.cell
          have f4 := y4.frozen
          have z4 := hb4.size
          have HR : Hid (OwnR (w4.setCell ⟨w.heap.size + 1, 0, none⟩ (.slice ra rn rc)) w.heap.size (w4.setCell ⟨w.heap.size + 1, 0, none⟩ (.slice ra rn rc)).heap.size (.slice ra rn rc) s) := ((O3.keep' hb4).put y4).wide (by omega) (by simp; exact z4) (Nat.le_refl _)
          have HK : Hid (Below w.heap.size w (w4.setCell ⟨w.heap.size + 1, 0, none⟩ (.slice ra rn rc))) := (below_then hk3 hb4).setCell (by simp) _
          clear O3 y3 y4 hk3 Z3 hz3 Z4 hb4 hadd hao c3 f3
          go_wp2
          refine bodyPost_ret (v := .tuple #[.agg #[.slice ra rn rc], .bool false]) (by simp [results, Try.results15, go_sem, c4]) rfl ⟨_, ret_rb H1.out.2.symm, ?_, HK.out⟩
          rw [H1.out.1]
          exact HR.out
        | true =>
          have H1 : Hid (os = loopP (s.length + 1) (s ++ [z]) ∧ c = true) := by
            show _ ∧ _
            rw [HO.out, HC.out]
            simp [putOut, putOk, putRuns, HOK.out.1, HOK.out.2, hzn.out, hao]
          go_wp2_with fail
          refine (implZAdd_any _ _ (sumR s) z _ Z3.tail hz3).mono ?_
          rw [hadd, hao]
          rintro e w4 ⟨v4, rfl, Z4, hb4⟩
          obtain ⟨sa, sn, sc, rfl⟩ := Z4.shapeN
          have y4 := y3.below hb4
          have O4 := O3.keep' hb4
          have hk4 := below_then hk3 hb4
          have hz4 := hz3.below hb4
          have z4 := hb4.size
          clear O3 y3 hk3 Z3 hz3 Z4 hb4 hadd hao c3 f3
          go_wp2_with fail
          refine (copyItems_any _ z _ hz4.items (by rw [← HUN.out]; omega) (zOk_mild HOK.out.2).2.1).mono ?_
          rintro e w5 ⟨v5, rfl, Z5, hb5⟩
          obtain ⟨pa, pn, pc, rfl⟩ := Z5.shapeN
          have y5 := y4.below hb5
          have hk5 := below_then hk4 hb5
          have z5 := hb5.size
          obtain ⟨ps, o1, o2, o3, o4, o5⟩ := O4.keep' hb5
          have hbl : ∀ j, (Value.slice ra rn rc).ownBlock = some j → w2.heap.size ≤ j ∧ j < w4.heap.size := fun j hj => by have := (o1.lt j hj).1; have := o2 j hj; omega
          have hS := o1.alloc (.cells #[.slice pa pn pc] 23)
          have hnw := last_news w5 23 (.slice pa pn pc)
          have y5a := y5.below (below_alloc (.cells #[.slice pa pn pc] 23))
          have hlb : w2.heap.size ≤ (w5.alloc (.cells #[.slice pa pn pc] 23)).heap.size := by simp; omega
          have hne5 : some (w.heap.size + 1) ≠ (Value.slice ra rn rc).ownBlock := fun e => by have := hbl _ e.symm; omega
          obtain ⟨sl, HSL⟩ : ∃ sl, Hid (sl = s.length) := ⟨_, rfl⟩
          have hsl5 : sl ≤ 5 := by rw [HSL.out]; exact hs5
          rw [← HSL.out] at hS
          have HT5 : Hid (RunsIn w5 (.slice ra rn rc) w2.heap.size w3.heap.size ps s) := o5
          clear O4 y4 hk4 hz4 o1 o2 o3 o4 o5
          go_wp2_with (at_builtin; refine wpList_append_lies _ rfl _ _ 36 rfl w2.heap.size 23 i0 (.slice none 0 0) 1 24 Try.underlying36 hi0 hz0 hz1 hz2 rfl (by decide) (.slice ra rn rc) sl ps rfl hS ⟨w5.heap.size, 0, none⟩ 1 1 [.slice pa pn pc] rfl rfl hnw (one_of (fun p hp => by simp at hp; exact ⟨_, _, _, hp⟩)) (by omega) (by unfold maxLen; omega) (by omega) hlb _ rfl ?_; intro g6 cap6 w6 hown6 hgrow6 hat6 hlt6)
          have z6 : w5.heap.size + 1 ≤ w6.heap.size := by have := hgrow6.size; simp at this; omega
          have y6 := y5a.grown hgrow6 hne5
          have hk6 : Below w.heap.size w w6 := (below_then hk5 (below_alloc _)).grown hgrow6 (by simp; omega) (fun j hj => by have := hbl j hj; omega)
          have O6 : OwnR w6 w2.heap.size w6.heap.size (.slice (some ⟨g6, 0, none⟩) (sl + 1) cap6) (s ++ [z]) := by
            rw [HSL.out] at hown6 ⊢
            exact ownR_push HT5.out z4 z5 (Nat.le_refl _) Z5 hbl hgrow6 hat6 hown6 (by omega)
          have B7 : BoxAt (w6.alloc (.cells #[(.slice (some ⟨g6, 0, none⟩) (sl + 1) cap6)] 38)) w6.heap.size (.slice (some ⟨g6, 0, none⟩) (sl + 1) cap6) := boxAt_new _ _
          have y7 := y6.below (below_alloc (.cells #[(.slice (some ⟨g6, 0, none⟩) (sl + 1) cap6)] 38))
          have hk7 := below_then hk6 (below_alloc (.cells #[(.slice (some ⟨g6, 0, none⟩) (sl + 1) cap6)] 38))
          have O7 : OwnR (w6.alloc (.cells #[(.slice (some ⟨g6, 0, none⟩) (sl + 1) cap6)] 38)) w2.heap.size (w6.alloc (.cells #[(.slice (some ⟨g6, 0, none⟩) (sl + 1) cap6)] 38)).heap.size (.slice (some ⟨g6, 0, none⟩) (sl + 1) cap6) (s ++ [z]) := (O6.keep' (below_alloc _)).wide (Nat.le_refl _) (below_alloc _).size (Nat.le_refl _)
          have z7 : w6.heap.size + 1 = (w6.alloc (.cells #[(.slice (some ⟨g6, 0, none⟩) (sl + 1) cap6)] 38)).heap.size := by simp
          have HL7 : Hid (Lights 1 (s ++ [z])) := lights_snoc HOK.out.1 HOK.out.2
          clear z7 hown6 hgrow6 hat6 hS hnw y5 y5a y6 O6 Z5 HT5 hb5 hk5 hk6 hlb hne5
          go_loopw [50] (fun _ wr => Hid (∃ (x : Rn) (vx : Value) (t K : Nat), BoxAt wr w6.heap.size vx ∧ OwnR wr w2.heap.size wr.heap.size vx x ∧ BoxAt wr (w.heap.size + 1) (.slice none 0 0) ∧ Below w.heap.size w wr ∧ x.length ≤ t ∧ t ≤ 6 ∧ K * 2 ^ t ≤ 64 ∧ Lights K x ∧ loopP t x = loopP (s.length + 1) (s ++ [z]))) (fun _ wr => lenAt wr w6.heap.size)
          case atStart => exact ⟨s ++ [z], _, s.length + 1, 1, B7, O7, y7, hk7, by simp, by omega, by
            have : s.length + 1 ≤ 6 := by omega
            calc 1 * 2 ^ (s.length + 1) ≤ 1 * 2 ^ 6 := Nat.mul_le_mul_left _ (Nat.pow_le_pow_right (by omega) this)
              _ ≤ 64 := by decide, HL7.out, rfl⟩
          case round =>
            obtain ⟨x, vx, t, K, Bx, Ox, yr, hkr, hxt, ht6, hK, hLx, hlp⟩ := hrel
            have HX : Hid (x.length ≤ t ∧ t ≤ 6 ∧ K * 2 ^ t ≤ 64 ∧ Lights K x ∧ loopP t x = loopP (s.length + 1) (s ++ [z])) := ⟨hxt, ht6, hK, hLx, hlp⟩
            have hx6 : x.length ≤ 6 := by omega
            have hK64 : K ≤ 64 := by
              have h1 : K * 1 ≤ K * 2 ^ t := Nat.mul_le_mul_left _ (Nat.one_le_two_pow)
              omega
            clear hlp hxt ht6 hK
            obtain ⟨xa, xc, hsh⟩ := Ox.shape
            obtain ⟨m, HM⟩ : ∃ m, Hid (m = x.length) := ⟨_, rfl⟩
            rw [← HM.out] at hsh hx6
            subst hsh
            have cB := Bx.cell
            have fB := Bx.frozen
            have c1 := yr.cell
            have f1 := yr.frozen
            have z8 := hkr.size
            have zb := Bx.lt
            have HLEN : Hid (lenAt wr w6.heap.size = m) := lenAt_box Bx
            by_cases hbig : 5 < m
            · have hbi : (5 : Int) < m := by omega
              have hmu : mustP x = true := must_big (by rw [← HM.out]; exact hbig)
              have B8 := Bx
              have O8 := Ox
              have y8 := yr
              have hk8 := hkr
              clear Bx Ox yr hkr
              have hm2 : 2 ≤ x.length := must_two hmu
              have HMU : Hid (mustP x = true) := hmu
              have hxl : x.length ≤ 1048576 := by rw [← HM.out]; omega
              have hma := (hLx.at (j := x.length - 2) (by omega)).mono (show K ≤ 500 by omega)
              have hmb := (hLx.at (j := x.length - 1) (by omega)).mono (show K ≤ 500 by omega)
              go_wp2_with fail
              refine (lastTwoMerged_any _ x w2.heap.size _ _ O8 (by omega) hm2 hxl hma hmb).mono ?_
              rintro e w9 ⟨v9, rfl, O9, hb9⟩
              obtain ⟨qa, qn, qc, rfl⟩ := O9.runs.shapeN
              have B9 := B8.below hb9
              have y9 := y8.below hb9
              have hk9 := below_then hk8 hb9
              have c9 := B9.cell
              have f9 := B9.frozen
              have z9 := hb9.size
              have hl9 : qn = (lastR x).length := by
                obtain ⟨a', c', e'⟩ := O9.shape
                simp only [Value.slice.injEq] at e'
                exact e'.2.1
              have R : Hid (∃ (x : Rn) (vx : Value) (t K : Nat), BoxAt (w9.setCell ⟨w6.heap.size, 0, none⟩ (.slice qa qn qc)) w6.heap.size vx ∧ OwnR (w9.setCell ⟨w6.heap.size, 0, none⟩ (.slice qa qn qc)) w2.heap.size (w9.setCell ⟨w6.heap.size, 0, none⟩ (.slice qa qn qc)).heap.size vx x ∧ BoxAt (w9.setCell ⟨w6.heap.size, 0, none⟩ (.slice qa qn qc)) (w.heap.size + 1) (.slice none 0 0) ∧ Below w.heap.size w (w9.setCell ⟨w6.heap.size, 0, none⟩ (.slice qa qn qc)) ∧ x.length ≤ t ∧ t ≤ 6 ∧ K * 2 ^ t ≤ 64 ∧ Lights K x ∧ loopP t x = loopP (s.length + 1) (s ++ [z])) := by
                obtain ⟨g1, g2, g3, g4, g5⟩ := HX.out
                obtain ⟨t', rfl⟩ : ∃ t', t = t' + 1 := ⟨t - 1, by omega⟩
                refine ⟨lastR x, .slice qa qn qc, t', K + K, B9.put _, (O9.put B9).wide (Nat.le_refl _) (by simp) (Nat.le_refl _), y9.other _ (by omega), hk9.setCell (by simp; omega) _, ?_, by omega, ?_, g4.last hm2, ?_⟩
                · have := lastR_len hm2
                  omega
                · rw [Nat.pow_succ, ← Nat.mul_assoc] at g3
                  rw [Nat.add_mul]
                  omega
                · rw [← g5, loopP_go _ HMU.out]
              have HL9 : Hid (qn < m) := by
                show _ < _
                rw [hl9, HM.out]
                exact lastR_len hm2
              have HLN : Hid (lenAt (w9.setCell ⟨w6.heap.size, 0, none⟩ (.slice qa qn qc)) w6.heap.size = qn) := lenAt_box (B9.put _)
              clear B9 y9 hk9 O9 hb9 hl9 HX hLx hma hmb HMU B8 O8 y8 hk8 cB fB c1 f1
              go_wp2
              go_roundw
              case rel => exact R.out
              case measure =>
                rw [HLN.out, HLEN.out]
                exact HL9.out
            · have hbi : ¬ (5 : Int) < m := by omega
              by_cases hsm : m ≤ 1
              · have hsi : ¬ (1 : Int) < m := by omega
                have hmu : mustP x = false := must_small (by rw [← HM.out]; exact hsm)
                have HE : Hid (x = loopP (s.length + 1) (s ++ [z])) := by
                  show _ = _
                  rw [← HX.out.2.2.2.2]
                  exact (loopP_end _ hmu).symm
                have HR : Hid (OwnR (wr.setCell ⟨w.heap.size + 1, 0, none⟩ (.slice xa m xc)) w.heap.size (wr.setCell ⟨w.heap.size + 1, 0, none⟩ (.slice xa m xc)).heap.size (.slice xa m xc) x) := (Ox.put yr).wide (by omega) (by simp) (Nat.le_refl _)
                have HK : Hid (Below w.heap.size w (wr.setCell ⟨w.heap.size + 1, 0, none⟩ (.slice xa m xc))) := hkr.setCell (by simp) _
                have HRS : Hid ((wr.setCell ⟨w.heap.size + 1, 0, none⟩ (.slice xa m xc)).cell? ⟨w.heap.size + 1, 0, none⟩ = some (.slice xa m xc)) := (yr.put _).cell
                clear Bx Ox yr hkr HX hLx
                go_wp2
                refine bodyPost_ret (v := .tuple #[.agg #[.slice xa m xc], .bool true]) (by simp [results, Try.results15, go_sem, c1]) rfl ⟨_, ret_rb H1.out.2.symm, ?_, HK.out⟩
                rw [H1.out.1, ← HE.out]
                exact HR.out
              · have hsi : (1 : Int) < m := by omega
                have hmid := must_mid (x := x) (by rw [← HM.out]; omega) (by rw [← HM.out]; omega)
                cases hro : runOkB x with
                | false =>
                  go_wp2_with fail
                  refine (implRunOk_any _ x _ Ox.runs).mono ?_
                  rw [hro]
                  rintro e w8 ⟨rfl, hb8⟩
                  have B8 := Bx.below hb8
                  have O8 := Ox.keep' hb8
                  have y8 := yr.below hb8
                  have hk8 := below_then hkr hb8
                  have c8 := B8.cell
                  have f8 := B8.frozen
                  have c18 := y8.cell
                  have f18 := y8.frozen
                  have z88 := hb8.size
                  have hmu : mustP x = true := by rw [hmid, hro]; rfl
                  clear Bx Ox yr hkr cB fB c1 f1 hmid hro hb8
                  have O8 : OwnR w8 w2.heap.size w8.heap.size (.slice xa m xc) x := O8.wide (Nat.le_refl _) z88 (Nat.le_refl _)
                  have hm2 : 2 ≤ x.length := must_two hmu
                  have HMU : Hid (mustP x = true) := hmu
                  have hxl : x.length ≤ 1048576 := by rw [← HM.out]; omega
                  have hma := (hLx.at (j := x.length - 2) (by omega)).mono (show K ≤ 500 by omega)
                  have hmb := (hLx.at (j := x.length - 1) (by omega)).mono (show K ≤ 500 by omega)
                  go_wp2_with fail
                  refine (lastTwoMerged_any _ x w2.heap.size _ _ O8 (by omega) hm2 hxl hma hmb).mono ?_
                  rintro e w9 ⟨v9, rfl, O9, hb9⟩
                  obtain ⟨qa, qn, qc, rfl⟩ := O9.runs.shapeN
                  have B9 := B8.below hb9
                  have y9 := y8.below hb9
                  have hk9 := below_then hk8 hb9
                  have c9 := B9.cell
                  have f9 := B9.frozen
                  have z9 := hb9.size
                  have hl9 : qn = (lastR x).length := by
                    obtain ⟨a', c', e'⟩ := O9.shape
                    simp only [Value.slice.injEq] at e'
                    exact e'.2.1
                  have R : Hid (∃ (x : Rn) (vx : Value) (t K : Nat), BoxAt (w9.setCell ⟨w6.heap.size, 0, none⟩ (.slice qa qn qc)) w6.heap.size vx ∧ OwnR (w9.setCell ⟨w6.heap.size, 0, none⟩ (.slice qa qn qc)) w2.heap.size (w9.setCell ⟨w6.heap.size, 0, none⟩ (.slice qa qn qc)).heap.size vx x ∧ BoxAt (w9.setCell ⟨w6.heap.size, 0, none⟩ (.slice qa qn qc)) (w.heap.size + 1) (.slice none 0 0) ∧ Below w.heap.size w (w9.setCell ⟨w6.heap.size, 0, none⟩ (.slice qa qn qc)) ∧ x.length ≤ t ∧ t ≤ 6 ∧ K * 2 ^ t ≤ 64 ∧ Lights K x ∧ loopP t x = loopP (s.length + 1) (s ++ [z])) := by
                    obtain ⟨g1, g2, g3, g4, g5⟩ := HX.out
                    obtain ⟨t', rfl⟩ : ∃ t', t = t' + 1 := ⟨t - 1, by omega⟩
                    refine ⟨lastR x, .slice qa qn qc, t', K + K, B9.put _, (O9.put B9).wide (Nat.le_refl _) (by simp) (Nat.le_refl _), y9.other _ (by omega), hk9.setCell (by simp; omega) _, ?_, by omega, ?_, g4.last hm2, ?_⟩
                    · have := lastR_len hm2
                      omega
                    · rw [Nat.pow_succ, ← Nat.mul_assoc] at g3
                      rw [Nat.add_mul]
                      omega
                    · rw [← g5, loopP_go _ HMU.out]
                  have HL9 : Hid (qn < m) := by
                    show _ < _
                    rw [hl9, HM.out]
                    exact lastR_len hm2
                  have HLN : Hid (lenAt (w9.setCell ⟨w6.heap.size, 0, none⟩ (.slice qa qn qc)) w6.heap.size = qn) := lenAt_box (B9.put _)
                  clear B9 y9 hk9 O9 hb9 hl9 HX hLx hma hmb HMU B8 O8 y8 hk8 c8 f8 c18 f18
                  go_wp2
                  go_roundw
                  case rel => exact R.out
                  case measure =>
                    rw [HLN.out, HLEN.out]
                    exact HL9.out
                | true =>
                  go_wp2_with fail
                  refine (implRunOk_any _ x _ Ox.runs).mono ?_
                  rw [hro]
                  rintro e w8 ⟨rfl, hb8⟩
                  have B8 := Bx.below hb8
                  have O8 := Ox.keep' hb8
                  have y8 := yr.below hb8
                  have hk8 := below_then hkr hb8
                  have c8 := B8.cell
                  have f8 := B8.frozen
                  have c18 := y8.cell
                  have f18 := y8.frozen
                  have z88 := hb8.size
                  have hmu : mustP x = false := by rw [hmid, hro]; rfl
                  clear Bx Ox yr hkr cB fB c1 f1 hmid hro hb8
                  have HE : Hid (x = loopP (s.length + 1) (s ++ [z])) := by
                    show _ = _
                    rw [← HX.out.2.2.2.2]
                    exact (loopP_end _ hmu).symm
                  have HR : Hid (OwnR (w8.setCell ⟨w.heap.size + 1, 0, none⟩ (.slice xa m xc)) w.heap.size (w8.setCell ⟨w.heap.size + 1, 0, none⟩ (.slice xa m xc)).heap.size (.slice xa m xc) x) := (O8.put y8).wide (by omega) (by simp; omega) (Nat.le_refl _)
                  have HK : Hid (Below w.heap.size w (w8.setCell ⟨w.heap.size + 1, 0, none⟩ (.slice xa m xc))) := hk8.setCell (by simp) _
                  have HRS : Hid ((w8.setCell ⟨w.heap.size + 1, 0, none⟩ (.slice xa m xc)).cell? ⟨w.heap.size + 1, 0, none⟩ = some (.slice xa m xc)) := (y8.put _).cell
                  clear B8 O8 y8 hk8 HX hLx
                  go_wp2
                  refine bodyPost_ret (v := .tuple #[.agg #[.slice xa m xc], .bool true]) (by simp [results, Try.results15, go_sem, c18]) rfl ⟨_, ret_rb H1.out.2.symm, ?_, HK.out⟩
                  rw [H1.out.1, ← HE.out]
                  exact HR.out

end Go.Proofs.Ytjaehoehfmklcaa
