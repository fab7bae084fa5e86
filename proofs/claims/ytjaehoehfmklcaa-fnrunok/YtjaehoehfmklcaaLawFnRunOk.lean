/-
  The walk of laws.FnRunOk, out of the contracts: it answers true whatever the bytes are, and nothing that was there is written.
-/
import Derived.Test.YtjaehoehfmklcaaDrawRunM
import Derived.Test.YtjaehoehfmklcaaRunOkSpec
import Derived.Test.YtjaehoehfmklcaaRunGet
import Derived.Test.YtjaehoehfmklcaaRunPutS
import Derived.Test.YtjaehoehfmklcaaZFacts
namespace Go.Proofs.Ytjaehoehfmklcaa
set_option maxRecDepth 100000
set_option linter.unusedVariables false
open Go.RowKit

theorem runsTogether_long (a : Option Addr) (n cap : Nat) (w : World) (h : 5 < n) : Calls Try.prog 36 #[.slice a n cap] w fun e w' => ∃ v', e = .returned (.tuple #[v', .bool false]) ∧ w = w' := by
  have hI : (5 : Int) < (n : Int) := by omega
  go_enter Try.func36, Try.ntmps36
  go_wp2
  go_ret2
  exact ⟨_, rfl, rfl⟩
theorem implRunOk_long (a : Option Addr) (n cap : Nat) (w : World) (h : 5 < n) : Calls Try.prog 13 #[.agg #[.slice a n cap]] w fun e w' => e = .returned (.bool false) ∧ Below w.heap.size w w' := by
  go_enter Try.func13, Try.ntmps13
  have H : Hid (Below w.heap.size w (w.alloc (.cells #[.slice a n cap] 38))) := below_alloc _
  go_wp2_with fail
  refine (runsTogether_long a n cap _ h).mono ?_
  rintro e w2 ⟨v2, rfl, hw⟩
  subst hw
  go_wp2
  go_ret
  exact ⟨rfl, H.out⟩
theorem tailZ_empty (w : World) (ad : Addr) : TailZ w (.slice (some ad) 0 0) [] :=
  ⟨[], rfl, ⟨⟨by simp [prs], fun p hp => by simp [prs] at hp, some ad, 0, rfl, fun h => by simp at h, fun h => absurd rfl h⟩, some ad, 0, rfl, Nat.le_refl _, by omega⟩, fun x hx => by simp at hx⟩
theorem runs_row {w : World} {lo : Nat} {v : Value} {ps : List Value} {s : Rn} (ho : w.ownsRow lo 23 1 v ps.length ps) (hl : ps.length = s.length) (hll : s.length ≤ 1000) (hT : ∀ j, j < s.length → TailZ w (ps.getD j vn) (s.getD j [])) : RunsAt w v s := by
  have ho' := ho
  rcases ho.2 with ⟨rfl, h0⟩ | ⟨g, cap, cur, rfl, _, hgg, hnc, hcm, _⟩
  · have hs : s = [] := List.length_eq_zero_iff.1 (by omega)
    subst hs
    exact ⟨by simp, none, 0, rfl, fun _ => rfl, by simp, by omega, fun h => absurd rfl h⟩
  · refine ⟨by omega, some ⟨g, 0, none⟩, cap, by rw [hl], fun h => by simp at h, by omega, by have := hcm; simp only [maxLen] at this; omega, fun _ => ⟨g, 0, rfl, (Array.getElem?_eq_some_iff.1 hgg).1, fun j hj => ⟨_, by rw [Nat.zero_add]; exact ps_get ho' (by omega), hT j hj⟩⟩⟩
theorem runOk_more {s : Rn} : runOkB (s ++ [[]]) = false := by
  by_cases h : (s ++ [[]]).length ≤ 5
  · exact runOk_miss (k := s.length) (by simp) (stepR_no2 (by simp [List.getD]))
  · exact runOk_len h
theorem more_tails {w w' : World} {ps : List Value} {s : Rn} {ad : Addr} (hb : Below w.heap.size w w') (hl : ps.length = s.length) (hT : ∀ j, j < s.length → TailZ w (ps.getD j vn) (s.getD j [])) : ∀ j, j < (s ++ [[]]).length → TailZ w' ((ps ++ [Value.slice (some ad) 0 0]).getD j vn) ((s ++ [[]]).getD j []) := fun j hj => by
  rcases Nat.lt_or_ge j s.length with h | h
  · rw [show (ps ++ [Value.slice (some ad) 0 0]).getD j vn = ps.getD j vn by simp only [List.getD]; rw [List.getElem?_append_left (by omega)], show ((s ++ [[]] : Rn)).getD j [] = s.getD j [] by simp only [List.getD]; rw [List.getElem?_append_left h]]
    exact (hT j h).below hb
  · have e : j = s.length := by simp at hj; omega
    subst e
    rw [show (ps ++ [Value.slice (some ad) 0 0]).getD s.length vn = Value.slice (some ad) 0 0 by simp [List.getD, ← hl], show ((s ++ [[]] : Rn)).getD s.length [] = [] by simp [List.getD]]
    exact tailZ_empty _ _

set_option maxHeartbeats 4000000 in
theorem lawFnRunOk (a : Option Addr) (len cap : Nat) (bs : List Int) (w : World) (h : IsRow .u8 w a len cap bs) :
    Calls Try.prog 4 #[.slice a len cap] w fun e w' => e = .returned (.bool true) ∧ Below w.heap.size w w' := by
  by_cases hl : ¬ len ≤ 1048576
  · have hbig : (1048576 : Int) < (len : Int) := by omega
    clear h
    go_enter Try.func4, Try.ntmps4
    go_wp2
    go_ret
    exact ⟨rfl, Below.refl _ _⟩
  replace hl : len ≤ 1048576 := by omega
  have hlI : ¬ (1048576 : Int) < (len : Int) := by omega
  obtain ⟨i0, hi0, hz0, hz1, hz2⟩ := info_parts infoRun
  go_enter Try.func4, Try.ntmps4
  go_wp2_with fail
  refine (drawRunOk_any a len cap bs _ h).mono ?_
  rintro e w1 ⟨v1, rfl, s, R3, hk⟩
  clear h
  obtain ⟨sa, sn, sc, rfl⟩ := R3.shapeN
  have HSN : Hid (sn = s.length) := by obtain ⟨_, _, e⟩ := R3.shape; simp at e; exact e.2.1
  obtain ⟨c, HC⟩ : ∃ c, Hid (c = runOkB s) := ⟨_, rfl⟩
  have hbx3 : Below w1.heap.size w1 (w1.alloc (.cells #[.slice sa sn sc] 38)) := below_alloc _
  have B3 : BoxAt (w1.alloc (.cells #[.slice sa sn sc] 38)) w1.heap.size (.slice sa sn sc) := boxAt_new _ _
  have hk_1 := below_then hk hbx3
  have R3_1 := R3.below hbx3
  clear hk R3
  clear hbx3
  have c3_1 := B3.cell
  go_upto_region 4 with fail
  go_region_held3 (fun w' => w'.cell? ⟨w1.heap.size, 0, none⟩ = some (.slice sa sn sc)) (first | go_keep | (exact i1) | (exact i2)) ((first
    | (go_at_call 14; refine (specRunOk_any _ s _ (R3_1.below k1)).mono ?_; rw [← HC.out]; rintro e y2 ⟨rfl, h2⟩; have k2 := below_then k1 h2; have i2 := (B3.below k2).cell)
    | (go_at_call 13; refine (implRunOk_any _ s _ (R3_1.below (Below.drew (Below.refl _ _)))).mono ?_; rw [← HC.out]; rintro e y1 ⟨rfl, h1⟩; have k1 := below_then (Below.drew (Below.refl _ _)) h1; have i1 := (B3.below k1).cell)))
  all_goals
    have R3n := R3_1.below k2
    have B3n := B3.below k2
    have hkn := below_then hk_1 k2
    clear k1 h1 i1 h2 i2 k2 hk_1 R3_1 B3
    have c3_1 := B3n.cell
    go_wp2_with fail
    refine (specRunOk_any _ s _ R3n).mono ?_
    rw [← HC.out]
    rintro e w6 ⟨rfl, hb6⟩
    have hk_2 := below_then hkn hb6
    have R3_2 := R3n.below hb6
    have B3_2 := B3n.below hb6
    clear hkn R3n B3n
    clear hb6
    cases c with
    | false =>
      have hso := HC.out.symm
      have hp1 : putOk s [] = false := by simp [putOk, hso]
      have hp2 : putOut s [] = [] := by simp [putOut, hso]
      have ht : togOut s = [] := by simp [togOut, hso]
      have hg : getR s [1] = 0 := by simp [getR, hso]
      have c3_2 := B3_2.cell
      go_wp2_with fail
      refine (implRunPut_any _ s _ [] _ R3_2 (nil_ownZ _ 0).tail).mono ?_
      rw [hp1, hp2]
      rintro e w7 ⟨v7, rfl, O8, hb7⟩
      have hk_3 := below_then hk_2 hb7
      have R3_3 := R3_2.below hb7
      have B3_3 := B3_2.below hb7
      clear hk_2 R3_2 B3_2
      clear hb7
      obtain ⟨xa, xc, hsx⟩ := O8.shape
      simp only [List.length_nil] at hsx
      subst hsx
      clear O8
      have hbx4 : Below w7.heap.size w7 (w7.alloc (.cells #[.slice xa 0 xc] 38)) := below_alloc _
      have B4 : BoxAt (w7.alloc (.cells #[.slice xa 0 xc] 38)) w7.heap.size (.slice xa 0 xc) := boxAt_new _ _
      have hk_4 := below_then hk_3 hbx4
      have R3_4 := R3_3.below hbx4
      have B3_4 := B3_3.below hbx4
      clear hk_3 R3_3 B3_3
      clear hbx4
      have c3_4 := B3_4.cell
      go_wp2_with fail
      refine (implRunAll_any _ s _ R3_4).mono ?_
      rw [ht]
      rintro e w8 ⟨v8, rfl, A8, hb8⟩
      have hk_5 := below_then hk_4 hb8
      have R3_5 := R3_4.below hb8
      have B3_5 := B3_4.below hb8
      have B4_5 := B4.below hb8
      clear hk_4 R3_4 B3_4 B4
      clear hb8
      obtain ⟨ya, yc, hsy⟩ := A8.shape
      simp only [List.length_nil] at hsy
      subst hsy
      clear A8
      have c3_5 := B3_5.cell
      have hbi : Below w8.heap.size w8 (w8.alloc (.cells #[.int .i64 1] 3)) := below_alloc _
      have h1i : IntsAt (w8.alloc (.cells #[.int .i64 1] 3)) (.slice (some ⟨w8.heap.size, 0, none⟩) 1 1) [1] := (own_lit w8 [1] (by simp)).ints
      have hk_6 := below_then hk_5 hbi
      have R3_6 := R3_5.below hbi
      have B3_6 := B3_5.below hbi
      have B4_6 := B4_5.below hbi
      clear hk_5 R3_5 B3_5 B4_5
      clear hbi
      go_wp2_with fail
      refine (implRunGet_any _ s _ [1] _ R3_6 h1i).mono ?_
      rw [hg]
      rintro e w9 ⟨rfl, hb9⟩
      have hk_7 := below_then hk_6 hb9
      have R3_7 := R3_6.below hb9
      have B3_7 := B3_6.below hb9
      have B4_7 := B4_6.below hb9
      clear hk_6 R3_6 B3_6 B4_6
      clear hb9
      have c4_7 := B4_7.cell
      have HK := hidK hk_7
      clear h1i hk_7 R3_7 B3_7 B4_7
      go_wp2
      go_ret
      exact ⟨rfl, HK.out⟩
    | true =>
      have hso := HC.out.symm
      have hs5 := runOk_le hso
      have HSO := hidK hso
      have HZS : Hid (zOkB (togOut s) = true) := by show _ = _; simp [togOut, hso, sum_ok hso]
      have hn5 : sn ≤ 5 := by rw [HSN.out]; exact hs5
      have hn5I : (sn : Int) ≤ 5 := by omega
      have hml := R3_2
      obtain ⟨ps, hval, hpl, hT⟩ := hml.vals
      have HT : Hid (∀ j, j < s.length → TailZ w6 (ps.getD j vn) (s.getD j [])) := hT
      have HPL : Hid (ps.length = s.length) := hpl
      have hp5 : ps.length ≤ 5 := by omega
      have hvL := hval.below (below_alloc (.cells #[] 23))
      have hoL : (w6.alloc (.cells #[] 23)).ownsRow w6.heap.size 23 1 (.slice (some ⟨w6.heap.size, 0, none⟩) 0 0) 0 [] := World.ownsRow_lit w6 #[] 0 (Nat.le_refl _) (by unfold maxLen; omega) rfl
      have c3L := (B3_2.below (below_alloc (.cells #[] 23))).cell
      have hlL : w6.heap.size ≤ (w6.alloc (.cells #[] 23)).heap.size := by simp
      clear hT hpl hml hso
      go_upto_region 10 with (first
        | (at_builtin; have hO5 := hS5; refine wpList_append_lies _ rfl _ _ 36 rfl w6.heap.size 23 i0 (.slice none 0 0) 1 24 Try.underlying36 hi0 hz0 hz1 hz2 rfl (by decide) (.slice a3 m3 c3) ps.length ps rfl hS5 ⟨w7.heap.size + 1, 0, none⟩ 1 1 [.slice (some ⟨w7.heap.size, 0, none⟩) 0 0] rfl rfl hn5a (one_of (fun p hp => by simp at hp; exact ⟨_, _, _, hp⟩)) (by omega) (by unfold maxLen; omega) (by omega) hlo5 _ rfl ?_; intro g6 cap6 w8 hown8 hgrow8 hat8 hlt8)
        | (at_builtin; refine wpList_append_vals rfl _ _ 36 rfl w6.heap.size 23 i0 Try.underlying36 hi0 hz0 hz1 hz2 (.slice (some ⟨w6.heap.size, 0, none⟩) 0 0) [] rfl hoL _ ps rfl hvL (by simp; omega) hlL ?_; intro v3 w7 hown7 hgrow7; have hsh3 := own_shape hown7; obtain ⟨a3, m3, c3, rfl⟩ := hsh3; have z7 := hgrow7.size; have bl7 := hown7.lt; have hS5 := (hown7.alloc (.cells #[] 31)).alloc (.cells #[.slice (some ⟨w7.heap.size, 0, none⟩) 0 0] 23); have hn5a := last_news2 w7 (.cells #[] 31) 23 (.slice (some ⟨w7.heap.size, 0, none⟩) 0 0); have hlo5 : w6.heap.size ≤ ((w7.alloc (.cells #[] 31)).alloc (.cells #[.slice (some ⟨w7.heap.size, 0, none⟩) 0 0] 23)).heap.size := Nat.le_trans (Nat.le_trans hlL z7) (Nat.le_trans (below_alloc _).size (below_alloc _).size); rw [List.nil_append] at hS5))
      have hb7 : Below w6.heap.size w6 w7 := (below_alloc _).grown hgrow7 (by simp) (fun k hk => by simp [Value.ownBlock] at hk; omega)
      have hb8 : Below w6.heap.size w6 w8 := (below_then hb7 (below_then (below_alloc _) (below_alloc _))).grown hgrow8 hlo5 (fun k hk => (bl7 k hk).1)
      have hb9 : Below w6.heap.size w6 (w8.alloc (.cells #[.slice (some ⟨g6, 0, none⟩) (ps.length + 1) cap6] 38)) := below_then hb8 (below_alloc _)
      have B6 : BoxAt (w8.alloc (.cells #[.slice (some ⟨g6, 0, none⟩) (ps.length + 1) cap6] 38)) w8.heap.size (.slice (some ⟨g6, 0, none⟩) (ps.length + 1) cap6) := boxAt_new _ _
      have R6 : RunsAt (w8.alloc (.cells #[.slice (some ⟨g6, 0, none⟩) (ps.length + 1) cap6] 38)) (.slice (some ⟨g6, 0, none⟩) (ps.length + 1) cap6) (s ++ [[]]) :=
        runs_row (ps := ps ++ [.slice (some ⟨w7.heap.size, 0, none⟩) 0 0]) (by rw [List.length_append]; exact hown8.alloc _) (by simp [HPL.out]) (by simp; omega) (more_tails hb9 HPL.out HT.out)
      clear hown7 hgrow7 hS5 hO5 hn5a hlo5 hown8 hgrow8 hat8 hlt8 z7 bl7 hvL hoL c3L hlL hval
      have hk_8 := below_then hk_2 hb9
      have R3_8 := R3_2.below hb9
      have B3_8 := B3_2.below hb9
      clear hk_2 R3_2 B3_2
      clear hb7 hb8 hb9
      obtain ⟨wb, HWB⟩ : ∃ wb, Hid (wb = w8.alloc (.cells #[.slice (some ⟨g6, 0, none⟩) (ps.length + 1) cap6] 38)) := ⟨_, rfl⟩
      rw [← HWB.out] at hk_8 R3_8 B3_8 B6 R6 ⊢
      obtain ⟨qs, hval, hql, _⟩ := R3_8.vals
      have hq5 : qs.length ≤ 5 := by omega
      have hvL := hval.below (below_alloc (.cells #[] 23))
      have hoL : (wb.alloc (.cells #[] 23)).ownsRow wb.heap.size 23 1 (.slice (some ⟨wb.heap.size, 0, none⟩) 0 0) 0 [] := World.ownsRow_lit wb #[] 0 (Nat.le_refl _) (by unfold maxLen; omega) rfl
      have c3L := (B3_8.below (below_alloc (.cells #[] 23))).cell
      have hlL : wb.heap.size ≤ (wb.alloc (.cells #[] 23)).heap.size := by simp
      go_wp2_with (at_builtin; refine wpList_append_vals rfl _ _ 36 rfl wb.heap.size 23 i0 Try.underlying36 hi0 hz0 hz1 hz2 (.slice (some ⟨wb.heap.size, 0, none⟩) 0 0) [] rfl hoL _ qs rfl hvL (by simp; omega) hlL ?_; intro v3 wd hownd hgrowd; have hsh3 := own_shape hownd; obtain ⟨a3, m3, c3, rfl⟩ := hsh3)
      have hbd : Below wb.heap.size wb wd := (below_alloc _).grown hgrowd (by simp) (fun k hk => by simp [Value.ownBlock] at hk; omega)
      have hbe : Below wb.heap.size wb (wd.alloc (.cells #[.slice a3 m3 c3] 38)) := below_then hbd (below_alloc _)
      have Bx0 : BoxAt (wd.alloc (.cells #[.slice a3 m3 c3] 38)) wd.heap.size (.slice a3 m3 c3) := boxAt_new _ _
      have ox0 := hownd.alloc (.cells #[.slice a3 m3 c3] 38)
      obtain ⟨bx, HBX⟩ : ∃ bx, Hid (bx = wd.heap.size) := ⟨_, rfl⟩
      have hbxl : wb.heap.size ≤ bx := by rw [HBX.out]; exact hbd.size
      rw [← HBX.out] at Bx0
      have HST : Hid (∃ (m : Nat) (a' : Option Addr) (c' : Nat) (xs : List Value), BoxAt (wd.alloc (.cells #[.slice a3 m3 c3] 38)) bx (.slice a' m c') ∧ (wd.alloc (.cells #[.slice a3 m3 c3] 38)).ownsRow wb.heap.size 23 1 (.slice a' m c') m xs ∧ m ≤ 6 ∧ Below wb.heap.size wb (wd.alloc (.cells #[.slice a3 m3 c3] 38))) := by
        obtain rfl : m3 = qs.length := by
          rcases ox0.2 with ⟨e, h0⟩ | ⟨_, _, _, e, _⟩
          · simp at e h0; simp [h0, e.2.1]
          · simp at e; simpa using e.2.1
        exact ⟨_, _, _, qs, Bx0, by simpa using ox0, by omega, hbe⟩
      have HR3 := hidK R3_8
      have HB3 := hidK B3_8
      have HR6 := hidK R6
      have HB6 := hidK B6
      have HKB := hidK hk_8
      clear hownd hgrowd hbd hbe ox0 Bx0 hvL hoL c3L hlL hval hql hq5 hk_8 R3_8 B3_8 B6 R6
      rw [← HBX.out]
      go_wp2
      go_loopw [59] (fun _ wr => Hid (∃ (m : Nat) (a' : Option Addr) (c' : Nat) (xs : List Value), BoxAt wr bx (.slice a' m c') ∧ wr.ownsRow wb.heap.size 23 1 (.slice a' m c') m xs ∧ m ≤ 6 ∧ Below wb.heap.size wb wr)) (fun _ wr => 6 - lenAt wr bx)
      case atStart => exact HST.out
      case round =>
        obtain ⟨m, ma, mc, xs, Bx, ox, hm6, HWb⟩ := hrel
        clear HST
        have cX := Bx.cell
        have fX := Bx.frozen
        have hbl := ox.lt
        have HLEN : Hid (lenAt wr bx = m) := lenAt_box Bx
        by_cases hle : m ≤ 5
        · have hleI : (m : Int) ≤ 5 := by omega
          have hb2 : Below wr.heap.size wr ((wr.alloc (.cells #[.int .i64 (m : Int)] 3)).alloc (.cells #[.slice (some ⟨wr.heap.size, 0, none⟩) 1 1, .int .i64 1] 31)) := below_then (below_alloc _) (below_alloc _)
          have hb3 : Below wr.heap.size wr (((wr.alloc (.cells #[.int .i64 (m : Int)] 3)).alloc (.cells #[.slice (some ⟨wr.heap.size, 0, none⟩) 1 1, .int .i64 1] 31)).alloc (.cells #[.slice (some ⟨wr.heap.size + 1, 0, none⟩) 1 1] 23)) := below_then hb2 (below_alloc _)
          have hS := ((ox.alloc (.cells #[.int .i64 (m : Int)] 3)).alloc (.cells #[.slice (some ⟨wr.heap.size, 0, none⟩) 1 1, .int .i64 1] 31)).alloc (.cells #[.slice (some ⟨wr.heap.size + 1, 0, none⟩) 1 1] 23)
          have hnw := last_news ((wr.alloc (.cells #[.int .i64 (m : Int)] 3)).alloc (.cells #[.slice (some ⟨wr.heap.size, 0, none⟩) 1 1, .int .i64 1] 31)) 23 (.slice (some ⟨wr.heap.size + 1, 0, none⟩) 1 1)
          rw [show ((wr.alloc (.cells #[.int .i64 (m : Int)] 3)).alloc (.cells #[.slice (some ⟨wr.heap.size, 0, none⟩) 1 1, .int .i64 1] 31)).heap.size = wr.heap.size + 1 + 1 by simp] at hnw
          have hlo : wb.heap.size ≤ (((wr.alloc (.cells #[.int .i64 (m : Int)] 3)).alloc (.cells #[.slice (some ⟨wr.heap.size, 0, none⟩) 1 1, .int .i64 1] 31)).alloc (.cells #[.slice (some ⟨wr.heap.size + 1, 0, none⟩) 1 1] 23)).heap.size := Nat.le_trans HWb.size hb3.size
          have Bx3 := Bx.below hb3
          have hneb : some bx ≠ (Value.slice ma m mc).ownBlock := fun e => by
            rcases row_ne_box ox Bx (by decide) with h | h
            · rw [h] at e; simp at e
            · exact h e.symm
          go_wp2_with (at_builtin; refine wpList_append_lies _ rfl _ _ 36 rfl wb.heap.size 23 i0 (.slice none 0 0) 1 24 Try.underlying36 hi0 hz0 hz1 hz2 rfl (by decide) (.slice ma m mc) m xs rfl hS ⟨wr.heap.size + 1 + 1, 0, none⟩ 1 1 [.slice (some ⟨wr.heap.size + 1, 0, none⟩) 1 1] rfl rfl hnw (one_of (fun p hp => by simp at hp; exact ⟨_, _, _, hp⟩)) (by omega) (by unfold maxLen; omega) (by omega) hlo _ rfl ?_; intro g7 cap7 w7 hown7 hgrow7 hat7 hlt7; have Bx7 := Bx3.grown hgrow7 hneb; have c7 := Bx7.cell; have f7 := Bx7.frozen)
          have hbw7 : Below wb.heap.size wb w7 := (HWb.trans (hb3.mono HWb.size)).grown hgrow7 hlo (fun k hk => (hbl k hk).1)
          have hne7 : some bx ≠ (Value.slice (some ⟨g7, 0, none⟩) (m + 1) cap7).ownBlock := fun e => by
            rcases row_ne_box hown7 Bx7 (by decide) with h | h
            · rw [h] at e; simp at e
            · exact h e.symm
          have HS7 : Hid (∃ (m' : Nat) (a' : Option Addr) (c' : Nat) (xs : List Value), BoxAt (w7.setCell ⟨bx, 0, none⟩ (.slice (some ⟨g7, 0, none⟩) (m + 1) cap7)) bx (.slice a' m' c') ∧ (w7.setCell ⟨bx, 0, none⟩ (.slice (some ⟨g7, 0, none⟩) (m + 1) cap7)).ownsRow wb.heap.size 23 1 (.slice a' m' c') m' xs ∧ m' ≤ 6 ∧ Below wb.heap.size wb (w7.setCell ⟨bx, 0, none⟩ (.slice (some ⟨g7, 0, none⟩) (m + 1) cap7))) :=
            ⟨m + 1, _, _, _, Bx7.put _, ownsRow_only hown7 ((Only.refl bx (bx + 1) w7).setCell (p := ⟨bx, 0, none⟩) (Nat.le_refl _) (Nat.lt_succ_self _) _) (fun k hk => by have : k ≠ bx := fun e => hne7 (by rw [← e]; exact hk.symm); omega), by omega, hbw7.setCell hbxl _⟩
          have HL7 : Hid (lenAt (w7.setCell ⟨bx, 0, none⟩ (.slice (some ⟨g7, 0, none⟩) (m + 1) cap7)) bx = m + 1) := lenAt_box (Bx7.put _)
          clear Bx7 Bx3 hown7 hgrow7 hat7 hlt7 hbw7 hne7 hS hnw hlo hb2 hb3 Bx ox cX fX hneb hbl HWb
          go_wp2
          go_roundw
          case rel => exact HS7.out
          case measure => rw [HL7.out, HLEN.out]; omega
        · have hleI : ¬ (m : Int) ≤ 5 := by omega
          have R3 := HR3.out.below HWb
          have B3 := HB3.out.below HWb
          have R6 := HR6.out.below HWb
          have B6 := HB6.out.below HWb
          have hk := below_then HKB.out HWb
          have hso := HZS.out
          clear HR3 HB3 HR6 HB6 HKB HWb ox fX hbl
          have c6_0 := B6.cell
          go_wp2_with fail
          refine (implRunOk_any _ (s ++ [[]]) _ R6).mono ?_
          rw [runOk_more]
          rintro e wf ⟨rfl, hbf⟩
          have hk_9 := below_then hk hbf
          have R3_9 := R3.below hbf
          have B3_9 := B3.below hbf
          have R6_9 := R6.below hbf
          have B6_9 := B6.below hbf
          have Bx_9 := Bx.below hbf
          clear hk R3 B3 R6 B6 Bx
          clear hbf
          clear R6_9 B6_9
          have cx_0 := Bx_9.cell
          go_wp2_with fail
          refine (implRunOk_long _ _ _ _ (by omega)).mono ?_
          rintro e wg ⟨rfl, hbg⟩
          have hk_10 := below_then hk_9 hbg
          have R3_10 := R3_9.below hbg
          have B3_10 := B3_9.below hbg
          have Bx_10 := Bx_9.below hbg
          clear hk_9 R3_9 B3_9 Bx_9
          clear hbg
          clear Bx_10
          have c3_10 := B3_10.cell
          go_wp2_with fail
          refine (implRunAll_any _ s _ R3_10).mono ?_
          rintro e wh ⟨vh, rfl, Ah, hbh⟩
          have hk_11 := below_then hk_10 hbh
          have R3_11 := R3_10.below hbh
          have B3_11 := B3_10.below hbh
          clear hk_10 R3_10 B3_10
          clear hbh
          obtain ⟨ya, yn, yc, rfl⟩ := Ah.shapeN
          have At := Ah.tail
          clear Ah
          go_wp2_with fail
          refine (implZOk_any _ (togOut s) _ At.items).mono ?_
          rw [hso]
          rintro e wi ⟨rfl, hbi⟩
          have hk_12 := below_then hk_11 hbi
          have R3_12 := R3_11.below hbi
          have B3_12 := B3_11.below hbi
          have At_12 := At.below hbi
          clear hk_11 R3_11 B3_11 At
          clear hbi
          have c3_12 := B3_12.cell
          have HK := hidK hk_12
          clear hk_12 R3_12 B3_12 At_12
          go_wp2
          go_ret
          exact ⟨rfl, HK.out⟩

end Go.Proofs.Ytjaehoehfmklcaa
