/-
  The walk of laws.FnExactWhereOf, out of the contracts: it answers true at all items and every test, and nothing that was there is written. Condition: the error of chapter 3 reads as it was laid.
-/
import Derived.Test.YthogbofgelbppaaDoorWhereImpl
import Derived.Test.YthogbofgelbppaaDoorWhereSpec
import Derived.Test.YthogbofgelbppaaDoorCellLaw
import Derived.Test.YthogbofgelbppaaDoorCellIn
import Derived.Test.YthogbofgelbppaaDoorLaidSent
import Derived.Test.YthogbofgelbppaaDoorLawKit
namespace Go.Proofs.YthogbofgelbppaaDoor
open Go.RowKit

theorem whereOut_small (t : Tst) (zs : List It) : (whereOut t zs).length ≤ 100 ∧ tot (lens (whereOut t zs)) ≤ 4194304 := by
  unfold whereOut
  cases h : whereOk t zs with
  | false => simp [tot, lens]
  | true =>
    have hok : zOkB zs = true := by unfold whereOk at h; simp at h; exact h.1
    have h1 := zOk_le hok
    have h2 := whereZ_len t zs
    have h3 : rowsLen (whereZ t zs) ≤ (whereZ t zs).length * 6 := rowsLen_le (fun p hp => zOk_mem hok (whereZ_mem hp))
    simp only [if_true]
    rw [tot_lens]
    exact ⟨by omega, by omega⟩

theorem Box10.only {w w' : World} {g lo hi : Nat} {t : Tst} (h : Box10 w g t) (k : Only lo hi w w') (hg : g < lo) : Box10 w' g t := by
  obtain ⟨hl, c0, c1, ⟨c2, c3, c4, c5⟩, c6, c7, c8, c9⟩ := h
  have e : ∀ o, w'.cell? ⟨g, o, none⟩ = w.cell? ⟨g, o, none⟩ := fun o => by
    have := k.block g hl (.inl hg)
    simp only [World.cell?, this]
  exact ⟨Nat.lt_of_lt_of_le hl k.size, (e 0).trans c0, (e 1).trans c1, ⟨(e 2).trans c2, (e 3).trans c3, (e 4).trans c4, (e 5).trans c5⟩, (e 6).trans c6, (e 7).trans c7, (e 8).trans c8, (e 9).trans c9⟩

set_option maxRecDepth 100000 in
set_option maxHeartbeats 8000000 in
theorem lawWhereOf (v : Value) (zs : List It) (t : Tst) (_ht : t.Wf) (w : World) (h : RawItems w v zs) (_ : WfItems zs) (hs : HasSent w) :
    Calls Tryd.prog 3 #[v, .agg #[.int .i64 t.k, .bool t.no, .int .i64 t.l.k, .int .i64 t.l.a, .int .i64 t.l.b, .int .i64 t.l.n, .int .i64 t.r.k, .int .i64 t.r.a, .int .i64 t.r.b, .int .i64 t.r.n]] w fun e w' => e = .returned (.bool true) ∧ Below w.heap.size w w' := by
  obtain ⟨os, HO⟩ : ∃ os, Hid (os = whereOut t zs) := ⟨_, rfl⟩
  obtain ⟨d, HD⟩ : ∃ d, Hid (d = whereOk t zs) := ⟨_, rfl⟩
  have hdd : (d != d) = false := by simp
  have hos : os.length ≤ 100 ∧ tot (lens os) ≤ 4194304 := by rw [HO.out]; exact whereOut_small t zs
  obtain ⟨hos1, hos2⟩ := hos
  obtain ⟨p, hp⟩ := hs
  have HP : Hid (Sent w p) := hp
  go_enter Tryd.func3, Tryd.ntmps3
  go_wp2_with fail
  refine (szItemS_any v zs 1048576 _ (h.below (below_alloc _)) (by omega) (by omega)).mono ?_
  rintro e w1 ⟨r, rfl, hr, hb1⟩
  have hk1 : Below w.heap.size w w1 := below_then (below_alloc _) hb1
  have X1 : Hid (Box10 w1 w.heap.size t) := (Box10.start w t _).below hb1
  clear hb1 hp
  by_cases hneg : r < 0
  · clear hr
    go_wp2
    go_ret
    exact ⟨rfl, hk1⟩
  · have hlim : zs.length + rowsLen zs ≤ 1048576 := by omega
    have hz0 := (h.items hlim)
    have htz : tot (lens zs) ≤ 4194304 := by rw [tot_lens]; omega
    have HK1 : Hid (Below w.heap.size w w1.drew) := hk1.drew
    have HX1 : Hid (Box10 w1.drew w.heap.size t) := X1.out.below (Below.drew (Below.refl _ _))
    have s1 : w.heap.size ≤ w1.drew.heap.size := hk1.size
    obtain ⟨⟨c0, c1, c2, c3, c4⟩, c5, c6, c7, c8, c9⟩ := box_cells HX1.out
    clear hr h
    go_wp2
    go_region_law (first
      | (go_simp; go_at_call 8; (refine (toItemS_any v zs _ (hz0.below HK1.out) hlim).mono ?_; rintro e w2 ⟨v2, rfl, Z2, hb2⟩; have HK2 : Hid (Below w.heap.size w w2) := (below_then HK1.out hb2); have HX2 : Hid (Box10 w2 w.heap.size t) := (HX1.out.below hb2); obtain ⟨⟨d0, d1, d2, d3, d4⟩, d5, d6, d7, d8, d9⟩ := box_cells HX2.out))
      | (go_simp; go_at_call 9; (refine (toTest_any t _).mono ?_; rintro e w3 ⟨rfl, hb3⟩; have HK3 : Hid (Below w.heap.size w w3) := (below_then HK2.out hb3); have HX3 : Hid (Box10 w3 w.heap.size t) := (HX2.out.below hb3); have Z3 := (Z2.keep' hb3)))
      | (go_simp; go_at_call 7; (refine (specWhere_any _ zs t _ Z3.items).mono ?_; rintro e w4 ⟨vw, rfl, W4, hb4⟩)))
    all_goals
      rw [← HO.out] at W4
      rw [← HD.out]
      have HK4 : Hid (Below w.heap.size w w4) := below_then HK3.out hb4
      have HX4 : Hid (Box10 w4 w.heap.size t) := HX3.out.below hb4
      have sx4 : w.heap.size < w4.heap.size := HX4.out.1
      have s2 := HK2.out.size
      have s3 := HK3.out.size
      have s4 := hb4.size
      clear Z2 Z3 hb2 hb3 hb4 HK1 HK2 HK3 X1 HX1 HX2 HX3 c0 c1 c2 c3 c4 c5 c6 c7 c8 c9 d0 d1 d2 d3 d4 d5 d6 d7 d8 d9
      go_wp2_with fail
      refine (toItemS_any v zs _ (hz0.below HK4.out) hlim).mono ?_
      rintro e w5 ⟨vx, rfl, X5, hb5⟩
      have hk5 := below_then HK4.out hb5
      have W5 := W4.keep' hb5
      have HX5 : Hid (Box10 w5 w.heap.size t) := HX4.out.below hb5
      obtain ⟨⟨c0, c1, c2, c3, c4⟩, c5, c6, c7, c8, c9⟩ := box_cells HX5.out
      have s5 := hb5.size
      clear W4 hb5 HK4 HX4
      go_wp2_with fail
      refine (toTest_any t _).mono ?_
      rintro e w6 ⟨rfl, hb6⟩
      have HX6 : Hid (Box10 w6 w.heap.size t) := HX5.out.below hb6
      have sx6 : w.heap.size < w6.heap.size := HX6.out.1
      have W6 := W5.keep' hb6
      have X6 := X5.keep' hb6
      have hk6 := below_then hk5 hb6
      have s6 := hb6.size
      clear c0 c1 c2 c3 c4 c5 c6 c7 c8 c9 W5 X5 hk5 hb6 HX5
      go_wp2_with fail
      refine (implWhere_any vx zs t _ p (HP.out.below hk6) X6.items).mono ?_
      rintro e w7 ⟨vg, rfl, G7, hb7⟩
      rw [← HO.out] at G7
      rw [← HD.out]
      have hk7 := below_then hk6 hb7
      have W7 := W6.keep' hb7
      have X7 := X6.keep' hb7
      have HX7 : Hid (Box10 w7 w.heap.size t) := HX6.out.below hb7
      have s7 := hb7.size
      clear W6 X6 hb7 hk6 HX6
      go_wp2_with fail
      refine (eqItemS_self vg vw os _ G7.items W7.items).mono ?_
      rintro e w8 ⟨rfl, hb8⟩
      have hk8 := below_then hk7 hb8
      have W8 := W7.keep' hb8
      have X8 := X7.keep' hb8
      have G8 := G7.keep' hb8
      have HX8 : Hid (Box10 w8 w.heap.size t) := HX7.out.below hb8
      clear W7 X7 G7 hb8 hk7 HX7
      go_wp2_with fail
      refine (toItemS_any v zs _ (hz0.below hk8) hlim).mono ?_
      rintro e w9 ⟨v9, rfl, Z9, hb9⟩
      have hk9 := below_then hk8 hb9
      have W9 := W8.keep' hb9
      have X9 := X8.keep' hb9
      have G9 := G8.keep' hb9
      have HX9 : Hid (Box10 w9 w.heap.size t) := HX8.out.below hb9
      clear W8 X8 G8 hb9 hk8 HX8
      go_wp2_with fail
      refine (eqItemS_self vx v9 zs _ X9.items Z9.items).mono ?_
      rintro e w10 ⟨rfl, hb10⟩
      have hk10 := below_then hk9 hb10
      have W10 := W9.keep' hb10
      have X10 := X9.keep' hb10
      have G10 := G9.keep' hb10
      have HX10 : Hid (Box10 w10 w.heap.size t) := HX9.out.below hb10
      clear W9 X9 G9 Z9 hb10 hk9 HX9
      go_wp2_with fail
      refine (markItemS_any vx _ _ zs 1 _ (by omega) (by omega) htz X10).mono ?_
      rintro e w11 ⟨rfl, -, O11⟩
      have hk11 : Below w.heap.size w w11 := O11.below hk10 (by omega) hk10.size
      have W11 := W10.only O11 (.inl (by omega))
      have G11 := G10.only O11 (.inr (by omega))
      have HX11 : Hid (Box10 w11 w.heap.size t) := HX10.out.only O11 (by omega)
      clear W10 X10 G10 O11 hk10 HX10
      go_wp2_with fail
      refine (eqItemS_self vg vw os _ G11.items W11.items).mono ?_
      rintro e w12 ⟨rfl, hb12⟩
      have hk12 := below_then hk11 hb12
      have W12 := W11.keep' hb12
      have G12 := G11.keep' hb12
      have HX12 : Hid (Box10 w12 w.heap.size t) := HX11.out.below hb12
      clear W11 G11 hb12 hk11 HX11
      go_wp2_with fail
      refine (markItemS_any vg _ _ os 1 _ (by omega) (by omega) hos2 G12).mono ?_
      rintro e w13 ⟨rfl, G13, O13⟩
      have hk13 : Below w.heap.size w w13 := O13.below hk12 (by omega) hk12.size
      have W13 := W12.only O13 (.inl (by omega))
      have HX13 : Hid (Box10 w13 w.heap.size t) := HX12.out.only O13 (by omega)
      clear W12 G12 O13 hk12 HX12
      go_wp2_with fail
      refine (heldItemS_any vg (lens os) 1 _ (by omega) (by omega) hos2 G13.items).mono ?_
      rintro e w14 ⟨rfl, rfl⟩
      have HK13 : Hid (Below w.heap.size w w14.drew) := hk13.drew
      have HX14 : Hid (Box10 w14.drew w.heap.size t) := HX13.out.below (Below.drew (Below.refl _ _))
      have W14 : OwnZ w14.drew _ _ vw os := W13.keep' (Below.drew (Below.refl _ _))
      have G14 := G13.keep' (w' := w14.drew) (Below.drew (Below.refl _ _))
      obtain ⟨⟨c0, c1, c2, c3, c4⟩, c5, c6, c7, c8, c9⟩ := box_cells HX14.out
      clear W13 G13 hk13 HX13
      go_wp2
      go_region_law (first
        | (go_simp; go_at_call 8; (refine (toItemS_any v zs _ (hz0.below HK13.out) hlim).mono ?_; rintro e w15 ⟨v15, rfl, Z15, hb15⟩; have HK15 : Hid (Below w.heap.size w w15) := (below_then HK13.out hb15); have HX15 : Hid (Box10 w15 w.heap.size t) := (HX14.out.below hb15); have W15 := (W14.keep' hb15); have G15 := (G14.keep' hb15); obtain ⟨⟨d0, d1, d2, d3, d4⟩, d5, d6, d7, d8, d9⟩ := box_cells HX15.out))
        | (go_simp; go_at_call 9; (refine (toTest_any t _).mono ?_; rintro e w16 ⟨rfl, hb16⟩; have HK16 : Hid (Below w.heap.size w w16) := (below_then HK15.out hb16); have Z16 := (Z15.keep' hb16); have W16 := (W15.keep' hb16); have G16 := (G15.keep' hb16)))
        | (go_simp; go_at_call 10; (refine (implWhere_any _ zs t _ p (HP.out.below HK16.out) Z16.items).mono ?_; rintro e w17 ⟨vh, rfl, H17, hb17⟩)))
      all_goals
        rw [← HO.out] at H17
        rw [← HD.out]
        have hk17 := below_then HK16.out hb17
        have W17 := W16.keep' hb17
        have G17 := G16.keep' hb17
        clear W14 W15 W16 G14 G15 G16 Z15 Z16 hb15 hb16 hb17 HK13 HK15 HK16 HX14 HX15 c0 c1 c2 c3 c4 c5 c6 c7 c8 c9 d0 d1 d2 d3 d4 d5 d6 d7 d8 d9
        go_wp2_with fail
        refine (eqItemS_self vh vw os _ H17.items W17.items).mono ?_
        rintro e w18 ⟨rfl, hb18⟩
        have hk18 := below_then hk17 hb18
        have G18 := G17.keep' hb18
        clear W17 G17 H17 hb18 hk17
        go_wp2_with fail
        refine (heldItemS_any vg (lens os) 1 _ (by omega) (by omega) hos2 G18.items).mono ?_
        rintro e w19 ⟨rfl, rfl⟩
        clear G18 hz0
        go_wp2
        go_ret
        exact ⟨rfl, hk18⟩

end Go.Proofs.YthogbofgelbppaaDoor
