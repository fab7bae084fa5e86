/-
  The walk of laws.FnWhere, out of the contracts: whatever the bytes are, it answers true, and nothing that was there is written. Condition: the error of chapter 3 reads as it was laid.
-/
import Derived.Test.YtdponcnhdmkhiaaDoorWhereFacts
import Derived.Test.YtdponcnhdmkhiaaDoorDrawW
import Derived.Test.YtdponcnhdmkhiaaDoorLaidSent
import Derived.Deep.RegionHeld3
namespace Go.Proofs.YtdponcnhdmkhiaaDoor
open Go.RowKit
set_option linter.unusedVariables false

set_option maxRecDepth 100000 in
set_option maxHeartbeats 8000000 in
theorem lawFnWhere (a : Option Addr) (len cap : Nat) (bs : List Int) (w : World) (h : IsRow .u8 w a len cap bs) (hs : HasSent w) :
    Calls Tryd.prog 3 #[.slice a len cap] w fun e w' => e = .returned (.bool true) ∧ Below w.heap.size w w' := by
  by_cases hlim : len ≤ 1048576
  · obtain ⟨p, hp⟩ := hs
    go_enter Tryd.func3, Tryd.ntmps3
    go_wp2_with fail
    refine (drawWhereOf_any a len cap bs _ h).mono ?_
    rintro e w1 ⟨vz, ⟨tk, tn, ⟨lk, la, lb, ln⟩, ⟨rk, ra, rb, rn⟩⟩, rfl, hlow, zs, hgz, hz1, hb1⟩
    simp only
    obtain ⟨za, zc, rfl⟩ := hz1.shape
    have B1 : Hid (Below w.heap.size w w1) := hb1
    have HZ1 : Hid (TailZ w1 (.slice za zs.length zc) zs) := hz1
    have HP : Hid (Sent w p) := hp
    obtain ⟨os, HO⟩ : ∃ os, Hid (whereOut ⟨tk, tn, ⟨lk, la, lb, ln⟩, ⟨rk, ra, rb, rn⟩⟩ zs = os) := ⟨_, Eq.refl _⟩
    obtain ⟨d, HD⟩ : ∃ d, Hid (whereOk ⟨tk, tn, ⟨lk, la, lb, ln⟩, ⟨rk, ra, rb, rn⟩⟩ zs = d) := ⟨_, Eq.refl _⟩
    have hdd : (d != d) = false := by simp
    clear hlow hgz hz1 hb1 hp h
    go_wp2_with fail
    refine (where_val (t := ⟨tk, tn, ⟨lk, la, lb, ln⟩, ⟨rk, ra, rb, rn⟩⟩) HD.out HO.out (HP.out.below (bel_then B1.out (bel_alloc _))) (HZ1.out.below (bel_alloc _))).mono ?_
    rintro e w2 ⟨v2, rfl, h2, hb2⟩
    obtain ⟨aa, ac, rfl⟩ := h2.shape
    have X2 : Hid (Box10 w2 w1.heap.size ⟨tk, tn, ⟨lk, la, lb, ln⟩, ⟨rk, ra, rb, rn⟩⟩) := (Box10.start w1 ⟨tk, tn, ⟨lk, la, lb, ln⟩, ⟨rk, ra, rb, rn⟩⟩ _).below hb2
    have B2 : Hid (Below w.heap.size w w2) := bel_then (bel_then B1.out (bel_alloc _)) hb2
    have Tz2 : Hid (TailZ w2 (.slice za zs.length zc) zs) := (HZ1.out.below (bel_alloc _)).below hb2
    have Ta2 : Hid (TailZ w2 (.slice aa os.length ac) os) := h2
    have hs1 : w.heap.size ≤ w1.heap.size := B1.out.size
    clear h2 hb2 HZ1 B1
    obtain ⟨⟨c0, c1, c2, c3, c4⟩, c5, c6, c7, c8, c9⟩ := box_cells X2.out
    simp only at c0 c1 c2 c3 c4 c5 c6 c7 c8 c9
    go_wp2_with fail
    refine (specWhere_val (t := ⟨tk, tn, ⟨lk, la, lb, ln⟩, ⟨rk, ra, rb, rn⟩⟩) HD.out HO.out Tz2.out).mono ?_
    rintro e w3 ⟨v3, rfl, h3, hb3⟩
    clear c0 c1 c2 c3 c4 c5 c6 c7 c8 c9
    have B3 : Hid (Below w.heap.size w w3) := below_then B2.out hb3
    have X3 : Hid (Box10 w3 w1.heap.size ⟨tk, tn, ⟨lk, la, lb, ln⟩, ⟨rk, ra, rb, rn⟩⟩) := X2.out.below hb3
    have Tz3 : Hid (TailZ w3 (.slice za zs.length zc) zs) := Tz2.out.below hb3
    have Ta3 : Hid (TailZ w3 (.slice aa os.length ac) os) := Ta2.out.below hb3
    clear hb3 B2 X2 Tz2 Ta2
    have Tb3 : Hid (TailZ w3 v3 os) := h3
    clear h3
    go_wp2_with fail
    refine (zsame_val (zsB_refl os) Ta3.out Tb3.out).mono ?_
    rintro e w4 ⟨rfl, hb4⟩
    clear Tb3
    have B4 : Hid (Below w.heap.size w w4) := below_then B3.out hb4
    have X4 : Hid (Box10 w4 w1.heap.size ⟨tk, tn, ⟨lk, la, lb, ln⟩, ⟨rk, ra, rb, rn⟩⟩) := X3.out.below hb4
    have Tz4 : Hid (TailZ w4 (.slice za zs.length zc) zs) := Tz3.out.below hb4
    have Ta4 : Hid (TailZ w4 (.slice aa os.length ac) os) := Ta3.out.below hb4
    clear hb4 B3 X3 Tz3 Ta3
    cases hd : d with
    | false =>
      have e0 : os = [] := by rw [← HO.out]; exact where_false (by rw [HD.out, hd])
      subst e0 hd
      clear X4 Tz4 Ta4
      go_wp2
      go_ret
      exact ⟨rfl, B4.out⟩
    | true =>
      have HT : Hid (whereOk ⟨tk, tn, ⟨lk, la, lb, ln⟩, ⟨rk, ra, rb, rn⟩⟩ zs = true) := by rw [Hid, HD.out, hd]
      obtain ⟨hzok, htold, hout⟩ := where_true HT.out
      have HOZ : Hid (os = whereZ ⟨tk, tn, ⟨lk, la, lb, ln⟩, ⟨rk, ra, rb, rn⟩⟩ zs) := by rw [Hid, ← HO.out]; exact hout
      have HU : Hid (whereOk ⟨tk, !tn, ⟨lk, la, lb, ln⟩, ⟨rk, ra, rb, rn⟩⟩ zs = true ∧ whereOut ⟨tk, !tn, ⟨lk, la, lb, ln⟩, ⟨rk, ra, rb, rn⟩⟩ zs = whereZ ⟨tk, !tn, ⟨lk, la, lb, ln⟩, ⟨rk, ra, rb, rn⟩⟩ zs) := where_mk hzok (fun p hp => htold p hp)
      obtain ⟨us, HUS⟩ : ∃ us, Hid (whereZ ⟨tk, !tn, ⟨lk, la, lb, ln⟩, ⟨rk, ra, rb, rn⟩⟩ zs = us) := ⟨_, Eq.refl _⟩
      have HADD : Hid (addOk os us = true ∧ addOut os us = zs) := by
        have h1 := where_parts HT.out
        have h2 : addZ os us = zs := by rw [HOZ.out, ← HUS.out]; exact h1
        exact add_yes (by rw [HOZ.out]; exact whereZ_ok hzok) (by rw [← HUS.out]; exact whereZ_ok hzok) h2 hzok
      have HAG : Hid (whereOk ⟨tk, tn, ⟨lk, la, lb, ln⟩, ⟨rk, ra, rb, rn⟩⟩ os = true ∧ whereOut ⟨tk, tn, ⟨lk, la, lb, ln⟩, ⟨rk, ra, rb, rn⟩⟩ os = os) := by
        rw [Hid, HOZ.out]
        exact where_again HT.out
      have HROW : Hid (∀ j, j < os.length → Tst.valB ⟨tk, tn, ⟨lk, la, lb, ln⟩, ⟨rk, ra, rb, rn⟩⟩ (os.getD j ([], 0)).1 = true ∧ Tst.toldB ⟨tk, tn, ⟨lk, la, lb, ln⟩, ⟨rk, ra, rb, rn⟩⟩ (os.getD j ([], 0)).1 = true ∧ getZ zs (os.getD j ([], 0)).1 = (os.getD j ([], 0)).2) := by
        rw [Hid, HOZ.out]
        exact fun j hj => where_row HT.out hj
      have HZOK : Hid (zOkB zs = true) := hzok
      have HOL : Hid (os.length ≤ 100) := by rw [Hid, HOZ.out]; exact zOk_le (whereZ_ok hzok)
      subst hd
      clear hzok htold hout
      obtain ⟨⟨c0, c1, c2, c3, c4⟩, c5, c6, c7, c8, c9⟩ := box_cells X4.out
      simp only at c0 c1 c2 c3 c4 c5 c6 c7 c8 c9
      have hxl4 : w1.heap.size < w4.heap.size := X4.out.1
      go_wp2_with fail
      refine (where_val (t := ⟨tk, !tn, ⟨lk, la, lb, ln⟩, ⟨rk, ra, rb, rn⟩⟩) HU.out.1 (HU.out.2.trans HUS.out) (HP.out.below (below_then B4.out (below_alloc _))) (Tz4.out.below (below_alloc _))).mono ?_
      rintro e w5 ⟨v5, rfl, h5, hb5⟩
      have hk5 : Below w4.heap.size w4 w5 := below_then (below_alloc _) hb5
      clear hb5
      clear c0 c1 c2 c3 c4 c5 c6 c7 c8 c9
      have B5 : Hid (Below w.heap.size w w5) := below_then B4.out hk5
      have X5 : Hid (Box10 w5 w1.heap.size ⟨tk, tn, ⟨lk, la, lb, ln⟩, ⟨rk, ra, rb, rn⟩⟩) := X4.out.below hk5
      have Tz5 : Hid (TailZ w5 (.slice za zs.length zc) zs) := Tz4.out.below hk5
      have Ta5 : Hid (TailZ w5 (.slice aa os.length ac) os) := Ta4.out.below hk5
      clear hk5 B4 X4 Tz4 Ta4
      have Tc5 : Hid (TailZ w5 v5 us) := h5
      clear h5 HU
      go_wp2_with fail
      refine (add_val HADD.out.1 HADD.out.2 Ta5.out Tc5.out).mono ?_
      rintro e w6 ⟨v6, rfl, h6, hb6⟩
      clear Tc5
      have B6 : Hid (Below w.heap.size w w6) := below_then B5.out hb6
      have X6 : Hid (Box10 w6 w1.heap.size ⟨tk, tn, ⟨lk, la, lb, ln⟩, ⟨rk, ra, rb, rn⟩⟩) := X5.out.below hb6
      have Tz6 : Hid (TailZ w6 (.slice za zs.length zc) zs) := Tz5.out.below hb6
      have Ta6 : Hid (TailZ w6 (.slice aa os.length ac) os) := Ta5.out.below hb6
      clear hb6 B5 X5 Tz5 Ta5
      have Tl6 : Hid (TailZ w6 v6 zs) := h6
      clear h6 HADD
      obtain ⟨⟨c0, c1, c2, c3, c4⟩, c5, c6, c7, c8, c9⟩ := box_cells X6.out
      simp only at c0 c1 c2 c3 c4 c5 c6 c7 c8 c9
      go_wp2_with fail
      refine (where_val (t := ⟨tk, tn, ⟨lk, la, lb, ln⟩, ⟨rk, ra, rb, rn⟩⟩) HAG.out.1 HAG.out.2 (HP.out.below B6.out) Ta6.out).mono ?_
      rintro e w7 ⟨v7, rfl, h7, hb7⟩
      clear c0 c1 c2 c3 c4 c5 c6 c7 c8 c9
      have B7 : Hid (Below w.heap.size w w7) := below_then B6.out hb7
      have X7 : Hid (Box10 w7 w1.heap.size ⟨tk, tn, ⟨lk, la, lb, ln⟩, ⟨rk, ra, rb, rn⟩⟩) := X6.out.below hb7
      have Tz7 : Hid (TailZ w7 (.slice za zs.length zc) zs) := Tz6.out.below hb7
      have Ta7 : Hid (TailZ w7 (.slice aa os.length ac) os) := Ta6.out.below hb7
      have Tl7 : Hid (TailZ w7 v6 zs) := Tl6.out.below hb7
      clear hb7 B6 X6 Tz6 Ta6 Tl6
      have Tg7 : Hid (TailZ w7 v7 os) := h7
      clear h7 HAG
      obtain ⟨n, hn⟩ : ∃ n, n = os.length := ⟨_, rfl⟩
      have HN : Hid (n = os.length) := hn
      have hn100 : n ≤ 100 := by rw [hn]; exact HOL.out
      have HTA : Hid (TailZ w7 (.slice aa n ac) os) := by rw [hn]; exact Ta7.out
      rw [← hn]
      clear hn Ta7
      go_wp2
      go_loopw [16] (fun i wr => ∃ k : Nat, k ≤ n ∧ i = .int .i64 k ∧ Hid (Below w7.heap.size w7 wr)) (fun i _ => n - (intOf i).toNat)
      case atStart => exact ⟨0, Nat.zero_le _, rfl, Below.refl _ _⟩
      case round =>
        obtain ⟨k, hk, rfl, HW⟩ := hrel
        by_cases hlt : k < n
        · have hkz : k < os.length := by rw [← HN.out]; exact hlt
          obtain ⟨b, off, xa, xn, xc, rfl, hb, c10, c11, hix⟩ := (HTA.out.below HW.out).atW hkz
          obtain ⟨hval, htold, hget⟩ := HROW.out k hkz
          have hwl : w1.heap.size < wr.heap.size := Nat.lt_of_lt_of_le X7.out.1 HW.out.size
          obtain ⟨⟨c0, c1, c2, c3, c4⟩, c5, c6, c7, c8, c9⟩ := box_cells ((X7.out.below HW.out).below (Below.drew (Below.refl _ _)))
          simp only at c0 c1 c2 c3 c4 c5 c6 c7 c8 c9
          obtain ⟨x, HX⟩ : ∃ x, Hid (x = (os.getD k ([], 0)).1) := ⟨_, rfl⟩
          obtain ⟨y, HY⟩ : ∃ y, Hid (y = (os.getD k ([], 0)).2) := ⟨_, rfl⟩
          rw [← HX.out] at hix hval htold hget
          rw [← HY.out] at c11 hget
          have hixd : IntsAt wr.drew (.slice xa xn xc) x := hix.below (Below.drew (Below.refl _ _))
          have hpd : Sent wr.drew p := (((HP.out.below B7.out).below HW.out).below (Below.drew (Below.refl _ _)))
          have c10d : wr.drew.cell? ⟨b, off + k * 2, none⟩ = some (.slice xa xn xc) := c10
          have Y0 : wr.cell? ⟨w1.heap.size, 0, none⟩ = some (.int .i64 tk) ∧ wr.cell? ⟨w1.heap.size, 1, none⟩ = some (.bool tn) ∧ wr.cell? ⟨w1.heap.size, 2, none⟩ = some (.int .i64 lk) ∧ wr.cell? ⟨w1.heap.size, 3, none⟩ = some (.int .i64 la) ∧ wr.cell? ⟨w1.heap.size, 4, none⟩ = some (.int .i64 lb) ∧ wr.cell? ⟨w1.heap.size, 5, none⟩ = some (.int .i64 ln) ∧ wr.cell? ⟨w1.heap.size, 6, none⟩ = some (.int .i64 rk) ∧ wr.cell? ⟨w1.heap.size, 7, none⟩ = some (.int .i64 ra) ∧ wr.cell? ⟨w1.heap.size, 8, none⟩ = some (.int .i64 rb) ∧ wr.cell? ⟨w1.heap.size, 9, none⟩ = some (.int .i64 rn) ∧ wr.cell? ⟨b, off + k * 2, none⟩ = some (.slice xa xn xc) := ⟨c0, c1, c2, c3, c4, c5, c6, c7, c8, c9, c10⟩
          go_wp2
          refine wp_region_held_drew (S := (fun w' => w'.cell? ⟨w1.heap.size, 0, none⟩ = some (.int .i64 tk) ∧ w'.cell? ⟨w1.heap.size, 1, none⟩ = some (.bool tn) ∧ w'.cell? ⟨w1.heap.size, 2, none⟩ = some (.int .i64 lk) ∧ w'.cell? ⟨w1.heap.size, 3, none⟩ = some (.int .i64 la) ∧ w'.cell? ⟨w1.heap.size, 4, none⟩ = some (.int .i64 lb) ∧ w'.cell? ⟨w1.heap.size, 5, none⟩ = some (.int .i64 ln) ∧ w'.cell? ⟨w1.heap.size, 6, none⟩ = some (.int .i64 rk) ∧ w'.cell? ⟨w1.heap.size, 7, none⟩ = some (.int .i64 ra) ∧ w'.cell? ⟨w1.heap.size, 8, none⟩ = some (.int .i64 rb) ∧ w'.cell? ⟨w1.heap.size, 9, none⟩ = some (.int .i64 rn) ∧ w'.cell? ⟨b, off + k * 2, none⟩ = some (.slice xa xn xc))) (by kernel_rfl) ?_ (fun hHeld => ?_)
          · (try dsimp only); exact Y0
          refine wpAnyH_take (i := 0) (v := ?_) rfl (by kernel_rfl) (by kernel_rfl) (by kernel_rfl) (fun _ _ _ h => h) (Or.inl ⟨by rfl, ?_⟩) (by assumption) ?_
          rotate_left 1
          · intro w hSw; (try dsimp only at hSw); go_simp; try with_reducible rfl
          simp only [Act.put, List.getElem_toArray, List.getElem_cons_zero, List.setIfInBounds_toArray, List.set_cons_zero, List.set_cons_succ]
          refine wpAnyH_take (i := 1) (v := ?_) rfl (by kernel_rfl) (by kernel_rfl) (by kernel_rfl) (fun _ _ _ h => h) (Or.inl ⟨by rfl, ?_⟩) (by assumption) ?_
          rotate_left 1
          · intro w hSw; (try dsimp only at hSw); go_simp; try with_reducible rfl
          simp only [Act.put, List.getElem_toArray, List.getElem_cons_succ, List.getElem_cons_zero, List.setIfInBounds_toArray, List.set_cons_zero, List.set_cons_succ]
          refine wpAnyH_take (i := 2) (v := ?_) rfl (by kernel_rfl) (by kernel_rfl) (by kernel_rfl) (fun _ _ _ h => h) (Or.inl ⟨by rfl, ?_⟩) (by assumption) ?_
          rotate_left 1
          · intro w hSw; (try dsimp only at hSw); go_simp; try with_reducible rfl
          simp only [Act.put, List.getElem_toArray, List.getElem_cons_succ, List.getElem_cons_zero, List.setIfInBounds_toArray, List.set_cons_zero, List.set_cons_succ]
          refine wpAnyH_take (i := 3) (v := ?_) rfl (by kernel_rfl) (by kernel_rfl) (by kernel_rfl) (fun _ _ _ h => h) (Or.inl ⟨by rfl, ?_⟩) (by assumption) ?_
          rotate_left 1
          · intro w hSw; (try dsimp only at hSw); go_simp; try with_reducible rfl
          simp only [Act.put, List.getElem_toArray, List.getElem_cons_succ, List.getElem_cons_zero, List.setIfInBounds_toArray, List.set_cons_zero, List.set_cons_succ]
          refine wpAnyH_take (i := 4) (v := ?_) rfl (by kernel_rfl) (by kernel_rfl) (by kernel_rfl) (fun _ _ _ h => h) (Or.inl ⟨by rfl, ?_⟩) (by assumption) ?_
          rotate_left 1
          · intro w hSw; (try dsimp only at hSw); go_simp; try with_reducible rfl
          simp only [Act.put, List.getElem_toArray, List.getElem_cons_succ, List.getElem_cons_zero, List.setIfInBounds_toArray, List.set_cons_zero, List.set_cons_succ]
          refine wpAnyH_take (i := 5) (v := ?_) rfl (by kernel_rfl) (by kernel_rfl) (by kernel_rfl) (fun _ _ _ h => h) (Or.inl ⟨by rfl, ?_⟩) (by assumption) ?_
          rotate_left 1
          · intro w hSw; (try dsimp only at hSw); go_simp; try with_reducible rfl
          simp only [Act.put, List.getElem_toArray, List.getElem_cons_succ, List.getElem_cons_zero, List.setIfInBounds_toArray, List.set_cons_zero, List.set_cons_succ]
          refine wpAnyH_ready (rs := [6]) (by kernel_rfl) (by simp) ?_
          refine AllReadyH.cons rfl (fun K hK => ?_) AllReadyH.nil
          go_simp
          (go_at_call 10; refine (implTestOf_any ⟨tk, tn, ⟨lk, la, lb, ln⟩, ⟨rk, ra, rb, rn⟩⟩ _ x _ p hpd hixd).mono ?_; rw [hval, htold]; rintro e w8 ⟨rfl, hb8⟩; have hk8 : Below wr.heap.size wr w8 := (Below.drew (Below.refl _ wr)).trans hb8; have Y8 : w8.cell? ⟨w1.heap.size, 0, none⟩ = some (.int .i64 tk) ∧ w8.cell? ⟨w1.heap.size, 1, none⟩ = some (.bool tn) ∧ w8.cell? ⟨w1.heap.size, 2, none⟩ = some (.int .i64 lk) ∧ w8.cell? ⟨w1.heap.size, 3, none⟩ = some (.int .i64 la) ∧ w8.cell? ⟨w1.heap.size, 4, none⟩ = some (.int .i64 lb) ∧ w8.cell? ⟨w1.heap.size, 5, none⟩ = some (.int .i64 ln) ∧ w8.cell? ⟨w1.heap.size, 6, none⟩ = some (.int .i64 rk) ∧ w8.cell? ⟨w1.heap.size, 7, none⟩ = some (.int .i64 ra) ∧ w8.cell? ⟨w1.heap.size, 8, none⟩ = some (.int .i64 rb) ∧ w8.cell? ⟨w1.heap.size, 9, none⟩ = some (.int .i64 rn) ∧ w8.cell? ⟨b, off + k * 2, none⟩ = some (.slice xa xn xc) := (by obtain ⟨⟨a0, a1, a2, a3, a4⟩, a5, a6, a7, a8, a9⟩ := box_cells ((X7.out.below HW.out).below hk8); exact ⟨a0, a1, a2, a3, a4, a5, a6, a7, a8, a9, cell_is (p := ⟨b, off + k * 2, none⟩) hk8 hb c10⟩))
          refine hK.out _ _ ?_ (fun hHeld => ?_)
          · (try dsimp only); exact Y8
          clear hK K
          try simp only [Act.put, List.getElem_toArray, List.getElem_cons_succ, List.getElem_cons_zero, List.setIfInBounds_toArray, List.set_cons_zero, List.set_cons_succ]
          refine wpAnyH_take (i := 7) (v := ?_) rfl (by kernel_rfl) (by kernel_rfl) (by kernel_rfl) (fun _ _ _ h => h) (Or.inl ⟨by rfl, ?_⟩) (by assumption) ?_
          rotate_left 1
          · intro w hSw; (try dsimp only at hSw); go_simp; try with_reducible rfl
          simp only [Act.put, List.getElem_toArray, List.getElem_cons_succ, List.getElem_cons_zero, List.setIfInBounds_toArray, List.set_cons_zero, List.set_cons_succ]
          refine wpAnyH_take (i := 8) (v := ?_) rfl (by kernel_rfl) (by kernel_rfl) (by kernel_rfl) (fun _ _ _ h => h) (Or.inl ⟨by rfl, ?_⟩) (by assumption) ?_
          rotate_left 1
          · intro w hSw; (try dsimp only at hSw); go_simp; try with_reducible rfl
          simp only [Act.put, List.getElem_toArray, List.getElem_cons_succ, List.getElem_cons_zero, List.setIfInBounds_toArray, List.set_cons_zero, List.set_cons_succ]
          refine wpAnyH_take (i := 9) (v := ?_) rfl (by kernel_rfl) (by kernel_rfl) (by kernel_rfl) (fun _ _ _ h => h) (Or.inl ⟨by rfl, ?_⟩) (by assumption) ?_
          rotate_left 1
          · intro w hSw; (try dsimp only at hSw); go_simp; try with_reducible rfl
          simp only [Act.put, List.getElem_toArray, List.getElem_cons_succ, List.getElem_cons_zero, List.setIfInBounds_toArray, List.set_cons_zero, List.set_cons_succ]
          refine wpAnyH_take (i := 10) (v := ?_) rfl (by kernel_rfl) (by kernel_rfl) (by kernel_rfl) (fun _ _ _ h => h) (Or.inl ⟨by rfl, ?_⟩) (by assumption) ?_
          rotate_left 1
          · intro w hSw; (try dsimp only at hSw); go_simp; try with_reducible rfl
          simp only [Act.put, List.getElem_toArray, List.getElem_cons_succ, List.getElem_cons_zero, List.setIfInBounds_toArray, List.set_cons_zero, List.set_cons_succ]
          refine wpAnyH_take (i := 11) (v := ?_) rfl (by kernel_rfl) (by kernel_rfl) (by kernel_rfl) (fun _ _ _ h => h) (Or.inl ⟨by rfl, ?_⟩) (by assumption) ?_
          rotate_left 1
          · intro w hSw; (try dsimp only at hSw); go_simp; try with_reducible rfl
          simp only [Act.put, List.getElem_toArray, List.getElem_cons_succ, List.getElem_cons_zero, List.setIfInBounds_toArray, List.set_cons_zero, List.set_cons_succ]
          refine wpAnyH_done (by kernel_rfl) ?_ _
          all_goals
            have q0 := cell_is (p := ⟨b, off + k * 2, none⟩) hk8 hb c10
            have q1 := cell_is (p := ⟨b, off + k * 2 + 1, none⟩) hk8 hb c11
            have hb8' : b < w8.heap.size := Nat.lt_of_lt_of_le hb hk8.size
            have hix8 : IntsAt w8.drew (.slice xa xn xc) x := (hix.below hk8).below (Below.drew (Below.refl _ _))
            have TZ8 : TailZ w8.drew (.slice za zs.length zc) zs := ((Tz7.out.below HW.out).below hk8).below (Below.drew (Below.refl _ _))
            have g1 : (if zOkB zs then getZ zs x else 0) = y := by rw [get_ok HZOK.out]; exact hget
            have HK8 : Hid (Below w7.heap.size w7 w8) := below_then HW.out hk8
            clear hb8 hk8 hix hixd hpd c10 c11 c10d c0 c1 c2 c3 c4 c5 c6 c7 c8 c9 hval htold hget Y0 Y8
            have Z0 : w8.cell? ⟨b, off + k * 2, none⟩ = some (.slice xa xn xc) ∧ w8.cell? ⟨b, off + k * 2 + 1, none⟩ = some (.int .i64 y) := ⟨q0, q1⟩
            go_wp2
            refine wp_region_held_drew (S := (fun w' => w'.cell? ⟨b, off + k * 2, none⟩ = some (.slice xa xn xc) ∧ w'.cell? ⟨b, off + k * 2 + 1, none⟩ = some (.int .i64 y))) (by kernel_rfl) ?_ (fun hHeld => ?_)
            · (try dsimp only); exact Z0
            refine wpAnyH_take (i := 0) (v := ?_) rfl (by kernel_rfl) (by kernel_rfl) (by kernel_rfl) (fun _ _ _ h => h) (Or.inl ⟨by rfl, ?_⟩) (by assumption) ?_
            rotate_left 1
            · intro w hSw; (try dsimp only at hSw); go_simp; try with_reducible rfl
            simp only [Act.put, List.getElem_toArray, List.getElem_cons_zero, List.setIfInBounds_toArray, List.set_cons_zero, List.set_cons_succ]
            refine wpAnyH_take (i := 1) (v := ?_) rfl (by kernel_rfl) (by kernel_rfl) (by kernel_rfl) (fun _ _ _ h => h) (Or.inl ⟨by rfl, ?_⟩) (by assumption) ?_
            rotate_left 1
            · intro w hSw; (try dsimp only at hSw); go_simp; try with_reducible rfl
            simp only [Act.put, List.getElem_toArray, List.getElem_cons_succ, List.getElem_cons_zero, List.setIfInBounds_toArray, List.set_cons_zero, List.set_cons_succ]
            refine wpAnyH_take (i := 2) (v := ?_) rfl (by kernel_rfl) (by kernel_rfl) (by kernel_rfl) (fun _ _ _ h => h) (Or.inl ⟨by rfl, ?_⟩) (by assumption) ?_
            rotate_left 1
            · intro w hSw; (try dsimp only at hSw); go_simp; try with_reducible rfl
            simp only [Act.put, List.getElem_toArray, List.getElem_cons_succ, List.getElem_cons_zero, List.setIfInBounds_toArray, List.set_cons_zero, List.set_cons_succ]
            refine wpAnyH_take (i := 3) (v := ?_) rfl (by kernel_rfl) (by kernel_rfl) (by kernel_rfl) (fun _ _ _ h => h) (Or.inl ⟨by rfl, ?_⟩) (by assumption) ?_
            rotate_left 1
            · intro w hSw; (try dsimp only at hSw); go_simp; try with_reducible rfl
            simp only [Act.put, List.getElem_toArray, List.getElem_cons_succ, List.getElem_cons_zero, List.setIfInBounds_toArray, List.set_cons_zero, List.set_cons_succ]
            refine wpAnyH_take (i := 4) (v := ?_) rfl (by kernel_rfl) (by kernel_rfl) (by kernel_rfl) (fun _ _ _ h => h) (Or.inl ⟨by rfl, ?_⟩) (by assumption) ?_
            rotate_left 1
            · intro w hSw; (try dsimp only at hSw); go_simp; try with_reducible rfl
            simp only [Act.put, List.getElem_toArray, List.getElem_cons_succ, List.getElem_cons_zero, List.setIfInBounds_toArray, List.set_cons_zero, List.set_cons_succ]
            refine wpAnyH_take (i := 5) (v := ?_) rfl (by kernel_rfl) (by kernel_rfl) (by kernel_rfl) (fun _ _ _ h => h) (Or.inl ⟨by rfl, ?_⟩) (by assumption) ?_
            rotate_left 1
            · intro w hSw; (try dsimp only at hSw); go_simp; try with_reducible rfl
            simp only [Act.put, List.getElem_toArray, List.getElem_cons_succ, List.getElem_cons_zero, List.setIfInBounds_toArray, List.set_cons_zero, List.set_cons_succ]
            refine wpAnyH_take (i := 6) (v := ?_) rfl (by kernel_rfl) (by kernel_rfl) (by kernel_rfl) (fun _ _ _ h => h) (Or.inl ⟨by rfl, ?_⟩) (by assumption) ?_
            rotate_left 1
            · intro w hSw; (try dsimp only at hSw); go_simp; try with_reducible rfl
            simp only [Act.put, List.getElem_toArray, List.getElem_cons_succ, List.getElem_cons_zero, List.setIfInBounds_toArray, List.set_cons_zero, List.set_cons_succ]
            refine wpAnyH_take (i := 7) (v := ?_) rfl (by kernel_rfl) (by kernel_rfl) (by kernel_rfl) (fun _ _ _ h => h) (Or.inl ⟨by rfl, ?_⟩) (by assumption) ?_
            rotate_left 1
            · intro w hSw; (try dsimp only at hSw); go_simp; try with_reducible rfl
            simp only [Act.put, List.getElem_toArray, List.getElem_cons_succ, List.getElem_cons_zero, List.setIfInBounds_toArray, List.set_cons_zero, List.set_cons_succ]
            refine wpAnyH_take (i := 8) (v := ?_) rfl (by kernel_rfl) (by kernel_rfl) (by kernel_rfl) (fun _ _ _ h => h) (Or.inl ⟨by rfl, ?_⟩) (by assumption) ?_
            rotate_left 1
            · intro w hSw; (try dsimp only at hSw); go_simp; try with_reducible rfl
            simp only [Act.put, List.getElem_toArray, List.getElem_cons_succ, List.getElem_cons_zero, List.setIfInBounds_toArray, List.set_cons_zero, List.set_cons_succ]
            refine wpAnyH_take (i := 10) (v := ?_) rfl (by kernel_rfl) (by kernel_rfl) (by kernel_rfl) (fun _ _ _ h => h) (Or.inl ⟨by rfl, ?_⟩) (by assumption) ?_
            rotate_left 1
            · intro w hSw; (try dsimp only at hSw); go_simp; try with_reducible rfl
            simp only [Act.put, List.getElem_toArray, List.getElem_cons_succ, List.getElem_cons_zero, List.setIfInBounds_toArray, List.set_cons_zero, List.set_cons_succ]
            refine wpAnyH_take (i := 11) (v := ?_) rfl (by kernel_rfl) (by kernel_rfl) (by kernel_rfl) (fun _ _ _ h => h) (Or.inl ⟨by rfl, ?_⟩) (by assumption) ?_
            rotate_left 1
            · intro w hSw; (try dsimp only at hSw); go_simp; try with_reducible rfl
            simp only [Act.put, List.getElem_toArray, List.getElem_cons_succ, List.getElem_cons_zero, List.setIfInBounds_toArray, List.set_cons_zero, List.set_cons_succ]
            refine wpAnyH_take (i := 12) (v := ?_) rfl (by kernel_rfl) (by kernel_rfl) (by kernel_rfl) (fun _ _ _ h => h) (Or.inl ⟨by rfl, ?_⟩) (by assumption) ?_
            rotate_left 1
            · intro w hSw; (try dsimp only at hSw); go_simp; try with_reducible rfl
            simp only [Act.put, List.getElem_toArray, List.getElem_cons_succ, List.getElem_cons_zero, List.setIfInBounds_toArray, List.set_cons_zero, List.set_cons_succ]
            refine wpAnyH_take (i := 13) (v := ?_) rfl (by kernel_rfl) (by kernel_rfl) (by kernel_rfl) (fun _ _ _ h => h) (Or.inl ⟨by rfl, ?_⟩) (by assumption) ?_
            rotate_left 1
            · intro w hSw; (try dsimp only at hSw); go_simp; try with_reducible rfl
            simp only [Act.put, List.getElem_toArray, List.getElem_cons_succ, List.getElem_cons_zero, List.setIfInBounds_toArray, List.set_cons_zero, List.set_cons_succ]
            refine wpAnyH_take (i := 14) (v := ?_) rfl (by kernel_rfl) (by kernel_rfl) (by kernel_rfl) (fun _ _ _ h => h) (Or.inl ⟨by rfl, ?_⟩) (by assumption) ?_
            rotate_left 1
            · intro w hSw; (try dsimp only at hSw); go_simp; try with_reducible rfl
            simp only [Act.put, List.getElem_toArray, List.getElem_cons_succ, List.getElem_cons_zero, List.setIfInBounds_toArray, List.set_cons_zero, List.set_cons_succ]
            refine wpAnyH_ready (rs := [9]) (by kernel_rfl) (by simp) ?_
            refine AllReadyH.cons rfl (fun K hK => ?_) AllReadyH.nil
            go_simp
            (go_at_call 11; refine (get_val g1 TZ8 hix8).mono ?_; rintro e w9 ⟨rfl, hb9⟩; have Z9 : w9.cell? ⟨b, off + k * 2, none⟩ = some (.slice xa xn xc) ∧ w9.cell? ⟨b, off + k * 2 + 1, none⟩ = some (.int .i64 y) := ⟨cell_is (p := ⟨b, off + k * 2, none⟩) hb9 hb8' q0, cell_is (p := ⟨b, off + k * 2 + 1, none⟩) hb9 hb8' q1⟩)
            refine hK.out _ _ ?_ (fun hHeld => ?_)
            · (try dsimp only); exact Z9
            clear hK K
            try simp only [Act.put, List.getElem_toArray, List.getElem_cons_succ, List.getElem_cons_zero, List.setIfInBounds_toArray, List.set_cons_zero, List.set_cons_succ]
            refine wpAnyH_take (i := 15) (v := ?_) rfl (by kernel_rfl) (by kernel_rfl) (by kernel_rfl) (fun _ _ _ h => h) (Or.inl ⟨by rfl, ?_⟩) (by assumption) ?_
            rotate_left 1
            · intro w hSw; (try dsimp only at hSw); go_simp; try with_reducible rfl
            simp only [Act.put, List.getElem_toArray, List.getElem_cons_succ, List.getElem_cons_zero, List.setIfInBounds_toArray, List.set_cons_zero, List.set_cons_succ]
            refine wpAnyH_take (i := 16) (v := ?_) rfl (by kernel_rfl) (by kernel_rfl) (by kernel_rfl) (fun _ _ _ h => h) (Or.inl ⟨by rfl, ?_⟩) (by assumption) ?_
            rotate_left 1
            · intro w hSw; (try dsimp only at hSw); go_simp; try with_reducible rfl
            simp only [Act.put, List.getElem_toArray, List.getElem_cons_succ, List.getElem_cons_zero, List.setIfInBounds_toArray, List.set_cons_zero, List.set_cons_succ]
            refine wpAnyH_done (by kernel_rfl) ?_ _
            all_goals
              have HK : Hid (Below w7.heap.size w7 w9) := below_then (below_then HK8.out (Below.drew (Below.refl _ _))) hb9
              clear hb9 q0 q1 TZ8 hix8 g1 HK8 Z0 Z9
              go_wp2
              go_roundw
              case rel => exact ⟨k + 1, by omega, by go_num, HK.out⟩
              case measure => simp [intOf]; omega
        · obtain rfl : k = n := by omega
          have TL := Tl7.out.below HW.out
          have TZ := Tz7.out.below HW.out
          have TG := Tg7.out.below HW.out
          have TA := HTA.out.below HW.out
          have hk10 := below_then B7.out HW.out
          clear HTA X7 Tz7 Tl7 Tg7
          go_wp2_with fail
          refine (zsame_val (zsB_refl zs) TL TZ).mono ?_
          rintro e w11 ⟨rfl, hb11⟩
          have TG1 := TG.below hb11
          have TA1 := TA.below hb11
          have hk11 := below_then hk10 hb11
          clear TL TZ TG TA hk10 hb11
          go_wp2_with fail
          refine (zsame_val (zsB_refl os) TG1 TA1).mono ?_
          rintro e w12 ⟨rfl, hb12⟩
          have hk12 := below_then hk11 hb12
          clear TG1 TA1 hk11 hb12
          go_wp2
          go_ret
          exact ⟨rfl, hk12⟩
  · have hbig : (1048576 : Int) < (len : Int) := by omega
    go_enter Tryd.func3, Tryd.ntmps3
    go_wp2
    go_ret
    exact ⟨rfl, Below.refl _ _⟩
end Go.Proofs.YtdponcnhdmkhiaaDoor
