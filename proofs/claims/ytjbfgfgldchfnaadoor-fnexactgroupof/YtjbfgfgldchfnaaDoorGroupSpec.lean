/-
  The contract of spec.GroupOf.
-/
import Derived.Test.YtjbfgfgldchfnaaDoorGroupFacts
namespace Go.Proofs.YtjbfgfgldchfnaaDoor
set_option maxRecDepth 100000
open Go.RowKit
attribute [local go_sem ↓] Go.wp_at_zero Go.wp_at_succ

theorem told_no {z : List It} {ks : List Int} {agg : Int} {col k : Nat} (hk : k < z.length) (h : toldG z ks agg col (z.getD k ([], 0)) = false) : grpTold z ks agg col = false := by
  unfold grpTold
  rw [List.all_eq_false]
  exact ⟨z.getD k ([], 0), by simp [List.getD, hk], by rw [h]; exact Bool.false_ne_true⟩
theorem told_all {z : List It} {ks : List Int} {agg : Int} {col : Nat} (h : ∀ k, k < z.length → toldG z ks agg col (z.getD k ([], 0)) = true) : grpTold z ks agg col = true := by
  unfold grpTold
  rw [List.all_eq_true]
  intro p hp
  obtain ⟨j, hj, e⟩ := mem_getD (d := ([], 0)) hp
  rw [← e]; exact h j hj
theorem to_take (R : It → List Int) {z : List It} {k : Nat} (hk : k < z.length) : grpTo R (z.take (k + 1)) = oneG R (grpTo R (z.take k)) (z.getD k ([], 0)) := by
  rw [take_one hk, grpTo_snoc]

set_option maxHeartbeats 16000000 in
theorem specGroup_any (v u : Value) (z : List It) (ks : List Int) (agg col : Int) (w : World) (h : ItemsAt w v z) (h2 : IntsAt w u ks) :
    Calls Tryd.prog 15 #[v, u, .int .i64 agg, .int .i64 col] w fun e w' => ∃ v', e = .returned (.tuple #[v', .bool (grpOk z ks agg col)]) ∧ OwnZ w' w.heap.size w'.heap.size v' (grpOut z ks agg col) ∧ Below w.heap.size w w' := by
  cases hz : zOkB z with
  | false =>
    have e0 : grpOk z ks agg col = false := by unfold grpOk grpCan; rw [hz]; rfl
    rw [e0, grp_not e0]
    clear e0
    go_enter Tryd.func15, Tryd.ntmps15
    go_wp2_with fail
    refine (specZOk_any v z _ h).mono ?_
    rw [hz]
    rintro e w1 ⟨rfl, b1⟩
    have k1 := b1.below
    clear b1
    have HK : Hid (Below w.heap.size w w1) := k1
    clear h h2 k1
    go_wp2
    go_ret2
    exact ⟨_, rfl, (lit_ownZ w1).wide HK.out.size (Nat.le_refl _) (Nat.le_refl _), below_then HK.out (below_alloc _)⟩
  | true =>
    by_cases ha1 : agg < 0
    · skip
      have e0 : grpOk z ks agg col = false := by unfold grpOk grpCan aggB; rw [decide_eq_false (by omega)]; simp
      rw [e0, grp_not e0]
      clear e0
      go_enter Tryd.func15, Tryd.ntmps15
      go_wp2_with fail
      refine (specZOk_any v z _ h).mono ?_
      rw [hz]
      rintro e w1 ⟨rfl, b1⟩
      have k1 := b1.below
      clear b1
      have HK : Hid (Below w.heap.size w w1) := k1
      clear h h2 k1
      go_wp2
      go_ret2
      exact ⟨_, rfl, (lit_ownZ w1).wide HK.out.size (Nat.le_refl _) (Nat.le_refl _), below_then HK.out (below_alloc _)⟩
    by_cases ha2 : 3 < agg
    · skip
      have e0 : grpOk z ks agg col = false := by unfold grpOk grpCan aggB; rw [decide_eq_false (by omega)]; simp
      rw [e0, grp_not e0]
      clear e0
      go_enter Tryd.func15, Tryd.ntmps15
      go_wp2_with fail
      refine (specZOk_any v z _ h).mono ?_
      rw [hz]
      rintro e w1 ⟨rfl, b1⟩
      have k1 := b1.below
      clear b1
      have HK : Hid (Below w.heap.size w w1) := k1
      clear h h2 k1
      go_wp2
      go_ret2
      exact ⟨_, rfl, (lit_ownZ w1).wide HK.out.size (Nat.le_refl _) (Nat.le_refl _), below_then HK.out (below_alloc _)⟩
    have hag : aggB agg = true := decide_eq_true (by omega)
    cases hk : keysB ks 6 with
    | false =>
      have e0 : grpOk z ks agg col = false := by unfold grpOk grpCan; rw [hk]; simp
      rw [e0, grp_not e0]
      clear e0
      go_enter Tryd.func15, Tryd.ntmps15
      go_wp2_with fail
      refine (specZOk_any v z _ h).mono ?_
      rw [hz]
      rintro e w1 ⟨rfl, b1⟩
      have k1 := b1.below
      clear b1
      go_wp2_with fail
      refine (l4Keys_any u ks 6 _ (h2.below k1) (by omega)).mono ?_
      rw [hk]
      rintro e w2 ⟨rfl, b2⟩
      have k2 := below_then k1 b2
      clear b2 k1
      have HK : Hid (Below w.heap.size w w2) := k2
      clear h h2 k2
      go_wp2
      go_ret2
      exact ⟨_, rfl, (lit_ownZ w2).wide HK.out.size (Nat.le_refl _) (Nat.le_refl _), below_then HK.out (below_alloc _)⟩
    | true =>
      have hw1 : ∀ k, k < z.length → (z.getD k ([], 0)).1.length ≤ 6 := fun k hk => rowOk_le (zOk_row hz hk).1
      have hfh := fits_have (zs := z) hk col
      cases f1 : fitsB z ks col with
      | false =>
        have e0 : grpOk z ks agg col = false := by unfold grpOk grpCan; rw [← hfh, f1]; simp
        rw [e0, grp_not e0]
        clear e0
        go_enter Tryd.func15, Tryd.ntmps15
        go_wp2_with fail
        refine (specZOk_any v z _ h).mono ?_
        rw [hz]
        rintro e w1 ⟨rfl, b1⟩
        have k1 := b1.below
        clear b1
        go_wp2_with fail
        refine (l4Keys_any u ks 6 _ (h2.below k1) (by omega)).mono ?_
        rw [hk]
        rintro e w2 ⟨rfl, b2⟩
        have k2 := below_then k1 b2
        clear b2 k1
        go_wp2_with fail
        refine (l5Fits_any v u z ks col _ (h.below k2) (h2.below k2) hw1).mono ?_
        rw [f1]
        rintro e w3 ⟨rfl, b3⟩
        have k3 := below_then k2 b3
        clear b3 k2
        have HK : Hid (Below w.heap.size w w3) := k3
        clear h h2 k3
        go_wp2
        go_ret2
        exact ⟨_, rfl, (lit_ownZ w3).wide HK.out.size (Nat.le_refl _) (Nat.le_refl _), below_then HK.out (below_alloc _)⟩
      | true =>
        rw [f1] at hfh
        obtain ⟨hkz, hcz⟩ : haveAll z ks = true ∧ hasAt col z = true := by have := hfh.symm; rw [Bool.and_eq_true] at this; exact this
        have hcan : grpCan z ks agg col = true := by unfold grpCan; rw [hz, hag, hk, hkz, hcz]; rfl
        have hl : ks.length ≤ 6 := by have := (keys_parts hk).1; omega
        obtain ⟨os, HO⟩ : ∃ os, Hid (os = grpOut z ks agg col) := ⟨_, rfl⟩
        obtain ⟨c, HC⟩ : ∃ c, Hid (c = grpOk z ks agg col) := ⟨_, rfl⟩
        have HCC : Hid (c = grpTold z ks agg col.toNat) := by show _ = _; rw [HC.out]; unfold grpOk; rw [hcan]; rfl
        have HOO : Hid (os = if c then grpTo (rowG z ks agg col.toNat) z else []) := by show _ = _; rw [HO.out, HC.out]; rfl
        rw [← HO.out, ← HC.out]
        clear hfh hcan
        have hi := info_parts infoInt
        obtain ⟨i0, hi1, hj0, hj1, hj2⟩ := hi
        go_enter Tryd.func15, Tryd.ntmps15
        go_wp2_with fail
        refine (specZOk_any v z _ h).mono ?_
        rw [hz]
        rintro e w1 ⟨rfl, b1⟩
        have k1 := b1.below
        clear b1
        go_wp2_with fail
        refine (l4Keys_any u ks 6 _ (h2.below k1) (by omega)).mono ?_
        rw [hk]
        rintro e w2 ⟨rfl, b2⟩
        have k2 := below_then k1 b2
        clear b2 k1
        go_wp2_with fail
        refine (l5Fits_any v u z ks col _ (h.below k2) (h2.below k2) hw1).mono ?_
        rw [f1]
        rintro e w3 ⟨rfl, b3⟩
        have k3 := below_then k2 b3
        clear b3 k2
        have s3 := k3.size
        have HK3 : Hid (Below w.heap.size w w3) := k3
        rcases h.cases with ⟨a, cap, rfl, rfl⟩ | ⟨b, off, cap, hpos, hlim, rfl, hbw, hc⟩
        · obtain rfl : c = true := by rw [HCC.out]; rfl
          obtain rfl : os = [] := by rw [HOO.out]; rfl
          clear h h2 k3
          go_wp2
          refine wp_loop_rounds 1 ?_
          rw [rounds_succ]
          go_wp2_with fail
          refine (l2Told_any _ [] w3.heap.size (w3.alloc (.cells #[] 43)).heap.size _ (lit_ownZ w3) (by simp)).mono ?_
          rintro e w5 ⟨v5, rfl, Z5, b5⟩
          have HK5 : Hid (Below w.heap.size w w5) := below_then (below_then HK3.out (below_alloc _)) b5
          have R : Hid (OwnZ w5 w.heap.size w5.heap.size v5 []) := by have := Z5.wide s3 (Nat.le_refl _) (Nat.le_refl _); show OwnZ _ _ _ _ _; simpa [zOkB] using this
          clear Z5 b5
          go_wp2
          go_ret2
          exact ⟨_, rfl, R.out, HK5.out⟩
        · obtain ⟨cn, rfl⟩ : ∃ cn : Nat, col = (cn : Int) := by
            have := has_iff.1 hcz (z.getD 0 ([], 0)) (by simp [List.getD, hpos])
            exact ⟨col.toNat, by omega⟩
          simp only [Int.toNat_natCast] at HCC HOO
          have HI : Hid (ItemsAt w (.slice (some ⟨b, off, none⟩) z.length cap) z) := h
          have HI2 : Hid (IntsAt w u ks) := h2
          obtain ⟨ua, un, uc, rfl⟩ := h2.shape
          have hz100 := zOk_le hz
          have hrow : ∀ k, k < z.length → rowOkB (z.getD k ([], 0)).1 = true ∧ wB (z.getD k ([], 0)).2 = true ∧ z.getD k ([], 0) ∈ z ∧ ∀ q ∈ ks, 0 ≤ q ∧ q < ((z.getD k ([], 0)).1.length : Int) := fun k hk2 => ⟨(zOk_row hz hk2).1, (zOk_row hz hk2).2, getZ_mem hk2, fun q hq => have_iff.1 hkz q hq _ (getZ_mem hk2)⟩
          have HZ : Hid (zOkB z = true) := hz
          have HKZ : Hid (haveAll z ks = true) := hkz
          have HKK : Hid (keysB ks 6 = true) := hk
          have HCZ : Hid (hasAt (cn : Int) z = true) := hcz
          have HTA : Hid (∀ k, k ≤ z.length → (∀ j, j < k → toldG z ks agg cn (z.getD j ([], 0)) = true) → zOkB (grpTo (rowG z ks agg cn) (z.take k)) = true) := fun k hk2 ht => grpTo_ok hz hk hkz (fun p hp => List.mem_of_mem_take hp) (by rw [List.length_take]; omega) (fun p hp => by
            obtain ⟨j, hj, e⟩ := List.mem_take_iff_getElem.1 hp
            have := ht j (by omega)
            rw [← e]
            simpa [List.getD, show j < z.length by omega] using this)
          have HTN : Hid (∀ k, k < z.length → toldG z ks agg cn (z.getD k ([], 0)) = false → c = false) := fun k hk2 hn => by rw [HCC.out]; exact told_no hk2 hn
          have HTY : Hid ((∀ k, k < z.length → toldG z ks agg cn (z.getD k ([], 0)) = true) → c = true) := fun ht => by rw [HCC.out]; exact told_all ht
          obtain ⟨n, hn⟩ : ∃ n, n = z.length := ⟨_, rfl⟩
          have HN : Hid (n = z.length) := hn
          rw [← hn] at hpos hlim hc hrow hz100 HTA HTN HTY ⊢
          rw [← hn] at HI
          clear hn h h2 hz hkz hk hcz hw1 k3
          go_wp2
          go_loopw [10, 11] (fun s i wr => ∃ k : Nat, k ≤ n ∧ i = .int .i64 k ∧ Hid (OwnZ wr w.heap.size wr.heap.size s (grpTo (rowG z ks agg cn) (z.take k))) ∧ Hid (∀ j, j < k → toldG z ks agg cn (z.getD j ([], 0)) = true) ∧ Hid (Below w.heap.size w wr)) (fun _ i _ => n - (intOf i).toNat)
          case atStart => exact ⟨0, Nat.zero_le _, rfl, (lit_ownZ w3).wide s3 (Nat.le_refl _) (Nat.le_refl _), fun j hj => by omega, below_then HK3.out (below_alloc _)⟩
          case round =>
            obtain ⟨k, hk, rfl, HS, HA, HW⟩ := hrel
            clear HK3
            by_cases hlt : k < n
            · have hlt' : k < z.length := by rw [← HN.out]; exact hlt
              have HB := HW.out
              obtain ⟨rv, hrv0, hwt0, hix0⟩ := hc k hlt
              have hrv := (HB.cell (p := ⟨b, off + k * 2, none⟩) hbw).trans hrv0
              have hwt := (HB.cell (p := ⟨b, off + k * 2 + 1, none⟩) hbw).trans hwt0
              have hix := hix0.below HB
              obtain ⟨hr1, hr2, hr3, hr4⟩ := hrow k hlt
              have HT : Hid (grpTo (rowG z ks agg cn) (z.take (k + 1)) = oneG (rowG z ks agg cn) (grpTo (rowG z ks agg cn) (z.take k)) (z.getD k ([], 0))) := to_take _ hlt'
              have htn := HTN.out k hlt
              have hzok := HTA.out k (by omega) HA.out
              have HAS : Hid (toldG z ks agg cn (z.getD k ([], 0)) = true → ∀ j, j < k + 1 → toldG z ks agg cn (z.getD j ([], 0)) = true) := fun ht j hj => by
                rcases Nat.lt_succ_iff_lt_or_eq.1 hj with h | h
                · exact HA.out j h
                · rw [h]; exact ht
              obtain ⟨p, hp⟩ : ∃ p, p = z.getD k ([], 0) := ⟨_, rfl⟩
              rw [← hp] at hwt hix hr1 hr2 hr3 hr4 HT htn HAS
              clear hp
              obtain ⟨x, y⟩ := p
              simp only at hwt hix hr1 hr2 hr4
              have hy0 := (wB_in hr2).1
              obtain ⟨xa, xn, xc, rfl⟩ := hix.shape
              have hsw := HB.size
              clear hrv0 hwt0 hix0
              by_cases hy : y < 0
              · have HTT : Hid (grpTo (rowG z ks agg cn) (z.take (k + 1)) = grpTo (rowG z ks agg cn) (z.take k)) := by show _ = _; rw [HT.out]; unfold oneG; rw [if_pos hy]
                have HA2 := HAS.out (by unfold toldG; rw [decide_eq_true hy]; rfl)
                have HA3 : Hid _ := HA2
                clear HT htn hzok HAS HA2 hr1 hr2 hr3 hr4 hc hrow hix
                go_wp2
                go_roundw
                case rel => exact ⟨k + 1, by omega, by go_num, by show OwnZ _ _ _ _ _; rw [HTT.out]; exact HS.out, HA3.out, HW.out⟩
                case measure => simp [intOf]; omega
              · have hyp : 0 < y := by omega
                have hsome := grp_some hr3 hyp ks
                have hfine := grp_fine HZ.out HCZ.out ks (keyZ x ks)
                simp only at hsome
                have htold : toldG z ks agg cn (x, y) = cellB (aggZ agg cn (grpZ z ks (keyZ x ks))) := by unfold toldG; rw [decide_eq_false hy]; rfl
                rw [htold] at htn HAS
                have HRG : Hid (rowG z ks agg cn (x, y) = keyZ x ks ++ [aggZ agg cn (grpZ z ks (keyZ x ks))]) := rfl
                clear hc hrow htold
                go_wp2_with fail
                refine (l5Key_any _ _ x ks _ hix (HI2.out.below HB) hr4 hl).mono ?_
                rintro e w4 ⟨v4, rfl, O4, b4⟩
                have k4 := below_then HB b4
                go_wp2_with fail
                refine (l5Of_any _ _ v4 z ks (keyZ x ks) _ (HI.out.below k4) (HI2.out.below k4) O4.ints HZ.out HKZ.out hl).mono ?_
                rintro e w5 ⟨v5, rfl, I5, b5⟩
                have k5 := below_then k4 b5
                have O5 := O4.keep' b5
                have s4 := b4.size
                have s5 := b5.size
                have S5 := (HS.out.keep' b4).keep' b5
                clear hrv hwt hix b4 b5 k4 O4 HB HW HS
                go_wp2_with fail
                refine (l5Agg_any v5 (grpZ z ks (keyZ x ks)) agg cn _ I5 hfine hsome hag).mono ?_
                obtain ⟨m, HM⟩ : ∃ m, Hid (m = aggZ agg cn (grpZ z ks (keyZ x ks))) := ⟨_, rfl⟩
                rw [← HM.out]
                rw [← HM.out] at htn HAS HRG
                rintro e w6 ⟨rfl, rfl⟩
                clear I5 hfine hsome
                go_wp2_with fail
                refine (l1Cell_any m _).mono ?_
                rintro e w6 ⟨rfl, rfl⟩
                cases hcm : cellB m with
                | false =>
                  obtain rfl : c = false := htn hcm
                  obtain rfl : os = [] := by rw [HOO.out]; rfl
                  have HK6 : Hid (Below w.heap.size w w6) := k5
                  clear htn HAS HT hzok S5 O5 k5 hr4
                  go_wp2
                  go_ret2
                  exact ⟨_, rfl, (lit_ownZ w6).wide HK6.out.size (Nat.le_refl _) (Nat.le_refl _), below_then HK6.out (below_alloc _)⟩
                | true =>
                  have HA3 : Hid _ := HAS.out hcm
                  have hkl : (keyZ x ks).length ≤ 6 := by rw [keyZ_len]; exact hl
                  have hal : Below w6.heap.size w6 (w6.alloc (.cells #[.int .i64 m] 3)) := below_alloc _
                  have O6 := O5.keep' hal
                  have S6 := S5.keep' hal
                  have k6 := below_then k5 hal
                  have s6 := k5.size
                  have s6a := hal.size
                  clear htn HAS O5 S5 hr4 hcm
                  go_wp2_with (at_builtin; refine wpList_append_ints rfl _ _ 23 rfl wr.heap.size 3 i0 Tryd.underlying23 hi1 hj0 hj1 hj2 v4 _ _ rfl O6.1 _ [m] rfl (int_litK w6 m) (by simp; omega) (by simp; omega) ?_; intro v7 w7 hown7 hg7 _)
                  have O7 : Own w7 wr.heap.size w7.heap.size v7 (keyZ x ks ++ [m]) := own_new (xs := keyZ x ks ++ [m]) (by simpa using hown7) (by simp; omega)
                  have hlow : ∀ i, v4.ownBlock = some i → wr.heap.size ≤ i ∧ i < w4.heap.size := fun i e => ⟨(O6.1.lt i e).1, O6.2.1 i e⟩
                  have B7 : Below wr.heap.size (w6.alloc (.cells #[.int .i64 m] 3)) w7 := (Below.refl _ _).grown hg7 (by have := hal.size; omega) (fun i e => (hlow i e).1)
                  have S7 := S6.only (Only.of_grown hg7 hlow) (.inl (Nat.le_refl _))
                  have k7 : Below w.heap.size w w7 := k6.trans (B7.mono hsw)
                  have s7 := hg7.size
                  rw [← HRG.out] at O7
                  clear hown7 hg7 O6 S6 hal k6 k5 hlow B7
                  obtain ⟨r, HRR⟩ : ∃ r, Hid (r = rowG z ks agg cn (x, y)) := ⟨_, rfl⟩
                  have hrl : r.length ≤ 7 := by rw [HRR.out, HRG.out]; simp; omega
                  rw [← HRR.out] at O7
                  obtain ⟨G, HG⟩ : ∃ G, Hid (G = grpTo (rowG z ks agg cn) (z.take k)) := ⟨_, rfl⟩
                  rw [← HG.out] at S7 hzok HT
                  have hGl : G.length ≤ 100 := zOk_le hzok
                  have HTT : Hid (grpTo (rowG z ks agg cn) (z.take (k + 1)) = if getZ G r = 0 then putZ G r 1 else G) := by show _ = _; rw [HT.out, HRR.out]; unfold oneG; rw [if_neg (by show ¬ y < 0; omega)]
                  have hG1 : ∀ j, j < G.length → -4611686018427387904 ≤ (G.getD j ([], 0)).2 ∧ (G.getD j ([], 0)).2 ≤ 4611686018427387903 := fun j hj => by
                    have := (wB_in (zOk_row hzok hj).2).2
                    omega
                  clear HT
                  go_wp2_with fail
                  refine (specZGet_any _ G v7 r _ S7.items O7.ints).mono ?_
                  rw [hzok]
                  simp only [if_true]
                  rintro e w8 ⟨rfl, b8⟩
                  have k8 := below_then k7 b8
                  have S8 := S7.keep' b8
                  have O8 := O7.keep' b8
                  have s8 := b8.size
                  clear S7 O7 b8 k7
                  by_cases hg0 : getZ G r = 0
                  · rw [hg0]
                    go_wp2_with fail
                    refine (l2Put_any _ w.heap.size wr.heap.size G _ r 1 _ S8 hsw O8.ints (by omega) (by omega) hG1 (by omega)).mono ?_
                    rintro e w9 ⟨v9, rfl, Z9, O9⟩
                    have HK9 : Hid (Below w.heap.size w w9) := O9.below k8 (Nat.le_refl _) k8.size
                    have HZ9 : Hid (OwnZ w9 w.heap.size w9.heap.size v9 (grpTo (rowG z ks agg cn) (z.take (k + 1)))) := by show OwnZ _ _ _ _ _; rw [HTT.out, if_pos hg0]; exact Z9
                    clear Z9 O9 k8 S8 O8 hG1
                    go_wp2
                    go_roundw
                    case rel => exact ⟨k + 1, by omega, by go_num, HZ9.out, HA3.out, HK9.out⟩
                    case measure => simp [intOf]; omega
                  · have hgf : (getZ G r == 0) = false := by simp [hg0]
                    have HZ9 : Hid (OwnZ w8 w.heap.size w8.heap.size u10 (grpTo (rowG z ks agg cn) (z.take (k + 1)))) := by show OwnZ _ _ _ _ _; rw [HTT.out, if_neg hg0]; exact S8.wide (Nat.le_refl _) (by omega) (Nat.le_refl _)
                    have HK9 : Hid (Below w.heap.size w w8) := k8
                    clear k8 S8 O8 hG1
                    go_wp2
                    go_roundw
                    case rel => exact ⟨k + 1, by omega, by go_num, HZ9.out, HA3.out, HK9.out⟩
                    case measure => simp [intOf]; omega
            · obtain rfl : k = n := by omega
              obtain rfl : c = true := HTY.out HA.out
              have hzok := HTA.out k (Nat.le_refl _) HA.out
              have hS := HS.out
              rw [HN.out, List.take_length] at hS hzok
              have hos : os = grpTo (rowG z ks agg cn) z := by rw [HOO.out]; rfl
              rw [← hos] at hS hzok
              have hsw := HW.out.size
              clear hc hrow
              go_wp2_with fail
              refine (l2Told_any _ os _ _ _ hS hsw).mono ?_
              rw [hzok]
              simp only [if_true]
              rintro e w5 ⟨v5, rfl, Z5, b5⟩
              have HK5 : Hid (Below w.heap.size w w5) := below_then HW.out b5
              have R : Hid (OwnZ w5 w.heap.size w5.heap.size v5 os) := Z5
              clear Z5 b5 hS
              go_wp2
              go_ret2
              exact ⟨_, rfl, R.out, HK5.out⟩
end Go.Proofs.YtjbfgfgldchfnaaDoor
