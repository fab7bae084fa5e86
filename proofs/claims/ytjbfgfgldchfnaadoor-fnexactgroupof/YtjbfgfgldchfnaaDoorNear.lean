/-
  The contracts of impl.near, impl.canBeNear, impl.DeltaNear, spec.l6In, spec.l6Near and spec.DeltaNear: the items of a list that are in a group of any of another list.
-/
import Derived.Test.YtjbfgfgldchfnaaDoorTextMap
import Derived.Test.YtjbfgfgldchfnaaDoorMerge
import Derived.Test.YtjbfgfgldchfnaaDoorCopy
import Derived.Test.YtjbfgfgldchfnaaDoorAddSpec
namespace Go.Proofs.YtjbfgfgldchfnaaDoor
set_option maxRecDepth 100000
open Go.RowKit
attribute [local go_sem ↓] Go.wp_at_zero Go.wp_at_succ

theorem near_take {z d : List It} {ks : List Int} {k : Nat} (hk : k < z.length) : nearZ (z.take (k + 1)) d ks = nearZ (z.take k) d ks ++ (if isNear d ks (z.getD k ([], 0)).1 then [((z.getD k ([], 0)).1, (z.getD k ([], 0)).2)] else []) := by
  unfold nearZ
  have e : z.getD k ([], 0) = z[k] := by simp [List.getD, hk]
  rw [List.take_succ_eq_append_getElem hk, List.filter_append, e, List.filter_cons, List.filter_nil]
theorem spine_nilN (w : World) (lo : Nat) : Spine w lo w.heap.size (.slice none 0 0) (prs []) := ⟨⟨rfl, .inl ⟨rfl, rfl⟩⟩, fun k hk => by simp [Value.ownBlock] at hk, by simp [prs], Nat.le_refl _⟩
theorem nearZ_len (z d : List It) (ks : List Int) : (nearZ z d ks).length ≤ z.length := List.length_filter_le _ _
theorem nearZ_mem {z d : List It} {ks : List Int} {p : It} (h : p ∈ nearZ z d ks) : p ∈ z := (List.mem_filter.1 h).1

set_option maxHeartbeats 8000000 in
theorem near_any (v u : Value) (mb m : Nat) (z d : List It) (ks : List Int) (w : World) (htab : Tab w) (h : ItemsAt w v z) (hm : CMap w 48 mb m (cntT d ks)) (hmn : m < 1000) (h2 : IntsAt w u ks)
    (hz : zOkB z = true) (hd : zOkB d = true) (hkz : haveAll z ks = true) (hkd : haveAll d ks = true) (hl : ks.length ≤ 6) :
    Calls Tryd.prog 26 #[v, .map (some mb), u] w fun e w' => ∃ v', e = .returned v' ∧ ItemsAt w' v' (nearZ z d ks) ∧ Below w.heap.size w w' := by
  obtain ⟨i0, hi0, hz0, hz1, hz2⟩ := info_parts infoItem
  have hrow : ∀ k, k < z.length → rowOkB (z.getD k ([], 0)).1 = true ∧ (∀ q ∈ ks, 0 ≤ q ∧ q < ((z.getD k ([], 0)).1.length : Int)) := fun k hk => ⟨(zOk_row hz hk).1, fun q hq => have_iff.1 hkz q hq _ (by simp [List.getD, hk])⟩
  have hcn : ∀ k, k < z.length → decide (0 < cntT d ks (rowTx (keyZ (z.getD k ([], 0)).1 ks))) = isNear d ks (z.getD k ([], 0)).1 := fun k hk => cnt_near hd hkd (hrow k hk).1 (hrow k hk).2
  have hz100 := zOk_le hz
  have HTAB : Hid (Tab w) := htab
  have HK2 : Hid (IntsAt w u ks) := h2
  have HM : Hid (CMap w 48 mb m (cntT d ks)) := hm
  obtain ⟨ua, un, uc, rfl⟩ := h2.shape
  clear htab h2 hd hkd hz hkz hm
  rcases h.cases with ⟨a, cap, rfl, rfl⟩ | ⟨b, off, cap, hpos, hlim, rfl, hbw, hc⟩
  · clear h hrow hcn
    go_enter Tryd.func26, Tryd.ntmps26
    go_wp2
    refine wp_loop_rounds 1 ?_
    rw [rounds_succ]
    go_wp2
    go_ret
    exact ⟨_, rfl, (nil_ownZ w 0).items, Below.refl _ _⟩
  · clear h
    obtain ⟨n, hn⟩ : ∃ n, n = z.length := ⟨_, rfl⟩
    have HN : Hid (n = z.length) := hn
    rw [← hn] at hpos hlim hc hrow hz100 hcn ⊢
    clear hn
    go_enter Tryd.func26, Tryd.ntmps26
    go_wp2
    go_loopw [7, 12] (fun s i wr => ∃ (k : Nat) (l : List Rw), k ≤ n ∧ i = .int .i64 k ∧ Hid (its l = nearZ (z.take k) d ks) ∧ Hid (Spine wr w.heap.size wr.heap.size s (prs l)) ∧ Hid (RowsIn w l) ∧ Hid (Below w.heap.size w wr)) (fun _ i _ => n - (intOf i).toNat)
    case atStart => exact ⟨0, [], Nat.zero_le _, rfl, rfl, spine_nilN w _, fun x hx => by simp at hx, Below.refl _ _⟩
    case round =>
      obtain ⟨k, l, hk, rfl, HL, HS, HR, HW⟩ := hrel
      by_cases hlt : k < n
      · have hlt' : k < z.length := by rw [← HN.out]; exact hlt
        have HB := HW.out
        obtain ⟨rv, hrv0, hwt0, hix0⟩ := hc k hlt
        have hrv := (HB.cell (p := ⟨b, off + k * 2, none⟩) hbw).trans hrv0
        have hwt := (HB.cell (p := ⟨b, off + k * 2 + 1, none⟩) hbw).trans hwt0
        have hix := hix0.below HB
        obtain ⟨hr1, hr2⟩ := hrow k hlt
        have hcq := hcn k hlt
        have HT : Hid (nearZ (z.take (k + 1)) d ks = _) := near_take (d := d) (ks := ks) hlt'
        have hll : l.length ≤ 100 := by
          have h1 : (its l).length = (nearZ (z.take k) d ks).length := by rw [HL.out]
          have h2 := nearZ_len (z.take k) d ks
          rw [its_length] at h1
          rw [List.length_take] at h2
          omega
        obtain ⟨x, HX⟩ : ∃ x, Hid (x = (z.getD k ([], 0)).1) := ⟨_, rfl⟩
        obtain ⟨y, HY⟩ : ∃ y, Hid (y = (z.getD k ([], 0)).2) := ⟨_, rfl⟩
        rw [← HX.out] at hix hr1 hr2 HT hcq hix0
        rw [← HY.out] at hwt HT
        obtain ⟨xa, xn, xc, rfl⟩ := hix.shape
        have HIX : Hid (IntsAt w (.slice xa xn xc) x) := hix0
        obtain ⟨wa, hwa⟩ : ∃ wa, wa = wr.alloc (.cells #[.slice xa xn xc, .int .i64 y] 43) := ⟨_, rfl⟩
        have hba : Below wr.heap.size wr wa := by rw [hwa]; exact below_alloc _
        have hbl : wr.heap.size < wa.heap.size := by rw [hwa]; simp
        have t0 : wa.cell? ⟨wr.heap.size, 0, none⟩ = some (.slice xa xn xc) := by rw [hwa]; simp [go_sem]
        have t1 : wa.cell? ⟨wr.heap.size, 1, none⟩ = some (.int .i64 y) := by rw [hwa]; simp [go_sem]
        have hka := below_then HB hba
        have hsw := HB.size
        have hixa := hix.below hba
        clear hc hrow hrv0 hwt0 hix0 hcn
        go_wp2_with fail
        rw [← hwa]
        refine (groupText_any _ _ x ks _ (HTAB.out.below hka) hixa (HK2.out.below hka) hr2 hl hr1).mono ?_
        rintro e w2 ⟨s, rfl, hs, hb2⟩
        have hk2 := below_then hka hb2
        have hw2 := hk2.size
        have hka2 : Below wr.heap.size wr w2 := below_then hba hb2
        obtain ⟨hlook, -⟩ := ((HM.out.grown hk2)).look (tx_small hr1 hr2 hl hs) (by unfold maxLen; omega)
        rw [hs] at hlook
        obtain ⟨c, HC⟩ : ∃ c, Hid (c = cntT d ks (rowTx (keyZ x ks))) := ⟨_, rfl⟩
        rw [← HC.out] at hlook hcq
        have r0 := cell_is (p := ⟨wr.heap.size, 0, none⟩) hb2 hbl t0
        have r1 := cell_is (p := ⟨wr.heap.size, 1, none⟩) hb2 hbl t1
        have S2 : Spine w2 w.heap.size wr.heap.size u7 (prs l) := HS.out.keep' hka2
        have HK2' : Hid (Below w.heap.size w w2) := hk2
        clear hrv hwt HB HW HS hba hka hb2 hk2 hs hixa hix hr1 hr2 hwa t0 t1
        by_cases hpc : 0 < c
        · have hnr : isNear d ks x = true := by rw [← hcq]; exact decide_eq_true hpc
          have HTT : Hid (its (l ++ [(.slice xa xn xc, (x, y))]) = nearZ (z.take (k + 1)) d ks) := by
            show _ = _
            rw [HT.out, hnr, its_append, HL.out]; rfl
          have HR2 : Hid (RowsIn w (l ++ [(.slice xa xn xc, (x, y))])) := fun q hq => by
            rcases List.mem_append.1 hq with e | e
            · exact HR.out q e
            · simp at e; subst e; exact HIX.out
          obtain ⟨hspW, hprW, hfin⟩ := merge_ready (xv := .slice xa xn xc) y S2 ⟨_, _, _, rfl⟩ (by omega) (by omega)
          have hpl : (prs l).length ≤ 100 := by rw [prs_length]; exact hll
          clear hcq hnr HT HL HR S2
          go_wp2_with (at_builtin; (refine wpList_append_pairs rfl _ _ 25 rfl w.heap.size 43 i0 Tryd.underlying25 hi0 hz0 hz1 hz2 u7 (prs l) rfl hspW _ _ rfl hprW (by simp; omega) (by simp; omega) ?_; intro v3 w3 hown3 hg3 _))
          obtain ⟨S3, B3⟩ := hfin v3 w3 x hown3 hg3
          have HS3 : Hid (Spine w3 w.heap.size w3.heap.size v3 (prs (l ++ [(.slice xa xn xc, (x, y))]))) := S3
          have HK3 : Hid (Below w.heap.size w w3) := HK2'.out.trans B3
          clear hfin hown3 hg3 hspW hprW B3 S3 r0 r1 hlook
          go_wp2
          go_roundw
          case rel => exact ⟨k + 1, _, by omega, by go_num, HTT.out, HS3.out, HR2.out, HK3.out⟩
          case measure => simp [intOf]; omega
        · have hnr : isNear d ks x = false := by rw [← hcq]; exact decide_eq_false hpc
          have HTT : Hid (its l = nearZ (z.take (k + 1)) d ks) := by
            show _ = _
            rw [HT.out, hnr, HL.out]; simp
          have HS3 : Hid (Spine w2 w.heap.size w2.heap.size u7 (prs l)) := S2.wide (Nat.le_refl _) hka2.size (Nat.le_refl _)
          clear hcq hnr HT HL S2 r0 r1
          go_wp2
          go_roundw
          case rel => exact ⟨k + 1, _, by omega, by go_num, HTT.out, HS3.out, HR.out, HK2'.out⟩
          case measure => simp [intOf]; omega
      · obtain rfl : k = n := by omega
        have hI : ItemsAt wr u7 (its l) := (HS.out.pairs HR.out.shape).itemsOf (HR.out.below HW.out)
        rw [HL.out, HN.out, List.take_length] at hI
        clear hc hrow hcn
        go_wp2
        go_ret
        exact ⟨_, rfl, hI, HW.out⟩

set_option maxHeartbeats 1000000 in
theorem canBeNear_any (v u kv : Value) (z d : List It) (ks : List Int) (w : World) (h : ItemsAt w v z) (h2 : ItemsAt w u d) (h3 : TailI w kv ks) :
    Calls Tryd.prog 24 #[v, u, kv] w fun e w' => e = .returned (.bool (nearCan z d ks)) ∧ Below w.heap.size w w' := by
  obtain ⟨c, HC⟩ : ∃ c, Hid (c = nearCan z d ks) := ⟨_, rfl⟩
  rw [← HC.out]
  go_enter Tryd.func24, Tryd.ntmps24
  go_wp2_with fail
  refine (areKeys_any kv ks 6 _ h3).mono ?_
  rintro e w1 ⟨rfl, rfl⟩
  cases h4 : keysB ks 6 with
  | false =>
    obtain rfl : c = false := by rw [HC.out]; unfold nearCan; rw [h4]; rfl
    clear h h2 h3
    go_wp2
    go_ret
    exact ⟨rfl, Below.refl _ _⟩
  | true =>
    go_wp2_with fail
    refine (allHaveKeys_any v kv z ks _ h h3.1).mono ?_
    rintro e w2 ⟨rfl, hb2⟩
    cases h5 : haveAll z ks with
    | false =>
      obtain rfl : c = false := by rw [HC.out]; unfold nearCan; rw [h4, h5]; rfl
      clear h h2 h3
      go_wp2
      go_ret
      exact ⟨rfl, hb2⟩
    | true =>
      have h6 : haveAll d ks = c := by rw [HC.out]; unfold nearCan; rw [h4, h5]; rfl
      go_wp2_with fail
      refine (allHaveKeys_any u kv d ks _ (h2.below hb2) (h3.1.below hb2)).mono ?_
      rw [h6]
      rintro e w3 ⟨rfl, hb3⟩
      have HK : Hid (Below w1.heap.size w1 w3) := below_then hb2 hb3
      clear h h2 h3 hb2 hb3 h6
      go_wp2
      go_ret
      exact ⟨rfl, HK.out⟩
theorem near_not {z d : List It} {ks : List Int} (h : nearOk z d ks = false) : nearOut z d ks = [] := by unfold nearOut; rw [h]; rfl
theorem near_parts {z d : List It} {ks : List Int} (h : nearCan z d ks = true) : keysB ks 6 = true ∧ haveAll z ks = true ∧ haveAll d ks = true := by
  unfold nearCan at h
  simp only [Bool.and_eq_true] at h
  exact ⟨h.1.1, h.1.2, h.2⟩
theorem near_mild {z : List It} (d : List It) (ks : List Int) (hz : zOkB z = true) : (nearZ z d ks).length ≤ 100 ∧ ∀ j, j < (nearZ z d ks).length → ((nearZ z d ks).getD j ([], 0)).1.length ≤ 8796093022208 := by
  refine ⟨by have := nearZ_len z d ks; have := zOk_le hz; omega, fun j hj => ?_⟩
  have := zOk_mem hz (nearZ_mem (getZ_mem hj))
  omega

set_option maxHeartbeats 2000000 in
theorem implNear_any (v u kv : Value) (z d : List It) (ks : List Int) (w : World) (htab : Tab w) (h : ItemsAt w v z) (h2 : ItemsAt w u d) (h3 : TailI w kv ks) :
    Calls Tryd.prog 9 #[v, u, kv] w fun e w' => ∃ v', e = .returned v' ∧ OwnZ w' w.heap.size w'.heap.size v' (nearOut z d ks) ∧ Below w.heap.size w w' := by
  cases hz : zOkB z with
  | false =>
    rw [near_not (by unfold nearOk; rw [hz]; rfl)]
    go_enter Tryd.func9, Tryd.ntmps9
    go_wp2_with fail
    refine (implZOk_any v z _ h).mono ?_
    rw [hz]
    rintro e w1 ⟨rfl, hb1⟩
    clear h h2 h3 htab
    go_wp2
    go_ret
    exact ⟨_, rfl, nil_ownZ _ _, hb1⟩
  | true =>
    cases hd : zOkB d with
    | false =>
      rw [near_not (by unfold nearOk; rw [hz, hd]; rfl)]
      go_enter Tryd.func9, Tryd.ntmps9
      go_wp2_with fail
      refine (implZOk_any v z _ h).mono ?_
      rw [hz]
      rintro e w1 ⟨rfl, hb1⟩
      go_wp2_with fail
      refine (implZOk_any u d _ (h2.below hb1)).mono ?_
      rw [hd]
      rintro e w2 ⟨rfl, hb2⟩
      have HK : Hid (Below w.heap.size w w2) := below_then hb1 hb2
      clear h h2 h3 htab hb1 hb2
      go_wp2
      go_ret
      exact ⟨_, rfl, nil_ownZ _ _, HK.out⟩
    | true =>
      cases hc : nearCan z d ks with
      | false =>
        rw [near_not (by unfold nearOk; rw [hz, hd, hc]; rfl)]
        go_enter Tryd.func9, Tryd.ntmps9
        go_wp2_with fail
        refine (implZOk_any v z _ h).mono ?_
        rw [hz]
        rintro e w1 ⟨rfl, hb1⟩
        go_wp2_with fail
        refine (implZOk_any u d _ (h2.below hb1)).mono ?_
        rw [hd]
        rintro e w2 ⟨rfl, hb2⟩
        have hk2 := below_then hb1 hb2
        go_wp2_with fail
        refine (canBeNear_any v u kv z d ks _ (h.below hk2) (h2.below hk2) (h3.below hk2)).mono ?_
        rw [hc]
        rintro e w3 ⟨rfl, hb3⟩
        have HK : Hid (Below w.heap.size w w3) := below_then hk2 hb3
        clear h h2 h3 htab hb1 hb2 hb3 hk2
        go_wp2
        go_ret
        exact ⟨_, rfl, nil_ownZ _ _, HK.out⟩
      | true =>
        obtain ⟨hk6, hkz, hkd⟩ := near_parts hc
        have hl : ks.length ≤ 6 := by have := (keys_parts hk6).1; omega
        have hm := near_mild d ks hz
        have e0 : nearOut z d ks = nearZ z d ks := by unfold nearOut nearOk; rw [hz, hd, hc]; rfl
        rw [e0]
        go_enter Tryd.func9, Tryd.ntmps9
        go_wp2_with fail
        refine (implZOk_any v z _ h).mono ?_
        rw [hz]
        rintro e w1 ⟨rfl, hb1⟩
        go_wp2_with fail
        refine (implZOk_any u d _ (h2.below hb1)).mono ?_
        rw [hd]
        rintro e w2 ⟨rfl, hb2⟩
        have hk2 := below_then hb1 hb2
        go_wp2_with fail
        refine (canBeNear_any v u kv z d ks _ (h.below hk2) (h2.below hk2) (h3.below hk2)).mono ?_
        rw [hc]
        rintro e w3 ⟨rfl, hb3⟩
        have hk3 := below_then hk2 hb3
        clear hb1 hb2 hb3 hk2 e0
        go_wp2_with fail
        refine (groupTexts_any u kv d ks _ (htab.below hk3) (h2.below hk3) (h3.below hk3).1 hd hkd hl).mono ?_
        rintro e w4 ⟨mb, m, rfl, hC4, hmb, hm4, hb4⟩
        have hk4 := below_then hk3 hb4
        clear hb4 hk3
        go_wp2_with fail
        refine (near_any v kv mb m z d ks _ (htab.below hk4) (h.below hk4) hC4 hm4 (h3.below hk4).1 hz hd hkz hkd hl).mono ?_
        rintro e w5 ⟨v5, rfl, I5, hb5⟩
        have hk5 := below_then hk4 hb5
        have s5 := hk5.size
        clear hb5 hk4 hC4 h h2 h3 htab
        go_wp2_with fail
        refine (copyItems_any v5 (nearZ z d ks) _ I5 (by omega) hm.2).mono ?_
        rintro e w6 ⟨v6, rfl, Z6, hb6⟩
        have HK : Hid (Below w.heap.size w w6) := below_then hk5 hb6
        have R : Hid (OwnZ w6 w.heap.size w6.heap.size v6 (nearZ z d ks)) := Z6.wide s5 (Nat.le_refl _) (Nat.le_refl _)
        clear hk5 hb6 Z6 I5 hm
        go_wp2
        go_ret
        exact ⟨_, rfl, R.out, HK.out⟩

theorem near_hit {d : List It} {ks r : List Int} {k : Nat} (hk : k < d.length) (h : keyZ (d.getD k ([], 0)).1 ks = keyZ r ks) : isNear d ks r = true := by
  unfold isNear
  rw [List.any_eq_true]
  exact ⟨d.getD k ([], 0), by simp [List.getD, hk], decide_eq_true h⟩
theorem near_miss {d : List It} {ks r : List Int} (h : ∀ k, k < d.length → ¬ keyZ (d.getD k ([], 0)).1 ks = keyZ r ks) : isNear d ks r = false := by
  unfold isNear
  rw [List.any_eq_false]
  intro q hq
  obtain ⟨j, hj, e⟩ := mem_getD (d := ([], 0)) hq
  rw [← e]
  simpa using h j hj

set_option maxHeartbeats 4000000 in
theorem l6In_any (v u rv0 : Value) (d : List It) (ks r : List Int) (w : World) (h : ItemsAt w v d) (h2 : IntsAt w u ks) (h3 : IntsAt w rv0 r) (hkd : haveAll d ks = true) (hkr : ∀ k ∈ ks, 0 ≤ k ∧ k < (r.length : Int)) (hl : ks.length ≤ 6) :
    Calls Tryd.prog 50 #[v, u, rv0] w fun e w' => e = .returned (.bool (isNear d ks r)) ∧ Below w.heap.size w w' := by
  have hrow : ∀ k, k < d.length → ∀ q ∈ ks, 0 ≤ q ∧ q < ((d.getD k ([], 0)).1.length : Int) := fun k hk q hq => have_iff.1 hkd q hq _ (by simp [List.getD, hk])
  obtain ⟨c, HC⟩ : ∃ c, Hid (c = isNear d ks r) := ⟨_, rfl⟩
  rw [← HC.out]
  have HK2 : Hid (IntsAt w u ks) := h2
  have HR3 : Hid (IntsAt w rv0 r) := h3
  obtain ⟨ua, un, uc, rfl⟩ := h2.shape
  obtain ⟨qa, qn, qc, rfl⟩ := h3.shape
  clear h2 h3 hkd
  rcases h.cases with ⟨a, cap, rfl, rfl⟩ | ⟨b, off, cap, hpos, hlim, rfl, hbw, hc⟩
  · obtain rfl : c = false := by rw [HC.out]; rfl
    clear h hrow
    go_enter Tryd.func50, Tryd.ntmps50
    go_wp2
    refine wp_loop_rounds 1 ?_
    rw [rounds_succ]
    go_wp2
    go_ret
    exact ⟨rfl, Below.refl _ _⟩
  · clear h
    obtain ⟨n, hn⟩ : ∃ n, n = d.length := ⟨_, rfl⟩
    have HN : Hid (n = d.length) := hn
    rw [← hn] at hpos hlim hc hrow ⊢
    clear hn
    go_enter Tryd.func50, Tryd.ntmps50
    go_wp2
    go_loopw [7] (fun i wr => ∃ k : Nat, k ≤ n ∧ i = .int .i64 k ∧ Hid (∀ j, j < k → ¬ keyZ (d.getD j ([], 0)).1 ks = keyZ r ks) ∧ Hid (Below w.heap.size w wr)) (fun i _ => n - (intOf i).toNat)
    case atStart => exact ⟨0, Nat.zero_le _, rfl, fun j hj => by omega, Below.refl _ _⟩
    case round =>
      obtain ⟨k, hk, rfl, HA, HW⟩ := hrel
      by_cases hlt : k < n
      · have hlt' : k < d.length := by rw [← HN.out]; exact hlt
        have HB := HW.out
        obtain ⟨rv, hrv0, _, hix0⟩ := hc k hlt
        have hrv := (HB.cell (p := ⟨b, off + k * 2, none⟩) hbw).trans hrv0
        have hix := hix0.below HB
        have hr2 := hrow k hlt
        have hhit : keyZ (d.getD k ([], 0)).1 ks = keyZ r ks → c = true := fun h => by rw [HC.out]; exact near_hit hlt' h
        obtain ⟨x, HX⟩ : ∃ x, Hid (x = (d.getD k ([], 0)).1) := ⟨_, rfl⟩
        rw [← HX.out] at hix hr2 hhit
        obtain ⟨xa, xn, xc, rfl⟩ := hix.shape
        clear hc hrow hrv0 hix0
        go_wp2_with fail
        refine (l5Key_any _ _ x ks _ hix (HK2.out.below HB) hr2 hl).mono ?_
        rintro e w2 ⟨v2, rfl, O2, hb2⟩
        have hk2 := below_then HB hb2
        go_wp2_with fail
        refine (l5Key_any _ _ r ks _ (HR3.out.below hk2) (HK2.out.below hk2) hkr hl).mono ?_
        rintro e w3 ⟨v3, rfl, O3, hb3⟩
        have hk3 := below_then hk2 hb3
        have O2' := O2.keep' hb3
        clear O2 hb2 hb3 hk2 hrv hix
        go_wp2_with fail
        refine (specRowSame_any v2 v3 (keyZ x ks) (keyZ r ks) _ O2'.ints O3.ints).mono ?_
        rw [same_iff]
        rintro e w4 ⟨rfl, hb4⟩
        have HK4 : Hid (Below w.heap.size w w4) := below_then hk3 (by first | exact hb4 | exact hb4.below)
        clear O2' O3 hb4 hk3 HB HW
        by_cases hs : keyZ x ks = keyZ r ks
        · obtain rfl := hhit hs
          rw [decide_eq_true hs]
          clear hhit hr2
          go_wp2
          go_ret
          exact ⟨rfl, HK4.out⟩
        · rw [decide_eq_false hs]
          have HA2 : Hid (∀ j, j < k + 1 → ¬ keyZ (d.getD j ([], 0)).1 ks = keyZ r ks) := fun j hj => by
            rcases Nat.lt_succ_iff_lt_or_eq.1 hj with h | h
            · exact HA.out j h
            · rw [h, ← HX.out]; exact hs
          clear hhit hr2
          go_wp2
          go_roundw
          case rel => exact ⟨k + 1, by omega, by go_num, HA2.out, HK4.out⟩
          case measure => simp [intOf]; omega
      · obtain rfl : k = n := by omega
        obtain rfl : c = false := by rw [HC.out]; exact near_miss (fun j hj => HA.out j (by rw [HN.out]; exact hj))
        clear hc hrow
        go_wp2
        go_ret
        exact ⟨rfl, HW.out⟩

set_option maxHeartbeats 8000000 in
theorem l6Near_any (v u kv : Value) (z d : List It) (ks : List Int) (w : World) (h : ItemsAt w v z) (h2 : ItemsAt w u d) (h3 : IntsAt w kv ks) (hz : zOkB z = true) (hkz : haveAll z ks = true) (hkd : haveAll d ks = true) (hl : ks.length ≤ 6) :
    Calls Tryd.prog 21 #[v, u, kv] w fun e w' => ∃ v', e = .returned v' ∧ OwnZ w' w.heap.size w'.heap.size v' (nearZ z d ks) ∧ Below w.heap.size w w' := by
  obtain ⟨i0, hi, hz0, hz1, hz2⟩ := info_parts infoItem
  have hrow : ∀ k, k < z.length → ∀ q ∈ ks, 0 ≤ q ∧ q < ((z.getD k ([], 0)).1.length : Int) := fun k hk q hq => have_iff.1 hkz q hq _ (by simp [List.getD, hk])
  have hrl6 : ∀ k, k < z.length → (z.getD k ([], 0)).1.length ≤ 8796093022208 := (zOk_mild hz).2.1
  have hz100 := zOk_le hz
  have HKD : Hid (haveAll d ks = true) := hkd
  have HD2 : Hid (ItemsAt w u d) := h2
  have HK3 : Hid (IntsAt w kv ks) := h3
  obtain ⟨ka, kn, kc, rfl⟩ := h3.shape
  obtain ⟨da, dc, rfl⟩ : ∃ da dc, u = .slice da d.length dc := by obtain ⟨_, da, dc, hv, _⟩ := h2; exact ⟨da, dc, hv⟩
  clear h2 h3 hkd hz hkz
  rcases h.cases with ⟨a, cap, rfl, rfl⟩ | ⟨b, off, cap, hpos, hlim', rfl, hbw, hc⟩
  · clear h hrow hrl6
    go_enter Tryd.func21, Tryd.ntmps21
    go_wp2
    refine wp_loop_rounds 1 ?_
    rw [rounds_succ]
    go_wp2
    go_ret
    exact ⟨_, rfl, lit_ownZ w, below_alloc _⟩
  · clear h hlim'
    obtain ⟨n, hn⟩ : ∃ n, n = z.length := ⟨_, rfl⟩
    have HN : Hid (n = z.length) := hn
    rw [← hn] at hpos hc hrow hrl6 hz100 ⊢
    clear hn
    go_enter Tryd.func21, Tryd.ntmps21
    go_wp2
    go_loopw [7, 8] (fun s i wr => ∃ (k : Nat), k ≤ n ∧ i = .int .i64 k ∧ Hid (OwnZ wr w.heap.size wr.heap.size s (nearZ (z.take k) d ks)) ∧ Hid (Below w.heap.size w wr)) (fun _ i _ => n - (intOf i).toNat)
    case atStart => exact ⟨0, Nat.zero_le _, rfl, lit_ownZ w, below_alloc _⟩
    case round =>
      obtain ⟨k, hk, rfl, HZ, HW⟩ := hrel
      by_cases hlt : k < n
      · have hlt' : k < z.length := by rw [← HN.out]; exact hlt
        have HB := HW.out
        obtain ⟨rv, hrv0, hwt0, hix0⟩ := hc k hlt
        have hrv := (HB.cell (p := ⟨b, off + k * 2, none⟩) hbw).trans hrv0
        have hix := hix0.below HB
        have hbr : b < wr.heap.size := Nat.lt_of_lt_of_le hbw HB.size
        have hxl := hrl6 k hlt
        have hr2 := hrow k hlt
        have hpl : (nearZ (z.take k) d ks).length ≤ 100 := by have := nearZ_len (z.take k) d ks; rw [List.length_take] at this; omega
        have HT : Hid (nearZ (z.take (k + 1)) d ks = _) := near_take (d := d) (ks := ks) hlt'
        obtain ⟨x, HX⟩ : ∃ x, Hid (x = (z.getD k ([], 0)).1) := ⟨_, rfl⟩
        obtain ⟨y, HY⟩ : ∃ y, Hid (y = (z.getD k ([], 0)).2) := ⟨_, rfl⟩
        rw [← HX.out] at hix hr2 HT hxl hix0
        rw [← HY.out] at hwt0 HT
        obtain ⟨ra, rn, rc, rfl⟩ := hix.shape
        obtain ⟨c, HC⟩ : ∃ c, Hid (c = isNear d ks x) := ⟨_, rfl⟩
        rw [← HC.out] at HT
        clear hc hrow hrl6
        go_wp2_with fail
        refine (l6In_any _ _ _ d ks x _ (HD2.out.below HB) (HK3.out.below HB) hix HKD.out hr2 hl).mono ?_
        rw [← HC.out]
        rintro e w1 ⟨rfl, hb1⟩
        have hk1 := below_then HB hb1
        have Z1 : OwnZ w1 w.heap.size w1.heap.size u7 (nearZ (z.take k) d ks) := (HZ.out.keep' hb1).wide (Nat.le_refl _) hb1.size (Nat.le_refl _)
        have hs1 := hk1.size
        have hrv1 := (hk1.cell (p := ⟨b, off + k * 2, none⟩) hbw).trans hrv0
        have hwt1 := (hk1.cell (p := ⟨b, off + k * 2 + 1, none⟩) hbw).trans hwt0
        have hix1 := hix0.below hk1
        have hbr1 : b < w1.heap.size := Nat.lt_of_lt_of_le hbw hk1.size
        clear hrv hix hb1 HB HW HZ hrv0 hwt0 hix0 hr2
        cases hcc : c with
        | false =>
          have HTT : Hid (nearZ (z.take (k + 1)) d ks = nearZ (z.take k) d ks) := by show _ = _; rw [HT.out, hcc]; simp
          have HZ1 : Hid (OwnZ w1 w.heap.size w1.heap.size u7 (nearZ (z.take k) d ks)) := Z1
          have HK1 : Hid (Below w.heap.size w w1) := hk1
          subst hcc
          clear Z1 hk1 HT hrv1 hwt1 hix1
          go_wp2
          go_roundw
          case rel => exact ⟨k + 1, by omega, by go_num, by show OwnZ _ _ _ _ _; rw [HTT.out]; exact HZ1.out, HK1.out⟩
          case measure => simp [intOf]; omega
        | true =>
          have HTT : Hid (nearZ (z.take (k + 1)) d ks = nearZ (z.take k) d ks ++ [(x, y)]) := by show _ = _; rw [HT.out, hcc]; simp
          subst hcc
          have Z5d : OwnZ w1.drew w.heap.size w1.drew.heap.size u7 (nearZ (z.take k) d ks) := Z1.keep' (Below.drew (Below.refl _ _))
          have hixd : IntsAt w1.drew (.slice ra rn rc) x := hix1.below (Below.drew (Below.refl _ _))
          have hwtd : w1.drew.cell? ⟨b, off + k * 2 + 1, none⟩ = some (.int .i64 y) := hwt1
          have hszw : w.heap.size ≤ w1.drew.heap.size := hs1
          have HBd : Below w.heap.size w w1.drew := hk1.drew
          clear Z1 hk1 HT hix1
          go_wp2
          go_region_law (first
            | (go_simp; go_at_call 51; (refine (l1Copy_any _ x _ hixd hxl).mono ?_; rintro e w2 ⟨rv2, rfl, O2, hk2⟩; obtain ⟨ra2, rn2, rc2, rfl⟩ := O2.ints.shape; have hwt2 := cell_is (p := ⟨b, off + k * 2 + 1, none⟩) hk2 hbr1 hwtd; have hszk := hk2.size; obtain ⟨ps, hpsl, hspW, hprW, hfin⟩ := (Z5d.keep' hk2).ready y O2 (Nat.le_refl _) (by omega) (by omega) (by omega); have hpl2 : ps.length ≤ 100 := (by omega)))
            | ((refine step_append_pairs rfl (.tmp 24) (.tmp 37) 25 rfl w.heap.size 43 i0 Tryd.underlying25 hi hz0 hz1 hz2 u7 ps (by simp [Act.eval]) hspW ⟨w2.heap.size, 0, none⟩ 1 1 [(.slice ra2 rn2 rc2, y)] (by simp [Act.eval]) rfl (news_lit _ _ _ _) (fun p hp => by simp at hp; subst hp; exact ⟨_, _, _, rfl⟩) (by simp; omega) (by simp; omega) ?_; intro v3 w3 hown3 hg3)))
          all_goals
            obtain ⟨Z3, B3⟩ := hfin v3 w3 hown3 hg3
            have HK : Hid (Below w.heap.size w w3) := HBd.trans ((hk2.mono hszw).trans B3)
            clear hfin hown3 hg3 hspW hprW B3 hk2 HBd Z5d hixd O2
            go_wp2
            go_roundw
            case rel => exact ⟨k + 1, by omega, by go_num, by show OwnZ _ _ _ _ _; rw [HTT.out]; exact Z3, HK.out⟩
            case measure => simp [intOf]; omega
      · obtain rfl : k = n := by omega
        have hZ := HZ.out
        rw [HN.out, List.take_length] at hZ
        clear hc hrow hrl6
        go_wp2
        go_ret
        exact ⟨_, rfl, hZ, HW.out⟩

end Go.Proofs.YtjbfgfgldchfnaaDoor
