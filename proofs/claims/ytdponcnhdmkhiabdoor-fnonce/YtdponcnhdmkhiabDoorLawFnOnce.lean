/-
  The walk of laws.FnOnce, out of the contracts: whatever the bytes are, it answers true, and nothing that was there is written. Condition: the error of chapter 3 reads as it was laid.
-/
import Derived.Test.YtdponcnhdmkhiabDoorWhereFacts
import Derived.Test.YtdponcnhdmkhiabDoorDrawW
import Derived.Test.YtdponcnhdmkhiabDoorLaidSent
import Derived.Deep.RegionHeld3
namespace Go.Proofs.YtdponcnhdmkhiabDoor
open Go.RowKit
set_option linter.unusedVariables false

theorem posZ_cons (q : It) (zs : List It) : posZ (q :: zs) = if 0 < q.2 then (q.1, 1) :: posZ zs else posZ zs := by
  unfold posZ
  rw [List.filter_cons]
  by_cases h : 0 < q.2 <;> simp [h]
theorem mem_posW {zs : List It} {q : It} (h : q ∈ posZ zs) : q.2 = 1 ∧ ∃ x ∈ zs, q.1 = x.1 := by
  unfold posZ at h
  obtain ⟨x, hx, rfl⟩ := List.mem_map.1 h
  exact ⟨rfl, x, (List.mem_filter.1 hx).1, rfl⟩
theorem srt_posW {zs : List It} (h : Srt zs) : Srt (posZ zs) := by
  unfold Srt posZ at *
  rw [List.pairwise_map]
  exact (h.sublist List.filter_sublist)
theorem zOk_posW {zs : List It} (h : zOkB zs = true) : zOkB (posZ zs) = true := by
  refine zOk_mkW (by have := posZ_len zs; have := zOk_le h; omega) (fun q hq => ?_) (srt_posW (zOk_srt h))
  obtain ⟨e1, x, hx, e2⟩ := mem_posW hq
  obtain ⟨j, hj, e⟩ := mem_getD (d := ([], 0)) hx
  rw [e1, e2, ← e]
  exact ⟨(zOk_row h hj).1, by decide⟩
theorem nz_posW (zs : List It) : Nz (posZ zs) := fun q hq => by rw [(mem_posW hq).1]; omega
theorem getZ_posW {q : List Int} : ∀ {zs : List It}, Srt zs → getZ (posZ zs) q = if 0 < getZ zs q then 1 else 0
  | [], _ => by simp [posZ, getZ_nil]
  | x :: zs, h => by
    have ih := getZ_posW (q := q) (Srt.cons.1 h).2
    rw [posZ_cons, getZ_cons]
    by_cases e : x.1 = q
    · have h0 : getZ zs q = 0 := by rw [← e]; exact getZ_ahead h
      rw [h0] at ih
      by_cases hx : 0 < x.2
      · rw [if_pos hx, getZ_cons, if_pos e, if_pos e, if_pos hx]
      · rw [if_neg hx, ih, if_pos e, if_neg hx]; rfl
    · by_cases hx : 0 < x.2
      · rw [if_pos hx, getZ_cons, if_neg e, if_neg e, ih]
      · rw [if_neg hx, if_neg e, ih]
theorem getZ_up {q : List Int} : ∀ {zs : List It}, (∀ x ∈ zs, 0 ≤ x.2) → 0 ≤ getZ zs q
  | [], _ => by simp [getZ_nil]
  | x :: zs, h => by
    rw [getZ_cons]
    split
    · exact h x (by simp)
    · exact getZ_up fun y hy => h y (by simp [hy])
/-- What is there once of two lists together, where nothing is missing. -/
theorem pos_add {zs ys : List It} (hz : zOkB zs = true) (hy : zOkB ys = true) (h1 : ∀ x ∈ zs, 0 ≤ x.2) (h2 : ∀ x ∈ ys, 0 ≤ x.2) : posZ (addZ zs ys) = posZ (addZ (posZ zs) (posZ ys)) := by
  have s1 := zOk_srt hz
  have s2 := zOk_srt hy
  have p1 := srt_posW s1
  have p2 := srt_posW s2
  refine canon (srt_posW (srt_add s1)) (nz_posW _) (srt_posW (srt_add p1)) (nz_posW _) fun q => ?_
  rw [getZ_posW (srt_add s1), getZ_posW (srt_add p1), getZ_add s1 s2, getZ_add p1 p2, getZ_posW s1, getZ_posW s2]
  have u1 := getZ_up (q := q) h1
  have u2 := getZ_up (q := q) h2
  by_cases c1 : 0 < getZ zs q
  · by_cases c2 : 0 < getZ ys q
    · rw [if_pos c1, if_pos c2, if_pos (by omega)]; rfl
    · rw [if_pos c1, if_neg c2, if_pos (by omega)]; rfl
  · by_cases c2 : 0 < getZ ys q
    · rw [if_neg c1, if_pos c2, if_pos (by omega)]; rfl
    · rw [if_neg c1, if_neg c2, if_neg (by omega)]; rfl
theorem where_pos (t : Tst) (zs : List It) : whereZ t (posZ zs) = posZ (whereZ t zs) := by
  induction zs with
  | nil => rfl
  | cons x zs ih =>
    rw [posZ_cons]
    unfold whereZ at *
    rw [List.filter_cons]
    by_cases hv : t.valB x.1 = true
    · rw [if_pos hv, posZ_cons]
      by_cases hx : 0 < x.2
      · rw [if_pos hx, if_pos hx, List.filter_cons, if_pos hv, ih]
      · rw [if_neg hx, if_neg hx, ih]
    · rw [if_neg hv]
      by_cases hx : 0 < x.2
      · rw [if_pos hx, List.filter_cons, if_neg hv, ih]
      · rw [if_neg hx, ih]

set_option maxRecDepth 100000 in
set_option maxHeartbeats 8000000 in
theorem lawFnOnce (a : Option Addr) (len cap : Nat) (bs : List Int) (a2 : Option Addr) (len2 cap2 : Nat) (bs2 : List Int) (w : World) (h : IsRow .u8 w a len cap bs) (h2 : IsRow .u8 w a2 len2 cap2 bs2) (hs : HasSent w) :
    Calls Tryd.prog 5 #[.slice a len cap, .slice a2 len2 cap2] w fun e w' => e = .returned (.bool true) ∧ Below w.heap.size w w' := by
  by_cases hlim : len ≤ 1048576
  · by_cases hlim2 : len2 ≤ 1048576
    · obtain ⟨p, hp⟩ := hs
      go_enter Tryd.func5, Tryd.ntmps5
      go_wp2_with fail
      refine (drawWhereOf_any a len cap bs _ h).mono ?_
      rintro e w1 ⟨vz, ⟨tk, tn, ⟨lk, la, lb, ln⟩, ⟨rk, ra, rb, rn⟩⟩, rfl, hlow, zs, hgz, hz1, hb1⟩
      simp only
      obtain ⟨za, zc, rfl⟩ := hz1.shape
      have B1 : Hid (Below w.heap.size w w1) := hb1
      have HZ1 : Hid (TailZ w1 (.slice za zs.length zc) zs) := hz1
      have HP : Hid (Sent w p) := hp
      have H2 : Hid (IsRow .u8 w a2 len2 cap2 bs2) := h2
      clear hlow hz1 hb1 hp h h2
      go_wp2_with fail
      refine (drawWhereOf_any a2 len2 cap2 bs2 _ (H2.out.below (bel_then B1.out (bel_alloc _)))).mono ?_
      rintro e w2 ⟨vy, ⟨tk2, tn2, ⟨lk2, la2, lb2, ln2⟩, ⟨rk2, ra2, rb2, rn2⟩⟩, rfl, hlow, ys, hgy, hy2, hb2⟩
      simp only
      obtain ⟨ya, yc, rfl⟩ := hy2.shape
      have X2 : Hid (Box10 w2 w1.heap.size ⟨tk, tn, ⟨lk, la, lb, ln⟩, ⟨rk, ra, rb, rn⟩⟩) := (Box10.start w1 ⟨tk, tn, ⟨lk, la, lb, ln⟩, ⟨rk, ra, rb, rn⟩⟩ _).below hb2
      have B2 : Hid (Below w.heap.size w w2) := bel_then (bel_then B1.out (bel_alloc _)) hb2
      have Tz2 : Hid (TailZ w2 (.slice za zs.length zc) zs) := (HZ1.out.below (bel_alloc _)).below hb2
      have Ty2 : Hid (TailZ w2 (.slice ya ys.length yc) ys) := hy2
      have hzl : zs.length ≤ 200 := hgz.1
      have hyl : ys.length ≤ 200 := hgy.1
      obtain ⟨os, HO⟩ : ∃ os, Hid (whereOut ⟨tk, tn, ⟨lk, la, lb, ln⟩, ⟨rk, ra, rb, rn⟩⟩ zs = os) := ⟨_, Eq.refl _⟩
      obtain ⟨d, HD⟩ : ∃ d, Hid (whereOk ⟨tk, tn, ⟨lk, la, lb, ln⟩, ⟨rk, ra, rb, rn⟩⟩ zs = d) := ⟨_, Eq.refl _⟩
      have hdd : (d != d) = false := by simp
      have hde : (d == d) = true := by simp
      clear hlow hgz hgy hy2 hb2 HZ1 B1
      obtain ⟨⟨c0, c1, c2, c3, c4⟩, c5, c6, c7, c8, c9⟩ := box_cells X2.out
      simp only at c0 c1 c2 c3 c4 c5 c6 c7 c8 c9
      have hxl2 : w1.heap.size < w2.heap.size := X2.out.1
      go_wp2_with fail
      refine (where_val (t := ⟨tk, tn, ⟨lk, la, lb, ln⟩, ⟨rk, ra, rb, rn⟩⟩) HD.out HO.out (HP.out.below (below_then B2.out (below_alloc _))) (Tz2.out.below (below_alloc _))).mono ?_
      rintro e w3 ⟨v3, rfl, h3, hb3q⟩
      have hb3 : Below w2.heap.size w2 w3 := below_then (below_alloc _) hb3q
      clear hb3q
      clear c0 c1 c2 c3 c4 c5 c6 c7 c8 c9
      have B3 : Hid (Below w.heap.size w w3) := below_then B2.out hb3
      have X3 : Hid (Box10 w3 w1.heap.size ⟨tk, tn, ⟨lk, la, lb, ln⟩, ⟨rk, ra, rb, rn⟩⟩) := X2.out.below hb3
      have Tz3 : Hid (TailZ w3 (.slice za zs.length zc) zs) := Tz2.out.below hb3
      have Ty3 : Hid (TailZ w3 (.slice ya ys.length yc) ys) := Ty2.out.below hb3
      clear hb3 B2 X2 Tz2 Ty2
      have Ta3 : Hid (TailZ w3 v3 os) := h3
      clear h3
      obtain ⟨⟨c0, c1, c2, c3, c4⟩, c5, c6, c7, c8, c9⟩ := box_cells X3.out
      simp only at c0 c1 c2 c3 c4 c5 c6 c7 c8 c9
      go_wp2_with fail
      refine (specWhere_val (t := ⟨tk, tn, ⟨lk, la, lb, ln⟩, ⟨rk, ra, rb, rn⟩⟩) HD.out HO.out Tz3.out).mono ?_
      rintro e w4 ⟨v4, rfl, h4, hb4⟩
      clear c0 c1 c2 c3 c4 c5 c6 c7 c8 c9
      have B4 : Hid (Below w.heap.size w w4) := below_then B3.out hb4
      have X4 : Hid (Box10 w4 w1.heap.size ⟨tk, tn, ⟨lk, la, lb, ln⟩, ⟨rk, ra, rb, rn⟩⟩) := X3.out.below hb4
      have Tz4 : Hid (TailZ w4 (.slice za zs.length zc) zs) := Tz3.out.below hb4
      have Ty4 : Hid (TailZ w4 (.slice ya ys.length yc) ys) := Ty3.out.below hb4
      have Ta4 : Hid (TailZ w4 v3 os) := Ta3.out.below hb4
      clear hb4 B3 X3 Tz3 Ty3 Ta3
      have Tb4 : Hid (TailZ w4 v4 os) := h4
      clear h4
      go_wp2_with fail
      refine (zsame_val (zsB_refl os) Ta4.out Tb4.out).mono ?_
      rintro e w5 ⟨rfl, hb5⟩
      have B5 : Hid (Below w.heap.size w w5) := below_then B4.out hb5
      have X5 : Hid (Box10 w5 w1.heap.size ⟨tk, tn, ⟨lk, la, lb, ln⟩, ⟨rk, ra, rb, rn⟩⟩) := X4.out.below hb5
      have Tz5 : Hid (TailZ w5 (.slice za zs.length zc) zs) := Tz4.out.below hb5
      have Ty5 : Hid (TailZ w5 (.slice ya ys.length yc) ys) := Ty4.out.below hb5
      have Ta5 : Hid (TailZ w5 v3 os) := Ta4.out.below hb5
      have Tb5 : Hid (TailZ w5 v4 os) := Tb4.out.below hb5
      clear hb5 B4 X4 Tz4 Ty4 Ta4 Tb4
      cases hd : d with
      | false =>
        subst hd
        go_wp2_with fail
        refine (zsame_val (zsB_refl os) Ta5.out Tb5.out).mono ?_
        rintro e w6 ⟨rfl, hb6⟩
        have hk6 := below_then B5.out hb6
        clear hb6
        go_wp2
        go_ret
        exact ⟨rfl, hk6⟩
      | true =>
        clear Tb5
        have HT : Hid (whereOk ⟨tk, tn, ⟨lk, la, lb, ln⟩, ⟨rk, ra, rb, rn⟩⟩ zs = true) := by rw [Hid, HD.out, hd]
        obtain ⟨hzok, htold, hout⟩ := where_true HT.out
        have HOZ : Hid (os = whereZ ⟨tk, tn, ⟨lk, la, lb, ln⟩, ⟨rk, ra, rb, rn⟩⟩ zs) := by rw [Hid, ← HO.out]; exact hout
        have HZOK : Hid (zOkB zs = true) := hzok
        have hook : zOkB os = true := by rw [HOZ.out]; exact whereZ_ok hzok
        have HPZ : Hid ((if zOkB zs then posZ zs else []) = posZ zs) := by rw [Hid, hzok]; rfl
        have HPO : Hid ((if zOkB os then posZ os else []) = posZ os) := by rw [Hid, hook]; rfl
        have HC : Hid (whereOk ⟨tk, tn, ⟨lk, la, lb, ln⟩, ⟨rk, ra, rb, rn⟩⟩ (posZ zs) = true ∧ whereOut ⟨tk, tn, ⟨lk, la, lb, ln⟩, ⟨rk, ra, rb, rn⟩⟩ (posZ zs) = posZ os) := by
          obtain ⟨e1, e2⟩ := where_mk (t := ⟨tk, tn, ⟨lk, la, lb, ln⟩, ⟨rk, ra, rb, rn⟩⟩) (zOk_posW hzok) (fun q hq => by
            obtain ⟨_, x, hx, e⟩ := mem_posW hq
            rw [e]
            exact htold x hx)
          refine ⟨e1, e2.trans ?_⟩
          rw [where_pos, HOZ.out]
        subst hd
        clear hzok htold hout hook
        obtain ⟨⟨c0, c1, c2, c3, c4⟩, c5, c6, c7, c8, c9⟩ := box_cells X5.out
        simp only at c0 c1 c2 c3 c4 c5 c6 c7 c8 c9
        have Y5 : w5.cell? ⟨w1.heap.size, 0, none⟩ = some (.int .i64 tk) ∧ w5.cell? ⟨w1.heap.size, 1, none⟩ = some (.bool tn) ∧ w5.cell? ⟨w1.heap.size, 2, none⟩ = some (.int .i64 lk) ∧ w5.cell? ⟨w1.heap.size, 3, none⟩ = some (.int .i64 la) ∧ w5.cell? ⟨w1.heap.size, 4, none⟩ = some (.int .i64 lb) ∧ w5.cell? ⟨w1.heap.size, 5, none⟩ = some (.int .i64 ln) ∧ w5.cell? ⟨w1.heap.size, 6, none⟩ = some (.int .i64 rk) ∧ w5.cell? ⟨w1.heap.size, 7, none⟩ = some (.int .i64 ra) ∧ w5.cell? ⟨w1.heap.size, 8, none⟩ = some (.int .i64 rb) ∧ w5.cell? ⟨w1.heap.size, 9, none⟩ = some (.int .i64 rn) := ⟨c0, c1, c2, c3, c4, c5, c6, c7, c8, c9⟩
        go_wp2
        clear c0 c1 c2 c3 c4 c5 c6 c7 c8 c9
        refine wp_region_held_drew (S := (fun w' => w'.cell? ⟨w1.heap.size, 0, none⟩ = some (.int .i64 tk) ∧ w'.cell? ⟨w1.heap.size, 1, none⟩ = some (.bool tn) ∧ w'.cell? ⟨w1.heap.size, 2, none⟩ = some (.int .i64 lk) ∧ w'.cell? ⟨w1.heap.size, 3, none⟩ = some (.int .i64 la) ∧ w'.cell? ⟨w1.heap.size, 4, none⟩ = some (.int .i64 lb) ∧ w'.cell? ⟨w1.heap.size, 5, none⟩ = some (.int .i64 ln) ∧ w'.cell? ⟨w1.heap.size, 6, none⟩ = some (.int .i64 rk) ∧ w'.cell? ⟨w1.heap.size, 7, none⟩ = some (.int .i64 ra) ∧ w'.cell? ⟨w1.heap.size, 8, none⟩ = some (.int .i64 rb) ∧ w'.cell? ⟨w1.heap.size, 9, none⟩ = some (.int .i64 rn))) (by kernel_rfl) ?_ (fun hHeld => ?_)
        · (try dsimp only); exact Y5
        refine wpAnyH_take (i := 0) (v := ?_) rfl (by kernel_rfl) (by kernel_rfl) (by kernel_rfl) (fun _ _ _ h => h) (Or.inl ⟨by rfl, ?_⟩) (by assumption) ?_
        rotate_left 1
        · intro w hSw; (try dsimp only at hSw); go_simp; try with_reducible rfl
        simp only [Act.put, List.getElem_toArray, List.getElem_cons_zero, List.setIfInBounds_toArray, List.set_cons_zero, List.set_cons_succ]
        refine wpAnyH_take (i := 2) (v := ?_) rfl (by kernel_rfl) (by kernel_rfl) (by kernel_rfl) (fun _ _ _ h => h) (Or.inl ⟨by rfl, ?_⟩) (by assumption) ?_
        rotate_left 1
        · intro w hSw; (try dsimp only at hSw); go_simp; try with_reducible rfl
        simp only [Act.put, List.getElem_toArray, List.getElem_cons_succ, List.getElem_cons_zero, List.setIfInBounds_toArray, List.set_cons_zero, List.set_cons_succ]
        refine wpAnyH_ready (rs := [1]) (by kernel_rfl) (by simp) ?_
        refine AllReadyH.cons rfl (fun K hK => ?_) AllReadyH.nil
        go_simp
        (go_at_call 16; refine (pos_val HPZ.out (Tz5.out.below (Below.drew (Below.refl _ _)))).mono ?_; rintro e w6 ⟨v6, rfl, h6, hb6⟩; have hk6 : Below w5.heap.size w5 w6 := (Below.drew (Below.refl _ w5)).trans hb6; have Y6 : w6.cell? ⟨w1.heap.size, 0, none⟩ = some (.int .i64 tk) ∧ w6.cell? ⟨w1.heap.size, 1, none⟩ = some (.bool tn) ∧ w6.cell? ⟨w1.heap.size, 2, none⟩ = some (.int .i64 lk) ∧ w6.cell? ⟨w1.heap.size, 3, none⟩ = some (.int .i64 la) ∧ w6.cell? ⟨w1.heap.size, 4, none⟩ = some (.int .i64 lb) ∧ w6.cell? ⟨w1.heap.size, 5, none⟩ = some (.int .i64 ln) ∧ w6.cell? ⟨w1.heap.size, 6, none⟩ = some (.int .i64 rk) ∧ w6.cell? ⟨w1.heap.size, 7, none⟩ = some (.int .i64 ra) ∧ w6.cell? ⟨w1.heap.size, 8, none⟩ = some (.int .i64 rb) ∧ w6.cell? ⟨w1.heap.size, 9, none⟩ = some (.int .i64 rn) := (by obtain ⟨⟨a0, a1, a2, a3, a4⟩, a5, a6, a7, a8, a9⟩ := box_cells (X5.out.below hk6); exact ⟨a0, a1, a2, a3, a4, a5, a6, a7, a8, a9⟩))
        refine hK.out _ _ ?_ (fun hHeld => ?_)
        · (try dsimp only); exact Y6
        clear hK K
        try simp only [Act.put, List.getElem_toArray, List.getElem_cons_succ, List.getElem_cons_zero, List.setIfInBounds_toArray, List.set_cons_zero, List.set_cons_succ]
        refine wpAnyH_ready (rs := [3]) (by kernel_rfl) (by simp) ?_
        refine AllReadyH.cons rfl (fun K hK => ?_) AllReadyH.nil
        go_simp
        (go_at_call 14; refine (where_val (t := ⟨tk, tn, ⟨lk, la, lb, ln⟩, ⟨rk, ra, rb, rn⟩⟩) HC.out.1 HC.out.2 (HP.out.below (below_then B5.out hk6)) h6).mono ?_; rintro e w7 ⟨v7, rfl, h7, hb7⟩; have hk7 : Below w5.heap.size w5 w7 := below_then hk6 hb7; have Y7 : w7.cell? ⟨w1.heap.size, 0, none⟩ = some (.int .i64 tk) ∧ w7.cell? ⟨w1.heap.size, 1, none⟩ = some (.bool tn) ∧ w7.cell? ⟨w1.heap.size, 2, none⟩ = some (.int .i64 lk) ∧ w7.cell? ⟨w1.heap.size, 3, none⟩ = some (.int .i64 la) ∧ w7.cell? ⟨w1.heap.size, 4, none⟩ = some (.int .i64 lb) ∧ w7.cell? ⟨w1.heap.size, 5, none⟩ = some (.int .i64 ln) ∧ w7.cell? ⟨w1.heap.size, 6, none⟩ = some (.int .i64 rk) ∧ w7.cell? ⟨w1.heap.size, 7, none⟩ = some (.int .i64 ra) ∧ w7.cell? ⟨w1.heap.size, 8, none⟩ = some (.int .i64 rb) ∧ w7.cell? ⟨w1.heap.size, 9, none⟩ = some (.int .i64 rn) := (by obtain ⟨⟨a0, a1, a2, a3, a4⟩, a5, a6, a7, a8, a9⟩ := box_cells (X5.out.below hk7); exact ⟨a0, a1, a2, a3, a4, a5, a6, a7, a8, a9⟩))
        refine hK.out _ _ ?_ (fun hHeld => ?_)
        · (try dsimp only); exact Y7
        clear hK K
        try simp only [Act.put, List.getElem_toArray, List.getElem_cons_succ, List.getElem_cons_zero, List.setIfInBounds_toArray, List.set_cons_zero, List.set_cons_succ]
        refine wpAnyH_take (i := 4) (v := ?_) rfl (by kernel_rfl) (by kernel_rfl) (by kernel_rfl) (fun _ _ _ h => h) (Or.inl ⟨by rfl, ?_⟩) (by assumption) ?_
        rotate_left 1
        · intro w hSw; (try dsimp only at hSw); go_simp; try with_reducible rfl
        simp only [Act.put, List.getElem_toArray, List.getElem_cons_succ, List.getElem_cons_zero, List.setIfInBounds_toArray, List.set_cons_zero, List.set_cons_succ]
        refine wpAnyH_take (i := 5) (v := ?_) rfl (by kernel_rfl) (by kernel_rfl) (by kernel_rfl) (fun _ _ _ h => h) (Or.inl ⟨by rfl, ?_⟩) (by assumption) ?_
        rotate_left 1
        · intro w hSw; (try dsimp only at hSw); go_simp; try with_reducible rfl
        simp only [Act.put, List.getElem_toArray, List.getElem_cons_succ, List.getElem_cons_zero, List.setIfInBounds_toArray, List.set_cons_zero, List.set_cons_succ]
        refine wpAnyH_take (i := 6) (v := ?_) rfl (by kernel_rfl) (by kernel_rfl) (by kernel_rfl) (fun _ _ _ h => h) (Or.inl ⟨by rfl, ?_⟩) (by assumption) ?_
        rotate_left 1
        · intro w hSw; (try dsimp only at hSw); go_simp; try with_reducible rfl
        simp only [Act.put, List.getElem_toArray, List.getElem_cons_succ, List.getElem_cons_zero, List.setIfInBounds_toArray, List.set_cons_zero, List.set_cons_succ]
        refine wpAnyH_take (i := 7) (v := ?_) rfl (by kernel_rfl) (by kernel_rfl) (by kernel_rfl) (fun _ _ _ h => h) (Or.inl ⟨by rfl, ?_⟩) (by assumption) ?_
        rotate_left 1
        · intro w hSw; (try dsimp only at hSw); go_simp; try with_reducible rfl
        simp only [Act.put, List.getElem_toArray, List.getElem_cons_succ, List.getElem_cons_zero, List.setIfInBounds_toArray, List.set_cons_zero, List.set_cons_succ]
        refine wpAnyH_take (i := 8) (v := ?_) rfl (by kernel_rfl) (by kernel_rfl) (by kernel_rfl) (fun _ _ _ h => h) (Or.inl ⟨by rfl, ?_⟩) (by assumption) ?_
        rotate_left 1
        · intro w hSw; (try dsimp only at hSw); go_simp; try with_reducible rfl
        simp only [Act.put, List.getElem_toArray, List.getElem_cons_succ, List.getElem_cons_zero, List.setIfInBounds_toArray, List.set_cons_zero, List.set_cons_succ]
        refine wpAnyH_done (by kernel_rfl) ?_ _
        clear Y5 Y6 Y7 hb6 hb7 hk6 h6
        have B7 : Hid (Below w.heap.size w w7) := below_then B5.out hk7
        have X7 : Hid (Box10 w7 w1.heap.size ⟨tk, tn, ⟨lk, la, lb, ln⟩, ⟨rk, ra, rb, rn⟩⟩) := X5.out.below hk7
        have Tz7 : Hid (TailZ w7 (.slice za zs.length zc) zs) := Tz5.out.below hk7
        have Ty7 : Hid (TailZ w7 (.slice ya ys.length yc) ys) := Ty5.out.below hk7
        have Ta7 : Hid (TailZ w7 v3 os) := Ta5.out.below hk7
        clear hk7 B5 X5 Tz5 Ty5 Ta5
        have Tc7 : Hid (TailZ w7 v7 (posZ os)) := h7
        clear h7
        go_wp2_with fail
        refine (pos_val HPO.out Ta7.out).mono ?_
        rintro e w8 ⟨v8, rfl, h8, hb8⟩
        have B8 : Hid (Below w.heap.size w w8) := below_then B7.out hb8
        have X8 : Hid (Box10 w8 w1.heap.size ⟨tk, tn, ⟨lk, la, lb, ln⟩, ⟨rk, ra, rb, rn⟩⟩) := X7.out.below hb8
        have Tz8 : Hid (TailZ w8 (.slice za zs.length zc) zs) := Tz7.out.below hb8
        have Ty8 : Hid (TailZ w8 (.slice ya ys.length yc) ys) := Ty7.out.below hb8
        have Ta8 : Hid (TailZ w8 v3 os) := Ta7.out.below hb8
        have Tc8 : Hid (TailZ w8 v7 (posZ os)) := Tc7.out.below hb8
        clear hb8 B7 X7 Tz7 Ty7 Ta7 Tc7
        go_wp2_with fail
        refine (zsame_val (zsB_refl (posZ os)) Tc8.out h8).mono ?_
        rintro e w9 ⟨rfl, hb9⟩
        clear h8
        clear Tc8
        clear Ta8
        have B9 : Hid (Below w.heap.size w w9) := below_then B8.out hb9
        have X9 : Hid (Box10 w9 w1.heap.size ⟨tk, tn, ⟨lk, la, lb, ln⟩, ⟨rk, ra, rb, rn⟩⟩) := X8.out.below hb9
        have Tz9 : Hid (TailZ w9 (.slice za zs.length zc) zs) := Tz8.out.below hb9
        have Ty9 : Hid (TailZ w9 (.slice ya ys.length yc) ys) := Ty8.out.below hb9
        clear hb9 B8 X8 Tz8 Ty8
        obtain ⟨n, hn⟩ : ∃ n, n = zs.length := ⟨_, rfl⟩
        have HN : Hid (n = zs.length) := hn
        have HTZ : Hid (TailZ w9 (.slice za n zc) zs) := by rw [hn]; exact Tz9.out
        obtain ⟨m, hm⟩ : ∃ m, m = ys.length := ⟨_, rfl⟩
        have HM : Hid (m = ys.length) := hm
        have HTY : Hid (TailZ w9 (.slice ya m yc) ys) := by rw [hm]; exact Ty9.out
        rw [← hn, ← hm]
        rw [← hn] at hzl
        rw [← hm] at hyl
        clear hn hm Tz9 Ty9 X9
        go_wp2
        go_loopw [15] (fun i wr => ∃ k : Nat, k ≤ n ∧ i = .int .i64 k ∧ Hid (Below w9.heap.size w9 wr) ∧ Hid (∀ j, j < k → 0 ≤ (zs.getD j ([], 0)).2)) (fun i _ => n - (intOf i).toNat)
        case atStart => exact ⟨0, Nat.zero_le _, rfl, Below.refl _ _, fun j hj => by omega⟩
        case round =>
          obtain ⟨k, hk, rfl, HW, HJ⟩ := hrel
          by_cases hlt : k < n
          · have hkz : k < zs.length := by rw [← HN.out]; exact hlt
            obtain ⟨b, off, xa, xn, xc, rfl, hb, c0, c1, -⟩ := (HTZ.out.below HW.out).atW hkz
            obtain ⟨y, HY⟩ : ∃ y, Hid (y = (zs.getD k ([], 0)).2) := ⟨_, rfl⟩
            rw [← HY.out] at c1
            by_cases hy : y < 0
            · have hkk := below_then B9.out HW.out
              go_wp2
              go_ret
              exact ⟨rfl, hkk⟩
            · have HJ2 : Hid (∀ j, j < k + 1 → 0 ≤ (zs.getD j ([], 0)).2) := fun j hj => by
                rcases Nat.lt_succ_iff_lt_or_eq.1 hj with h | h
                · exact HJ.out j h
                · rw [h, ← HY.out]; omega
              go_wp2
              go_roundw
              case rel => exact ⟨k + 1, by omega, by go_num, HW.out, HJ2.out⟩
              case measure => simp [intOf]; omega
          · obtain rfl : k = n := by omega
            have HWZ := HW
            have HJZ := HJ
            obtain ⟨w10, hw10⟩ : ∃ w10, w10 = wr := ⟨_, rfl⟩
            rw [← hw10] at HWZ ⊢
            clear HW HJ hw10
            go_wp2
            go_loopw [16] (fun i wr => ∃ j : Nat, j ≤ m ∧ i = .int .i64 j ∧ Hid (Below w10.heap.size w10 wr) ∧ Hid (∀ l, l < j → 0 ≤ (ys.getD l ([], 0)).2)) (fun i _ => m - (intOf i).toNat)
            case atStart => exact ⟨0, Nat.zero_le _, rfl, Below.refl _ _, fun j hj => by omega⟩
            case round =>
              obtain ⟨j, hj, rfl, HW, HJ⟩ := hrel
              by_cases hlt2 : j < m
              · have hkz : j < ys.length := by rw [← HM.out]; exact hlt2
                obtain ⟨b, off, xa, xn, xc, rfl, hb, c0, c1, -⟩ := ((HTY.out.below HWZ.out).below HW.out).atW hkz
                obtain ⟨y, HY⟩ : ∃ y, Hid (y = (ys.getD j ([], 0)).2) := ⟨_, rfl⟩
                rw [← HY.out] at c1
                by_cases hy : y < 0
                · have hkk := below_then (below_then B9.out HWZ.out) HW.out
                  go_wp2
                  go_ret
                  exact ⟨rfl, hkk⟩
                · have HJ2 : Hid (∀ l, l < j + 1 → 0 ≤ (ys.getD l ([], 0)).2) := fun l hl => by
                    rcases Nat.lt_succ_iff_lt_or_eq.1 hl with h | h
                    · exact HJ.out l h
                    · rw [h, ← HY.out]; omega
                  go_wp2
                  go_roundw
                  case rel => exact ⟨j + 1, by omega, by go_num, HW.out, HJ2.out⟩
                  case measure => simp [intOf]; omega
              · obtain rfl : j = m := by omega
                obtain ⟨w11, hw11⟩ : ∃ w11, w11 = wr := ⟨_, rfl⟩
                rw [← hw11] at HW ⊢
                have Tz11 : Hid (TailZ w11 (.slice za k zc) zs) := (HTZ.out.below HWZ.out).below HW.out
                have Ty11 : Hid (TailZ w11 (.slice ya j yc) ys) := (HTY.out.below HWZ.out).below HW.out
                have B11 : Hid (Below w.heap.size w w11) := below_then (below_then B9.out HWZ.out) HW.out
                have HUZ : Hid (∀ x ∈ zs, 0 ≤ x.2) := fun x hx => by
                  obtain ⟨i, hi, e⟩ := mem_getD (d := ([], 0)) hx
                  rw [← e]
                  exact HJZ.out i (by rw [HN.out]; exact hi)
                have HUY : Hid (∀ x ∈ ys, 0 ≤ x.2) := fun x hx => by
                  obtain ⟨i, hi, e⟩ := mem_getD (d := ([], 0)) hx
                  rw [← e]
                  exact HJ.out i (by rw [HM.out]; exact hi)
                clear HW HJ hw11 HTZ HTY HWZ HJZ B9
                obtain ⟨ss, HSS⟩ : ∃ ss, Hid (addOut zs ys = ss) := ⟨_, Eq.refl _⟩
                obtain ⟨pp, HPP⟩ : ∃ pp, Hid (addOk zs ys = pp) := ⟨_, Eq.refl _⟩
                obtain ⟨py, HPY⟩ : ∃ py, Hid ((if zOkB ys then posZ ys else []) = py) := ⟨_, Eq.refl _⟩
                obtain ⟨us, HUS⟩ : ∃ us, Hid (addOut (posZ zs) py = us) := ⟨_, Eq.refl _⟩
                obtain ⟨qq, HQQ⟩ : ∃ qq, Hid (addOk (posZ zs) py = qq) := ⟨_, Eq.refl _⟩
                obtain ⟨s1, HS1⟩ : ∃ s1, Hid ((if zOkB ss then posZ ss else []) = s1) := ⟨_, Eq.refl _⟩
                obtain ⟨u1, HU1⟩ : ∃ u1, Hid ((if zOkB us then posZ us else []) = u1) := ⟨_, Eq.refl _⟩
                have HSAME : Hid (pp = true → qq = true → zsB s1 u1 = true) := fun e1 e2 => by
                  obtain ⟨_, hyok, hsok, hs1⟩ := addOk_true (HPP.out.trans e1)
                  obtain ⟨_, _, huok, hu1⟩ := addOk_true (HQQ.out.trans e2)
                  have e3 : py = posZ ys := by rw [← HPY.out, hyok]; rfl
                  rw [HSS.out] at hs1
                  rw [HUS.out] at hu1
                  rw [← HS1.out, ← HU1.out, hs1, hu1, hsok, huok, e3]
                  simp only [if_true]
                  rw [pos_add HZOK.out hyok HUZ.out HUY.out]
                  exact zsB_refl _
                go_wp2_with fail
                refine (add_val HPP.out HSS.out Tz11.out Ty11.out).mono ?_
                rintro e w12 ⟨v12, rfl, h12, hb12⟩
                have B12 : Hid (Below w.heap.size w w12) := below_then B11.out hb12
                have Tz12 : Hid (TailZ w12 (.slice za k zc) zs) := Tz11.out.below hb12
                have Ty12 : Hid (TailZ w12 (.slice ya j yc) ys) := Ty11.out.below hb12
                clear hb12 B11 Tz11 Ty11
                have Ts12 : Hid (TailZ w12 v12 ss) := h12
                clear h12
                go_wp2_with fail
                refine (pos_val HPZ.out Tz12.out).mono ?_
                rintro e w13 ⟨v13, rfl, h13, hb13⟩
                clear Tz12
                have B13 : Hid (Below w.heap.size w w13) := below_then B12.out hb13
                have Ty13 : Hid (TailZ w13 (.slice ya j yc) ys) := Ty12.out.below hb13
                have Ts13 : Hid (TailZ w13 v12 ss) := Ts12.out.below hb13
                clear hb13 B12 Ty12 Ts12
                have Tp13 : Hid (TailZ w13 v13 (posZ zs)) := h13
                clear h13
                go_wp2_with fail
                refine (pos_val HPY.out Ty13.out).mono ?_
                rintro e w14 ⟨v14, rfl, h14, hb14⟩
                clear Ty13
                have B14 : Hid (Below w.heap.size w w14) := below_then B13.out hb14
                have Ts14 : Hid (TailZ w14 v12 ss) := Ts13.out.below hb14
                have Tp14 : Hid (TailZ w14 v13 (posZ zs)) := Tp13.out.below hb14
                clear hb14 B13 Ts13 Tp13
                go_wp2_with fail
                refine (add_val HQQ.out HUS.out Tp14.out h14).mono ?_
                rintro e w15 ⟨v15, rfl, h15, hb15⟩
                clear h14
                clear Tp14
                have B15 : Hid (Below w.heap.size w w15) := below_then B14.out hb15
                have Ts15 : Hid (TailZ w15 v12 ss) := Ts14.out.below hb15
                clear hb15 B14 Ts14
                have Tu15 : Hid (TailZ w15 v15 us) := h15
                clear h15
                cases hpp : pp with
                | false =>
                  subst hpp
                  go_wp2
                  go_ret
                  exact ⟨rfl, B15.out⟩
                | true =>
                  cases hqq : qq with
                  | false =>
                    subst hpp hqq
                    go_wp2
                    go_ret
                    exact ⟨rfl, B15.out⟩
                  | true =>
                    have hsame := HSAME.out hpp hqq
                    subst hpp hqq
                    go_wp2_with fail
                    refine (pos_val HS1.out Ts15.out).mono ?_
                    rintro e w16 ⟨v16, rfl, h16, hb16⟩
                    have Tu16 := Tu15.out.below hb16
                    have hk16 := below_then B15.out hb16
                    clear Ts15 Tu15 B15 hb16
                    go_wp2_with fail
                    refine (pos_val HU1.out Tu16).mono ?_
                    rintro e w17 ⟨v17, rfl, h17, hb17⟩
                    have T17 := h16.below hb17
                    have hk17 := below_then hk16 hb17
                    clear h16 Tu16 hk16 hb17
                    go_wp2_with fail
                    refine (zsame_val hsame T17 h17).mono ?_
                    rintro e w18 ⟨rfl, hb18⟩
                    have hk18 := below_then hk17 hb18
                    clear T17 h17 hk17 hb18
                    go_wp2
                    go_ret
                    exact ⟨rfl, hk18⟩
    · have hbig : (1048576 : Int) < (len2 : Int) := by omega
      go_enter Tryd.func5, Tryd.ntmps5
      go_wp2
      go_ret
      exact ⟨rfl, Below.refl _ _⟩
  · have hbig : (1048576 : Int) < (len : Int) := by omega
    go_enter Tryd.func5, Tryd.ntmps5
    go_wp2
    go_ret
    exact ⟨rfl, Below.refl _ _⟩
end Go.Proofs.YtdponcnhdmkhiabDoor
