/-
  The walk of laws.FnWhereAll, out of the contracts: whatever the bytes are, it answers true, and nothing that was there is written. Condition: the error of chapter 3 reads as it was laid.
-/
import Derived.Test.YtdponcnhdmkhiacDoorWhereFacts
import Derived.Test.YtdponcnhdmkhiacDoorDrawW
import Derived.Test.YtdponcnhdmkhiacDoorLaidSent
namespace Go.Proofs.YtdponcnhdmkhiacDoor
open Go.RowKit
set_option linter.unusedVariables false

theorem col0_told {r : List Int} (h : rowOkB r = true) : Cel.toldB ⟨1, 0, 0, 0⟩ r = true := by
  have h1 : 1 ≤ r.length ∧ r.length ≤ 6 := by
    have h0 := h
    simp only [rowOkB, Bool.and_eq_true, decide_eq_true_eq] at h0
    omega
  have h2 := row_cell h (show 0 < r.length by omega)
  have hk : Cel.okB ⟨1, 0, 0, 0⟩ r.length = true := by
    unfold Cel.okB
    rw [decide_eq_true_eq]
    exact .inl ⟨rfl, ⟨Int.le_refl _, by show (0 : Int) < (r.length : Int); omega, by show (0 : Int) < 6; omega⟩, rfl, rfl⟩
  have h3 : Cel.num ⟨1, 0, 0, 0⟩ r = r.getD 0 0 := by simp [Cel.num]
  unfold Cel.toldB
  rw [h, hk, h3]
  simp [cellB]
  simpa using h2
theorem same_told {r : List Int} (h : rowOkB r = true) : Tst.toldB ⟨2, false, ⟨1, 0, 0, 0⟩, ⟨1, 0, 0, 0⟩⟩ r = true := by simp [Tst.toldB, col0_told h]
theorem less_told {r : List Int} (h : rowOkB r = true) : Tst.toldB ⟨1, false, ⟨1, 0, 0, 0⟩, ⟨1, 0, 0, 0⟩⟩ r = true := by simp [Tst.toldB, col0_told h]
theorem rows_ok {zs : List It} (h : zOkB zs = true) : ∀ p ∈ zs, rowOkB p.1 = true := fun p hp => by
  obtain ⟨j, hj, e⟩ := mem_getD (d := ([], 0)) hp
  rw [← e]
  exact (zOk_row h hj).1
theorem all_same (zs : List It) : whereOk ⟨2, false, ⟨1, 0, 0, 0⟩, ⟨1, 0, 0, 0⟩⟩ zs = zOkB zs ∧ (zOkB zs = true → whereOut ⟨2, false, ⟨1, 0, 0, 0⟩, ⟨1, 0, 0, 0⟩⟩ zs = zs) := by
  cases h : zOkB zs with
  | false => exact ⟨by simp [whereOk, h], fun e => by cases e⟩
  | true =>
    obtain ⟨h1, h2⟩ := where_mk (t := ⟨2, false, ⟨1, 0, 0, 0⟩, ⟨1, 0, 0, 0⟩⟩) h (fun p hp => same_told (rows_ok h p hp))
    refine ⟨h1, fun _ => h2.trans ?_⟩
    unfold whereZ
    rw [List.filter_eq_self]
    intro p hp
    rw [Tst.valB, same_told (rows_ok h p hp)]
    simp [Tst.holdsB]
theorem none_less (zs : List It) : whereOk ⟨1, false, ⟨1, 0, 0, 0⟩, ⟨1, 0, 0, 0⟩⟩ zs = zOkB zs ∧ whereOut ⟨1, false, ⟨1, 0, 0, 0⟩, ⟨1, 0, 0, 0⟩⟩ zs = [] := by
  cases h : zOkB zs with
  | false =>
    have : whereOk ⟨1, false, ⟨1, 0, 0, 0⟩, ⟨1, 0, 0, 0⟩⟩ zs = false := by simp [whereOk, h]
    exact ⟨this, where_false this⟩
  | true =>
    obtain ⟨h1, h2⟩ := where_mk (t := ⟨1, false, ⟨1, 0, 0, 0⟩, ⟨1, 0, 0, 0⟩⟩) h (fun p hp => less_told (rows_ok h p hp))
    refine ⟨h1, h2.trans ?_⟩
    unfold whereZ
    rw [List.filter_eq_nil_iff]
    intro p hp
    simp [Tst.valB, Tst.holdsB]

set_option maxRecDepth 100000 in
set_option maxHeartbeats 8000000 in
theorem lawFnWhereAll (a : Option Addr) (len cap : Nat) (bs : List Int) (w : World) (h : IsRow .u8 w a len cap bs) (hs : HasSent w) :
    Calls Tryd.prog 3 #[.slice a len cap] w fun e w' => e = .returned (.bool true) ∧ Below w.heap.size w w' := by
  by_cases hlim : len ≤ 1048576
  · obtain ⟨p, hp⟩ := hs
    go_enter Tryd.func3, Tryd.ntmps3
    go_wp2_with fail
    refine (drawWhereOf_any a len cap bs _ h).mono ?_
    rintro e w1 ⟨vz, ⟨tk, tn, ⟨lk, la, lb, ln⟩, ⟨rk, ra, rb, rn⟩⟩, rfl, hlow, zs, hgz, hz1, hb1⟩
    simp only
    obtain ⟨za, zc, rfl⟩ := hz1.shape
    have B1 : Hid (Below w.heap.size w w1) := hb1
    have HZ1 : Hid (TailZ w1 (.slice za zs.length zc) zs) := hz1
    have HP : Hid (Sent w p) := hp
    obtain ⟨al, HAS⟩ : ∃ al, Hid (whereOut ⟨2, false, ⟨1, 0, 0, 0⟩, ⟨1, 0, 0, 0⟩⟩ zs = al) := ⟨_, Eq.refl _⟩
    obtain ⟨d, HD⟩ : ∃ d, Hid (zOkB zs = d) := ⟨_, Eq.refl _⟩
    have HD1 : Hid (whereOk ⟨2, false, ⟨1, 0, 0, 0⟩, ⟨1, 0, 0, 0⟩⟩ zs = d) := (all_same zs).1.trans HD.out
    have HD2 : Hid (whereOk ⟨1, false, ⟨1, 0, 0, 0⟩, ⟨1, 0, 0, 0⟩⟩ zs = d) := (none_less zs).1.trans HD.out
    have hdd : (d != d) = false := by simp
    clear hlow hgz hz1 hb1 hp h
    go_wp2_with fail
    refine (where_val (t := ⟨2, false, ⟨1, 0, 0, 0⟩, ⟨1, 0, 0, 0⟩⟩) HD1.out HAS.out (HP.out.below (bel_then (bel_then B1.out (bel_alloc _)) (bel_alloc _))) ((HZ1.out.below (bel_alloc _)).below (bel_alloc _))).mono ?_
    rintro e w2 ⟨v2, rfl, h2, hb2⟩
    have Xt2 : Hid (Box10 w2 w1.heap.size ⟨tk, tn, ⟨lk, la, lb, ln⟩, ⟨rk, ra, rb, rn⟩⟩) := ((Box10.start w1 ⟨tk, tn, ⟨lk, la, lb, ln⟩, ⟨rk, ra, rb, rn⟩⟩ _).below (bel_alloc _)).below hb2
    have Xc2 : Hid (Box4 w2 (w1.heap.size + 1) ⟨1, 0, 0, 0⟩) := by
      have := (Box4.start (w1.alloc (.cells #[.int .i64 tk, .bool tn, .int .i64 lk, .int .i64 la, .int .i64 lb, .int .i64 ln, .int .i64 rk, .int .i64 ra, .int .i64 rb, .int .i64 rn] 27)) ⟨1, 0, 0, 0⟩ _).below hb2
      rw [alloc_size] at this
      exact this
    have B2 : Hid (Below w.heap.size w w2) := bel_then (bel_then (bel_then B1.out (bel_alloc _)) (bel_alloc _)) hb2
    have Tz2 : Hid (TailZ w2 (.slice za zs.length zc) zs) := ((HZ1.out.below (bel_alloc _)).below (bel_alloc _)).below hb2
    have Ta2 : Hid (TailZ w2 v2 al) := h2
    clear h2 hb2 HZ1 B1
    obtain ⟨_, k0, k1, k2, k3⟩ := Xc2.out
    simp only at k0 k1 k2 k3
    go_wp2_with fail
    refine (specWhere_val (t := ⟨2, false, ⟨1, 0, 0, 0⟩, ⟨1, 0, 0, 0⟩⟩) HD1.out HAS.out Tz2.out).mono ?_
    rintro e w3 ⟨v3, rfl, h3, hb3⟩
    clear k0 k1 k2 k3
    have B3 : Hid (Below w.heap.size w w3) := below_then B2.out hb3
    have Xt3 : Hid (Box10 w3 w1.heap.size ⟨tk, tn, ⟨lk, la, lb, ln⟩, ⟨rk, ra, rb, rn⟩⟩) := Xt2.out.below hb3
    have Xc3 : Hid (Box4 w3 (w1.heap.size + 1) ⟨1, 0, 0, 0⟩) := Xc2.out.below hb3
    have Tz3 : Hid (TailZ w3 (.slice za zs.length zc) zs) := Tz2.out.below hb3
    have Ta3 : Hid (TailZ w3 v2 al) := Ta2.out.below hb3
    clear hb3 B2 Xt2 Xc2 Tz2 Ta2
    have Tw3 : Hid (TailZ w3 v3 al) := h3
    clear h3
    go_wp2_with fail
    refine (zsame_val (zsB_refl al) Ta3.out Tw3.out).mono ?_
    rintro e w4 ⟨rfl, hb4⟩
    clear Tw3
    have B4 : Hid (Below w.heap.size w w4) := below_then B3.out hb4
    have Xt4 : Hid (Box10 w4 w1.heap.size ⟨tk, tn, ⟨lk, la, lb, ln⟩, ⟨rk, ra, rb, rn⟩⟩) := Xt3.out.below hb4
    have Xc4 : Hid (Box4 w4 (w1.heap.size + 1) ⟨1, 0, 0, 0⟩) := Xc3.out.below hb4
    have Tz4 : Hid (TailZ w4 (.slice za zs.length zc) zs) := Tz3.out.below hb4
    have Ta4 : Hid (TailZ w4 v2 al) := Ta3.out.below hb4
    clear hb4 B3 Xt3 Xc3 Tz3 Ta3
    cases hd : d with
    | false =>
      subst hd
      obtain ⟨_, k0, k1, k2, k3⟩ := Xc4.out
      simp only at k0 k1 k2 k3
      go_wp2_with fail
      refine (where_val (t := ⟨1, false, ⟨1, 0, 0, 0⟩, ⟨1, 0, 0, 0⟩⟩) HD2.out (none_less zs).2 (HP.out.below B4.out) Tz4.out).mono ?_
      rintro e w6 ⟨v6, rfl, h6, hb6⟩
      obtain ⟨na, nc, rfl⟩ := h6.empty
      clear h6
      clear k0 k1 k2 k3
      have B6 : Hid (Below w.heap.size w w6) := below_then B4.out hb6
      have Xt6 : Hid (Box10 w6 w1.heap.size ⟨tk, tn, ⟨lk, la, lb, ln⟩, ⟨rk, ra, rb, rn⟩⟩) := Xt4.out.below hb6
      have Xc6 : Hid (Box4 w6 (w1.heap.size + 1) ⟨1, 0, 0, 0⟩) := Xc4.out.below hb6
      have Tz6 : Hid (TailZ w6 (.slice za zs.length zc) zs) := Tz4.out.below hb6
      have Ta6 : Hid (TailZ w6 v2 al) := Ta4.out.below hb6
      clear hb6 B4 Xt4 Xc4 Tz4 Ta4
      obtain ⟨_, k0, k1, k2, k3⟩ := Xc6.out
      simp only at k0 k1 k2 k3
      obtain ⟨⟨c0, c1, c2, c3, c4⟩, c5, c6, c7, c8, c9⟩ := box_cells Xt6.out
      simp only at c0 c1 c2 c3 c4 c5 c6 c7 c8 c9
      have hl6 : w1.heap.size < w6.heap.size := Xt6.out.1
      have hl6' : w1.heap.size + 1 < w6.heap.size := Xc6.out.1
      obtain ⟨os, HOS⟩ : ∃ os, Hid (whereOut ⟨tk, tn, ⟨lk, la, lb, ln⟩, ⟨rk, ra, rb, rn⟩⟩ zs = os) := ⟨_, Eq.refl _⟩
      obtain ⟨pp, HPP⟩ : ∃ pp, Hid (whereOk ⟨tk, tn, ⟨lk, la, lb, ln⟩, ⟨rk, ra, rb, rn⟩⟩ zs = pp) := ⟨_, Eq.refl _⟩
      obtain ⟨qs, HQS⟩ : ∃ qs, Hid (whereOut ⟨1, false, ⟨1, 0, 0, 0⟩, ⟨2, 0, 0, 2⟩⟩ os = qs) := ⟨_, Eq.refl _⟩
      obtain ⟨qq, HQQ⟩ : ∃ qq, Hid (whereOk ⟨1, false, ⟨1, 0, 0, 0⟩, ⟨2, 0, 0, 2⟩⟩ os = qq) := ⟨_, Eq.refl _⟩
      obtain ⟨ds, HDS⟩ : ∃ ds, Hid (whereOut ⟨1, false, ⟨1, 0, 0, 0⟩, ⟨2, 0, 0, 2⟩⟩ zs = ds) := ⟨_, Eq.refl _⟩
      obtain ⟨rr, HRR⟩ : ∃ rr, Hid (whereOk ⟨1, false, ⟨1, 0, 0, 0⟩, ⟨2, 0, 0, 2⟩⟩ zs = rr) := ⟨_, Eq.refl _⟩
      obtain ⟨es, HES⟩ : ∃ es, Hid (whereOut ⟨tk, tn, ⟨lk, la, lb, ln⟩, ⟨rk, ra, rb, rn⟩⟩ ds = es) := ⟨_, Eq.refl _⟩
      obtain ⟨ss, HSS⟩ : ∃ ss, Hid (whereOk ⟨tk, tn, ⟨lk, la, lb, ln⟩, ⟨rk, ra, rb, rn⟩⟩ ds = ss) := ⟨_, Eq.refl _⟩
      have HSAME : Hid (pp = true → qq = true → rr = true → ss = true → zsB qs es = true) := fun h1 h2 h3 h4 => by
        have e1 := (where_true (HPP.out.trans h1)).2.2
        have e2 := (where_true (HQQ.out.trans h2)).2.2
        have e3 := (where_true (HRR.out.trans h3)).2.2
        have e4 := (where_true (HSS.out.trans h4)).2.2
        rw [HOS.out] at e1
        rw [HQS.out, e1] at e2
        rw [HDS.out] at e3
        rw [HES.out, e3] at e4
        rw [e2, e4, where_swap]
        exact zsB_refl _
      go_wp2_with fail
      refine (where_val (t := ⟨tk, tn, ⟨lk, la, lb, ln⟩, ⟨rk, ra, rb, rn⟩⟩) HPP.out HOS.out (HP.out.below (below_then B6.out (below_alloc _))) (Tz6.out.below (below_alloc _))).mono ?_
      rintro e w7 ⟨v7, rfl, h7, hb7⟩
      have hk7 : Below w6.heap.size w6 w7 := below_then (below_alloc _) hb7
      have Xu7 : Hid (Box10 w7 w6.heap.size ⟨1, false, ⟨1, 0, 0, 0⟩, ⟨2, 0, 0, 2⟩⟩) := (Box10.start w6 ⟨1, false, ⟨1, 0, 0, 0⟩, ⟨2, 0, 0, 2⟩⟩ _).below hb7
      clear hb7
      clear k0 k1 k2 k3
      clear c0 c1 c2 c3 c4 c5 c6 c7 c8 c9
      have B7 : Hid (Below w.heap.size w w7) := below_then B6.out hk7
      have Xt7 : Hid (Box10 w7 w1.heap.size ⟨tk, tn, ⟨lk, la, lb, ln⟩, ⟨rk, ra, rb, rn⟩⟩) := Xt6.out.below hk7
      have Xc7 : Hid (Box4 w7 (w1.heap.size + 1) ⟨1, 0, 0, 0⟩) := Xc6.out.below hk7
      have Tz7 : Hid (TailZ w7 (.slice za zs.length zc) zs) := Tz6.out.below hk7
      have Ta7 : Hid (TailZ w7 v2 al) := Ta6.out.below hk7
      clear hk7 B6 Xt6 Xc6 Tz6 Ta6
      have To7 : Hid (TailZ w7 v7 os) := h7
      clear h7
      obtain ⟨⟨c0, c1, c2, c3, c4⟩, c5, c6, c7, c8, c9⟩ := box_cells Xu7.out
      simp only at c0 c1 c2 c3 c4 c5 c6 c7 c8 c9
      go_wp2_with fail
      refine (where_val (t := ⟨1, false, ⟨1, 0, 0, 0⟩, ⟨2, 0, 0, 2⟩⟩) HQQ.out HQS.out (HP.out.below B7.out) To7.out).mono ?_
      rintro e w8 ⟨v8, rfl, h8, hb8⟩
      clear c0 c1 c2 c3 c4 c5 c6 c7 c8 c9
      have B8 : Hid (Below w.heap.size w w8) := below_then B7.out hb8
      have Xt8 : Hid (Box10 w8 w1.heap.size ⟨tk, tn, ⟨lk, la, lb, ln⟩, ⟨rk, ra, rb, rn⟩⟩) := Xt7.out.below hb8
      have Xc8 : Hid (Box4 w8 (w1.heap.size + 1) ⟨1, 0, 0, 0⟩) := Xc7.out.below hb8
      have Xu8 : Hid (Box10 w8 w6.heap.size ⟨1, false, ⟨1, 0, 0, 0⟩, ⟨2, 0, 0, 2⟩⟩) := Xu7.out.below hb8
      have Tz8 : Hid (TailZ w8 (.slice za zs.length zc) zs) := Tz7.out.below hb8
      have Ta8 : Hid (TailZ w8 v2 al) := Ta7.out.below hb8
      have To8 : Hid (TailZ w8 v7 os) := To7.out.below hb8
      clear hb8 B7 Xt7 Xc7 Xu7 Tz7 Ta7 To7
      have Tq8 : Hid (TailZ w8 v8 qs) := h8
      clear h8
      obtain ⟨⟨c0, c1, c2, c3, c4⟩, c5, c6, c7, c8, c9⟩ := box_cells Xu8.out
      simp only at c0 c1 c2 c3 c4 c5 c6 c7 c8 c9
      go_wp2_with fail
      refine (where_val (t := ⟨1, false, ⟨1, 0, 0, 0⟩, ⟨2, 0, 0, 2⟩⟩) HRR.out HDS.out (HP.out.below B8.out) Tz8.out).mono ?_
      rintro e w9 ⟨v9, rfl, h9, hb9⟩
      clear c0 c1 c2 c3 c4 c5 c6 c7 c8 c9
      have B9 : Hid (Below w.heap.size w w9) := below_then B8.out hb9
      have Xt9 : Hid (Box10 w9 w1.heap.size ⟨tk, tn, ⟨lk, la, lb, ln⟩, ⟨rk, ra, rb, rn⟩⟩) := Xt8.out.below hb9
      have Xc9 : Hid (Box4 w9 (w1.heap.size + 1) ⟨1, 0, 0, 0⟩) := Xc8.out.below hb9
      have Xu9 : Hid (Box10 w9 w6.heap.size ⟨1, false, ⟨1, 0, 0, 0⟩, ⟨2, 0, 0, 2⟩⟩) := Xu8.out.below hb9
      have Tz9 : Hid (TailZ w9 (.slice za zs.length zc) zs) := Tz8.out.below hb9
      have Ta9 : Hid (TailZ w9 v2 al) := Ta8.out.below hb9
      have To9 : Hid (TailZ w9 v7 os) := To8.out.below hb9
      have Tq9 : Hid (TailZ w9 v8 qs) := Tq8.out.below hb9
      clear hb9 B8 Xt8 Xc8 Xu8 Tz8 Ta8 To8 Tq8
      have Td9 : Hid (TailZ w9 v9 ds) := h9
      clear h9
      obtain ⟨⟨c0, c1, c2, c3, c4⟩, c5, c6, c7, c8, c9⟩ := box_cells Xt9.out
      simp only at c0 c1 c2 c3 c4 c5 c6 c7 c8 c9
      go_wp2_with fail
      refine (where_val (t := ⟨tk, tn, ⟨lk, la, lb, ln⟩, ⟨rk, ra, rb, rn⟩⟩) HSS.out HES.out (HP.out.below B9.out) Td9.out).mono ?_
      rintro e w10 ⟨v10, rfl, h10, hb10⟩
      clear c0 c1 c2 c3 c4 c5 c6 c7 c8 c9
      have B10 : Hid (Below w.heap.size w w10) := below_then B9.out hb10
      have Xt10 : Hid (Box10 w10 w1.heap.size ⟨tk, tn, ⟨lk, la, lb, ln⟩, ⟨rk, ra, rb, rn⟩⟩) := Xt9.out.below hb10
      have Xc10 : Hid (Box4 w10 (w1.heap.size + 1) ⟨1, 0, 0, 0⟩) := Xc9.out.below hb10
      have Xu10 : Hid (Box10 w10 w6.heap.size ⟨1, false, ⟨1, 0, 0, 0⟩, ⟨2, 0, 0, 2⟩⟩) := Xu9.out.below hb10
      have Tz10 : Hid (TailZ w10 (.slice za zs.length zc) zs) := Tz9.out.below hb10
      have Ta10 : Hid (TailZ w10 v2 al) := Ta9.out.below hb10
      have To10 : Hid (TailZ w10 v7 os) := To9.out.below hb10
      have Tq10 : Hid (TailZ w10 v8 qs) := Tq9.out.below hb10
      have Td10 : Hid (TailZ w10 v9 ds) := Td9.out.below hb10
      clear hb10 B9 Xt9 Xc9 Xu9 Tz9 Ta9 To9 Tq9 Td9
      have Te10 : Hid (TailZ w10 v10 es) := h10
      clear h10
      cases hpp : pp with
      | false =>
        subst hpp
        go_wp2
        go_ret
        exact ⟨rfl, B10.out⟩
      | true =>
        cases hqq : qq with
        | false =>
          subst hqq
          go_wp2
          go_ret
          exact ⟨rfl, B10.out⟩
        | true =>
          cases hrr : rr with
          | false =>
            subst hrr
            go_wp2
            go_ret
            exact ⟨rfl, B10.out⟩
          | true =>
            cases hss : ss with
            | false =>
              subst hss
              go_wp2
              go_ret
              exact ⟨rfl, B10.out⟩
            | true =>
              have hsame := HSAME.out hpp hqq hrr hss
              subst hpp hqq hrr hss
              go_wp2_with fail
              refine (zsame_val hsame Tq10.out Te10.out).mono ?_
              rintro e w11 ⟨rfl, hb11⟩
              have hk11 := below_then B10.out hb11
              clear hb11
              go_wp2
              go_ret
              exact ⟨rfl, hk11⟩
    | true =>
      have hall : al = zs := by rw [← HAS.out]; exact (all_same zs).2 (by rw [HD.out, hd])
      subst hall hd
      go_wp2_with fail
      refine (zsame_val (zsB_refl al) Ta4.out Tz4.out).mono ?_
      rintro e w5 ⟨rfl, hb5⟩
      have B5 : Hid (Below w.heap.size w w5) := below_then B4.out hb5
      have Xt5 : Hid (Box10 w5 w1.heap.size ⟨tk, tn, ⟨lk, la, lb, ln⟩, ⟨rk, ra, rb, rn⟩⟩) := Xt4.out.below hb5
      have Xc5 : Hid (Box4 w5 (w1.heap.size + 1) ⟨1, 0, 0, 0⟩) := Xc4.out.below hb5
      have Tz5 : Hid (TailZ w5 (.slice za al.length zc) al) := Tz4.out.below hb5
      have Ta5 : Hid (TailZ w5 v2 al) := Ta4.out.below hb5
      clear hb5 B4 Xt4 Xc4 Tz4 Ta4
      obtain ⟨_, k0, k1, k2, k3⟩ := Xc5.out
      simp only at k0 k1 k2 k3
      go_wp2_with fail
      refine (where_val (t := ⟨1, false, ⟨1, 0, 0, 0⟩, ⟨1, 0, 0, 0⟩⟩) HD2.out (none_less al).2 (HP.out.below B5.out) Tz5.out).mono ?_
      rintro e w6 ⟨v6, rfl, h6, hb6⟩
      obtain ⟨na, nc, rfl⟩ := h6.empty
      clear h6
      clear k0 k1 k2 k3
      have B6 : Hid (Below w.heap.size w w6) := below_then B5.out hb6
      have Xt6 : Hid (Box10 w6 w1.heap.size ⟨tk, tn, ⟨lk, la, lb, ln⟩, ⟨rk, ra, rb, rn⟩⟩) := Xt5.out.below hb6
      have Xc6 : Hid (Box4 w6 (w1.heap.size + 1) ⟨1, 0, 0, 0⟩) := Xc5.out.below hb6
      have Tz6 : Hid (TailZ w6 (.slice za al.length zc) al) := Tz5.out.below hb6
      have Ta6 : Hid (TailZ w6 v2 al) := Ta5.out.below hb6
      clear hb6 B5 Xt5 Xc5 Tz5 Ta5
      obtain ⟨_, k0, k1, k2, k3⟩ := Xc6.out
      simp only at k0 k1 k2 k3
      obtain ⟨⟨c0, c1, c2, c3, c4⟩, c5, c6, c7, c8, c9⟩ := box_cells Xt6.out
      simp only at c0 c1 c2 c3 c4 c5 c6 c7 c8 c9
      have hl6 : w1.heap.size < w6.heap.size := Xt6.out.1
      have hl6' : w1.heap.size + 1 < w6.heap.size := Xc6.out.1
      obtain ⟨os, HOS⟩ : ∃ os, Hid (whereOut ⟨tk, tn, ⟨lk, la, lb, ln⟩, ⟨rk, ra, rb, rn⟩⟩ al = os) := ⟨_, Eq.refl _⟩
      obtain ⟨pp, HPP⟩ : ∃ pp, Hid (whereOk ⟨tk, tn, ⟨lk, la, lb, ln⟩, ⟨rk, ra, rb, rn⟩⟩ al = pp) := ⟨_, Eq.refl _⟩
      obtain ⟨qs, HQS⟩ : ∃ qs, Hid (whereOut ⟨1, false, ⟨1, 0, 0, 0⟩, ⟨2, 0, 0, 2⟩⟩ os = qs) := ⟨_, Eq.refl _⟩
      obtain ⟨qq, HQQ⟩ : ∃ qq, Hid (whereOk ⟨1, false, ⟨1, 0, 0, 0⟩, ⟨2, 0, 0, 2⟩⟩ os = qq) := ⟨_, Eq.refl _⟩
      obtain ⟨ds, HDS⟩ : ∃ ds, Hid (whereOut ⟨1, false, ⟨1, 0, 0, 0⟩, ⟨2, 0, 0, 2⟩⟩ al = ds) := ⟨_, Eq.refl _⟩
      obtain ⟨rr, HRR⟩ : ∃ rr, Hid (whereOk ⟨1, false, ⟨1, 0, 0, 0⟩, ⟨2, 0, 0, 2⟩⟩ al = rr) := ⟨_, Eq.refl _⟩
      obtain ⟨es, HES⟩ : ∃ es, Hid (whereOut ⟨tk, tn, ⟨lk, la, lb, ln⟩, ⟨rk, ra, rb, rn⟩⟩ ds = es) := ⟨_, Eq.refl _⟩
      obtain ⟨ss, HSS⟩ : ∃ ss, Hid (whereOk ⟨tk, tn, ⟨lk, la, lb, ln⟩, ⟨rk, ra, rb, rn⟩⟩ ds = ss) := ⟨_, Eq.refl _⟩
      have HSAME : Hid (pp = true → qq = true → rr = true → ss = true → zsB qs es = true) := fun h1 h2 h3 h4 => by
        have e1 := (where_true (HPP.out.trans h1)).2.2
        have e2 := (where_true (HQQ.out.trans h2)).2.2
        have e3 := (where_true (HRR.out.trans h3)).2.2
        have e4 := (where_true (HSS.out.trans h4)).2.2
        rw [HOS.out] at e1
        rw [HQS.out, e1] at e2
        rw [HDS.out] at e3
        rw [HES.out, e3] at e4
        rw [e2, e4, where_swap]
        exact zsB_refl _
      go_wp2_with fail
      refine (where_val (t := ⟨tk, tn, ⟨lk, la, lb, ln⟩, ⟨rk, ra, rb, rn⟩⟩) HPP.out HOS.out (HP.out.below (below_then B6.out (below_alloc _))) (Tz6.out.below (below_alloc _))).mono ?_
      rintro e w7 ⟨v7, rfl, h7, hb7⟩
      have hk7 : Below w6.heap.size w6 w7 := below_then (below_alloc _) hb7
      have Xu7 : Hid (Box10 w7 w6.heap.size ⟨1, false, ⟨1, 0, 0, 0⟩, ⟨2, 0, 0, 2⟩⟩) := (Box10.start w6 ⟨1, false, ⟨1, 0, 0, 0⟩, ⟨2, 0, 0, 2⟩⟩ _).below hb7
      clear hb7
      clear k0 k1 k2 k3
      clear c0 c1 c2 c3 c4 c5 c6 c7 c8 c9
      have B7 : Hid (Below w.heap.size w w7) := below_then B6.out hk7
      have Xt7 : Hid (Box10 w7 w1.heap.size ⟨tk, tn, ⟨lk, la, lb, ln⟩, ⟨rk, ra, rb, rn⟩⟩) := Xt6.out.below hk7
      have Xc7 : Hid (Box4 w7 (w1.heap.size + 1) ⟨1, 0, 0, 0⟩) := Xc6.out.below hk7
      have Tz7 : Hid (TailZ w7 (.slice za al.length zc) al) := Tz6.out.below hk7
      have Ta7 : Hid (TailZ w7 v2 al) := Ta6.out.below hk7
      clear hk7 B6 Xt6 Xc6 Tz6 Ta6
      have To7 : Hid (TailZ w7 v7 os) := h7
      clear h7
      obtain ⟨⟨c0, c1, c2, c3, c4⟩, c5, c6, c7, c8, c9⟩ := box_cells Xu7.out
      simp only at c0 c1 c2 c3 c4 c5 c6 c7 c8 c9
      go_wp2_with fail
      refine (where_val (t := ⟨1, false, ⟨1, 0, 0, 0⟩, ⟨2, 0, 0, 2⟩⟩) HQQ.out HQS.out (HP.out.below B7.out) To7.out).mono ?_
      rintro e w8 ⟨v8, rfl, h8, hb8⟩
      clear c0 c1 c2 c3 c4 c5 c6 c7 c8 c9
      have B8 : Hid (Below w.heap.size w w8) := below_then B7.out hb8
      have Xt8 : Hid (Box10 w8 w1.heap.size ⟨tk, tn, ⟨lk, la, lb, ln⟩, ⟨rk, ra, rb, rn⟩⟩) := Xt7.out.below hb8
      have Xc8 : Hid (Box4 w8 (w1.heap.size + 1) ⟨1, 0, 0, 0⟩) := Xc7.out.below hb8
      have Xu8 : Hid (Box10 w8 w6.heap.size ⟨1, false, ⟨1, 0, 0, 0⟩, ⟨2, 0, 0, 2⟩⟩) := Xu7.out.below hb8
      have Tz8 : Hid (TailZ w8 (.slice za al.length zc) al) := Tz7.out.below hb8
      have Ta8 : Hid (TailZ w8 v2 al) := Ta7.out.below hb8
      have To8 : Hid (TailZ w8 v7 os) := To7.out.below hb8
      clear hb8 B7 Xt7 Xc7 Xu7 Tz7 Ta7 To7
      have Tq8 : Hid (TailZ w8 v8 qs) := h8
      clear h8
      obtain ⟨⟨c0, c1, c2, c3, c4⟩, c5, c6, c7, c8, c9⟩ := box_cells Xu8.out
      simp only at c0 c1 c2 c3 c4 c5 c6 c7 c8 c9
      go_wp2_with fail
      refine (where_val (t := ⟨1, false, ⟨1, 0, 0, 0⟩, ⟨2, 0, 0, 2⟩⟩) HRR.out HDS.out (HP.out.below B8.out) Tz8.out).mono ?_
      rintro e w9 ⟨v9, rfl, h9, hb9⟩
      clear c0 c1 c2 c3 c4 c5 c6 c7 c8 c9
      have B9 : Hid (Below w.heap.size w w9) := below_then B8.out hb9
      have Xt9 : Hid (Box10 w9 w1.heap.size ⟨tk, tn, ⟨lk, la, lb, ln⟩, ⟨rk, ra, rb, rn⟩⟩) := Xt8.out.below hb9
      have Xc9 : Hid (Box4 w9 (w1.heap.size + 1) ⟨1, 0, 0, 0⟩) := Xc8.out.below hb9
      have Xu9 : Hid (Box10 w9 w6.heap.size ⟨1, false, ⟨1, 0, 0, 0⟩, ⟨2, 0, 0, 2⟩⟩) := Xu8.out.below hb9
      have Tz9 : Hid (TailZ w9 (.slice za al.length zc) al) := Tz8.out.below hb9
      have Ta9 : Hid (TailZ w9 v2 al) := Ta8.out.below hb9
      have To9 : Hid (TailZ w9 v7 os) := To8.out.below hb9
      have Tq9 : Hid (TailZ w9 v8 qs) := Tq8.out.below hb9
      clear hb9 B8 Xt8 Xc8 Xu8 Tz8 Ta8 To8 Tq8
      have Td9 : Hid (TailZ w9 v9 ds) := h9
      clear h9
      obtain ⟨⟨c0, c1, c2, c3, c4⟩, c5, c6, c7, c8, c9⟩ := box_cells Xt9.out
      simp only at c0 c1 c2 c3 c4 c5 c6 c7 c8 c9
      go_wp2_with fail
      refine (where_val (t := ⟨tk, tn, ⟨lk, la, lb, ln⟩, ⟨rk, ra, rb, rn⟩⟩) HSS.out HES.out (HP.out.below B9.out) Td9.out).mono ?_
      rintro e w10 ⟨v10, rfl, h10, hb10⟩
      clear c0 c1 c2 c3 c4 c5 c6 c7 c8 c9
      have B10 : Hid (Below w.heap.size w w10) := below_then B9.out hb10
      have Xt10 : Hid (Box10 w10 w1.heap.size ⟨tk, tn, ⟨lk, la, lb, ln⟩, ⟨rk, ra, rb, rn⟩⟩) := Xt9.out.below hb10
      have Xc10 : Hid (Box4 w10 (w1.heap.size + 1) ⟨1, 0, 0, 0⟩) := Xc9.out.below hb10
      have Xu10 : Hid (Box10 w10 w6.heap.size ⟨1, false, ⟨1, 0, 0, 0⟩, ⟨2, 0, 0, 2⟩⟩) := Xu9.out.below hb10
      have Tz10 : Hid (TailZ w10 (.slice za al.length zc) al) := Tz9.out.below hb10
      have Ta10 : Hid (TailZ w10 v2 al) := Ta9.out.below hb10
      have To10 : Hid (TailZ w10 v7 os) := To9.out.below hb10
      have Tq10 : Hid (TailZ w10 v8 qs) := Tq9.out.below hb10
      have Td10 : Hid (TailZ w10 v9 ds) := Td9.out.below hb10
      clear hb10 B9 Xt9 Xc9 Xu9 Tz9 Ta9 To9 Tq9 Td9
      have Te10 : Hid (TailZ w10 v10 es) := h10
      clear h10
      cases hpp : pp with
      | false =>
        subst hpp
        go_wp2
        go_ret
        exact ⟨rfl, B10.out⟩
      | true =>
        cases hqq : qq with
        | false =>
          subst hqq
          go_wp2
          go_ret
          exact ⟨rfl, B10.out⟩
        | true =>
          cases hrr : rr with
          | false =>
            subst hrr
            go_wp2
            go_ret
            exact ⟨rfl, B10.out⟩
          | true =>
            cases hss : ss with
            | false =>
              subst hss
              go_wp2
              go_ret
              exact ⟨rfl, B10.out⟩
            | true =>
              have hsame := HSAME.out hpp hqq hrr hss
              subst hpp hqq hrr hss
              go_wp2_with fail
              refine (zsame_val hsame Tq10.out Te10.out).mono ?_
              rintro e w11 ⟨rfl, hb11⟩
              have hk11 := below_then B10.out hb11
              clear hb11
              go_wp2
              go_ret
              exact ⟨rfl, hk11⟩
  · have hbig : (1048576 : Int) < (len : Int) := by omega
    go_enter Tryd.func3, Tryd.ntmps3
    go_wp2
    go_ret
    exact ⟨rfl, Below.refl _ _⟩
end Go.Proofs.YtdponcnhdmkhiacDoor
