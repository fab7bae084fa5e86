/-
  The walk of laws.FnZOrder, out of the contracts: it answers true whatever the bytes are, and nothing that was there is written.
-/
import Derived.Test.YtdleikloneaodaaDoorZVals
import Derived.Test.YtdleikloneaodaaDoorZText
import Derived.Test.YtdleikloneaodaaDoorZInj
namespace Go.Proofs.YtdleikloneaodaaDoor
open Go.RowKit

theorem zOk_of' {zs : List It} (hl : zs.length ≤ 100) (hp : ∀ p ∈ zs, okIt p) (hs : Srt zs) : zOkB zs = true := by
  refine zOk_all hl fun j hj => ?_
  have h1 := hp _ (getZ_mem hj)
  unfold stepB
  rw [h1.1, h1.2]
  rcases Nat.eq_zero_or_pos j with e | e
  · simp [e]
  · have hj1 : j - 1 < zs.length := by omega
    have h2 := (List.pairwise_iff_getElem.1 hs) (j - 1) j hj1 hj (by omega)
    have h3 : rowLessB (zs.getD (j - 1) ([], 0)).1 (zs.getD j ([], 0)).1 = true := less_of (by simpa [List.getD, hj, hj1] using h2)
    rw [h3]; simp
theorem zOk_sub {zs ys : List It} (h : zOkB zs = true) (hs : ys.Sublist zs) : zOkB ys = true :=
  zOk_of' (by have := zOk_le h; have := hs.length_le; omega) (fun p hp => zOk_okIt h p (hs.subset hp)) ((zOk_srt h).sublist hs)
theorem getZ_snoc' {q : List Int} {p : It} : ∀ {zs : List It}, Srt (zs ++ [p]) → getZ (zs ++ [p]) q = getZ zs q + (if p.1 = q then p.2 else 0)
  | [], _ => by rw [List.nil_append, getZ_cons, getZ_nil]; split <;> simp
  | x :: zs, h => by
    rw [List.cons_append] at h ⊢
    obtain ⟨h1, h2⟩ := Srt.cons.1 h
    have ih := getZ_snoc' (q := q) h2
    rw [getZ_cons, getZ_cons, ih]
    by_cases hx : x.1 = q
    · have hne : p.1 ≠ q := fun e => by
        have := ordL_ne (h1 p (by simp))
        exact this (hx.trans e.symm)
      simp [hx, hne]
    · simp [hx]
theorem nz_sub {zs ys : List It} (h : Nz zs) (hs : ys.Sublist zs) : Nz ys := fun p hp => h p (hs.subset hp)
theorem one_srt (p : It) : Srt [p] := Srt.cons.2 ⟨fun x hx => by simp at hx, Srt.nil⟩
theorem add_last {zs : List It} {p : It} (h : Srt (zs ++ [p])) (hn : Nz (zs ++ [p])) : addZ zs [p] = zs ++ [p] := by
  have hz : Srt zs := h.sublist (List.sublist_append_left _ _)
  exact canon (srt_add hz) (nz_add (nz_sub hn (List.sublist_append_left _ _))) h hn fun q => by rw [getZ_add hz (one_srt p), getZ_snoc' h, getZ_cons, getZ_nil]
theorem add_first {zs : List It} {p : It} (h : Srt (p :: zs)) (hn : Nz (p :: zs)) : addZ [p] zs = p :: zs :=
  canon (srt_add (one_srt p)) (nz_add (nz_sub hn (by simp))) h hn fun q => by
    rw [getZ_add (one_srt p) (Srt.cons.1 h).2, getZ_cons, getZ_cons, getZ_nil]
    by_cases hq : p.1 = q
    · have := getZ_ahead h
      rw [hq] at this
      simp [hq, this]
    · simp [hq]
theorem step_take {zs : List It} (h : zOkB zs = true) {k : Nat} (hk : k < zs.length) : addOk (zs.take k) [zs.getD k ([], 0)] = true ∧ addOut (zs.take k) [zs.getD k ([], 0)] = zs.take (k + 1) := by
  have e : zs.take (k + 1) = zs.take k ++ [zs.getD k ([], 0)] := by rw [List.take_succ_eq_append_getElem hk]; simp [List.getD, hk]
  have ht := zOk_sub h (List.take_sublist (k + 1) zs)
  have hp : zOkB [zs.getD k ([], 0)] = true := zOk_sub h (List.singleton_sublist.2 (getZ_mem hk))
  refine add_yes (zOk_sub h (List.take_sublist k zs)) hp ?_ ht
  rw [e] at ht ⊢
  exact add_last (zOk_srt ht) (zOk_nz ht)
theorem step_drop {zs : List It} (h : zOkB zs = true) {j : Nat} (hj : j < zs.length) : addOk [zs.getD j ([], 0)] (zs.drop (j + 1)) = true ∧ addOut [zs.getD j ([], 0)] (zs.drop (j + 1)) = zs.drop j := by
  have e : zs.drop j = zs.getD j ([], 0) :: zs.drop (j + 1) := by rw [List.drop_eq_getElem_cons hj]; simp [List.getD, hj]
  have ht := zOk_sub h (List.drop_sublist j zs)
  have hp : zOkB [zs.getD j ([], 0)] = true := zOk_sub h (List.singleton_sublist.2 (getZ_mem hj))
  refine add_yes hp (zOk_sub h (List.drop_sublist (j + 1) zs)) ?_ ht
  rw [e] at ht ⊢
  exact add_first (zOk_srt ht) (zOk_nz ht)
theorem zOk_wfz {zs : List It} (h : zOkB zs = true) : WfZ zs := fun p hp => by
  have h1 := zOk_okIt h p hp
  refine ⟨fun x hx => ?_, by have := (wB_in h1.2).2; omega, by have := (wB_in h1.2).2; omega⟩
  have h2 := h1.1
  unfold rowOkB at h2
  rw [Bool.and_eq_true, List.all_eq_true] at h2
  have h3 := h2.2 x hx
  unfold cellB at h3
  have := of_decide_eq_true h3
  omega
theorem zOk_rows {zs : List It} (h : zOkB zs = true) : zs.length + rowsLen zs ≤ 1048576 := by
  have hl := zOk_le h
  have : ∀ {ys : List It}, (∀ p ∈ ys, p.1.length ≤ 6) → rowsLen ys ≤ ys.length * 6 := by
    intro ys
    induction ys with
    | nil => intro _; simp [rowsLen]
    | cons p ys ih =>
      intro hy
      have h2 : rowsLen (p :: ys) = p.1.length + rowsLen ys := by simp [rowsLen]
      have h3 := hy p (by simp)
      have h4 := ih (fun q hq => hy q (by simp [hq]))
      rw [h2, List.length_cons, Nat.add_mul]
      omega
  have := this (fun p hp => zOk_mem h hp)
  omega
/-- One item of items, as the slice expression gives it. -/
theorem TailZ.one {w : World} {b off n sc : Nat} {zs : List It} (h : TailZ w (.slice (some ⟨b, off, none⟩) n sc) zs) {i j : Nat} (hi : i < zs.length) (hj : j = i + 1) (hsc : zs.length ≤ sc) (hm : sc ≤ 9223372036854775807) :
    TailZ w (.slice (some ⟨b, off + i * 2, none⟩) (j - i) (sc - i)) [zs.getD i ([], 0)] := by
  obtain ⟨l, rfl, ⟨hp, _⟩, hr⟩ := h
  rw [its_length] at hi hsc
  have hd := hp.dropped (k := i) (by rw [prs_length]; omega) (sc - i)
  have e1 : l.drop i = l[i] :: l.drop (i + 1) := List.drop_eq_getElem_cons hi
  have e2 : (its l).getD i ([], 0) = l[i].2 := by simp [its, List.getD, hi]
  have hji : j - i = 1 := by omega
  rw [e2, hji]
  obtain ⟨h1, h2, a, c, e, h4, hc⟩ := hd
  refine ⟨[l[i]], rfl, ⟨⟨by simp [prs], fun p hp' => ?_, _, _, rfl, fun h => by simp at h, fun _ => ?_⟩, _, _, rfl, by simp [prs]; omega, by omega⟩, fun x hx => ?_⟩
  · simp [prs] at hp'
    subst hp'
    exact (hr _ (List.getElem_mem hi)).shape
  · obtain ⟨b', off', e', hb, hcell⟩ := hc (fun h => by
      have := congrArg List.length h
      simp [prs] at this
      omega)
    simp at e
    obtain ⟨rfl, _⟩ := e
    simp at e'
    obtain ⟨rfl, rfl⟩ := e'
    refine ⟨b, off + i * 2, rfl, hb, fun j hj => ?_⟩
    obtain rfl : j = 0 := by simp [prs] at hj; omega
    have := hcell 0 (by simp [prs]; omega)
    have e3 : ((prs l).drop i).getD 0 (vn, 0) = (l[i].1, l[i].2.2) := by simp [prs, List.getD, hi]
    rw [e3] at this
    simpa [prs] using this
  · simp at hx
    subst hx
    exact hr _ (List.getElem_mem hi)
theorem TailZ.room {w : World} {a : Option Addr} {n sc : Nat} {zs : List It} (h : TailZ w (.slice a n sc) zs) : n = zs.length ∧ zs.length ≤ sc ∧ sc ≤ 9223372036854775807 ∧ (zs ≠ [] → ∃ b off, a = some ⟨b, off, none⟩) := by
  obtain ⟨l, rfl, ⟨hp, a', c, e, h1, h2⟩, _⟩ := h
  simp at e
  obtain ⟨rfl, rfl, rfl⟩ := e
  rw [prs_length] at h1
  refine ⟨by rw [prs_length, its_length], by rw [its_length]; exact h1, h2, fun hne => ?_⟩
  obtain ⟨_, _, a'', c', e', _, hc⟩ := hp
  simp at e'
  obtain ⟨rfl, _⟩ := e'
  obtain ⟨b, off, rfl, _⟩ := hc (fun e => hne (by
    have := congrArg List.length e
    rw [prs_length] at this
    have h3 : l = [] := List.length_eq_zero_iff.1 (by simpa using this)
    rw [h3]; rfl))
  exact ⟨b, off, rfl⟩
theorem specSame_val {v v2 : Value} {a b : List It} {c : Bool} {w : World} (hc : zsB a b = c) (h : TailZ w v a) (h2 : TailZ w v2 b) :
    Calls Tryd.prog 6 #[v, v2] w fun e w' => e = .returned (.bool c) ∧ Below w.heap.size w w' := by
  subst hc
  exact specZSame_any v v2 a b w h.items h2.items
theorem bytes_same {s t : ByteArray} (h : s.data.toList = t.data.toList) : s = t := by
  obtain ⟨⟨a⟩⟩ := s
  obtain ⟨⟨b⟩⟩ := t
  simp at h
  rw [h]

set_option maxRecDepth 100000 in
set_option maxHeartbeats 16000000 in
theorem lawFnZOrder (a : Option Addr) (len cap : Nat) (bs : List Int) (w : World) (h : IsRow .u8 w a len cap bs) (htab : Tab w) :
    Calls Tryd.prog 3 #[.slice a len cap] w fun e w' => e = .returned (.bool true) ∧ Below w.heap.size w w' := by
  have HTAB : Hid (Tab w) := htab
  clear htab
  by_cases hbig : (1048576 : Int) < (len : Int)
  · go_enter Tryd.func3, Tryd.ntmps3
    go_wp2
    go_ret
    exact ⟨rfl, Below.refl _ _⟩
  go_enter Tryd.func3, Tryd.ntmps3
  go_wp2_with fail
  refine (drawZSame_any a len cap bs _ h).mono ?_
  rintro e w1 ⟨va, vb, rfl, zs, ys, hgz, hgy, TA, TB, hk1⟩
  have hz200 : zs.length ≤ 200 := hgz.1
  clear h hgz hgy
  obtain ⟨c, hc⟩ : ∃ c, zsB zs ys = c := ⟨_, rfl⟩
  cases hz : zOkB zs with
  | false =>
    go_wp2_with fail
    refine (zsame_val hc TA TB).mono ?_
    rintro e w2 ⟨rfl, hb2⟩
    have hk2 := below_then hk1 hb2
    have A_2 := TA.below hb2
    have B_2 := TB.below hb2
    clear hb2 hk1 TA TB
    go_wp2_with fail
    refine (specSame_val hc A_2 B_2).mono ?_
    rintro e w3 ⟨rfl, hb3⟩
    have hk3 := below_then hk2 hb3
    have A_3 := A_2.below hb3
    have B_3 := B_2.below hb3
    clear hb3 hk2 A_2 B_2
    go_wp2_with fail
    refine (okS_val hz A_3).mono ?_
    rintro e w4 ⟨rfl, hb4⟩
    have hk4 := below_then hk3 hb4
    have A_4 := A_3.below hb4
    have B_4 := B_3.below hb4
    clear hb4 hk3 A_3 B_3
    go_wp2_with fail
    refine (zsame_val hc A_4 B_4).mono ?_
    rintro e w5 ⟨rfl, hb5⟩
    have hk5 := below_then hk4 hb5
    have A_5 := A_4.below hb5
    have B_5 := B_4.below hb5
    clear hb5 hk4 A_4 B_4
    go_wp2_with fail
    refine (specSame_val hc A_5 B_5).mono ?_
    rintro e w6 ⟨rfl, hb6⟩
    have hk6 := below_then hk5 hb6
    have A_6 := A_5.below hb6
    have B_6 := B_5.below hb6
    clear hb6 hk5 A_5 B_5
    clear A_6 B_6
    clear hc
    go_wp2
    go_ret
    exact ⟨rfl, hk6⟩
  | true =>
    cases hy : zOkB ys with
    | false =>
      go_wp2_with fail
      refine (zsame_val hc TA TB).mono ?_
      rintro e w2 ⟨rfl, hb2⟩
      have hk2 := below_then hk1 hb2
      have A_2 := TA.below hb2
      have B_2 := TB.below hb2
      clear hb2 hk1 TA TB
      go_wp2_with fail
      refine (specSame_val hc A_2 B_2).mono ?_
      rintro e w3 ⟨rfl, hb3⟩
      have hk3 := below_then hk2 hb3
      have A_3 := A_2.below hb3
      have B_3 := B_2.below hb3
      clear hb3 hk2 A_2 B_2
      go_wp2_with fail
      refine (okS_val hz A_3).mono ?_
      rintro e w4 ⟨rfl, hb4⟩
      have hk4 := below_then hk3 hb4
      have A_4 := A_3.below hb4
      have B_4 := B_3.below hb4
      clear hb4 hk3 A_3 B_3
      go_wp2_with fail
      refine (okS_val hy B_4).mono ?_
      rintro e w5 ⟨rfl, hb5⟩
      have hk5 := below_then hk4 hb5
      have A_5 := A_4.below hb5
      have B_5 := B_4.below hb5
      clear hb5 hk4 A_4 B_4
      go_wp2_with fail
      refine (zsame_val hc A_5 B_5).mono ?_
      rintro e w6 ⟨rfl, hb6⟩
      have hk6 := below_then hk5 hb6
      have A_6 := A_5.below hb6
      have B_6 := B_5.below hb6
      clear hb6 hk5 A_5 B_5
      go_wp2_with fail
      refine (specSame_val hc A_6 B_6).mono ?_
      rintro e w7 ⟨rfl, hb7⟩
      have hk7 := below_then hk6 hb7
      have A_7 := A_6.below hb7
      have B_7 := B_6.below hb7
      clear hb7 hk6 A_6 B_6
      clear A_7 B_7
      clear hc
      go_wp2
      go_ret
      exact ⟨rfl, hk7⟩
    | true =>
      go_wp2_with fail
      refine (zsame_val hc TA TB).mono ?_
      rintro e w2 ⟨rfl, hb2⟩
      have hk2 := below_then hk1 hb2
      have A_2 := TA.below hb2
      have B_2 := TB.below hb2
      clear hb2 hk1 TA TB
      go_wp2_with fail
      refine (specSame_val hc A_2 B_2).mono ?_
      rintro e w3 ⟨rfl, hb3⟩
      have hk3 := below_then hk2 hb3
      have A_3 := A_2.below hb3
      have B_3 := B_2.below hb3
      clear hb3 hk2 A_2 B_2
      go_wp2_with fail
      refine (okS_val hz A_3).mono ?_
      rintro e w4 ⟨rfl, hb4⟩
      have hk4 := below_then hk3 hb4
      have A_4 := A_3.below hb4
      have B_4 := B_3.below hb4
      clear hb4 hk3 A_3 B_3
      go_wp2_with fail
      refine (okS_val hy B_4).mono ?_
      rintro e w5 ⟨rfl, hb5⟩
      have hk5 := below_then hk4 hb5
      have A_5 := A_4.below hb5
      have B_5 := B_4.below hb5
      clear hb5 hk4 A_4 B_4
      have HC : Hid (zsB zs ys = c) := hc
      have HZ : Hid (zOkB zs = true) := hz
      have HY : Hid (zOkB ys = true) := hy
      obtain ⟨sa, sc, rfl⟩ := A_5.shape
      obtain ⟨n, hn⟩ : ∃ n, n = zs.length := ⟨_, rfl⟩
      have HN : Hid (n = zs.length) := hn
      rw [← hn] at A_5 hz200 ⊢
      obtain ⟨W0, hW0⟩ : ∃ W0, W0 = (w5.alloc (.cells #[] 35)).alloc (.cells #[] 35) := ⟨_, rfl⟩
      have hb0 : Below w5.heap.size w5 W0 := by rw [hW0]; exact below_then (below_alloc _) (below_alloc _)
      have HTA : Hid (TailZ W0 (.slice sa n sc) zs) := A_5.below hb0
      have HTB : Hid (TailZ W0 vb ys) := B_5.below hb0
      have HK0 : Hid (Below w.heap.size w W0) := below_then hk5 hb0
      have HX0 : Hid (TailZ W0 (.slice (some ⟨w5.heap.size, 0, none⟩) 0 0) []) := by rw [hW0]; exact (lit_ownZ w5).tail.below (below_alloc _)
      have HY0 : Hid (TailZ W0 (.slice (some ⟨w5.heap.size + 1, 0, none⟩) 0 0) []) := by
        have := (lit_ownZ (w5.alloc (.cells #[] 35))).tail
        rw [hW0]
        show TailZ _ _ _
        simpa using this
      have HW0 : Hid (W0 = (w5.alloc (.cells #[] 35)).alloc (.cells #[] 35)) := hW0
      clear hn hc hz hy A_5 B_5 hk5 hb0 hW0
      go_wp2
      rw [← HW0.out]
      clear HW0
      go_loopw [5, 6, 7] (fun x y i wr => ∃ k : Nat, k ≤ n ∧ i = .int .i64 k ∧ Hid (TailZ wr x (zs.take k)) ∧ Hid (TailZ wr y (zs.drop (n - k))) ∧ Hid (Below W0.heap.size W0 wr)) (fun _ _ i _ => n - (intOf i).toNat)
      case atStart => exact ⟨0, Nat.zero_le _, rfl, HX0.out, by show TailZ _ _ _; rw [Nat.sub_zero, HN.out, List.drop_length]; exact HY0.out, Below.refl _ _⟩
      case round =>
        obtain ⟨k, hk, rfl, HTX, HTY, HW⟩ := hrel
        clear HX0 HY0
        by_cases hlt : k < n
        · have hkz : k < zs.length := by rw [← HN.out]; exact hlt
          obtain ⟨-, hr1, hr2, hr3⟩ := HTA.out.room
          obtain ⟨b, off, rfl⟩ := hr3 (fun e => by rw [e] at hkz; simp at hkz)
          rw [← HN.out] at hr1
          obtain ⟨m, hm⟩ : ∃ m, m = k + 1 := ⟨_, rfl⟩
          obtain ⟨j, hj⟩ : ∃ j, j = n - 1 - k := ⟨_, rfl⟩
          obtain ⟨j2, hj2⟩ : ∃ j, j = n - k := ⟨_, rfl⟩
          have hjz : j < zs.length := by have := HN.out; omega
          have TS := (HTA.out.below HW.out).one hkz hm (by rw [← HN.out]; exact hr1) hr2
          have TA1 := HTA.out.below HW.out
          obtain ⟨e1, e2⟩ := step_take HZ.out hkz
          obtain ⟨e3, e4⟩ := step_drop HZ.out hjz
          have HTY' : Hid (TailZ wr u6 (zs.drop (j + 1))) := by
            show TailZ _ _ _
            rw [show j + 1 = n - k by omega]; exact HTY.out
          have q1 : IntKind.i64.wrap ((k : Int) + 1) = (m : Int) := by rw [IntKind.wrap_i64]; omega
          have q1' : (k : Int) + 1 = (m : Int) := by omega
          have q2 : (n : Int) - 1 - (k : Int) = (j : Int) := by omega
          have q3 : (n : Int) - (k : Int) = (j2 : Int) := by omega
          have hmn : m ≤ n := by omega
          have hkm : k ≤ m := by omega
          have hjj : j ≤ j2 := by omega
          have hjn : j2 ≤ n := by omega
          have hms : m ≤ sc := by omega
          have hjs : j2 ≤ sc := by omega
          have hck : ¬ sc = k := by omega
          have hcj : ¬ sc = j := by omega
          have HJ2 : Hid (j2 = j + 1) := by show j2 = j + 1; omega
          have HJ : Hid (zs.drop j = zs.drop (n - (k + 1))) := by show _ = _; rw [show n - (k + 1) = j by omega]
          have HM : Hid (m = k + 1) := hm
          clear hm hj hj2
          go_wp2_with fail
          refine (add_val e1 e2 HTX.out TS).mono ?_
          rintro e w2 ⟨vp, rfl, TP, hb2⟩
          have TS2 := (TA1.below hb2).one hjz HJ2.out (by rw [← HN.out]; exact hr1) hr2
          have TY2 := HTY'.out.below hb2
          have HK2 : Hid (Below W0.heap.size W0 w2) := below_then HW.out hb2
          clear TS hb2 e1 e2 TA1
          go_wp2_with fail
          refine (add_val e3 e4 TS2 TY2).mono ?_
          rintro e w3 ⟨vq, rfl, TQ, hb3⟩
          have HTP : Hid (TailZ w3 vp (zs.take (k + 1))) := TP.below hb3
          have HTQ : Hid (TailZ w3 vq (zs.drop (n - (k + 1)))) := by show TailZ _ _ _; rw [← HJ.out]; exact TQ
          have HK3 : Hid (Below W0.heap.size W0 w3) := below_then HK2.out hb3
          clear TS2 TY2 hb3 TP TQ e3 e4 q2 q3
          go_wp2
          go_roundw
          case rel => exact ⟨k + 1, by omega, by first | go_num | (rw [← HM.out]), HTP.out, HTQ.out, HK3.out⟩
          case measure => simp [intOf]; omega
        · obtain rfl : k = n := by omega
          have TX9 : TailZ wr u5 zs := by have := HTX.out; rwa [HN.out, List.take_length] at this
          have TY9 : TailZ wr u6 zs := by have := HTY.out; rwa [Nat.sub_self, List.drop_zero] at this
          have TA9 := HTA.out.below HW.out
          have TB9 := HTB.out.below HW.out
          have hk9 := below_then HK0.out HW.out
          have hwz := zOk_wfz HZ.out
          have hwy := zOk_wfz HY.out
          have hlz := zOk_rows HZ.out
          have hly := zOk_rows HY.out
          go_wp2_with fail
          refine (zsame_val (zsB_refl _) TX9 TA9).mono ?_
          rintro e w61 ⟨rfl, hb61⟩
          have hk61 := below_then hk9 hb61
          have X_61 := TX9.below hb61
          have Y_61 := TY9.below hb61
          have A_61 := TA9.below hb61
          have B_61 := TB9.below hb61
          clear hb61 hk9 TX9 TY9 TA9 TB9
          go_wp2_with fail
          refine (zsame_val (zsB_refl _) Y_61 A_61).mono ?_
          rintro e w62 ⟨rfl, hb62⟩
          have hk62 := below_then hk61 hb62
          have X_62 := X_61.below hb62
          have Y_62 := Y_61.below hb62
          have A_62 := A_61.below hb62
          have B_62 := B_61.below hb62
          clear hb62 hk61 X_61 Y_61 A_61 B_61
          clear X_62
          clear Y_62
          go_wp2_with fail
          refine (zsame_val HC.out A_62 B_62).mono ?_
          rintro e w63 ⟨rfl, hb63⟩
          have hk63 := below_then hk62 hb63
          have A_63 := A_62.below hb63
          have B_63 := B_62.below hb63
          clear hb63 hk62 A_62 B_62
          go_wp2_with fail
          refine (implZText_any _ zs _ (HTAB.out.below hk63) A_63.items hwz hlz).mono ?_
          rintro e w64 ⟨s, rfl, hs, hb64⟩
          have hk64 := below_then hk63 hb64
          have A_64 := A_63.below hb64
          have B_64 := B_63.below hb64
          clear hb64 hk63 A_63 B_63
          go_wp2_with fail
          refine (implZText_any _ ys _ (HTAB.out.below hk64) B_64.items hwy hly).mono ?_
          rintro e w65 ⟨t, rfl, ht, hb65⟩
          have hk65 := below_then hk64 hb65
          have A_65 := A_64.below hb65
          have B_65 := B_64.below hb65
          clear hb65 hk64 A_64 B_64
          have HS : Hid (s.data.toList = zTx zs) := hs
          have HT : Hid (t.data.toList = zTx ys) := ht
          clear hs ht hwz hwy hlz hly
          cases c with
          | true =>
            have hzy : zs = ys := by have := HC.out; unfold zsB at this; exact of_decide_eq_true this
            obtain rfl : t = s := bytes_same (by rw [HS.out, HT.out, hzy])
            clear hzy
            clear A_65 B_65
            go_wp2
            go_ret
            exact ⟨rfl, hk65⟩
          | false =>
            have hst : s ≠ t := fun e => by
              have h1 := HC.out
              unfold zsB at h1
              have h2 := of_decide_eq_false h1
              exact h2 (zTx_inj (zOk_okIt HZ.out) (zOk_okIt HY.out) (by rw [← HS.out, ← HT.out, e]))
            have hst1 : (s.toList == t.toList) = false := by
              rw [beq_eq_false_iff_ne, ByteArray.toList_eq, ByteArray.toList_eq]
              exact fun e => hst (bytes_same e)
            clear hst
            clear A_65 B_65
            go_wp2
            go_ret
            exact ⟨rfl, hk65⟩

end Go.Proofs.YtdleikloneaodaaDoor
