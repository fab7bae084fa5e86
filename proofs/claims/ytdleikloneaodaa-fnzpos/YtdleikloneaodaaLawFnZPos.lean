/-
  The walk of laws.FnZPos, out of the contracts: it answers true whatever the bytes are, and nothing that was there is written.
-/
import Derived.Test.YtdleikloneaodaaLawFnZTwice
import Derived.Deep.RegionHeld3
import Derived.Deep.DrawnRows
namespace Go.Proofs.Ytdleikloneaodaa
open Go.RowKit
attribute [local go_sem ↓] Go.wp_at_zero Go.wp_at_succ

theorem zOk_of {zs : List It} (hl : zs.length ≤ 100) (hp : ∀ p ∈ zs, rowOkB p.1 = true ∧ wB p.2 = true) (hs : Srt zs) : zOkB zs = true := by
  refine zOk_all hl fun j hj => ?_
  have h1 := hp _ (getZ_mem hj)
  unfold stepB
  rw [h1.1, h1.2]
  rcases Nat.eq_zero_or_pos j with e | e
  · simp [e]
  · have hj1 : j - 1 < zs.length := by omega
    have h2 := (List.pairwise_iff_getElem.1 hs) (j - 1) j hj1 hj (by omega)
    have h3 : rowLessB (zs.getD (j - 1) ([], 0)).1 (zs.getD j ([], 0)).1 = true := less_of (by simpa [List.getD, hj, hj1] using h2)
    rw [h3]; simp
theorem mem_pos {zs : List It} {p : It} (h : p ∈ posZ zs) : p.2 = 1 ∧ ∃ q ∈ zs, p.1 = q.1 := by
  unfold posZ at h
  obtain ⟨q, hq, rfl⟩ := List.mem_map.1 h
  exact ⟨rfl, q, (List.mem_filter.1 hq).1, rfl⟩
theorem srt_pos {zs : List It} (h : Srt zs) : Srt (posZ zs) := by
  unfold Srt posZ at *
  rw [List.pairwise_map]
  exact (h.sublist List.filter_sublist)
theorem zOk_pos {zs : List It} (h : zOkB zs = true) : zOkB (posZ zs) = true := by
  refine zOk_of (by have := posZ_len zs; have := zOk_le h; omega) (fun p hp => ?_) (srt_pos (zOk_srt h))
  obtain ⟨h1, q, hq, e⟩ := mem_pos hp
  obtain ⟨j, hj, rfl⟩ := mem_getD (d := ([], 0)) hq
  rw [h1, e]
  exact ⟨(zOk_row h hj).1, by decide⟩
theorem getZ_pos {q : List Int} : ∀ {zs : List It}, Srt zs → getZ (posZ zs) q = if 0 < getZ zs q then 1 else 0
  | [], _ => by simp [posZ, getZ_nil]
  | p :: zs, h => by
    have ih := getZ_pos (q := q) (Srt.cons.1 h).2
    by_cases hp : 0 < p.2
    · have e : posZ (p :: zs) = (p.1, 1) :: posZ zs := by unfold posZ; rw [List.filter_cons_of_pos (by simpa using hp)]; rfl
      rw [e, getZ_cons, getZ_cons, ih]
      by_cases hq : p.1 = q
      · simp [hq, hp]
      · simp [hq]
    · have e : posZ (p :: zs) = posZ zs := by unfold posZ; rw [List.filter_cons_of_neg (by simpa using hp)]
      rw [e, getZ_cons, ih]
      by_cases hq : p.1 = q
      · have h0 := getZ_ahead h
        rw [hq] at h0
        simp [hq, hp, h0]
      · simp [hq]
theorem pos_pos (zs : List It) : posZ (posZ zs) = posZ zs := by
  have h : ∀ p ∈ posZ zs, p.2 = 1 := fun p hp => (mem_pos hp).1
  conv => lhs; unfold posZ
  rw [List.filter_eq_self.2 (fun p hp => by simp [h p hp])]
  conv => rhs; rw [← List.map_id (posZ zs)]
  apply List.map_congr_left
  intro p hp
  have := h p hp
  exact Prod.ext rfl this.symm
theorem pos_len : ∀ {zs : List It}, Nz zs → (posZ zs).length + (posZ (negZ zs)).length = zs.length
  | [], _ => rfl
  | p :: zs, h => by
    have ih := pos_len (zs := zs) fun q hq => h q (by simp [hq])
    have hp := h p (by simp)
    have e0 : negZ (p :: zs) = (p.1, -p.2) :: negZ zs := rfl
    by_cases h0 : 0 < p.2
    · have e1 : posZ (p :: zs) = (p.1, 1) :: posZ zs := by unfold posZ; rw [List.filter_cons_of_pos (by simpa using h0)]; rfl
      have e2 : posZ ((p.1, -p.2) :: negZ zs) = posZ (negZ zs) := by unfold posZ; rw [List.filter_cons_of_neg (by simp; omega)]
      rw [e0, e1, e2]
      simp; omega
    · have e1 : posZ (p :: zs) = posZ zs := by unfold posZ; rw [List.filter_cons_of_neg (by simpa using h0)]
      have e2 : posZ ((p.1, -p.2) :: negZ zs) = (p.1, 1) :: posZ (negZ zs) := by unfold posZ; rw [List.filter_cons_of_pos (by simp; omega)]; rfl
      rw [e0, e1, e2]
      simp; omega

set_option maxRecDepth 100000 in
set_option maxHeartbeats 16000000 in
theorem lawFnZPos (a : Option Addr) (len cap : Nat) (bs : List Int) (w : World) (h : IsRow .u8 w a len cap bs) :
    Calls Try.prog 4 #[.slice a len cap] w fun e w' => e = .returned (.bool true) ∧ Below w.heap.size w w' := by
  by_cases hbig : (1048576 : Int) < (len : Int)
  · go_enter Try.func4, Try.ntmps4
    go_wp2
    go_ret
    exact ⟨rfl, Below.refl _ _⟩
  go_enter Try.func4, Try.ntmps4
  go_wp2_with fail
  refine (drawZPos_any a len cap bs _ h).mono ?_
  rintro e w1 ⟨va, rfl, zs, hgz, TA, hk1⟩
  have hz200 : zs.length ≤ 200 := hgz.1
  clear h hgz
  cases hz : zOkB zs with
  | false =>
    have e1 : (if zOkB zs then posZ zs else []) = [] := by rw [hz]; rfl
    have e2 : (if zOkB zs then negZ zs else []) = [] := by rw [hz]; rfl
    go_wp2_with fail
    refine (pos_val e1 TA).mono ?_
    rintro e w2 ⟨vp, rfl, TP, hb2⟩
    have hk2 := below_then hk1 hb2
    have A_2 := TA.below hb2
    clear hb2 hk1 TA
    obtain ⟨pa, pc, rfl⟩ := TP.empty
    go_wp2_with fail
    refine (neg_val e2 A_2).mono ?_
    rintro e w3 ⟨vn, rfl, TN, hb3⟩
    have hk3 := below_then hk2 hb3
    have A_3 := A_2.below hb3
    have P_3 := TP.below hb3
    clear hb3 hk2 A_2 TP
    obtain ⟨na, nc, rfl⟩ := TN.empty
    go_wp2_with fail
    refine (specPos_val e1 A_3).mono ?_
    rintro e w4 ⟨vp2, rfl, TP2, hb4⟩
    have hk4 := below_then hk3 hb4
    have A_4 := A_3.below hb4
    have P_4 := P_3.below hb4
    have N_4 := TN.below hb4
    clear hb4 hk3 A_3 P_3 TN
    go_wp2_with fail
    refine (zsame_val (zsB_refl _) P_4 TP2).mono ?_
    rintro e w5 ⟨rfl, hb5⟩
    have hk5 := below_then hk4 hb5
    have A_5 := A_4.below hb5
    have P_5 := P_4.below hb5
    have N_5 := N_4.below hb5
    have P2_5 := TP2.below hb5
    clear hb5 hk4 A_4 P_4 N_4 TP2
    clear P2_5
    go_wp2_with fail
    refine (specNeg_val e2 A_5).mono ?_
    rintro e w6 ⟨vn2, rfl, TN2, hb6⟩
    have hk6 := below_then hk5 hb6
    have A_6 := A_5.below hb6
    have P_6 := P_5.below hb6
    have N_6 := N_5.below hb6
    clear hb6 hk5 A_5 P_5 N_5
    go_wp2_with fail
    refine (zsame_val (zsB_refl _) N_6 TN2).mono ?_
    rintro e w7 ⟨rfl, hb7⟩
    have hk7 := below_then hk6 hb7
    have A_7 := A_6.below hb7
    have P_7 := P_6.below hb7
    have N_7 := N_6.below hb7
    have N2_7 := TN2.below hb7
    clear hb7 hk6 A_6 P_6 N_6 TN2
    clear N2_7
    go_wp2_with fail
    refine (okS_val hz A_7).mono ?_
    rintro e w8 ⟨rfl, hb8⟩
    have hk8 := below_then hk7 hb8
    have A_8 := A_7.below hb8
    have P_8 := P_7.below hb8
    have N_8 := N_7.below hb8
    clear hb8 hk7 A_7 P_7 N_7
    clear A_8 P_8 N_8
    clear e1 e2
    go_wp2
    go_ret
    exact ⟨rfl, hk8⟩
  | true =>
    have e1 : (if zOkB zs then posZ zs else []) = posZ zs := by rw [hz]; rfl
    have e2 : (if zOkB zs then negZ zs else []) = negZ zs := by rw [hz]; rfl
    go_wp2_with fail
    refine (pos_val e1 TA).mono ?_
    rintro e w2 ⟨vp, rfl, TP, hb2⟩
    have hk2 := below_then hk1 hb2
    have A_2 := TA.below hb2
    clear hb2 hk1 TA
    go_wp2_with fail
    refine (neg_val e2 A_2).mono ?_
    rintro e w3 ⟨vn, rfl, TN, hb3⟩
    have hk3 := below_then hk2 hb3
    have A_3 := A_2.below hb3
    have P_3 := TP.below hb3
    clear hb3 hk2 A_2 TP
    go_wp2_with fail
    refine (specPos_val e1 A_3).mono ?_
    rintro e w4 ⟨vp2, rfl, TP2, hb4⟩
    have hk4 := below_then hk3 hb4
    have A_4 := A_3.below hb4
    have P_4 := P_3.below hb4
    have N_4 := TN.below hb4
    clear hb4 hk3 A_3 P_3 TN
    go_wp2_with fail
    refine (zsame_val (zsB_refl _) P_4 TP2).mono ?_
    rintro e w5 ⟨rfl, hb5⟩
    have hk5 := below_then hk4 hb5
    have A_5 := A_4.below hb5
    have P_5 := P_4.below hb5
    have N_5 := N_4.below hb5
    have P2_5 := TP2.below hb5
    clear hb5 hk4 A_4 P_4 N_4 TP2
    clear P2_5
    go_wp2_with fail
    refine (specNeg_val e2 A_5).mono ?_
    rintro e w6 ⟨vn2, rfl, TN2, hb6⟩
    have hk6 := below_then hk5 hb6
    have A_6 := A_5.below hb6
    have P_6 := P_5.below hb6
    have N_6 := N_5.below hb6
    clear hb6 hk5 A_5 P_5 N_5
    go_wp2_with fail
    refine (zsame_val (zsB_refl _) N_6 TN2).mono ?_
    rintro e w7 ⟨rfl, hb7⟩
    have hk7 := below_then hk6 hb7
    have A_7 := A_6.below hb7
    have P_7 := P_6.below hb7
    have N_7 := N_6.below hb7
    have N2_7 := TN2.below hb7
    clear hb7 hk6 A_6 P_6 N_6 TN2
    clear N2_7
    go_wp2_with fail
    refine (okS_val hz A_7).mono ?_
    rintro e w8 ⟨rfl, hb8⟩
    have hk8 := below_then hk7 hb8
    have A_8 := A_7.below hb8
    have P_8 := P_7.below hb8
    have N_8 := N_7.below hb8
    clear hb8 hk7 A_7 P_7 N_7
    have HZ : Hid (zOkB zs = true) := hz
    obtain ⟨sa, sc, rfl⟩ := A_8.shape
    obtain ⟨pa, pc, rfl⟩ := P_8.shape
    obtain ⟨n, hn⟩ : ∃ n, n = zs.length := ⟨_, rfl⟩
    obtain ⟨np, hnp⟩ : ∃ n, n = (posZ zs).length := ⟨_, rfl⟩
    have HN : Hid (n = zs.length) := hn
    have HNP : Hid (np = (posZ zs).length) := hnp
    have HTA : Hid (TailZ w8 (.slice sa n sc) zs) := by rw [hn]; exact A_8
    have HTP : Hid (TailZ w8 (.slice pa np pc) (posZ zs)) := by rw [hnp]; exact P_8
    have HTN : Hid (TailZ w8 vn (negZ zs)) := N_8
    have HK0 : Hid (Below w.heap.size w w8) := hk8
    have hnp200 : np ≤ 200 := by rw [hnp]; have := posZ_len zs; omega
    rw [← hn] at hz200 ⊢
    rw [← hnp]
    clear hn hnp e1 e2 hz A_8 P_8 N_8 hk8
    go_wp2
    go_loopw [6] (fun i wr => ∃ k : Nat, k ≤ n ∧ i = .int .i64 k ∧ Hid (Below w8.heap.size w8 wr)) (fun i _ => n - (intOf i).toNat)
    case atStart => exact ⟨0, Nat.zero_le _, rfl, Below.refl _ _⟩
    case round =>
      obtain ⟨k, hk, rfl, HW⟩ := hrel
      by_cases hlt : k < n
      · have hkz : k < zs.length := by rw [← HN.out]; exact hlt
        obtain ⟨b, off, xa, xn, xc, rfl, hb, c0, c1, hix⟩ := (HTA.out.below HW.out).at hkz
        have TZ1 := (HTA.out.below HW.out).below (Below.drew (Below.refl _ _))
        have TP1 := (HTP.out.below HW.out).below (Below.drew (Below.refl _ _))
        have TN1 := (HTN.out.below HW.out).below (Below.drew (Below.refl _ _))
        have hwt := (wB_in (zOk_row HZ.out hkz).2)
        obtain ⟨x, HX⟩ : ∃ x, Hid (x = (zs.getD k ([], 0)).1) := ⟨_, rfl⟩
        obtain ⟨y, HY⟩ : ∃ y, Hid (y = (zs.getD k ([], 0)).2) := ⟨_, rfl⟩
        have gz : (if zOkB zs then getZ zs x else 0) = y := by rw [get_ok HZ.out, HX.out, getZ_own HZ.out hkz, HY.out]
        have gn : (if zOkB (negZ zs) then getZ (negZ zs) x else 0) = -y := by rw [get_ok ((zOk_neg zs).trans HZ.out), getZ_neg, HX.out, getZ_own HZ.out hkz, HY.out]
        have gp0 : (if zOkB (posZ zs) then getZ (posZ zs) x else 0) = if 0 < y then 1 else 0 := by rw [get_ok (zOk_pos HZ.out), getZ_pos (zOk_srt HZ.out), HX.out, getZ_own HZ.out hkz, HY.out]
        rw [← HX.out] at hix
        rw [← HY.out] at c1 hwt
        have hwrap : IntKind.i64.wrap (-y) = -y := by rw [IntKind.wrap_i64]; omega
        have hixd : IntsAt wr.drew (.slice xa xn xc) x := hix.below (Below.drew (Below.refl _ _))
        have hbD : b < wr.drew.heap.size := hb
        clear hix
        by_cases hy : 0 < y
        all_goals
          first
            | (have gp : (if zOkB (posZ zs) then getZ (posZ zs) x else 0) = 1 := (by rw [gp0, if_pos hy]); have hyd : decide (0 < y) = true := (by simpa using hy))
            | (have gp : (if zOkB (posZ zs) then getZ (posZ zs) x else 0) = 0 := (by rw [gp0, if_neg hy]); have hyd : decide (0 < y) = false := (by rw [decide_eq_false_iff_not]; exact hy))
          clear gp0
          go_wp2
          go_region_held3 (fun w' => w'.cell? ⟨b, off + k * 2, none⟩ = some (.slice xa xn xc) ∧ w'.cell? ⟨b, off + k * 2 + 1, none⟩ = some (.int .i64 y)) (first | go_keep | (exact ⟨q0, q1⟩) | (exact ⟨q2, q3⟩) | (exact ⟨q4, q5⟩))
            ((first
              | (go_at_call 15; refine (get_val gz TZ3 ix3).mono ?_; rintro e w4 ⟨rfl, hb4⟩; have q4 := cell_is (p := ⟨b, off + k * 2, none⟩) hb4 hbw3 q2; have q5 := cell_is (p := ⟨b, off + k * 2 + 1, none⟩) hb4 hbw3 q3)
              | (go_at_call 15; refine (get_val gn TN2 ix2).mono ?_; rintro e w3 ⟨rfl, hb3⟩; have q2 := cell_is (p := ⟨b, off + k * 2, none⟩) hb3 hbw2 q0; have q3 := cell_is (p := ⟨b, off + k * 2 + 1, none⟩) hb3 hbw2 q1; have TZ3 := TZ2.below hb3; have ix3 := ix2.below hb3; have hbw3 := Nat.lt_of_lt_of_le hbw2 hb3.size)
              | (go_at_call 15; refine (get_val gp TP1 hixd).mono ?_; rintro e w2 ⟨rfl, hb2⟩; have q0 := cell_is (p := ⟨b, off + k * 2, none⟩) hb2 hbD c0; have q1 := cell_is (p := ⟨b, off + k * 2 + 1, none⟩) hb2 hbD c1; have TN2 := TN1.below hb2; have TZ2 := TZ1.below hb2; have ix2 := hixd.below hb2; have hbw2 := Nat.lt_of_lt_of_le hbD hb2.size)))
          all_goals
            have HK : Hid (Below w8.heap.size w8 w4) := below_then (below_then (below_then (below_then HW.out (Below.drew (Below.refl _ _))) hb2) hb3) hb4
            clear hb2 hb3 hb4 q0 q1 q2 q3 q4 q5 c0 c1 TP1 TN1 TZ1 TN2 TZ2 TZ3 ix2 ix3 hixd gp gn gz
            go_wp2
            go_roundw
            case rel => exact ⟨k + 1, by omega, by go_num, HK.out⟩
            case measure => simp [intOf]; omega
      · obtain rfl : k = n := by omega
        have TA9 := HTA.out.below HW.out
        have TP9 := HTP.out.below HW.out
        have TN9 := HTN.out.below HW.out
        have hk9 := below_then HK0.out HW.out
        have hz := HZ.out
        have f1 := zOk_pos hz
        have f2 : zOkB (negZ zs) = true := (zOk_neg zs).trans hz
        have e5 : (if zOkB (posZ zs) then posZ (posZ zs) else []) = posZ zs := by rw [f1, pos_pos]; rfl
        have e6 : (if zOkB (negZ zs) then negZ (negZ zs) else []) = zs := by rw [f2, negneg]; rfl
        have e7 : (if zOkB (negZ zs) then posZ (negZ zs) else []) = posZ (negZ zs) := by rw [f2]; rfl
        have hpl := pos_len (zOk_nz hz)
        go_wp2_with fail
        refine (okI_val f1 TP9).mono ?_
        rintro e w61 ⟨rfl, hb61⟩
        have hk61 := below_then hk9 hb61
        have A_61 := TA9.below hb61
        have P_61 := TP9.below hb61
        have N_61 := TN9.below hb61
        clear hb61 hk9 TA9 TP9 TN9
        go_wp2_with fail
        refine (okI_val f2 N_61).mono ?_
        rintro e w62 ⟨rfl, hb62⟩
        have hk62 := below_then hk61 hb62
        have A_62 := A_61.below hb62
        have P_62 := P_61.below hb62
        have N_62 := N_61.below hb62
        clear hb62 hk61 A_61 P_61 N_61
        go_wp2_with fail
        refine (pos_val e5 P_62).mono ?_
        rintro e w63 ⟨vpp, rfl, TPP, hb63⟩
        have hk63 := below_then hk62 hb63
        have A_63 := A_62.below hb63
        have P_63 := P_62.below hb63
        have N_63 := N_62.below hb63
        clear hb63 hk62 A_62 P_62 N_62
        go_wp2_with fail
        refine (zsame_val (zsB_refl _) TPP P_63).mono ?_
        rintro e w64 ⟨rfl, hb64⟩
        have hk64 := below_then hk63 hb64
        have A_64 := A_63.below hb64
        have P_64 := P_63.below hb64
        have N_64 := N_63.below hb64
        have PP_64 := TPP.below hb64
        clear hb64 hk63 A_63 P_63 N_63 TPP
        clear PP_64
        go_wp2_with fail
        refine (neg_val e6 N_64).mono ?_
        rintro e w65 ⟨vnn, rfl, TNN, hb65⟩
        have hk65 := below_then hk64 hb65
        have A_65 := A_64.below hb65
        have P_65 := P_64.below hb65
        have N_65 := N_64.below hb65
        clear hb65 hk64 A_64 P_64 N_64
        go_wp2_with fail
        refine (zsame_val (zsB_refl _) TNN A_65).mono ?_
        rintro e w66 ⟨rfl, hb66⟩
        have hk66 := below_then hk65 hb66
        have A_66 := A_65.below hb66
        have P_66 := P_65.below hb66
        have N_66 := N_65.below hb66
        have NN_66 := TNN.below hb66
        clear hb66 hk65 A_65 P_65 N_65 TNN
        clear NN_66
        go_wp2_with fail
        refine (pos_val e7 N_66).mono ?_
        rintro e w67 ⟨vpn, rfl, TPN, hb67⟩
        have hk67 := below_then hk66 hb67
        have A_67 := A_66.below hb67
        have P_67 := P_66.below hb67
        have N_67 := N_66.below hb67
        clear hb67 hk66 A_66 P_66 N_66
        obtain ⟨qa, qc, rfl⟩ := TPN.shape
        rw [← HN.out, ← HNP.out] at hpl
        have hpl2 : ((np : Int) + ((posZ (negZ zs)).length : Int)) = (k : Int) := by omega
        obtain ⟨nq, hnq⟩ : ∃ n, n = (posZ (negZ zs)).length := ⟨_, rfl⟩
        rw [← hnq] at hpl2 ⊢
        have hkk : k = np + nq := by omega
        clear hpl hnq hpl2
        clear A_67 P_67 N_67 TPN
        clear e5 e6 e7 f1 f2 hz
        go_wp2
        go_ret
        exact ⟨rfl, hk67⟩

end Go.Proofs.Ytdleikloneaodaa
