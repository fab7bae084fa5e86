/-
  The walk of laws.FnMapTwice, out of the contracts: whatever the bytes are, it answers true, and nothing that was there is written. Condition: the error of chapter 3 reads as it was laid.
-/
import Derived.Test.YtdponcnhdmkhiabDoorMapFacts
import Derived.Test.YtdponcnhdmkhiabDoorDrawMap
import Derived.Test.YtdponcnhdmkhiabDoorLaidSent
namespace Go.Proofs.YtdponcnhdmkhiabDoor
open Go.RowKit
set_option linter.unusedVariables false

theorem colsC_take {n : Nat} (h : 1 ≤ n) : (colsC n).take 1 = colsC 1 := by
  obtain ⟨m, rfl⟩ : ∃ m, n = m + 1 := ⟨n - 1, by omega⟩
  simp [colsC, List.range_succ_eq_map]

set_option maxRecDepth 100000 in
set_option maxHeartbeats 8000000 in
theorem lawFnMapTwice (a : Option Addr) (len cap : Nat) (bs : List Int) (w : World) (h : IsRow .u8 w a len cap bs) (hs : HasSent w) :
    Calls Tryd.prog 3 #[.slice a len cap] w fun e w' => e = .returned (.bool true) ∧ Below w.heap.size w w' := by
  obtain ⟨i0, hi, hi1, hi2, hi3⟩ := info_parts infoC4
  by_cases hlim : len ≤ 1048576
  · obtain ⟨p, hp⟩ := hs
    go_enter Tryd.func3, Tryd.ntmps3
    go_wp2_with fail
    refine (drawMapOf_any a len cap bs _ h).mono ?_
    rintro e w1 ⟨vz, ua, uc, cs, zs, rfl, hcl, huc, hum, hgz, hz1, hu1, hb1⟩
    simp only [maxLen] at hum
    obtain ⟨za, zc, rfl⟩ := hz1.shape
    have B1 : Hid (Below w.heap.size w w1) := hb1
    have Tz1 : Hid (TailZ w1 (.slice za zs.length zc) zs) := hz1
    have U1 : Hid (CelsAt w1 (.slice ua cs.length uc) cs) := hu1
    have HP : Hid (Sent w p) := hp
    have hzl : zs.length ≤ 200 := hgz.1
    obtain ⟨os, HO⟩ : ∃ os, Hid (mapOut cs zs = os) := ⟨_, Eq.refl _⟩
    obtain ⟨d, HD⟩ : ∃ d, Hid (mapOk cs zs = d) := ⟨_, Eq.refl _⟩
    have hdd : (d != d) = false := by simp
    have hde : (d == d) = true := by simp
    clear hgz hz1 hu1 hb1 hp h
    go_wp2_with fail
    refine (map_val HD.out HO.out (HP.out.below B1.out) Tz1.out U1.out).mono ?_
    rintro e w2 ⟨v2, rfl, h2, hb2⟩
    obtain ⟨aa, ac, rfl⟩ := h2.shape
    have B2 : Hid (Below w.heap.size w w2) := below_then B1.out hb2
    have Tz2 : Hid (TailZ w2 (.slice za zs.length zc) zs) := Tz1.out.below hb2
    have U2 : Hid (CelsAt w2 (.slice ua cs.length uc) cs) := U1.out.below hb2
    have Tm2 : Hid (TailZ w2 (.slice aa os.length ac) os) := h2
    clear hb2 h2 B1 Tz1 U1
    go_wp2_with fail
    refine (specMap_val HD.out HO.out Tz2.out U2.out).mono ?_
    rintro e w3 ⟨v3, rfl, h3, hb3⟩
    have B3 : Hid (Below w.heap.size w w3) := below_then B2.out hb3
    have Tz3 : Hid (TailZ w3 (.slice za zs.length zc) zs) := Tz2.out.below hb3
    have U3 : Hid (CelsAt w3 (.slice ua cs.length uc) cs) := U2.out.below hb3
    have Tm3 : Hid (TailZ w3 (.slice aa os.length ac) os) := Tm2.out.below hb3
    have Tw3 : Hid (TailZ w3 v3 os) := h3
    clear hb3 h3 B2 Tz2 U2 Tm2
    go_wp2_with fail
    refine (zsame_val (zsB_refl os) Tm3.out Tw3.out).mono ?_
    rintro e w4 ⟨rfl, hb4⟩
    have B4 : Hid (Below w.heap.size w w4) := below_then B3.out hb4
    have Tz4 : Hid (TailZ w4 (.slice za zs.length zc) zs) := Tz3.out.below hb4
    have U4 : Hid (CelsAt w4 (.slice ua cs.length uc) cs) := U3.out.below hb4
    have Tm4 : Hid (TailZ w4 (.slice aa os.length ac) os) := Tm3.out.below hb4
    have Tw4 : Hid (TailZ w4 v3 os) := Tw3.out.below hb4
    clear hb4 B3 Tz3 U3 Tm3 Tw3
    cases hd : d with
    | false =>
      subst hd
      go_wp2_with fail
      refine (zsame_val (zsB_refl os) Tm4.out Tw4.out).mono ?_
      rintro e w5 ⟨rfl, hb5⟩
      have B5 : Hid (Below w.heap.size w w5) := below_then B4.out hb5
      clear hb5 B4 Tz4 U4 Tm4 Tw4
      go_wp2
      go_ret
      exact ⟨rfl, B5.out⟩
    | true =>
      have HT : Hid (mapOk cs zs = true) := by rw [Hid, HD.out, hd]
      obtain ⟨hzok, hcl6, -, -, -⟩ := map_true HT.out
      obtain ⟨n, hn⟩ : ∃ n, n = cs.length := ⟨_, rfl⟩
      have HN : Hid (n = cs.length) := hn
      have HC : Hid (mapOk (colsC n) os = true ∧ mapOut (colsC n) os = os) := by rw [Hid, hn, ← HO.out]; exact map_cols HT.out
      have HW : Hid (sumW os = sumW zs) := by rw [Hid, ← HO.out]; exact map_weights HT.out
      have hfew : os.length ≤ zs.length := by rw [← HO.out]; exact map_few HT.out
      have HZOK : Hid (zOkB zs = true) := hzok
      have HMOK : Hid (zOkB os = true) := by have := map_true HT.out; rw [Hid, ← HO.out, this.2.2.2.2]; exact this.2.2.2.1
      have HF : Hid (∀ q r, mapOk (colsC 1) os = q → mapOk (cs.take 1) zs = r → q = true → r = true → mapOut (colsC 1) os = mapOut (cs.take 1) zs) := by
        intro q r e1 e2 e3 e4
        rw [← HO.out] at e1 ⊢
        exact map_first HT.out (e1.trans e3) (e2.trans e4)
      have h1n : 1 ≤ n := by omega
      have hn3 : n ≤ 3 := by omega
      rw [← hn] at U4 huc ⊢
      subst hd
      clear hn hcl6 hcl Tw4 hzok
      have ho1 : (w4.alloc (.cells #[] 31)).ownsRow w4.heap.size 31 4 (.slice (some ⟨w4.heap.size, 0, none⟩) 0 0) 0 [] := World.ownsRow_lit w4 #[] 0 (Nat.le_refl _) (by unfold maxLen; omega) rfl
      have HO1 : Hid ((w4.alloc (.cells #[] 31)).ownsRow w4.heap.size 31 4 (.slice (some ⟨w4.heap.size, 0, none⟩) 0 0) 0 (celV (colsC 0))) := ho1
      clear ho1
      go_wp2
      go_loopw [9, 10] (fun s i wr => ∃ (k : Nat), k ≤ n ∧ i = .int .i64 k ∧ Hid (wr.ownsRow w4.heap.size 31 4 s k (celV (colsC k))) ∧ Hid (Below w4.heap.size w4 wr)) (fun _ i _ => n - (intOf i).toNat)
      case atStart => exact ⟨0, Nat.zero_le _, rfl, HO1.out, bel_alloc _⟩
      case round =>
        obtain ⟨k, hk, rfl, HR, HB⟩ := hrel
        clear HO1
        by_cases hlt : k < n
        · have ho := HR.out.alloc (.cells #[.int .i64 1, .int .i64 k, .int .i64 0, .int .i64 0] 31)
          have hbb := bel_then HB.out (bel_alloc (.cells #[.int .i64 1, .int .i64 k, .int .i64 0, .int .i64 0] 31))
          have hsz := HB.out.size
          clear HR HB
          go_wp2_with (at_builtin; refine wpList_append_own _ rfl (.tmp 69) (.tmp 72) 24 rfl w4.heap.size 31 i0 (.agg #[.int .i64 0, .int .i64 0, .int .i64 0, .int .i64 0]) 4 32 Tryd.underlying24 hi hi1 hi2 hi3 rfl (by decide) u9 k _ rfl ho ⟨wr.heap.size, 0, none⟩ 1 1 [.int .i64 1, .int .i64 k, .int .i64 0, .int .i64 0] rfl rfl (fun j u hj => by match j, hj with | 0, hj => simp at hj; subst hj; simp [Addr.add] | 1, hj => simp at hj; subst hj; simp [Addr.add] | 2, hj => simp at hj; subst hj; simp [Addr.add] | 3, hj => simp at hj; subst hj; simp [Addr.add] | j + 4, hj => simp at hj) (fun u hu => by simp at hu; rcases hu with rfl | rfl | rfl | rfl <;> rfl) (by unfold maxLen; omega) (by omega) (by simp; omega) ?_; intro v' w5 hown5 hgrow5 _)
          have HR2 : Hid (w5.ownsRow w4.heap.size 31 4 v' (k + 1) (celV (colsC (k + 1)))) := by rw [Hid, colsC_succ, celV_snoc]; exact hown5
          have HB2 : Hid (Below w4.heap.size w4 w5) := hbb.grown hgrow5 (by simp; omega) (fun i hi' => (ho.lt i hi').1)
          clear hown5 hgrow5 ho hbb
          go_wp2
          go_roundw
          case rel => exact ⟨k + 1, by omega, by go_num, HR2.out, HB2.out⟩
          case measure => simp [intOf]; omega
        · obtain rfl : k = n := by omega
          have hoR := HR.out
          have hoC : CelsAt wr u9 (colsC k) := owns_cels (by rw [colsC_len]; exact hoR)
          obtain ⟨g9, cap9, rfl, hcap9, hcapm⟩ : ∃ g9 cap9, u9 = .slice (some ⟨g9, 0, none⟩) k cap9 ∧ k ≤ cap9 ∧ cap9 ≤ maxLen := by
            rcases hoR.2 with ⟨_, h0⟩ | ⟨g, c, cur, e, _, _, h1, h2, _⟩
            · omega
            · exact ⟨g, c, e, h1, h2⟩
          simp only [maxLen] at hcapm
          have A5 : Hid (CelsAt wr (.slice (some ⟨g9, 0, none⟩) k cap9) (colsC k)) := hoC
          have B5 : Hid (Below w.heap.size w wr) := below_then B4.out HB.out
          have Tz5 : Hid (TailZ wr (.slice za zs.length zc) zs) := Tz4.out.below HB.out
          have U5 : Hid (CelsAt wr (.slice ua k uc) cs) := U4.out.below HB.out
          have Tm5 : Hid (TailZ wr (.slice aa os.length ac) os) := Tm4.out.below HB.out
          clear hoR hoC HR HB B4 Tz4 U4 Tm4 hi hi1 hi2 hi3
          obtain ⟨ub, uo, rfl⟩ : ∃ ub uo, ua = some ⟨ub, uo, none⟩ := by
            obtain ⟨x, y, e, hc⟩ := U5.out
            obtain ⟨b, off, e2, _⟩ := hc (fun e => by have := HN.out; rw [e] at this; simp at this; omega)
            simp at e
            exact ⟨b, off, e.1.trans e2⟩
          go_wp2_with fail
          refine (map_val HC.out.1 HC.out.2 (HP.out.below B5.out) Tm5.out A5.out).mono ?_
          rintro e w6 ⟨v6, rfl, h6, hb6⟩
          have B6 : Hid (Below w.heap.size w w6) := below_then B5.out hb6
          have Tz6 : Hid (TailZ w6 (.slice za zs.length zc) zs) := Tz5.out.below hb6
          have U6 : Hid (CelsAt w6 (.slice (some ⟨ub, uo, none⟩) k uc) cs) := U5.out.below hb6
          have Tm6 : Hid (TailZ w6 (.slice aa os.length ac) os) := Tm5.out.below hb6
          have A6 : Hid (CelsAt w6 (.slice (some ⟨g9, 0, none⟩) k cap9) (colsC k)) := A5.out.below hb6
          have Ts6 : Hid (TailZ w6 v6 os) := h6
          have A16 : Hid (∀ c, CelsAt w6 (.slice (some ⟨g9, 0, none⟩) 1 c) (colsC 1)) := fun c => by
            have := A6.out.first (cap' := c) (by rw [colsC_len]; exact h1n)
            rwa [colsC_take h1n] at this
          clear h6 hb6 B5 Tz5 U5 Tm5 A5 A6
          obtain ⟨q, HQ⟩ : ∃ q, Hid (mapOk (colsC 1) os = q) := ⟨_, Eq.refl _⟩
          obtain ⟨fs, HFS⟩ : ∃ fs, Hid (mapOut (colsC 1) os = fs) := ⟨_, Eq.refl _⟩
          obtain ⟨r, HR⟩ : ∃ r, Hid (mapOk (cs.take 1) zs = r) := ⟨_, Eq.refl _⟩
          obtain ⟨gs, HGS⟩ : ∃ gs, Hid (mapOut (cs.take 1) zs = gs) := ⟨_, Eq.refl _⟩
          have HEQ : Hid (q = true → r = true → fs = gs) := fun e1 e2 => by rw [← HFS.out, ← HGS.out]; exact HF.out q r HQ.out HR.out e1 e2
          go_wp2_with fail
          refine (map_val HQ.out HFS.out (HP.out.below B6.out) Tm6.out (A16.out _)).mono ?_
          rintro e w7 ⟨v7, rfl, h7, hb7⟩
          have B7 : Hid (Below w.heap.size w w7) := below_then B6.out hb7
          have Tz7 : Hid (TailZ w7 (.slice za zs.length zc) zs) := Tz6.out.below hb7
          have U7 : Hid (CelsAt w7 (.slice (some ⟨ub, uo, none⟩) k uc) cs) := U6.out.below hb7
          have Tm7 : Hid (TailZ w7 (.slice aa os.length ac) os) := Tm6.out.below hb7
          have Ts7 : Hid (TailZ w7 v6 os) := Ts6.out.below hb7
          have Tf7 : Hid (TailZ w7 v7 fs) := h7
          have U17 : Hid (∀ c, CelsAt w7 (.slice (some ⟨ub, uo, none⟩) 1 c) (cs.take 1)) := fun c => U7.out.first (cap' := c) (by rw [← HN.out]; exact h1n)
          clear h7 hb7 B6 Tz6 U6 Tm6 Ts6 A16 U7
          go_wp2_with fail
          refine (map_val HR.out HGS.out (HP.out.below B7.out) Tz7.out (U17.out _)).mono ?_
          rintro e w8 ⟨v8, rfl, h8, hb8⟩
          have B8 : Hid (Below w.heap.size w w8) := below_then B7.out hb8
          have Tz8 : Hid (TailZ w8 (.slice za zs.length zc) zs) := Tz7.out.below hb8
          have Tm8 : Hid (TailZ w8 (.slice aa os.length ac) os) := Tm7.out.below hb8
          have Ts8 : Hid (TailZ w8 v6 os) := Ts7.out.below hb8
          have Tf8 : Hid (TailZ w8 v7 fs) := Tf7.out.below hb8
          have Tg8 : Hid (TailZ w8 v8 gs) := h8
          clear h8 hb8 B7 Tz7 Tm7 Ts7 Tf7 U17
          have hol : os.length ≤ 200 := by omega
          go_wp2
          go_loop [17, 19] (fun s i => ∃ (j : Nat) (y : Int), j ≤ zs.length ∧ i = .int .i64 j ∧ s = .int .i64 y ∧ (-2000000 ≤ y ∧ y ≤ 2000000) ∧ Hid (y = sumW (zs.take j))) (fun _ i => zs.length - (intOf i).toNat)
          case atStart => exact ⟨0, 0, Nat.zero_le _, rfl, rfl, by omega, by simp [Hid, sumW, sumP]⟩
          case round =>
            obtain ⟨j, y, hj, rfl, rfl, ⟨hy0, hy1⟩, HY⟩ := hrel
            by_cases hlt : j < zs.length
            · obtain ⟨zb, zo, xa, xn, xc, rfl, hbz, c0, c1, _⟩ := Tz8.out.atM hlt
              have hin := sumW_in HZOK.out (j + 1) hlt
              have hw := (wB_in (zOk_row HZOK.out hlt).2).2
              obtain ⟨x, HX⟩ : ∃ x, Hid (x = (zs.getD j ([], 0)).2) := ⟨_, rfl⟩
              rw [← HX.out] at c1 hw
              have HY2 : Hid (y + x = sumW (zs.take (j + 1))) := by rw [Hid, sumW_take hlt, HY.out, HX.out]
              rw [← HY2.out] at hin
              clear HY
              go_wp2
              go_round
              case rel => exact ⟨j + 1, y + x, by omega, by go_num, rfl, by omega, HY2.out⟩
              case measure => simp [intOf]; omega
            · obtain rfl : j = zs.length := by omega
              have HYF : Hid (y = sumW zs) := by have := HY.out; rwa [List.take_length] at this
              clear HY
              go_wp2
              go_loop [18, 20] (fun s i => ∃ (j : Nat) (x : Int), j ≤ os.length ∧ i = .int .i64 j ∧ s = .int .i64 x ∧ (-2000000 ≤ x ∧ x ≤ 2000000) ∧ Hid (x = sumW (os.take j))) (fun _ i => os.length - (intOf i).toNat)
              case atStart => exact ⟨0, 0, Nat.zero_le _, rfl, rfl, by omega, by simp [Hid, sumW, sumP]⟩
              case round =>
                obtain ⟨j, x, hj, rfl, rfl, ⟨hx0, hx1⟩, HY⟩ := hrel
                by_cases hlt : j < os.length
                · obtain ⟨zb, zo, xa, xn, xc, rfl, hbz, c0, c1, _⟩ := Tm8.out.atM hlt
                  have hin := sumW_in HMOK.out (j + 1) hlt
                  have hw := (wB_in (zOk_row HMOK.out hlt).2).2
                  obtain ⟨t, HX⟩ : ∃ t, Hid (t = (os.getD j ([], 0)).2) := ⟨_, rfl⟩
                  rw [← HX.out] at c1 hw
                  have HY2 : Hid (x + t = sumW (os.take (j + 1))) := by rw [Hid, sumW_take hlt, HY.out, HX.out]
                  rw [← HY2.out] at hin
                  clear HY
                  go_wp2
                  go_round
                  case rel => exact ⟨j + 1, x + t, by omega, by go_num, rfl, by omega, HY2.out⟩
                  case measure => simp [intOf]; omega
                · obtain rfl : j = os.length := by omega
                  obtain rfl : y = x := by
                    have := HY.out
                    rw [List.take_length] at this
                    rw [this, HYF.out, HW.out]
                  have hle : (os.length : Int) ≤ (zs.length : Int) := by omega
                  clear HY HYF
                  go_wp2_with fail
                  refine (zsame_val (zsB_refl os) Ts8.out Tm8.out).mono ?_
                  rintro e w9 ⟨rfl, hb9⟩
                  have B9 : Hid (Below w.heap.size w w9) := below_then B8.out hb9
                  have Tf9 : Hid (TailZ w9 v7 fs) := Tf8.out.below hb9
                  have Tg9 : Hid (TailZ w9 v8 gs) := Tg8.out.below hb9
                  clear hb9 B8 Tz8 Tm8 Ts8 Tf8 Tg8
                  cases hq : q with
                  | false =>
                    subst hq
                    go_wp2
                    go_ret
                    exact ⟨rfl, B9.out⟩
                  | true =>
                    cases hr : r with
                    | false =>
                      subst hq hr
                      go_wp2
                      go_ret
                      exact ⟨rfl, B9.out⟩
                    | true =>
                      obtain rfl : fs = gs := HEQ.out hq hr
                      subst hq hr
                      go_wp2_with fail
                      refine (zsame_val (zsB_refl fs) Tf9.out Tg9.out).mono ?_
                      rintro e w10 ⟨rfl, hb10⟩
                      have B10 : Hid (Below w.heap.size w w10) := below_then B9.out hb10
                      clear hb10 B9 Tf9 Tg9
                      go_wp2
                      go_ret
                      exact ⟨rfl, B10.out⟩
  · have hg : (len : Int) > 1048576 := by omega
    go_enter Tryd.func3, Tryd.ntmps3
    go_wp2
    go_ret
    exact ⟨rfl, Below.refl _ _⟩
end Go.Proofs.YtdponcnhdmkhiabDoor
