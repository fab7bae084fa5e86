/-
  The walk of laws.FnRunGet, out of the contracts: it answers true whatever the bytes are, and nothing that was there is written.
-/
import Derived.Test.YtegnoebpnpdogaaDrawRun
import Derived.Test.YtegnoebpnpdogaaRunMergeI
import Derived.Test.YtegnoebpnpdogaaRunOkSpec
import Derived.Test.YtegnoebpnpdogaaSearch
namespace Go.Proofs.Ytegnoebpnpdogaa
set_option maxRecDepth 100000
set_option linter.unusedVariables false
open Go.RowKit

theorem zget_ok {v rv : Value} {zs : List It} {r : List Int} {n : Int} {w : World} (hz : zOkB zs = true) (hn : getZ zs r = n) (h : ItemsAt w v zs) (hr : IntsAt w rv r) :
    Calls Try.prog 21 #[v, rv] w fun e w' => e = .returned (.int .i64 n) ∧ Below w.heap.size w w' := by
  have := implZGet_any v zs rv r w h hr
  rwa [if_pos hz, hn] at this

set_option maxHeartbeats 2000000 in
theorem lawFnRunGet (a : Option Addr) (len cap : Nat) (bs : List Int) (w : World) (h : IsRow .u8 w a len cap bs) :
    Calls Try.prog 7 #[.slice a len cap] w fun e w' => e = .returned (.bool true) ∧ Below w.heap.size w w' := by
  by_cases hl : ¬ len ≤ 1048576
  · have hbig : (1048576 : Int) < (len : Int) := by omega
    clear h
    go_enter Try.func7, Try.ntmps7
    go_wp2
    go_ret
    exact ⟨rfl, Below.refl _ _⟩
  replace hl : len ≤ 1048576 := by omega
  have hlI : ¬ (1048576 : Int) < (len : Int) := by omega
  go_enter Try.func7, Try.ntmps7
  go_wp2_with fail
  refine (drawRunGet_any a len cap bs _ h).mono ?_
  rintro e w1 ⟨v, rv, rfl, s, r, hR, hr, hk1⟩
  clear h hlI hl
  obtain ⟨sa, sc, hsh⟩ := hR.shape
  obtain ⟨sn, HSN⟩ : ∃ n, Hid (n = s.length) := ⟨_, rfl⟩
  rw [← HSN.out] at hsh
  subst hsh
  obtain ⟨ra, rn, rc, rfl⟩ := hr.shape
  obtain ⟨n, HN⟩ : ∃ n, Hid (n = getR s r) := ⟨_, rfl⟩
  have b2 : BoxAt (w1.alloc (.cells #[.slice sa sn sc] 25)) w1.heap.size (.slice sa sn sc) := boxAt_new _ _
  have hbA : Below w1.heap.size w1 (w1.alloc (.cells #[.slice sa sn sc] 25)) := below_alloc _
  have hk2 := below_then hk1 hbA
  have hR2 := hR.below hbA
  have hr2 := hr.below hbA
  clear hbA hR hr hk1
  go_wp2_with fail
  refine (implRunGet_any _ s _ r _ hR2 hr2).mono ?_
  rw [← HN.out]
  rintro e w3 ⟨rfl, hb3⟩
  have b3 := b2.below hb3
  have hk3 := below_then hk2 hb3
  have hR3 := hR2.below hb3
  have hr3 := hr2.below hb3
  clear b2 hk2 hR2 hr2 hb3
  have c3 := b3.cell
  obtain ⟨b, HB⟩ : ∃ b, Hid (b = w1.heap.size) := ⟨_, rfl⟩
  rw [← HB.out] at b3 c3
  go_upto_region 5 with fail
  rw [← HB.out]
  go_cut [33] (fun p wx => p = .bool false ∧ Hid (Below w3.heap.size w3 wx))
  case first =>
    go_wp2_with fail
    go_region_held3 (fun w' => w'.cell? ⟨b, 0, none⟩ = some (.slice sa sn sc)) (first | go_keep | (exact c4) | (exact c5) | (exact c6) | (exact c7)) ((first
      | (go_at_call 19; refine (implZSame_any _ _ (togOut s) (togOut s) _ (Z5.keep' hb6).items Z6.items).mono ?_; rw [show zsB (togOut s) (togOut s) = true by simp [zsB]]; rintro e w7 ⟨rfl, hb7⟩; have hk7 := below_then hk6 hb7; have c7 := (b3.below hk7).cell)
      | (go_at_call 31; refine (specRunAll_any _ s _ (hR3.below hk5)).mono ?_; rintro e w6 ⟨v6, rfl, Z6, hb6⟩; have hk6 := below_then hk5 hb6; have c6 := (b3.below hk6).cell)
      | (go_at_call 16; refine (implRunAll_any _ s _ (hR3.below hk4)).mono ?_; rintro e w5 ⟨v5, rfl, Z5, hb5⟩; have hk5 := below_then hk4 hb5; have c5 := (b3.below hk5).cell)
      | (go_at_call 30; refine (specRunGet_any _ s _ r _ (hR3.below (Below.drew (Below.refl _ _))) (hr3.below (Below.drew (Below.refl _ _)))).mono ?_; rw [← HN.out]; rintro e w4 ⟨rfl, hb4⟩; have hk4 : Below w3.heap.size w3 w4 := below_then (Below.drew (Below.refl _ _)) hb4; have c4 := (b3.below hk4).cell)))
    all_goals
      go_wp2_with fail
      go_meet
      case rel => exact ⟨rfl, hk7⟩
  case rest =>
    obtain ⟨rfl, HC⟩ := hcut
    have b4 := b3.below HC.out
    have hk4 := below_then hk3 HC.out
    have hR4 := hR3.below HC.out
    have hr4 := hr3.below HC.out
    clear b3 hk3 hR3 hr3 c3 HC
    have c4 := b4.cell
    cases hok : runOkB s with
    | false =>
      have hn0 : n = 0 := by rw [HN.out]; simp [getR, hok]
      subst hn0
      go_wp2_with fail
      refine (specRunOk_any _ s _ hR4).mono ?_
      rw [hok]
      rintro e w5 ⟨rfl, hb5⟩
      have HK := hidK (below_then hk4 hb5)
      clear b4 hk4 hR4 hr4 hb5 hok
      go_wp2
      go_ret
      exact ⟨rfl, HK.out⟩
    | true =>
      have hs5 := runOk_le hok
      have hsn5 : sn ≤ 5 := by rw [HSN.out]; exact hs5
      have HOK := hidK hok
      have HE : Hid (∀ j, j < s.length → zOkB (s.getD j []) = true) := fun j hj => each_ok hok hj
      have HLI : Hid (∀ k, k ≤ s.length → Light k (sumR (s.take k))) := light_sum HE.out
      obtain ⟨f1, f2, f3, f4, f5, _⟩ := mrg_facts_ok (f := 100000) hok (by omega)
      have hnn : getR (mrgOut s 100000) r = n := by rw [HN.out]; simp [getR, hok, f1, f2]
      obtain ⟨lf, HLF⟩ : ∃ lf, Hid (lf = mrgLeft s 100000) := ⟨_, rfl⟩
      rw [← HLF.out] at f4 f5
      go_wp2_with fail
      refine (specRunOk_any _ s _ hR4).mono ?_
      rw [hok]
      rintro e w5 ⟨rfl, hb5⟩
      have b5 := b4.below hb5
      have hk5 := below_then hk4 hb5
      have hR5 := hR4.below hb5
      have hr5 := hr4.below hb5
      clear b4 hk4 hR4 hr4 hb5 hok c4
      go_wp2
      go_loopw [6, 7] (fun y i wr => ∃ (k : Nat) (q : Int), k ≤ sn ∧ i = .int .i64 k ∧ y = .int .i64 q ∧ -50000 ≤ q ∧ q ≤ 50000 ∧ Hid (q = getZ (sumR (s.take k)) r) ∧ Hid (Below w5.heap.size w5 wr)) (fun _ i _ => sn - (intOf i).toNat)
      case atStart => exact ⟨0, 0, Nat.zero_le _, rfl, rfl, by omega, by omega, by simp [Hid, sumR, getZ_nil], Below.refl _ _⟩
      case round =>
        obtain ⟨k, q, hk, rfl, rfl, hq0, hq1, HS, HW⟩ := hrel
        have b6 := b5.below HW.out
        have hk6 := below_then hk5 HW.out
        have hR6 := hR5.below HW.out
        have hr6 := hr5.below HW.out
        have c6 := b6.cell
        by_cases hlt : k < sn
        · have hltI : (k : Int) < (sn : Int) := by omega
          have hlt' : k < s.length := by rw [← HSN.out]; exact hlt
          obtain ⟨bb, off, cp, hv, _, _⟩ := hR6.some (by omega)
          simp only [Value.slice.injEq] at hv
          obtain ⟨rfl, -, rfl⟩ := hv
          obtain ⟨hbb, xv, cx, hT⟩ := hR6.at hlt
          obtain ⟨xa, xn, xc, rfl⟩ : ∃ a n c, xv = Value.slice a n c := by obtain ⟨a, c, e⟩ := hT.shape1; exact ⟨a, _, c, e⟩
          obtain ⟨gx, HG⟩ : ∃ gx, Hid (gx = getZ (s.getD k []) r) := ⟨_, rfl⟩
          have hgx := getZ_bound (B := 10000) (by omega) r (zOk_w (HE.out k hlt'))
          rw [← HG.out] at hgx
          have hnx : Hid (q + gx = getZ (sumR (s.take (k + 1))) r) := by
            show _ = _
            rw [getR_step HE.out hlt', HS.out, HG.out]
          have hbd := getZ_bound (B := 10000 * ((k + 1 : Nat) : Int)) (by omega) r (HLI.out (k + 1) (by omega)).2.2.2.2
          rw [← hnx.out] at hbd
          have hsum : -50000 ≤ q + gx ∧ q + gx ≤ 50000 := by omega
          clear hR6 b6 hk6
          go_wp2_with fail
          refine (zget_ok (HE.out k hlt') HG.out.symm hT.items hr6).mono ?_
          rintro e w7 ⟨rfl, hb7⟩
          have HW7 := hidK (below_then HW.out hb7)
          clear hT hr6 hb7 HW c6 cx hbd
          go_wp2
          go_roundw
          case rel => exact ⟨k + 1, q + gx, by omega, by go_num, by go_num, by omega, by omega, hnx.out, HW7.out⟩
          case measure => simp [intOf]; omega
        · have e : k = sn := by omega
          subst e
          have hqn : q = n := by
            have h1 := HS.out
            have h2 := HN.out
            rw [h1, h2]
            simp [getR, HOK.out, HSN.out]
          subst hqn
          clear b5 hk5 hR5 hr5
          go_wp2_with fail
          refine (implRunMerge_any _ s 100000 _ hR6 (by omega)).mono ?_
          rw [← HLF.out]
          rintro e w7 ⟨v7, rfl, O7, hb7⟩
          obtain ⟨ma, mc, hshm⟩ := O7.shape
          obtain ⟨mn, HMN⟩ : ∃ n, Hid (n = (mrgOut s 100000).length) := ⟨_, rfl⟩
          rw [← HMN.out] at hshm f3
          subst hshm
          have hmn : (mn : Int) ≤ (k : Int) := by have := HSN.out; omega
          have b7 := b6.below hb7
          have b8 := b7.below (below_alloc (.cells #[.slice ma mn mc] 25))
          have m8 : BoxAt (w7.alloc (.cells #[.slice ma mn mc] 25)) w7.heap.size (.slice ma mn mc) := boxAt_new _ _
          have hk8 := below_then (below_then hk6 hb7) (below_alloc (.cells #[.slice ma mn mc] 25))
          have hr8 := (hr6.below hb7).below (below_alloc (.cells #[.slice ma mn mc] 25))
          have R8 := O7.runs.below (below_alloc (.cells #[.slice ma mn mc] 25))
          have c8 := m8.cell
          clear b6 hk6 hR6 hr6 c6 hb7 O7 b7
          go_wp2_with fail
          refine (implRunGet_any _ (mrgOut s 100000) _ r _ R8 hr8).mono ?_
          rw [hnn]
          rintro e w9 ⟨rfl, hb9⟩
          have HK := hidK (below_then hk8 hb9)
          have c9 := (b8.below hb9).cell
          have m9 := (m8.below hb9).cell
          clear b8 m8 hk8 hr8 R8 hb9 c8
          go_wp2
          go_ret
          exact ⟨rfl, HK.out⟩

end Go.Proofs.Ytegnoebpnpdogaa
