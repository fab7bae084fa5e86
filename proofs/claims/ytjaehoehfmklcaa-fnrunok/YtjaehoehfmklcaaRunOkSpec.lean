/-
  The contracts of spec.RunOk, spec.RunAll, spec.RunSame and impl.RunSame at all runs.
-/
import Derived.Test.YtjaehoehfmklcaaRunOk
namespace Go.Proofs.Ytjaehoehfmklcaa
set_option maxRecDepth 100000
open Go.RowKit

theorem addZ_nil_l {x : List It} (hs : Srt x) (hn : Nz x) : addZ [] x = x :=
  canon (srt_add Srt.nil) (nz_add nz_nil) hs hn fun q => by rw [getZ_add Srt.nil hs, getZ_nil]; omega
theorem step_zero {zss : Rn} (h0 : 0 < zss.length) (h1 : zOkB (zss.getD 0 []) = true) (h2 : zss.getD 0 [] ≠ []) : stepR zss 0 = true := by
  refine stepR_yes h1 h2 ?_
  rw [sumR_take h0, List.take_zero, sumR_nil, addZ_nil_l (zOk_srt h1) (zOk_nz h1)]
  exact h1

set_option maxHeartbeats 8000000 in
theorem specRunOk_some (b off cap : Nat) (zss : Rn) (w : World) (hpos : 0 < zss.length) (hlim : zss.length ≤ 140737488355328) (hcap : zss.length ≤ cap) (hbw : b < w.heap.size)
    (hR : RunsAt w (.slice (some ⟨b, off, none⟩) zss.length cap) zss)
    (hc : ∀ j, j < zss.length → ∃ rv, w.cell? ⟨b, off + j, none⟩ = some rv ∧ TailZ w rv (zss.getD j [])) :
    Calls Try.prog 14 #[.agg #[.slice (some ⟨b, off, none⟩) zss.length cap]] w fun e w' => e = .returned (.bool (runOkB zss)) ∧ Below w.heap.size w w' := by
  obtain ⟨n, hn⟩ : ∃ n, n = zss.length := ⟨_, rfl⟩
  have HN : Hid (n = zss.length) := hn
  rw [← hn] at hpos hlim hc hcap hR ⊢
  clear hn
  by_cases h5 : n ≤ 5
  · have h5' : ¬ (5 : Int) < n := by omega
    go_enter Try.func14, Try.ntmps14
    go_wp2
    go_loopw [3] (fun i wr => ∃ k : Nat, k ≤ n ∧ i = .int .i64 k ∧ Hid (∀ j, j < k → stepR zss j = true) ∧ Hid (Below (w.heap.size + 1) (w.alloc (.cells #[.slice (some ⟨b, off, none⟩) n cap] 38)) wr)) (fun i _ => n - (intOf i).toNat)
    case atStart => exact ⟨0, Nat.zero_le _, rfl, fun j hj => by omega, by
        show Below _ _ _
        simpa using Below.refl (w.heap.size + 1) (w.alloc (.cells #[.slice (some ⟨b, off, none⟩) n cap] 38))⟩
    case round =>
      obtain ⟨k, hk, rfl, HS, HW⟩ := hrel
      have hbx : wr.cell? ⟨w.heap.size, 0, none⟩ = some (.slice (some ⟨b, off, none⟩) n cap) := cell_is HW.out (Nat.lt_succ_self _) (by simp [go_sem])
      by_cases hlt : k < n
      · have HB : Below w.heap.size w wr := below_then (below_alloc _) (by simpa using HW.out)
        have hsz : w.heap.size + 1 ≤ wr.heap.size := by have := HW.out.size; simpa using this
        have hlt' : k < zss.length := by rw [← HN.out]; exact hlt
        obtain ⟨rv, hrv0, hix0⟩ := hc k hlt
        have hrv := (HB.cell (p := ⟨b, off + k, none⟩) hbw).trans hrv0
        have hix := hix0.below HB
        have hR1 := hR.below HB
        clear hrv0 hix0 hc hR
        obtain ⟨x, HX⟩ : ∃ x, Hid (x = zss.getD k []) := ⟨_, rfl⟩
        rw [← HX.out] at hix
        obtain ⟨m, HM⟩ : ∃ m, Hid (m = x.length) := ⟨_, rfl⟩
        obtain ⟨ra, rc, hsh⟩ := hix.shape1
        rw [← HM.out] at hsh
        subst hsh
        have hml : m ≤ 140737488355328 := by rw [HM.out]; exact hix.items.1
        cases hxo : zOkB x with
        | false =>
          have e0 : Hid (runOkB zss = false) := runOk_miss hlt' (stepR_no1 (by rw [← HX.out]; exact hxo))
          go_wp2_with fail
          refine (specZOk_any _ x _ hix.items).mono ?_
          rw [hxo]
          rintro e w2 ⟨rfl, hd2⟩
          have HK : Hid (Below w.heap.size w w2) := below_then HB hd2.below
          clear hix hrv HB HW hR1 hxo hd2 hbx hsz
          go_wp2
          go_ret
          exact ⟨ret_bool e0.out.symm, HK.out⟩
        | true =>
          by_cases hm0 : m = 0
          · have e0 : Hid (runOkB zss = false) := runOk_miss hlt' (stepR_no2 (by rw [← HX.out]; exact List.length_eq_zero_iff.1 (by rw [← HM.out]; exact hm0)))
            subst hm0
            go_wp2_with fail
            refine (specZOk_any _ x _ hix.items).mono ?_
            rw [hxo]
            rintro e w2 ⟨rfl, hd2⟩
            have HK : Hid (Below w.heap.size w w2) := below_then HB hd2.below
            have hbx2 := cell_is hd2.below (show w.heap.size < wr.heap.size by omega) hbx
            have hrv2 := cell_is hd2.below (lt_of_cell hrv) hrv
            clear hix hrv HB HW hR1 hxo hd2 hbx hsz
            go_wp2
            go_ret
            exact ⟨ret_bool e0.out.symm, HK.out⟩
          · have hm1 : ((m : Int) == 0) = false := by simp; omega
            have hm2 : ¬ (m : Int) = 0 := by omega
            have HXN : Hid (zss.getD k [] ≠ []) := by
              show _ ≠ _
              rw [← HX.out]; intro e; apply hm0; rw [HM.out, e]; rfl
            have HXO : Hid (zOkB (zss.getD k []) = true) := by
              show _ = _
              rw [← HX.out]; exact hxo
            go_wp2_with fail
            refine (specZOk_any _ x _ hix.items).mono ?_
            rw [hxo]
            rintro e w2 ⟨rfl, hd2⟩
            have HK : Hid (Below w.heap.size w w2) := below_then HB hd2.below
            have HK1 : Hid (Below (w.heap.size + 1) (w.alloc (.cells #[.slice (some ⟨b, off, none⟩) n cap] 38)) w2) := HW.out.trans (hd2.below.mono hsz)
            have hbx2 := cell_is hd2.below (show w.heap.size < wr.heap.size by omega) hbx
            have hrv2 := cell_is hd2.below (lt_of_cell hrv) hrv
            have hR2 := hR1.below hd2.below
            clear hix hrv HB HW hR1 hxo hd2 hbx hsz
            by_cases hk0 : k = 0
            · subst hk0
              rw [Nat.add_zero] at hrv2
              clear hR2
              go_wp2
              go_roundw
              case rel => exact ⟨1, by omega, by go_num, fun j hj => by
                obtain rfl : j = 0 := by omega
                exact step_zero hlt' HXO.out HXN.out, HK1.out⟩
              case measure => simp [intOf]; omega
            · have hkp : (0 : Int) < k := by omega
              have hT := hR2.take (k := k + 1) (by omega)
              have hlT : (zss.take (k + 1)).length = k + 1 := by rw [List.length_take]; omega
              have hokT : ∀ j, j < (zss.take (k + 1)).length → zOkB ((zss.take (k + 1)).getD j []) = true := by
                intro j hj
                rw [hlT] at hj
                have e1 : (zss.take (k + 1)).getD j [] = zss.getD j [] := by simp [List.getD, hj]
                rw [e1]
                rcases Nat.lt_succ_iff_lt_or_eq.1 hj with h | h
                · exact (stepR_true (HS.out j h)).1
                · rw [h]; exact HXO.out
              have hkc : k + 1 ≤ cap := by omega
              have hl8 : (zss.take (k + 1)).length ≤ 8 := by omega
              clear hR2
              go_wp2_with fail
              refine (l7Sum_any _ _ _ hT hl8 hokT).mono ?_
              rintro e w3 ⟨v3, rfl, Z3, hb3⟩
              obtain ⟨a3, m3, c3, rfl⟩ := Z3.shapeN
              cases hso : zOkB (sumR (zss.take (k + 1))) with
              | false =>
                have e0 : Hid (runOkB zss = false) := runOk_miss hlt' (stepR_no3 hso)
                go_wp2_with fail
                refine (specZOk_any _ _ _ Z3.items).mono ?_
                rw [hso]
                rintro e w4 ⟨rfl, hd4⟩
                have HK4 : Hid (Below w.heap.size w w4) := below_then (below_then HK.out hb3) hd4.below
                clear Z3 hb3 hd4 hT hokT hso hbx2 hrv2
                go_wp2
                go_ret
                exact ⟨ret_bool e0.out.symm, HK4.out⟩
              | true =>
                have e0 : Hid (stepR zss k = true) := stepR_yes HXO.out HXN.out hso
                go_wp2_with fail
                refine (specZOk_any _ _ _ Z3.items).mono ?_
                rw [hso]
                rintro e w4 ⟨rfl, hd4⟩
                have HK4 : Hid (Below (w.heap.size + 1) (w.alloc (.cells #[.slice (some ⟨b, off, none⟩) n cap] 38)) w4) := (HK1.out.trans (hb3.mono (by have := HK1.out.size; simpa using this))).trans (hd4.below.mono (by have := HK1.out.size; have := hb3.size; simp at *; omega))
                clear Z3 hb3 hd4 hT hokT hso hbx2 hrv2
                go_wp2
                go_roundw
                case rel => exact ⟨k + 1, by omega, by go_num, fun j hj => by
                  rcases Nat.lt_succ_iff_lt_or_eq.1 hj with h | h
                  · exact HS.out j h
                  · rw [h]; exact e0.out, HK4.out⟩
                case measure => simp [intOf]; omega
      · have e : k = n := by omega
        subst e
        clear hc hR
        go_wp2
        go_ret
        exact ⟨ret_bool (runOk_all (by rw [← HN.out]; exact h5) (by rw [← HN.out]; exact HS.out)).symm, below_then (below_alloc _) (by simpa using HW.out)⟩
  · have h5' : (5 : Int) < n := by omega
    clear hc hR
    go_enter Try.func14, Try.ntmps14
    go_wp2
    go_ret
    exact ⟨ret_bool (runOk_len (by rw [← HN.out]; exact h5)).symm, below_alloc _⟩

theorem specRunOk_none (a : Option Addr) (cap : Nat) (w : World) :
    Calls Try.prog 14 #[.agg #[.slice a 0 cap]] w fun e w' => e = .returned (.bool (runOkB [])) ∧ Below w.heap.size w w' := by
  go_enter Try.func14, Try.ntmps14
  go_wp2
  refine wp_loop_rounds 1 ?_
  rw [rounds_succ]
  go_wp2
  go_ret
  exact ⟨rfl, below_alloc _⟩

theorem specRunOk_any (v : Value) (zss : Rn) (w : World) (h : RunsAt w v zss) :
    Calls Try.prog 14 #[.agg #[v]] w fun e w' => e = .returned (.bool (runOkB zss)) ∧ Below w.heap.size w w' := by
  rcases h.cases with ⟨a, cap, rfl, rfl, _⟩ | ⟨b, off, cap, hpos, hlim, hcap, _, rfl, hbw, hc⟩
  · exact specRunOk_none a cap w
  · exact specRunOk_some b off cap zss w hpos hlim hcap hbw h hc

end Go.Proofs.Ytjaehoehfmklcaa
