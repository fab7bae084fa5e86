/-
  The contracts of impl.runsTogether, impl.RunOk, impl.RunAll, of spec.l7Sum, spec.RunOk, spec.RunAll: both sides answer runOkB and sumR, at all runs.
-/
import Derived.Test.YtjaehoehfmklcaaRunsMem
import Derived.Test.YtjaehoehfmklcaaRunsMath
namespace Go.Proofs.Ytjaehoehfmklcaa
set_option maxRecDepth 100000
open Go.RowKit

theorem ret2 {v : Value} {a b : Bool} (h : a = b) : Ending.returned (.tuple #[v, .bool a]) = .returned (.tuple #[v, .bool b]) := by rw [h]
def togOut (zss : Rn) : List It := if runOkB zss then sumR zss else []

theorem RunsAt.take {w : World} {a : Option Addr} {n cap : Nat} {zss : Rn} (h : RunsAt w (.slice a n cap) zss) {k : Nat} (hk : k ≤ n) : RunsAt w (.slice a k cap) (zss.take k) := by
  obtain ⟨hl, a', cap', he, hn, hc1, hc2, hc⟩ := h
  simp only [Value.slice.injEq] at he
  obtain ⟨rfl, rfl, rfl⟩ := he
  have hlt : (zss.take k).length = k := by rw [List.length_take]; omega
  refine ⟨by omega, a, cap, by rw [hlt], hn, by omega, hc2, fun hne => ?_⟩
  have hk0 : 0 < k := by
    rcases Nat.eq_zero_or_pos k with h | h
    · subst h; simp at hne
    · exact h
  obtain ⟨b, off, rfl, hb, hcell⟩ := hc (fun e => by subst e; simp at hk; omega)
  refine ⟨b, off, rfl, hb, fun j hj => ?_⟩
  rw [hlt] at hj
  obtain ⟨rv, h1, h2⟩ := hcell j (by omega)
  refine ⟨rv, h1, ?_⟩
  have : (zss.take k).getD j [] = zss.getD j [] := by simp [List.getD, hj]
  rw [this]
  exact h2

set_option maxHeartbeats 4000000 in
theorem runsTogether_some (b off cap : Nat) (zss : Rn) (w : World) (hpos : 0 < zss.length) (hlim : zss.length ≤ 140737488355328) (hbw : b < w.heap.size)
    (hc : ∀ j, j < zss.length → ∃ rv, w.cell? ⟨b, off + j, none⟩ = some rv ∧ TailZ w rv (zss.getD j [])) :
    Calls Try.prog 36 #[.slice (some ⟨b, off, none⟩) zss.length cap] w fun e w' => ∃ v', e = .returned (.tuple #[v', .bool (runOkB zss)]) ∧ OwnZ w' w.heap.size w'.heap.size v' (togOut zss) ∧ Below w.heap.size w w' := by
  obtain ⟨n, hn⟩ : ∃ n, n = zss.length := ⟨_, rfl⟩
  have HN : Hid (n = zss.length) := hn
  rw [← hn] at hpos hlim hc ⊢
  clear hn
  by_cases h5 : n ≤ 5
  · go_enter Try.func36, Try.ntmps36
    go_wp2
    go_loopw [4, 14] (fun v i wr => ∃ k : Nat, k ≤ n ∧ i = .int .i64 k ∧ (∃ a m c, v = .slice a m c) ∧ Hid (OwnZ wr w.heap.size wr.heap.size v (sumR (zss.take k))) ∧ Hid (∀ j, j < k → stepR zss j = true) ∧ Hid (Below w.heap.size w wr)) (fun _ i _ => n - (intOf i).toNat)
    case atStart => exact ⟨0, Nat.zero_le _, rfl, ⟨_, _, _, rfl⟩, nil_ownZ _ _, fun j hj => by omega, Below.refl _ _⟩
    case round =>
      obtain ⟨k, hk, rfl, ⟨va, vm, vc, rfl⟩, HZ, HS, HW⟩ := hrel
      by_cases hlt : k < n
      · have HB := HW.out
        have hlt' : k < zss.length := by rw [← HN.out]; exact hlt
        obtain ⟨rv, hrv0, hix0⟩ := hc k hlt
        have hrv := (HB.cell (p := ⟨b, off + k, none⟩) hbw).trans hrv0
        have hix := hix0.below HB
        clear hrv0 hix0 hc
        obtain ⟨x, HX⟩ : ∃ x, Hid (x = zss.getD k []) := ⟨_, rfl⟩
        rw [← HX.out] at hix
        obtain ⟨m, HM⟩ : ∃ m, Hid (m = x.length) := ⟨_, rfl⟩
        obtain ⟨ra, rc, hsh⟩ := hix.shape1
        rw [← HM.out] at hsh
        subst hsh
        obtain ⟨s, HS1⟩ : ∃ s, Hid (s = sumR (zss.take k)) := ⟨_, rfl⟩
        have hso : zOkB s = true := by rw [HS1.out]; exact sum_ok_of (by omega) HS.out
        have hnext : Hid (addZ s x = sumR (zss.take (k + 1))) := by
          show _ = _
          rw [HS1.out, HX.out, sumR_take hlt']
        have hml : m ≤ 140737488355328 := by rw [HM.out]; exact hix.items.1
        rw [← HS1.out] at HZ
        cases hao : addOk s x with
        | false =>
          have hst : Hid (stepR zss k = false) := by
            show _ = _
            unfold addOk at hao
            rw [hso, Bool.true_and, hnext.out, HX.out] at hao
            cases h1 : zOkB (zss.getD k []) with
            | false => exact stepR_no1 h1
            | true => rw [h1, Bool.true_and] at hao; exact stepR_no3 hao
          go_wp2_with fail
          refine (implZAdd_any _ _ s x _ HZ.out.tail hix).mono ?_
          rw [hao]
          rintro e w2 ⟨v2, rfl, Z2, hb2⟩
          obtain ⟨a2, c2, hsh2⟩ := Z2.shape
          obtain ⟨m2, HM2⟩ : ∃ m2, Hid (m2 = (addOut s x).length) := ⟨_, rfl⟩
          rw [← HM2.out] at hsh2
          subst hsh2
          have HK : Hid (Below w.heap.size w w2) := below_then HB hb2
          clear Z2 hb2 HZ hix hrv HB HW hao hso
          go_wp2
          go_ret2
          have e0 := runOk_miss hlt' hst.out
          refine ⟨_, ret2 e0.symm, ?_, HK.out⟩
          unfold togOut
          rw [e0]
          exact nil_ownZ _ _
        | true =>
          have haot := hao
          unfold addOk at haot
          rw [hso, Bool.true_and, Bool.and_eq_true] at haot
          obtain ⟨hxo, hsx⟩ := haot
          go_wp2_with fail
          refine (implZAdd_any _ _ s x _ HZ.out.tail hix).mono ?_
          rw [hao]
          rintro e w2 ⟨v2, rfl, Z2, hb2⟩
          obtain ⟨a2, c2, hsh2⟩ := Z2.shape
          obtain ⟨m2, HM2⟩ : ∃ m2, Hid (m2 = (addOut s x).length) := ⟨_, rfl⟩
          rw [← HM2.out] at hsh2
          subst hsh2
          have HK : Hid (Below w.heap.size w w2) := below_then HB hb2
          have hao2 : addOut s x = sumR (zss.take (k + 1)) := by rw [← hnext.out]; simp [addOut, hao]
          have Z3 : Hid (OwnZ w2 w.heap.size w2.heap.size (.slice a2 m2 c2) (sumR (zss.take (k + 1)))) := by
            rw [← hao2]
            exact Z2.wide HB.size (Nat.le_refl _) (Nat.le_refl _)
          have HOK : Hid (zOkB x = true ∧ zOkB (addZ s x) = true) := ⟨hxo, hsx⟩
          clear Z2 hb2 HZ hix hrv HB HW hao hso hxo hsx hao2
          by_cases hm0 : m = 0
          · have hst : Hid (stepR zss k = false) := stepR_no2 (by rw [← HX.out]; exact List.length_eq_zero_iff.1 (by rw [← HM.out]; exact hm0))
            subst hm0
            clear Z3 HOK
            go_wp2
            go_ret2
            have e0 := runOk_miss hlt' hst.out
            refine ⟨_, ret2 e0.symm, ?_, HK.out⟩
            unfold togOut
            rw [e0]
            exact nil_ownZ _ _
          · have hm1 : ((m : Int) == 0) = false := by simp; omega
            have hm2 : ¬ (m : Int) = 0 := by omega
            have hst : Hid (stepR zss k = true) := stepR_yes (by rw [← HX.out]; exact HOK.out.1) (by rw [← HX.out]; intro e; apply hm0; rw [HM.out, e]; rfl) (by rw [← hnext.out]; exact HOK.out.2)
            clear HOK
            go_wp2
            go_roundw
            case rel => exact ⟨k + 1, by omega, by go_num, ⟨_, _, _, rfl⟩, Z3.out, fun j hj => by
              rcases Nat.lt_succ_iff_lt_or_eq.1 hj with h | h
              · exact HS.out j h
              · rw [h]; exact hst.out, HK.out⟩
            case measure => simp [intOf]; omega
      · have e : k = n := by omega
        subst e
        clear hc
        go_wp2
        go_ret2
        have e0 : runOkB zss = true := runOk_all (by rw [← HN.out]; exact h5) (by rw [← HN.out]; exact HS.out)
        refine ⟨_, ret2 e0.symm, ?_, HW.out⟩
        unfold togOut
        rw [e0]
        have := HZ.out
        rw [show zss.take k = zss by rw [HN.out, List.take_length]] at this
        exact this
  · have h5' : (5 : Int) < n := by omega
    clear hc
    go_enter Try.func36, Try.ntmps36
    go_wp2
    go_ret2
    have e0 : runOkB zss = false := runOk_len (by rw [← HN.out]; exact h5)
    refine ⟨_, ret2 e0.symm, ?_, Below.refl _ _⟩
    unfold togOut
    rw [e0]
    exact nil_ownZ _ _

theorem runsTogether_none (a : Option Addr) (cap : Nat) (w : World) :
    Calls Try.prog 36 #[.slice a 0 cap] w fun e w' => ∃ v', e = .returned (.tuple #[v', .bool (runOkB [])]) ∧ OwnZ w' w.heap.size w'.heap.size v' (togOut []) ∧ Below w.heap.size w w' := by
  go_enter Try.func36, Try.ntmps36
  go_wp2
  refine wp_loop_rounds 1 ?_
  rw [rounds_succ]
  go_wp2
  go_ret2
  exact ⟨_, rfl, nil_ownZ _ _, Below.refl _ _⟩

theorem runsTogether_any (v : Value) (zss : Rn) (w : World) (h : RunsAt w v zss) :
    Calls Try.prog 36 #[v] w fun e w' => ∃ v', e = .returned (.tuple #[v', .bool (runOkB zss)]) ∧ OwnZ w' w.heap.size w'.heap.size v' (togOut zss) ∧ Below w.heap.size w w' := by
  rcases h.cases with ⟨a, cap, rfl, rfl, _⟩ | ⟨b, off, cap, hpos, hlim, _, _, rfl, hbw, hc⟩
  · exact runsTogether_none a cap w
  · exact runsTogether_some b off cap zss w hpos hlim hbw hc

theorem OwnZ.shapeN {w : World} {lo hi : Nat} {v : Value} {zs : List It} (h : OwnZ w lo hi v zs) : ∃ a n c, v = .slice a n c := by
  obtain ⟨a, c, e⟩ := h.shape
  exact ⟨a, _, c, e⟩
theorem RunsAt.shapeN {w : World} {v : Value} {zss : Rn} (h : RunsAt w v zss) : ∃ a n c, v = .slice a n c := by
  obtain ⟨a, c, e⟩ := h.shape
  exact ⟨a, _, c, e⟩

set_option maxHeartbeats 1000000 in
theorem implRunOk_any (v : Value) (zss : Rn) (w : World) (h : RunsAt w v zss) :
    Calls Try.prog 13 #[.agg #[v]] w fun e w' => e = .returned (.bool (runOkB zss)) ∧ Below w.heap.size w w' := by
  obtain ⟨a, n, cap, rfl⟩ := h.shapeN
  go_enter Try.func13, Try.ntmps13
  go_wp2_with fail
  refine (runsTogether_any _ zss _ (h.below (below_alloc _))).mono ?_
  rintro e w1 ⟨v1, rfl, Z1, hb1⟩
  have HK : Hid (Below w.heap.size w w1) := below_then (below_alloc _) hb1
  obtain ⟨a1, n1, c1, rfl⟩ := Z1.shapeN
  clear hb1 h Z1
  go_wp2
  go_ret
  exact ⟨rfl, HK.out⟩

set_option maxHeartbeats 1000000 in
theorem implRunAll_any (v : Value) (zss : Rn) (w : World) (h : RunsAt w v zss) :
    Calls Try.prog 16 #[.agg #[v]] w fun e w' => ∃ v', e = .returned v' ∧ OwnZ w' w.heap.size w'.heap.size v' (togOut zss) ∧ Below w.heap.size w w' := by
  obtain ⟨a, n, cap, rfl⟩ := h.shapeN
  go_enter Try.func16, Try.ntmps16
  go_wp2_with fail
  refine (runsTogether_any _ zss _ (h.below (below_alloc _))).mono ?_
  rintro e w1 ⟨v1, rfl, Z1, hb1⟩
  have HK : Hid (Below w.heap.size w w1) := below_then (below_alloc _) hb1
  obtain ⟨a1, n1, c1, rfl⟩ := Z1.shapeN
  have R : Hid (OwnZ w1 w.heap.size w1.heap.size (.slice a1 n1 c1) (togOut zss)) := Z1.wide (by simp) (Nat.le_refl _) (Nat.le_refl _)
  clear hb1 h Z1
  go_wp2
  go_ret
  exact ⟨_, rfl, R.out, HK.out⟩

set_option maxHeartbeats 4000000 in
theorem l7Sum_any (v : Value) (zss : Rn) (w : World) (h : RunsAt w v zss) (hl8 : zss.length ≤ 8) (hok : ∀ j, j < zss.length → zOkB (zss.getD j []) = true) :
    Calls Try.prog 37 #[.agg #[v]] w fun e w' => ∃ v', e = .returned v' ∧ OwnZ w' w.heap.size w'.heap.size v' (sumR zss) ∧ Below w.heap.size w w' := by
  rcases h.cases with ⟨a, cap, rfl, rfl, _⟩ | ⟨b, off, cap, hpos, hlim, _, _, rfl, hbw, hc⟩
  · clear h hok hl8
    go_enter Try.func37, Try.ntmps37
    go_wp2
    refine wp_loop_rounds 1 ?_
    rw [rounds_succ]
    go_wp2
    go_ret
    refine ⟨_, rfl, ?_, below_then (below_alloc _) (below_alloc _)⟩
    have := (lit_ownZ (w.alloc (.cells #[.slice a 0 cap] 38))).wide (lo' := w.heap.size) (below_alloc _).size (Nat.le_refl _) (Nat.le_refl _)
    simpa [sumR] using this
  · have HL := light_sum hok
    have HOK : Hid (∀ j, j < zss.length → zOkB (zss.getD j []) = true) := hok
    have HLI : Hid (∀ k, k ≤ zss.length → Light k (sumR (zss.take k))) := HL
    obtain ⟨n, hn⟩ : ∃ n, n = zss.length := ⟨_, rfl⟩
    have HN : Hid (n = zss.length) := hn
    rw [← hn] at hpos hlim hc hl8 ⊢
    clear hn h hok HL
    go_enter Try.func37, Try.ntmps37
    go_wp2
    go_loopw [3, 4] (fun v i wr => ∃ k : Nat, k ≤ n ∧ i = .int .i64 k ∧ (∃ a m c, v = .slice a m c) ∧ Hid (OwnZ wr w.heap.size wr.heap.size v (sumR (zss.take k))) ∧ Hid (Below (w.heap.size + 1) (w.alloc (.cells #[.slice (some ⟨b, off, none⟩) n cap] 38)) wr)) (fun _ i _ => n - (intOf i).toNat)
    case atStart => exact ⟨0, Nat.zero_le _, rfl, ⟨_, _, _, rfl⟩, by
        show OwnZ _ _ _ _ _
        have := (lit_ownZ (w.alloc (.cells #[.slice (some ⟨b, off, none⟩) n cap] 38))).wide (lo' := w.heap.size) (below_alloc _).size (Nat.le_refl _) (Nat.le_refl _)
        simpa [sumR] using this, by
        show Below _ _ _
        have := below_alloc (w := w.alloc (.cells #[.slice (some ⟨b, off, none⟩) n cap] 38)) (.cells #[] 31)
        simpa using this⟩
    case round =>
      obtain ⟨k, hk, rfl, ⟨va, vm, vc, rfl⟩, HZ, HW⟩ := hrel
      have hbx : wr.cell? ⟨w.heap.size, 0, none⟩ = some (.slice (some ⟨b, off, none⟩) n cap) := cell_is HW.out (Nat.lt_succ_self _) (by simp [go_sem])
      by_cases hlt : k < n
      · have HB : Below w.heap.size w wr := below_then (below_alloc _) (by simpa using HW.out)
        have hlt' : k < zss.length := by rw [← HN.out]; exact hlt
        obtain ⟨rv, hrv0, hix0⟩ := hc k hlt
        have hrv := (HB.cell (p := ⟨b, off + k, none⟩) hbw).trans hrv0
        have hix := hix0.below HB
        clear hrv0 hix0 hc
        obtain ⟨x, HX⟩ : ∃ x, Hid (x = zss.getD k []) := ⟨_, rfl⟩
        rw [← HX.out] at hix
        obtain ⟨ra, rc, hsh⟩ := hix.shape1
        obtain ⟨m, HM⟩ : ∃ m, Hid (m = x.length) := ⟨_, rfl⟩
        rw [← HM.out] at hsh
        subst hsh
        have hmx : Mild x := by rw [HX.out]; exact zOk_mild (HOK.out k hlt')
        have hms : Mild (sumR (zss.take k)) := (HLI.out k (by omega)).mild (by omega)
        have hsn := sumR_take hlt'
        rw [← HX.out] at hsn
        go_wp2_with fail
        refine (l2Add_any _ _ _ x _ HZ.out.items hix.items hms hmx).mono ?_
        rintro e w2 ⟨v2, rfl, Z2, hb2⟩
        obtain ⟨a2, m2, c2, rfl⟩ := Z2.shapeN
        rw [← hsn] at Z2
        have R : Hid (OwnZ w2 w.heap.size w2.heap.size (.slice a2 m2 c2) (sumR (zss.take (k + 1)))) := Z2.wide HB.size (Nat.le_refl _) (Nat.le_refl _)
        have HK : Hid (Below (w.heap.size + 1) (w.alloc (.cells #[.slice (some ⟨b, off, none⟩) n cap] 38)) w2) := HW.out.trans (hb2.mono (by have := HW.out.size; simpa using this))
        clear Z2 hb2 HZ hix hrv HB HW hmx hms hsn hbx
        go_wp2
        go_roundw
        case rel => exact ⟨k + 1, by omega, by go_num, ⟨_, _, _, rfl⟩, R.out, HK.out⟩
        case measure => simp [intOf]; omega
      · have e : k = n := by omega
        subst e
        clear hc
        go_wp2
        go_ret
        refine ⟨_, rfl, ?_, below_then (below_alloc _) (by simpa using HW.out)⟩
        have := HZ.out
        rw [show zss.take k = zss by rw [HN.out, List.take_length]] at this
        exact this

end Go.Proofs.Ytjaehoehfmklcaa
