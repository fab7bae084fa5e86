/-
  The contract of spec.l6Minus: one without another one, however much it is, in memory of its own.
-/
import Derived.Test.YtfgpdakkbhfiaaaGreatDoorPosFacts
namespace Go.Proofs.YtfgpdakkbhfiaaaGreatDoor
set_option maxRecDepth 100000
open Go.RowKit

set_option maxHeartbeats 8000000 in
theorem l6Minus_any (v v2 : Value) (a b : List It) (w : World) (h : ItemsAt w v a) (h2 : ItemsAt w v2 b) (ha : Mild a) (hb : Mild b) :
    Calls Tryz.prog 36 #[v, v2] w fun e w' => ∃ v', e = .returned v' ∧ OwnZ w' w.heap.size w'.heap.size v' (addZ a (negZ b)) ∧ Below w.heap.size w w' := by
  go_enter Tryz.func36, Tryz.ntmps36
  go_wp2_with fail
  refine (l2Copy_any v a _ h ha.1 ha.2.1).mono ?_
  rintro e w1 ⟨v1, rfl, Z1, hb1⟩
  have H1 : Hid (OwnZ w1 w.heap.size w1.heap.size v1 a) := Z1
  have HB1 : Hid (Below w.heap.size w w1) := hb1
  have HMA : Hid (Mild a) := ha
  have HMB : Hid (Mild b) := hb
  rcases h2.cases with ⟨ad, cap, rfl, rfl⟩ | ⟨b0, off, cap, hpos, hlim', rfl, hbw, hc⟩
  · clear h h2 ha hb Z1 hb1
    go_wp2
    refine wp_loop_rounds 1 ?_
    rw [rounds_succ]
    go_wp2
    go_ret
    exact ⟨_, rfl, by simpa [addZ, negZ] using H1.out, HB1.out⟩
  · clear h h2 ha hb Z1 hb1 hlim'
    obtain ⟨n, hn⟩ : ∃ n, n = b.length := ⟨_, rfl⟩
    have HN : Hid (n = b.length) := hn
    have hlim : n ≤ 1048576 := by rw [hn]; exact HMB.out.1
    rw [← hn] at hpos hc ⊢
    clear hn
    go_wp2
    go_loopw [5, 6] (fun s i wr => ∃ (k : Nat), k ≤ n ∧ i = .int .i64 k ∧ Hid (OwnZ wr w.heap.size wr.heap.size s (addZ a ((negZ b).take k))) ∧ Hid (Below w.heap.size w wr)) (fun _ i _ => n - (intOf i).toNat)
    case atStart => exact ⟨0, Nat.zero_le _, rfl, H1.out, HB1.out⟩
    case round =>
      obtain ⟨k, hk, rfl, HZ, HW⟩ := hrel
      clear H1 HB1
      by_cases hlt : k < n
      · have hlt' : k < b.length := by rw [← HN.out]; exact hlt
        have HB := HW.out
        obtain ⟨rv, hrv0, hwt0, hix0⟩ := hc k hlt
        have hrv := (HB.cell (p := ⟨b0, off + k * 2, none⟩) hbw).trans hrv0
        have hwt := (HB.cell (p := ⟨b0, off + k * 2 + 1, none⟩) hbw).trans hwt0
        have hix := hix0.below HB
        have HTT : Hid (addZ a ((negZ b).take (k + 1)) = putZ (addZ a ((negZ b).take k)) (b.getD k ([], 0)).1 (-(b.getD k ([], 0)).2)) := minus_take hlt'
        have hxl := HMB.out.2.1 k hlt'
        have hyw := HMB.out.2.2 _ (getZ_mem hlt')
        have hbd := mild_bound HMA.out (mild_neg HMB.out) k
        have hln := mild_len HMA.out (mild_neg HMB.out) k
        have Z5d : OwnZ wr.drew w.heap.size wr.drew.heap.size u5 (addZ a ((negZ b).take k)) := HZ.out.keep' (Below.drew (Below.refl _ _))
        have hixd : IntsAt wr.drew rv (b.getD k ([], 0)).1 := hix.below (Below.drew (Below.refl _ _))
        have hwtd : wr.drew.cell? ⟨b0, off + k * 2 + 1, none⟩ = some (.int .i64 (b.getD k ([], 0)).2) := hwt
        have hrvd : wr.drew.cell? ⟨b0, off + k * 2, none⟩ = some rv := hrv
        have hszw : w.heap.size ≤ wr.drew.heap.size := HB.size
        have HBd : Hid (Below w.heap.size w wr.drew) := HB.drew
        clear hrv0 hwt0 hix0 hc hix HZ HW HB
        obtain ⟨x, HX⟩ : ∃ x, Hid (x = (b.getD k ([], 0)).1) := ⟨_, rfl⟩
        obtain ⟨y, HY⟩ : ∃ y, Hid (y = (b.getD k ([], 0)).2) := ⟨_, rfl⟩
        obtain ⟨zz, HZZ⟩ : ∃ zz, Hid (zz = addZ a ((negZ b).take k)) := ⟨_, rfl⟩
        rw [← HX.out] at hixd hxl HTT
        rw [← HY.out] at hwt hwtd HTT hyw
        have hwrap : IntKind.i64.wrap (-y) = -y := by rw [IntKind.wrap_i64]; omega
        rw [← HZZ.out] at Z5d hbd hln HTT
        obtain ⟨ra, rn, rc, rfl⟩ := hixd.shape
        go_wp2
        go_region_law (first
          | (go_simp; go_at_call 58; (refine (l2Put_any _ w.heap.size wr.drew.heap.size zz _ x (-y) _ Z5d hszw hixd (by omega) hxl hbd (by omega)).mono ?_; rintro e w2 ⟨v2, rfl, Z2, O2⟩)))
        all_goals
          have HK : Hid (Below w.heap.size w w2) := O2.below HBd.out (Nat.le_refl _) hszw
          have R2 : Hid (OwnZ w2 w.heap.size w2.heap.size v2 (addZ a ((negZ b).take (k + 1)))) := by rw [HTT.out]; exact Z2
          clear O2 Z2 Z5d hixd hbd
          go_wp2
          go_roundw
          case rel => exact ⟨k + 1, by omega, by go_num, R2.out, HK.out⟩
          case measure => simp [intOf]; omega
      · have e : k = n := by omega
        subst e
        clear hc
        go_wp2
        go_ret
        refine ⟨_, rfl, ?_, HW.out⟩
        have := HZ.out
        rw [HN.out, ← negZ_length b, List.take_length] at this
        exact this


end Go.Proofs.YtfgpdakkbhfiaaaGreatDoor
