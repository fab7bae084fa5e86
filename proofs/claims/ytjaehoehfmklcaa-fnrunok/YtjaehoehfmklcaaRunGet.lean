/-
  The contracts of impl.RunGet (a cursor in each run) and spec.RunGet: how often a row is in all runs together.
-/
import Derived.Test.YtjaehoehfmklcaaRunOkSpec
import Derived.Test.YtjaehoehfmklcaaSearch
namespace Go.Proofs.Ytjaehoehfmklcaa
set_option maxRecDepth 100000
open Go.RowKit

theorem ItemsAt.each {w : World} {b off n cap : Nat} {zs : List It} (h : ItemsAt w (.slice (some ⟨b, off, none⟩) n cap) zs) : ∀ j, j < zs.length → ∃ rv, w.cell? ⟨b, off + j * 2, none⟩ = some rv ∧ w.cell? ⟨b, off + j * 2 + 1, none⟩ = some (.int .i64 (zs.getD j ([], 0)).2) ∧ IntsAt w rv (zs.getD j ([], 0)).1 := by
  obtain ⟨_, a, c, he, _, hc⟩ := h
  simp only [Value.slice.injEq] at he
  intro j hj
  obtain ⟨b', off', ha, _, hcell⟩ := hc (fun e => by subst e; simp at hj)
  rw [ha] at he
  obtain ⟨e1, _, _⟩ := he
  simp only [Option.some.injEq, Addr.mk.injEq] at e1
  obtain ⟨rfl, rfl, _⟩ := e1
  exact hcell j hj

theorem search_n (b off cap n : Nat) (zs : List It) (hn : n = zs.length) (ra : Option Addr) (rn rc : Nat) (r : List Int) (w : World) (hok : zOkB zs = true) (hpos : 0 < n) (hr : IntsAt w (.slice ra rn rc) r) (hI : ItemsAt w (.slice (some ⟨b, off, none⟩) n cap) zs) :
    Calls Try.prog 32 #[.slice (some ⟨b, off, none⟩) n cap, .agg #[.slice ra rn rc, .int .i64 0], .func (.func 33) #[] #[]] w fun e w' =>
      ∃ (i : Nat) (c : Bool), e = .returned (.tuple #[.int .i64 i, .bool c]) ∧ (c = true → i < n ∧ getZ zs r = (zs.getD i ([], 0)).2) ∧ (c = false → getZ zs r = 0) ∧ i ≤ n ∧ Below w.heap.size w w' := by
  subst hn
  obtain ⟨rv, h0, _⟩ := hI.each 0 hpos
  exact search_some b off cap zs ra rn rc r w hok hpos (lt_of_cell h0) hr hI.each

set_option maxHeartbeats 4000000 in
theorem seek_some (g b off cap : Nat) (zs : List It) (ra : Option Addr) (rn rc : Nat) (r : List Int) (w : World) (hok : zOkB zs = true) (hpos : 0 < zs.length) (hcap : zs.length ≤ cap) (hcm : cap ≤ 9223372036854775807) (hg : g < w.heap.size)
    (hr : IntsAt w (.slice ra rn rc) r) (hcg : w.cell? ⟨g, 0, none⟩ = some (.slice (some ⟨b, off, none⟩) zs.length cap)) (hfg : w.frozen? ⟨g, 0, none⟩ = false) (hI : ItemsAt w (.slice (some ⟨b, off, none⟩) zs.length cap) zs) :
    Calls Try.prog 41 #[.pointer (some ⟨g, 0, none⟩), .agg #[.slice ra rn rc, .int .i64 0], .func (.func 33) #[] #[]] w fun e w' =>
      ∃ (c : Bool) (ad : Addr) (m' cap' : Nat), e = .returned (.bool c) ∧ w'.cell? ⟨g, 0, none⟩ = some (.slice (some ad) m' cap') ∧
        (c = true → ∃ o, ad = ⟨b, o, none⟩ ∧ 0 < m' ∧ m' ≤ 100 ∧ w'.cell? ⟨b, o + 1, none⟩ = some (.int .i64 (getZ zs r))) ∧ (c = false → getZ zs r = 0) ∧ Below g w w' := by
  have h100 := zOk_le hok
  have HOK : Hid (zOkB zs = true) := hok
  obtain ⟨n, hn⟩ : ∃ n, n = zs.length := ⟨_, rfl⟩
  have HN : Hid (n = zs.length) := hn
  rw [← hn] at hpos h100 hcap hcg hI
  clear hn hok
  have hbW : Below w.heap.size w (w.alloc (.cells #[.slice ra rn rc, .int .i64 0] 31)) := below_alloc _
  have hcgW := cell_is hbW (show g < w.heap.size from hg) hcg
  have hfgW := frozen_is hbW (show g < w.heap.size from hg) hfg
  have hrW := hr.below hbW
  have hIW := hI.below hbW
  have hId : ItemsAt (w.alloc (.cells #[.slice ra rn rc, .int .i64 0] 31)).drew (.slice (some ⟨b, off, none⟩) n cap) zs := hIW.below (Below.drew (Below.refl _ _))
  have hrd : IntsAt (w.alloc (.cells #[.slice ra rn rc, .int .i64 0] 31)).drew (.slice ra rn rc) r := hrW.below (Below.drew (Below.refl _ _))
  clear hcg hfg hr hI
  go_enter Try.func41, Try.ntmps41
  go_wp2
  go_region_with (go_at_call 32; refine (search_n b off cap n zs HN.out ra rn rc r _ HOK.out hpos hrd hId).mono ?_; rintro e w2 ⟨i, c, rfl, hy, hn, hil, hb2⟩)
  all_goals
    have hcg2 : w2.cell? ⟨g, 0, none⟩ = some (.slice (some ⟨b, off, none⟩) n cap) := cell_is hb2 (show g < (w.alloc (.cells #[.slice ra rn rc, .int .i64 0] 31)).heap.size by simp; omega) hcgW
    have hfg2 : w2.frozen? ⟨g, 0, none⟩ = false := frozen_is hb2 (show g < (w.alloc (.cells #[.slice ra rn rc, .int .i64 0] 31)).heap.size by simp; omega) hfgW
    have HK : Hid (Below w.heap.size w w2) := below_then (Below.drew hbW) hb2
    have HI : Hid (ItemsAt w2 (.slice (some ⟨b, off, none⟩) n cap) zs) := hId.below hb2
    have HY : Hid ((c = true → i < n ∧ getZ zs r = (zs.getD i ([], 0)).2) ∧ (c = false → getZ zs r = 0)) := ⟨hy, hn⟩
    have hic : i ≤ cap := by omega
    obtain ⟨ad, had⟩ : ∃ ad : Addr, (if cap = i then some (⟨b, off, none⟩ : Addr) else some ⟨b, off + i * 2, none⟩) = some ad := by
      by_cases h : cap = i
      · exact ⟨_, if_pos h⟩
      · exact ⟨_, if_neg h⟩
    have HA : Hid ((if cap = i then some (⟨b, off, none⟩ : Addr) else some ⟨b, off + i * 2, none⟩) = some ad) := had
    clear hb2 hId hrd hIW hrW hcgW hfgW hy hn hbW
    go_wp2
    go_ret
    refine ⟨c, ad, n - i, cap - i, rfl, by simp [go_sem, hcg2], fun h => ?_, fun h => HY.out.2 h, (HK.out.mono (Nat.le_of_lt hg)).setCell (Nat.le_refl _) _⟩
    obtain ⟨h1, h2⟩ := HY.out.1 h
    have e := HA.out
    rw [if_neg (by omega)] at e
    obtain ⟨rv, -, hcy, -⟩ := HI.out.each i (by rw [← HN.out]; exact h1)
    refine ⟨off + i * 2, by simpa using e.symm, by omega, by omega, ?_⟩
    rw [h2, World.cell?_setCell_other]
    · exact hcy
    · simp

def getR (zss : Rn) (r : List Int) : Int := if runOkB zss then getZ (sumR zss) r else 0
theorem getR_step {zss : Rn} {k : Nat} (h : ∀ j, j < zss.length → zOkB (zss.getD j []) = true) (hk : k < zss.length) (r : List Int) : getZ (sumR (zss.take (k + 1))) r = getZ (sumR (zss.take k)) r + getZ (zss.getD k []) r := by
  rw [sumR_take hk, getZ_add (light_sum h k (by omega)).1 (zOk_srt (h k hk))]

set_option maxHeartbeats 4000000 in
theorem implRunGet_some (b off cap : Nat) (zss : Rn) (ra : Option Addr) (rn rc : Nat) (r : List Int) (w : World) (hok : runOkB zss = true) (hpos : 0 < zss.length) (hR : RunsAt w (.slice (some ⟨b, off, none⟩) zss.length cap) zss) (hbw : b < w.heap.size) (hr : IntsAt w (.slice ra rn rc) r)
    (hc : ∀ j, j < zss.length → ∃ rv, w.cell? ⟨b, off + j, none⟩ = some rv ∧ TailZ w rv (zss.getD j [])) :
    Calls Try.prog 17 #[.agg #[.slice (some ⟨b, off, none⟩) zss.length cap], .slice ra rn rc] w fun e w' => e = .returned (.int .i64 (getZ (sumR zss) r)) ∧ Below w.heap.size w w' := by
  have h5 := runOk_le hok
  have HE : Hid (∀ j, j < zss.length → zOkB (zss.getD j []) = true) := fun j hj => each_ok hok hj
  have HNE : Hid (∀ j, j < zss.length → zss.getD j [] ≠ []) := fun j hj => (stepR_true (runOk_step hok hj)).2.1
  have HLI : Hid (∀ k, k ≤ zss.length → Light k (sumR (zss.take k))) := light_sum HE.out
  obtain ⟨n, hn⟩ : ∃ n, n = zss.length := ⟨_, rfl⟩
  have HN : Hid (n = zss.length) := hn
  rw [← hn] at hpos hc h5 hR ⊢
  clear hn
  go_enter Try.func17, Try.ntmps17
  go_wp2_with fail
  refine (implRunOk_any _ zss _ (hR.below (below_alloc _))).mono ?_
  rw [hok]
  rintro e w1 ⟨rfl, hb1⟩
  have hk1 := below_then (below_alloc _) hb1
  have hbx : w1.cell? ⟨w.heap.size, 0, none⟩ = some (.slice (some ⟨b, off, none⟩) n cap) := cell_is hb1 (by simp) (by simp [go_sem])
  clear hok hb1 hR
  go_wp2
  go_loopw [5, 15] (fun y i wr => ∃ (k : Nat) (s : Int), k ≤ n ∧ i = .int .i64 k ∧ y = .int .i64 s ∧ -50000 ≤ s ∧ s ≤ 50000 ∧ Hid (s = getZ (sumR (zss.take k)) r) ∧ Hid (Below w.heap.size w wr)) (fun _ i _ => n - (intOf i).toNat)
  case atStart => exact ⟨0, 0, Nat.zero_le _, rfl, rfl, by omega, by omega, by simp [Hid, sumR, getZ_nil], hk1⟩
  case round =>
    obtain ⟨k, s, hk, rfl, rfl, hs0, hs1, HS, HW⟩ := hrel
    clear hk1 hbx
    by_cases hlt : k < n
    · have HB := HW.out
      have hlt' : k < zss.length := by rw [← HN.out]; exact hlt
      obtain ⟨rv, hrv0, hix0⟩ := hc k hlt
      have hrv := (HB.cell (p := ⟨b, off + k, none⟩) hbw).trans hrv0
      have hix := hix0.below HB
      have hrr := hr.below HB
      clear hrv0 hix0 hc
      obtain ⟨x, HX⟩ : ∃ x, Hid (x = zss.getD k []) := ⟨_, rfl⟩
      rw [← HX.out] at hix
      have hxo : zOkB x = true := by rw [HX.out]; exact HE.out k hlt'
      have hxp : 0 < x.length := List.length_pos_iff.2 (by rw [HX.out]; exact HNE.out k hlt')
      have hsh : ∃ b2 off2 cap2, rv = .slice (some ⟨b2, off2, none⟩) x.length cap2 ∧ x.length ≤ cap2 ∧ cap2 ≤ 9223372036854775807 ∧ b2 < wr.heap.size := by
        rcases hix.items.cases with ⟨a2, c2, hz, _⟩ | ⟨b2, off2, cap2, _, _, hv, hb2, _⟩
        · rw [hz] at hxp; simp at hxp
        · obtain ⟨l, he, ⟨_, a3, c3, hv3, hc3, hm3⟩, _⟩ := hix
          rw [hv] at hv3
          simp only [Value.slice.injEq] at hv3
          obtain ⟨rfl, e1, rfl⟩ := hv3
          exact ⟨b2, off2, cap2, hv, by omega, hm3, hb2⟩
      obtain ⟨b2, off2, cap2, hv, hc1, hc2, -⟩ := hsh
      have hnx : Hid (s + getZ x r = getZ (sumR (zss.take (k + 1))) r) := by
        show _ = _
        rw [getR_step HE.out hlt', HS.out, HX.out]
      have hbd := getZ_bound (B := 10000 * ((k + 1 : Nat) : Int)) (by omega) r (HLI.out (k + 1) (by omega)).2.2.2.2
      rw [← hnx.out] at hbd
      have hgx := getZ_bound (B := 10000) (by omega) r (zOk_w hxo)
      obtain ⟨gx, HG⟩ : ∃ gx, Hid (gx = getZ x r) := ⟨_, rfl⟩
      rw [← HG.out] at hnx hbd hgx
      obtain ⟨m, HM⟩ : ∃ m, Hid (m = x.length) := ⟨_, rfl⟩
      subst hv
      have hI : ItemsAt (wr.alloc (.cells #[.slice (some ⟨b2, off2, none⟩) x.length cap2] 68)) (.slice (some ⟨b2, off2, none⟩) x.length cap2) x := hix.items.below (below_alloc _)
      have hr2 : IntsAt (wr.alloc (.cells #[.slice (some ⟨b2, off2, none⟩) x.length cap2] 68)) (.slice ra rn rc) r := hrr.below (below_alloc _)
      have hsk := seek_some wr.heap.size b2 off2 cap2 x ra rn rc r _ hxo hxp hc1 hc2 (by simp) hr2 (by simp [go_sem]) (by simp [go_sem]) hI
      rw [← HM.out] at hrv hsk
      clear hI hr2 hix hrr hxo hxp hc1 hc2
      go_wp2_with fail
      refine hsk.mono ?_
      rintro e w2 ⟨c, ad, m', cap', rfl, hcc, hy, hn', hb3⟩
      have HK : Hid (Below w.heap.size w w2) := (below_then HB (below_alloc _)).trans (hb3.mono HB.size)
      rw [← HG.out] at hy hn'
      clear hb3 hsk HB HW hrv
      cases c with
      | false =>
        have hg0 : Hid (gx = 0) := hn' rfl
        clear hy hn' hcc
        go_wp2
        go_roundw
        case rel => exact ⟨k + 1, s, by omega, by go_num, rfl, hs0, hs1, by
          have h1 := hnx.out
          have h2 := hg0.out
          show s = _
          rw [← h1, h2]; omega, HK.out⟩
        case measure => simp [intOf]; omega
      | true =>
        obtain ⟨o, rfl, hm0, hm1, hcy⟩ := hy rfl
        have hsum : -50000 ≤ s + gx ∧ s + gx ≤ 50000 := by omega
        clear hn' hy
        go_wp2
        go_roundw
        case rel => exact ⟨k + 1, s + gx, by omega, by go_num, by go_num, by omega, by omega, hnx.out, HK.out⟩
        case measure => simp [intOf]; omega
    · have e : k = n := by omega
      subst e
      clear hc hr
      go_wp2
      go_ret
      refine ⟨ret_int ?_, HW.out⟩
      rw [HS.out, show zss.take k = zss by rw [HN.out, List.take_length]]

set_option maxHeartbeats 2000000 in
theorem implRunGet_any (v : Value) (zss : Rn) (rv : Value) (r : List Int) (w : World) (h : RunsAt w v zss) (hr : IntsAt w rv r) :
    Calls Try.prog 17 #[.agg #[v], rv] w fun e w' => e = .returned (.int .i64 (getR zss r)) ∧ Below w.heap.size w w' := by
  obtain ⟨ra, rn, rc, rfl⟩ := hr.shape
  cases hok : runOkB zss with
  | false =>
    obtain ⟨a, n, cap, rfl⟩ := h.shapeN
    have H0 : Hid (getR zss r = 0) := by simp [Hid, getR, hok]
    go_enter Try.func17, Try.ntmps17
    go_wp2_with fail
    refine (implRunOk_any _ zss _ (h.below (below_alloc _))).mono ?_
    rw [hok]
    rintro e w1 ⟨rfl, hb1⟩
    have HK : Hid (Below w.heap.size w w1) := below_then (below_alloc _) hb1
    clear hok hb1 h hr
    go_wp2
    go_ret
    exact ⟨ret_int H0.out.symm, HK.out⟩
  | true =>
    have H0 : getR zss r = getZ (sumR zss) r := by simp [getR, hok]
    rw [H0]
    clear H0
    rcases h.cases with ⟨a, cap, rfl, rfl, _⟩ | ⟨b, off, cap, hpos, hlim, _, _, rfl, hbw, hc⟩
    · go_enter Try.func17, Try.ntmps17
      go_wp2_with fail
      refine (implRunOk_any _ [] _ (h.below (below_alloc _))).mono ?_
      rw [hok]
      rintro e w1 ⟨rfl, hb1⟩
      have HK : Hid (Below w.heap.size w w1) := below_then (below_alloc _) hb1
      have hbx : w1.cell? ⟨w.heap.size, 0, none⟩ = some (.slice a 0 cap) := cell_is hb1 (by simp) (by simp [go_sem])
      clear hok hb1 h hr
      go_wp2
      refine wp_loop_rounds 1 ?_
      rw [rounds_succ]
      go_wp2
      go_ret
      exact ⟨rfl, HK.out⟩
    · exact implRunGet_some b off cap zss ra rn rc r w hok hpos h hbw hr hc

end Go.Proofs.Ytjaehoehfmklcaa
