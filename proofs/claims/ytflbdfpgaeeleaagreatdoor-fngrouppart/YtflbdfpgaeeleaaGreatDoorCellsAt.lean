/-
  The contracts of impl.cellsAt, spec.l5Key and impl.groupText: the cells of a row at places, and their text.
-/
import Derived.Test.YtflbdfpgaeeleaaGreatDoorKeys
import Derived.Test.YtflbdfpgaeeleaaGreatDoorText
namespace Go.Proofs.YtflbdfpgaeeleaaGreatDoor
set_option maxRecDepth 100000
open Go.RowKit

theorem nil_row {ks r : List Int} (hk : ∀ k ∈ ks, 0 ≤ k ∧ k < (r.length : Int)) (h0 : 0 < ks.length) : 0 < r.length := by
  have := hk _ (getD_memI h0)
  omega

theorem int_litK (w : World) (n : Int) : IntsAt (w.alloc (.cells #[.int .i64 n] 3)) (.slice (some ⟨w.heap.size, 0, none⟩) 1 1) [n] := by
  refine ⟨by simp, _, _, rfl, by simp, fun _ => ⟨_, _, rfl, by simp, fun j hj => ?_⟩⟩
  have : j = 0 := by simp at hj; omega
  subst this
  simp [go_sem]

set_option maxHeartbeats 4000000 in
theorem cellsAt_any (v u : Value) (r ks : List Int) (w : World) (h : IntsAt w v r) (h2 : IntsAt w u ks) (hk : ∀ k ∈ ks, 0 ≤ k ∧ k < (r.length : Int)) (hl : ks.length ≤ 6) :
    Calls Tryz.prog 22 #[v, u] w fun e w' => ∃ v', e = .returned v' ∧ Own w' w.heap.size w'.heap.size v' (keyZ r ks) ∧ Below w.heap.size w w' := by
  obtain ⟨i0, hi, hz0, hz1, hz2⟩ := info_parts infoInt
  rcases h2.cases with ⟨a, cap, rfl, rfl⟩ | ⟨b2, off2, cap2, hpos2, hlim2, rfl, hbw2, hc2⟩
  · obtain ⟨va, vn', vc, rfl⟩ := h.shape
    clear h h2 hk hl
    go_enter Tryz.func22, Tryz.ntmps22
    go_wp2_with (at_make; refine wpList_make_own _ rfl _ _ 24 rfl w.heap.size 3 i0 (.int .i64 0) 1 Tryz.underlying24 hi hz0 hz1 _ _ _ 1 rfl rfl (by omega) (by rw [hz2]; omega) (by unfold maxLen; omega) (Nat.le_refl _) ?_; intro w1 hown1 hgrow1)
    have hb1 : Below w.heap.size w w1 := (Below.refl _ _).grown hgrow1 (Nat.le_refl _) (by simp)
    have HO1 : Hid (Own w1 w.heap.size w1.heap.size (.slice (some ⟨w.heap.size, 0, none⟩) 0 1) []) := own_new (xs := []) (by simpa using hown1) (by simp)
    clear hown1 hgrow1
    go_wp2
    refine wp_loop_rounds 1 ?_
    rw [rounds_succ]
    go_wp2
    go_ret
    exact ⟨_, rfl, HO1.out, hb1⟩
  · have hr0 := nil_row hk hpos2
    rcases h.cases with ⟨a, cap, rfl, rfl⟩ | ⟨b, off, cap, hpos, hlim, rfl, hbw, hc⟩
    · simp at hr0
    · clear h h2 hlim2
      obtain ⟨n, hn⟩ : ∃ n, n = ks.length := ⟨_, rfl⟩
      have HN : Hid (n = ks.length) := hn
      obtain ⟨m, hm⟩ : ∃ m, m = r.length := ⟨_, rfl⟩
      rw [← hn] at hl hpos2 hc2 ⊢
      rw [← hm] at hk hc hpos hlim hr0 ⊢
      clear hn hm
      go_enter Tryz.func22, Tryz.ntmps22
      go_wp2_with (at_make; refine wpList_make_own _ rfl _ _ 24 rfl w.heap.size 3 i0 (.int .i64 0) 1 Tryz.underlying24 hi hz0 hz1 _ _ _ (n + 1) rfl rfl (by omega) (by rw [hz2]; omega) (by unfold maxLen; omega) (Nat.le_refl _) ?_; intro w1 hown1 hgrow1)
      have hb1 : Below w.heap.size w w1 := (Below.refl _ _).grown hgrow1 (Nat.le_refl _) (by simp)
      have HO1 : Hid (Own w1 w.heap.size w1.heap.size (.slice (some ⟨w.heap.size, 0, none⟩) 0 (n + 1)) (keyZ r (ks.take 0))) := own_new (xs := []) (by simpa using hown1) (by simp)
      have HB1 : Hid (Below w.heap.size w w1) := hb1
      clear hown1 hgrow1 hb1
      go_wp2
      go_loopw [5, 14] (fun s i wr => ∃ (k : Nat), k ≤ n ∧ i = .int .i64 k ∧ Hid (Own wr w.heap.size wr.heap.size s (keyZ r (ks.take k))) ∧ Hid (Below w.heap.size w wr)) (fun _ i _ => n - (intOf i).toNat)
      case atStart => exact ⟨0, Nat.zero_le _, rfl, HO1.out, HB1.out⟩
      case round =>
        obtain ⟨k, hkn, rfl, HO, HW⟩ := hrel
        clear HO1 HB1
        by_cases hlt : k < n
        · have hk' : k < ks.length := by rw [← HN.out]; exact hlt
          have hbq := HW.out
          have hkey := hk _ (getD_memI hk')
          have HT : Hid (keyZ r (ks.take (k + 1)) = keyZ r (ks.take k) ++ [r.getD (ks.getD k 0).toNat 0]) := keyZ_take hk'
          have c2 := (hbq.cell (p := ⟨b2, off2 + k, none⟩) hbw2).trans (hc2 k hlt)
          have hrl : (keyZ r (ks.take k)).length ≤ 6 := by rw [keyZ_len, List.length_take]; omega
          obtain ⟨kk, HKK⟩ : ∃ kk, Hid (kk = ks.getD k 0) := ⟨_, rfl⟩
          rw [← HKK.out] at hkey c2 HT
          obtain ⟨kn, rfl⟩ := Int.eq_ofNat_of_zero_le hkey.1
          have hknm : kn < m := by omega
          have c1 := (hbq.cell (p := ⟨b, off + kn, none⟩) hbw).trans (hc kn hknm)
          simp only [Int.toNat_natCast] at HT
          obtain ⟨z, HZ⟩ : ∃ z, Hid (z = r.getD kn 0) := ⟨_, rfl⟩
          rw [← HZ.out] at c1 HT
          have hal : Below wr.heap.size wr (wr.alloc (.cells #[.int .i64 z] 3)) := below_alloc _
          have hO3 := HO.out.keep' hal
          have hsz2 : w.heap.size ≤ wr.heap.size := hbq.size
          have HKB : Hid (Below w.heap.size w (wr.alloc (.cells #[.int .i64 z] 3))) := hbq.trans (hal.mono hsz2)
          clear hc hc2 HO HW hbq hk
          go_wp2_with (at_builtin; refine wpList_append_ints rfl _ _ 24 rfl w.heap.size 3 i0 Tryz.underlying24 hi hz0 hz1 hz2 u5 _ _ rfl hO3.1 _ [z] rfl (int_litK wr z) (by simp; omega) (by simp; omega) ?_; intro v3 w3 hown3 hg3 _)
          have O3 : Own w3 w.heap.size w3.heap.size v3 (keyZ r (ks.take k) ++ [z]) := own_new (xs := keyZ r (ks.take k) ++ [z]) (by simpa using hown3) (by simp; omega)
          have HO3 : Hid (Own w3 w.heap.size w3.heap.size v3 (keyZ r (ks.take (k + 1)))) := by rw [Hid, HT.out]; exact O3
          have HK3 : Hid (Below w.heap.size w w3) := HKB.out.grown hg3 HKB.out.size (fun i hi' => (hO3.1.lt i hi').1)
          clear hown3 hg3 O3 hO3 hal HKB
          go_wp2
          go_roundw
          case rel => exact ⟨k + 1, by omega, by go_num, HO3.out, HK3.out⟩
          case measure => simp [intOf]; omega
        · obtain rfl : k = n := by omega
          have hO := HO.out
          rw [HN.out, List.take_length] at hO
          clear hc hc2 hk
          go_wp2
          go_ret
          exact ⟨_, rfl, hO, HW.out⟩
set_option maxHeartbeats 4000000 in
theorem l5Key_any (v u : Value) (r ks : List Int) (w : World) (h : IntsAt w v r) (h2 : IntsAt w u ks) (hk : ∀ k ∈ ks, 0 ≤ k ∧ k < (r.length : Int)) (hl : ks.length ≤ 6) :
    Calls Tryz.prog 28 #[v, u] w fun e w' => ∃ v', e = .returned v' ∧ Own w' w.heap.size w'.heap.size v' (keyZ r ks) ∧ Below w.heap.size w w' := by
  obtain ⟨i0, hi, hz0, hz1, hz2⟩ := info_parts infoInt
  have HO1 : Hid (Own (w.alloc (.cells #[] 3)) w.heap.size (w.alloc (.cells #[] 3)).heap.size (.slice (some ⟨w.heap.size, 0, none⟩) 0 0) []) := own_new (n := 0) (xs := []) (World.ownsRow_lit w #[] 0 (Nat.le_refl _) (by unfold maxLen; omega) rfl) (by simp)
  have HB1 : Hid (Below w.heap.size w (w.alloc (.cells #[] 3))) := below_alloc _
  rcases h2.cases with ⟨a, cap, rfl, rfl⟩ | ⟨b2, off2, cap2, hpos2, hlim2, rfl, hbw2, hc2⟩
  · obtain ⟨va, vn', vc, rfl⟩ := h.shape
    clear h h2 hk hl
    go_enter Tryz.func28, Tryz.ntmps28
    go_wp2
    refine wp_loop_rounds 1 ?_
    rw [rounds_succ]
    go_wp2
    go_ret
    exact ⟨_, rfl, HO1.out, HB1.out⟩
  · have hr0 := nil_row hk hpos2
    rcases h.cases with ⟨a, cap, rfl, rfl⟩ | ⟨b, off, cap, hpos, hlim, rfl, hbw, hc⟩
    · simp at hr0
    · clear h h2 hlim2
      obtain ⟨n, hn⟩ : ∃ n, n = ks.length := ⟨_, rfl⟩
      have HN : Hid (n = ks.length) := hn
      obtain ⟨m, hm⟩ : ∃ m, m = r.length := ⟨_, rfl⟩
      rw [← hn] at hl hpos2 hc2 ⊢
      rw [← hm] at hk hc hpos hlim hr0 ⊢
      clear hn hm
      go_enter Tryz.func28, Tryz.ntmps28
      go_wp2
      go_loopw [5, 6] (fun s i wr => ∃ (k : Nat), k ≤ n ∧ i = .int .i64 k ∧ Hid (Own wr w.heap.size wr.heap.size s (keyZ r (ks.take k))) ∧ Hid (Below w.heap.size w wr)) (fun _ i _ => n - (intOf i).toNat)
      case atStart => exact ⟨0, Nat.zero_le _, rfl, HO1.out, HB1.out⟩
      case round =>
        obtain ⟨k, hkn, rfl, HO, HW⟩ := hrel
        clear HO1 HB1
        by_cases hlt : k < n
        · have hk' : k < ks.length := by rw [← HN.out]; exact hlt
          have hbq := HW.out
          have hkey := hk _ (getD_memI hk')
          have HT : Hid (keyZ r (ks.take (k + 1)) = keyZ r (ks.take k) ++ [r.getD (ks.getD k 0).toNat 0]) := keyZ_take hk'
          have c2 := (hbq.cell (p := ⟨b2, off2 + k, none⟩) hbw2).trans (hc2 k hlt)
          have hrl : (keyZ r (ks.take k)).length ≤ 6 := by rw [keyZ_len, List.length_take]; omega
          obtain ⟨kk, HKK⟩ : ∃ kk, Hid (kk = ks.getD k 0) := ⟨_, rfl⟩
          rw [← HKK.out] at hkey c2 HT
          obtain ⟨kn, rfl⟩ := Int.eq_ofNat_of_zero_le hkey.1
          have hknm : kn < m := by omega
          have c1 := (hbq.cell (p := ⟨b, off + kn, none⟩) hbw).trans (hc kn hknm)
          simp only [Int.toNat_natCast] at HT
          obtain ⟨z, HZ⟩ : ∃ z, Hid (z = r.getD kn 0) := ⟨_, rfl⟩
          rw [← HZ.out] at c1 HT
          have hal : Below wr.heap.size wr (wr.alloc (.cells #[.int .i64 z] 3)) := below_alloc _
          have hO3 := HO.out.keep' hal
          have hsz2 : w.heap.size ≤ wr.heap.size := hbq.size
          have HKB : Hid (Below w.heap.size w (wr.alloc (.cells #[.int .i64 z] 3))) := hbq.trans (hal.mono hsz2)
          clear hc hc2 HO HW hbq hk
          go_wp2_with (at_builtin; refine wpList_append_ints rfl _ _ 24 rfl w.heap.size 3 i0 Tryz.underlying24 hi hz0 hz1 hz2 u5 _ _ rfl hO3.1 _ [z] rfl (int_litK wr z) (by simp; omega) (by simp; omega) ?_; intro v3 w3 hown3 hg3 _)
          have O3 : Own w3 w.heap.size w3.heap.size v3 (keyZ r (ks.take k) ++ [z]) := own_new (xs := keyZ r (ks.take k) ++ [z]) (by simpa using hown3) (by simp; omega)
          have HO3 : Hid (Own w3 w.heap.size w3.heap.size v3 (keyZ r (ks.take (k + 1)))) := by rw [Hid, HT.out]; exact O3
          have HK3 : Hid (Below w.heap.size w w3) := HKB.out.grown hg3 HKB.out.size (fun i hi' => (hO3.1.lt i hi').1)
          clear hown3 hg3 O3 hO3 hal HKB
          go_wp2
          go_roundw
          case rel => exact ⟨k + 1, by omega, by go_num, HO3.out, HK3.out⟩
          case measure => simp [intOf]; omega
        · obtain rfl : k = n := by omega
          have hO := HO.out
          rw [HN.out, List.take_length] at hO
          clear hc hc2 hk
          go_wp2
          go_ret
          exact ⟨_, rfl, hO, HW.out⟩
set_option maxHeartbeats 1000000 in
theorem groupText_any (v u : Value) (r ks : List Int) (w : World) (htab : Tab w) (h : IntsAt w v r) (h2 : IntsAt w u ks) (hk : ∀ k ∈ ks, 0 ≤ k ∧ k < (r.length : Int)) (hl : ks.length ≤ 6) (hr : rowOkB r = true) :
    Calls Tryz.prog 50 #[v, u] w fun e w' => ∃ s : ByteArray, e = .returned (.string s) ∧ s.data.toList = rowTx (keyZ r ks) ∧ Below w.heap.size w w' := by
  have hwf := cells_wf (keyZ_cells hr hk)
  have hlen : (keyZ r ks).length ≤ 1048576 := by rw [keyZ_len]; omega
  go_enter Tryz.func50, Tryz.ntmps50
  go_wp2_with fail
  refine (cellsAt_any v u r ks _ h h2 hk hl).mono ?_
  rintro e w1 ⟨v1, rfl, O1, hb1⟩
  clear h h2 hk hr
  go_wp2_with fail
  refine (implRowText_any v1 (keyZ r ks) _ (htab.below hb1) O1.ints hwf hlen).mono ?_
  rintro e w2 ⟨s, rfl, hs, hb2⟩
  have HK : Hid (Below w.heap.size w w2) := below_then hb1 hb2
  have HS : Hid (s.data.toList = rowTx (keyZ r ks)) := hs
  clear O1 hb1 hb2 hs hwf htab
  go_wp2
  go_ret
  exact ⟨s, rfl, HS.out, HK.out⟩

end Go.Proofs.YtflbdfpgaeeleaaGreatDoor
