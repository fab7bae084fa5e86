/-
  The contracts of slices.Index and slices.Contains at numbers, impl.areKeys, impl.allHaveKeys, spec.l3Col, spec.l4Keys and spec.l5Fits.
-/
import Derived.Test.YtflbdfpgaeeleaaGreatDoorKeysMath
import Derived.Test.YtflbdfpgaeeleaaGreatDoorJoinHave
import Derived.Test.YtflbdfpgaeeleaaGreatDoorOwn
namespace Go.Proofs.YtflbdfpgaeeleaaGreatDoor
set_option maxRecDepth 100000
open Go.RowKit
attribute [local go_sem ↓] Go.wp_at_zero Go.wp_at_succ

/-- Numbers in memory, their capacity told. -/
def TailI (w : World) (v : Value) (xs : List Int) : Prop := IntsAt w v xs ∧ ∃ a c, v = .slice a xs.length c ∧ xs.length ≤ c ∧ c ≤ 9223372036854775807
theorem TailI.below {w w' : World} {v : Value} {xs : List Int} (h : TailI w v xs) (hb : Below w.heap.size w w') : TailI w' v xs := ⟨h.1.below hb, h.2⟩
theorem Own.tailI {w : World} {lo hi : Nat} {v : Value} {xs : List Int} (h : Own w lo hi v xs) : TailI w v xs := by
  refine ⟨h.ints, ?_⟩
  rcases h.1.2 with ⟨rfl, h0⟩ | ⟨g, cap, cur, rfl, _, _, hnc, hcm, _⟩
  · exact ⟨none, 0, by rw [h0], by omega, by omega⟩
  · exact ⟨_, cap, rfl, hnc, by have := hcm; simp only [maxLen] at this; omega⟩
theorem IntsAt.taken {w : World} {b off n cap : Nat} {xs : List Int} (h : IntsAt w (.slice (some ⟨b, off, none⟩) n cap) xs) {k : Nat} (hk : k ≤ xs.length) : IntsAt w (.slice (some ⟨b, off, none⟩) k cap) (xs.take k) := by
  obtain ⟨hl, a, c, e, _, hc⟩ := h
  simp only [Value.slice.injEq] at e
  obtain ⟨rfl, _, rfl⟩ := e
  have hlk : (xs.take k).length = k := by rw [List.length_take]; omega
  refine ⟨by omega, _, _, by rw [hlk], fun h => by simp at h, fun hne => ?_⟩
  obtain ⟨b', off', e, hb, hcell⟩ := hc (fun e => by rw [e] at hne; simp at hne)
  simp only [Option.some.injEq, Addr.mk.injEq] at e
  obtain ⟨rfl, rfl, _⟩ := e
  refine ⟨b, off, rfl, hb, fun j hj => ?_⟩
  rw [hlk] at hj
  have e2 : (xs.take k).getD j 0 = xs.getD j 0 := by simp [List.getD, hj]
  rw [e2]
  exact hcell j (by omega)

set_option maxHeartbeats 2000000 in
theorem indexInts_any (v : Value) (xs : List Int) (x : Int) (w : World) (h : IntsAt w v xs) :
    Calls Tryz.prog 70 #[v, .int .i64 x] w fun e w' => ∃ i : Int, e = .returned (.int .i64 i) ∧ ((i = -1 ∧ ¬ x ∈ xs) ∨ (0 ≤ i ∧ x ∈ xs)) ∧ w' = w := by
  rcases h.cases with ⟨a, cap, rfl, rfl⟩ | ⟨b, off, cap, hpos, hlim, rfl, hbw, hc⟩
  · clear h
    go_enter Tryz.func70, Tryz.ntmps70
    go_wp2
    refine wp_loop_rounds 1 ?_
    rw [rounds_succ]
    go_wp2
    go_ret
    exact ⟨-1, rfl, .inl ⟨rfl, by simp⟩, rfl⟩
  · clear h
    obtain ⟨n, hn⟩ : ∃ n, n = xs.length := ⟨_, rfl⟩
    have HN : Hid (n = xs.length) := hn
    rw [← hn] at hpos hlim hc ⊢
    clear hn
    go_enter Tryz.func70, Tryz.ntmps70
    go_wp2
    go_loopw [8] (fun i wr => ∃ k : Nat, k ≤ n ∧ i = .int .i64 k ∧ Hid (∀ j, j < k → xs.getD j 0 ≠ x) ∧ wr = w) (fun i _ => n - (intOf i).toNat)
    case atStart => exact ⟨0, Nat.zero_le _, rfl, fun j hj => by omega, rfl⟩
    case round =>
      obtain ⟨k, hk, rfl, HA, rfl⟩ := hrel
      by_cases hlt : k < n
      · have hlt' : k < xs.length := by rw [← HN.out]; exact hlt
        have c0 := hc k hlt
        have HM : Hid (xs.getD k 0 ∈ xs) := getD_memI hlt'
        obtain ⟨y, HY⟩ : ∃ y, Hid (y = xs.getD k 0) := ⟨_, rfl⟩
        rw [← HY.out] at c0 HM
        clear hc
        by_cases hxy : x = y
        · have hbt : (x == y) = true := by simp [hxy]
          go_wp2
          go_ret
          exact ⟨k, rfl, .inr ⟨by omega, by rw [hxy]; exact HM.out⟩, rfl⟩
        · have hbf : (x == y) = false := by simp [hxy]
          have HA2 : Hid (∀ j, j < k + 1 → xs.getD j 0 ≠ x) := fun j hj => by
            rcases Nat.lt_succ_iff_lt_or_eq.1 hj with h | h
            · exact HA.out j h
            · rw [h, ← HY.out]; exact fun e => hxy e.symm
          go_wp2
          go_roundw
          case rel => exact ⟨k + 1, by omega, by go_num, HA2.out, by first | rfl | trivial⟩
          case measure => simp [intOf]; omega
      · obtain rfl : k = n := by omega
        clear hc
        go_wp2
        go_ret
        refine ⟨-1, rfl, .inl ⟨rfl, fun hm => ?_⟩, rfl⟩
        obtain ⟨j, hj, e⟩ := mem_getD (d := 0) hm
        exact HA.out j (by rw [HN.out]; exact hj) e
theorem containsInts_any (v : Value) (xs : List Int) (x : Int) (w : World) (h : IntsAt w v xs) :
    Calls Tryz.prog 47 #[v, .int .i64 x] w fun e w' => e = .returned (.bool (decide (x ∈ xs))) ∧ w' = w := by
  obtain ⟨d, HD⟩ : ∃ d, Hid (d = decide (x ∈ xs)) := ⟨_, rfl⟩
  rw [← HD.out]
  go_enter Tryz.func47, Tryz.ntmps47
  go_wp2_with fail
  refine (indexInts_any v xs x _ h).mono ?_
  rintro e w1 ⟨i, rfl, hi, rfl⟩
  clear h
  rcases hi with ⟨rfl, hh⟩ | ⟨hi0, hh⟩
  · have hd : d = false := by rw [HD.out]; simp [hh]
    subst hd
    go_wp2
    go_ret
    exact ⟨rfl, rfl⟩
  · have hd : d = true := by rw [HD.out]; simp [hh]
    subst hd
    clear hh
    go_wp2
    go_ret
    exact ⟨rfl, rfl⟩
set_option maxHeartbeats 4000000 in
theorem areKeys_any (v : Value) (ks : List Int) (wd : Int) (w : World) (h : TailI w v ks) :
    Calls Tryz.prog 18 #[v, .int .i64 wd] w fun e w' => e = .returned (.bool (keysB ks wd)) ∧ w' = w := by
  obtain ⟨h, a0, c0, hv, hcap, hmax⟩ := h
  obtain ⟨d, HD⟩ : ∃ d, Hid (d = keysB ks wd) := ⟨_, rfl⟩
  rw [← HD.out]
  by_cases hl : ks.length < 6
  · rcases h.cases with ⟨a, cap, rfl, rfl⟩ | ⟨b, off, cap, hpos, hlim, rfl, hbw, hc⟩
    · have hd : d = true := by rw [HD.out]; rfl
      subst hd
      clear h hv
      go_enter Tryz.func18, Tryz.ntmps18
      go_wp2
      refine wp_loop_rounds 1 ?_
      rw [rounds_succ]
      go_wp2
      go_ret
      exact ⟨rfl, rfl⟩
    · obtain rfl : c0 = cap := by simp at hv; exact hv.2.symm
      clear hv
      have HI : Hid (IntsAt w (.slice (some ⟨b, off, none⟩) ks.length c0) ks) := h
      obtain ⟨n, hn⟩ : ∃ n, n = ks.length := ⟨_, rfl⟩
      have HN : Hid (n = ks.length) := hn
      rw [← hn] at hpos hlim hc hcap hl ⊢
      rw [← hn] at HI
      clear hn h
      go_enter Tryz.func18, Tryz.ntmps18
      go_wp2
      go_loopw [12] (fun i wr => ∃ k : Nat, k ≤ n ∧ i = .int .i64 k ∧ Hid (∀ j, j < k → keyAt ks wd j = true) ∧ wr = w) (fun i _ => n - (intOf i).toNat)
      case atStart => exact ⟨0, Nat.zero_le _, rfl, fun j hj => by omega, rfl⟩
      case round =>
        obtain ⟨k, hk, rfl, HA, rfl⟩ := hrel
        by_cases hlt : k < n
        · have hlt' : k < ks.length := by rw [← HN.out]; exact hlt
          have cx := hc k hlt
          have hout : decide (0 ≤ ks.getD k 0 ∧ ks.getD k 0 < wd) = false → d = false := fun h => by rw [HD.out]; exact keys_miss hlt' (keyAt_out h)
          have htw : ks.getD k 0 ∈ ks.take k → d = false := fun h => by rw [HD.out]; exact keys_miss hlt' (keyAt_twice h)
          have hyes : decide (0 ≤ ks.getD k 0 ∧ ks.getD k 0 < wd) = true → ¬ ks.getD k 0 ∈ ks.take k → keyAt ks wd k = true := fun h h2 => keyAt_yes h h2
          have hsub := HI.out.taken (k := k) (by omega)
          obtain ⟨x, HX⟩ : ∃ x, Hid (x = ks.getD k 0) := ⟨_, rfl⟩
          rw [← HX.out] at cx hout htw hyes
          obtain ⟨q, HQ⟩ : ∃ q, Hid (q = decide (0 ≤ x ∧ x < wd)) := ⟨_, rfl⟩
          rw [← HQ.out] at hout hyes
          have hkc : (k : Int) ≤ (c0 : Int) := by omega
          have hkc' : k ≤ c0 := by omega
          clear hc
          go_wp2_with fail
          refine (isPlace_any x wd _).mono ?_
          rw [← HQ.out]
          rintro e w1 ⟨rfl, rfl⟩
          cases hq : q with
          | false =>
            obtain rfl := hout hq
            subst hq
            clear hout htw hyes hsub
            go_wp2
            go_ret
            exact ⟨rfl, rfl⟩
          | true =>
            subst hq
            go_wp2_with fail
            refine (containsInts_any _ (ks.take k) x _ hsub).mono ?_
            rintro e w1 ⟨rfl, rfl⟩
            by_cases hm : x ∈ ks.take k
            · obtain rfl := htw hm
              have hdt : decide (x ∈ ks.take k) = true := by simp [hm]
              rw [hdt]
              clear hout htw hyes hsub hm hdt
              go_wp2
              go_ret
              exact ⟨rfl, rfl⟩
            · have hdf : decide (x ∈ ks.take k) = false := by simp [hm]
              rw [hdf]
              have HA2 : Hid (∀ j, j < k + 1 → keyAt ks wd j = true) := fun j hj => by
                rcases Nat.lt_succ_iff_lt_or_eq.1 hj with h | h
                · exact HA.out j h
                · rw [h]; exact hyes (by first | rfl | trivial) hm
              clear hout htw hyes hsub hm hdf
              go_wp2
              go_roundw
              case rel => exact ⟨k + 1, by omega, by go_num, HA2.out, by first | rfl | trivial⟩
              case measure => simp [intOf]; omega
        · obtain rfl : k = n := by omega
          have hd : d = true := by rw [HD.out, keys_all (fun i hi => HA.out i (by rw [HN.out]; exact hi)), ← HN.out]; simpa using hl
          subst hd
          clear hc
          go_wp2
          go_ret
          exact ⟨rfl, rfl⟩
  · have hd : d = false := by rw [HD.out]; exact keys_long hl
    subst hd hv
    obtain ⟨n, HN⟩ : ∃ n, Hid (n = ks.length) := ⟨_, rfl⟩
    rw [← HN.out] at hl ⊢
    have hl6 : (6 : Int) ≤ (n : Int) := by omega
    clear h hcap
    go_enter Tryz.func18, Tryz.ntmps18
    go_wp2
    go_ret
    exact ⟨rfl, rfl⟩
set_option maxHeartbeats 4000000 in
theorem allHaveKeys_any (v u : Value) (zs : List It) (ks : List Int) (w : World) (h : ItemsAt w v zs) (h2 : IntsAt w u ks) :
    Calls Tryz.prog 48 #[v, u] w fun e w' => e = .returned (.bool (haveAll zs ks)) ∧ Below w.heap.size w w' := by
  obtain ⟨d, HD⟩ : ∃ d, Hid (d = haveAll zs ks) := ⟨_, rfl⟩
  rw [← HD.out]
  have HZ : Hid (ItemsAt w v zs) := h
  clear h
  rcases h2.cases with ⟨a, cap, rfl, rfl⟩ | ⟨b, off, cap, hpos, hlim, rfl, hbw, hc⟩
  · have hd : d = true := by rw [HD.out]; rfl
    subst hd
    clear h2
    go_enter Tryz.func48, Tryz.ntmps48
    go_wp2
    refine wp_loop_rounds 1 ?_
    rw [rounds_succ]
    go_wp2
    go_ret
    exact ⟨rfl, Below.refl _ _⟩
  · clear h2
    obtain ⟨n, hn⟩ : ∃ n, n = ks.length := ⟨_, rfl⟩
    have HN : Hid (n = ks.length) := hn
    rw [← hn] at hpos hlim hc ⊢
    clear hn
    go_enter Tryz.func48, Tryz.ntmps48
    go_wp2
    go_loopw [9] (fun i wr => ∃ k : Nat, k ≤ n ∧ i = .int .i64 k ∧ Hid (∀ j, j < k → hasAt (ks.getD j 0) zs = true) ∧ Hid (Below w.heap.size w wr)) (fun i _ => n - (intOf i).toNat)
    case atStart => exact ⟨0, Nat.zero_le _, rfl, fun j hj => by omega, Below.refl _ _⟩
    case round =>
      obtain ⟨k, hk, rfl, HA, HW⟩ := hrel
      by_cases hlt : k < n
      · have hlt' : k < ks.length := by rw [← HN.out]; exact hlt
        have HB := HW.out
        have cx := (HB.cell (p := ⟨b, off + k, none⟩) hbw).trans (hc k hlt)
        have hmiss : hasAt (ks.getD k 0) zs = false → d = false := fun h => by rw [HD.out]; exact have_miss hlt' h
        obtain ⟨x, HX⟩ : ∃ x, Hid (x = ks.getD k 0) := ⟨_, rfl⟩
        rw [← HX.out] at cx hmiss
        obtain ⟨q, HQ⟩ : ∃ q, Hid (q = hasAt x zs) := ⟨_, rfl⟩
        rw [← HQ.out] at hmiss
        clear hc
        go_wp2_with fail
        refine (allHave_any v zs x _ (HZ.out.below HB)).mono ?_
        rw [← HQ.out]
        rintro e w2 ⟨rfl, hb2⟩
        have HK : Hid (Below w.heap.size w w2) := below_then HB hb2
        clear hb2 cx HB
        cases hq : q with
        | false =>
          obtain rfl := hmiss hq
          subst hq
          clear hmiss
          go_wp2
          go_ret
          exact ⟨rfl, HK.out⟩
        | true =>
          have HA2 : Hid (∀ j, j < k + 1 → hasAt (ks.getD j 0) zs = true) := fun j hj => by
            rcases Nat.lt_succ_iff_lt_or_eq.1 hj with h | h
            · exact HA.out j h
            · rw [h, ← HX.out, ← HQ.out]; exact hq
          subst hq
          clear hmiss
          go_wp2
          go_roundw
          case rel => exact ⟨k + 1, by omega, by go_num, HA2.out, HK.out⟩
          case measure => simp [intOf]; omega
      · obtain rfl : k = n := by omega
        have hd : d = true := by rw [HD.out]; exact have_all (fun i hi => HA.out i (by rw [HN.out]; exact hi))
        subst hd
        clear hc
        go_wp2
        go_ret
        exact ⟨rfl, HW.out⟩
theorem colK_any (n wd : Int) (w : World) (hwd : wd ≤ 6) : Calls Tryz.prog 58 #[.int .i64 n, .int .i64 wd] w fun e w' => e = .returned (.bool (decide (0 ≤ n ∧ n < wd))) ∧ w' = w := by
  by_cases h1 : 0 ≤ n
  · by_cases h2 : n < wd
    · have h3 : n < 6 := by omega
      go_enter Tryz.func58, Tryz.ntmps58
      go_wp2
      go_ret
      exact ⟨retb (by simp; omega), rfl⟩
    · go_enter Tryz.func58, Tryz.ntmps58
      go_wp2
      go_ret
      exact ⟨retb (by simp; omega), rfl⟩
  · go_enter Tryz.func58, Tryz.ntmps58
    go_wp2
    go_ret
    exact ⟨retb (by simp; omega), rfl⟩
theorem mem_takeI {ks : List Int} {k : Nat} (hk : k ≤ ks.length) {x : Int} (h : x ∈ ks.take k) : ∃ j, j < k ∧ ks.getD j 0 = x := by
  obtain ⟨j, hj, e⟩ := List.mem_take_iff_getElem.1 h
  exact ⟨j, by omega, by simp [List.getD, show j < ks.length by omega, e]⟩
theorem take_memI {ks : List Int} {k j : Nat} (hk : k ≤ ks.length) (hj : j < k) : ks.getD j 0 ∈ ks.take k :=
  List.mem_take_iff_getElem.2 ⟨j, by omega, by simp [List.getD, show j < ks.length by omega]⟩

set_option maxHeartbeats 4000000 in
theorem l4Keys_any (v : Value) (ks : List Int) (wd : Int) (w : World) (h : IntsAt w v ks) (hwd : wd ≤ 6) :
    Calls Tryz.prog 26 #[v, .int .i64 wd] w fun e w' => e = .returned (.bool (keysB ks wd)) ∧ Below w.heap.size w w' := by
  obtain ⟨d, HD⟩ : ∃ d, Hid (d = keysB ks wd) := ⟨_, rfl⟩
  rw [← HD.out]
  rcases h.cases with ⟨a, cap, rfl, rfl⟩ | ⟨b, off, cap, hpos, hlim, rfl, hbw, hc⟩
  · have hd : d = true := by rw [HD.out]; rfl
    subst hd
    clear h
    go_enter Tryz.func26, Tryz.ntmps26
    go_wp2
    refine wp_loop_rounds 1 ?_
    rw [rounds_succ]
    go_wp2
    go_ret
    exact ⟨rfl, Below.refl _ _⟩
  · clear h
    obtain ⟨n, hn⟩ : ∃ n, n = ks.length := ⟨_, rfl⟩
    have HN : Hid (n = ks.length) := hn
    rw [← hn] at hpos hlim hc ⊢
    clear hn
    go_enter Tryz.func26, Tryz.ntmps26
    go_wp2
    go_loopw [5] (fun i wr => ∃ k : Nat, k ≤ n ∧ i = .int .i64 k ∧ Hid (∀ j, j < k → keyAt ks wd j = true) ∧ Hid (Below w.heap.size w wr)) (fun i _ => n - (intOf i).toNat)
    case atStart => exact ⟨0, Nat.zero_le _, rfl, fun j hj => by omega, Below.refl _ _⟩
    case round =>
      obtain ⟨k, hk, rfl, HA, HW⟩ := hrel
      by_cases hlt : k < n
      · have hlt' : k < ks.length := by rw [← HN.out]; exact hlt
        have HB := HW.out
        have cx := (HB.cell (p := ⟨b, off + k, none⟩) hbw).trans (hc k hlt)
        have hout : decide (0 ≤ ks.getD k 0 ∧ ks.getD k 0 < wd) = false → d = false := fun h => by rw [HD.out]; exact keys_miss hlt' (keyAt_out h)
        have htw : ∀ j, j < k → ks.getD j 0 = ks.getD k 0 → d = false := fun j hj e => by rw [HD.out]; exact keys_miss hlt' (keyAt_twice (by rw [← e]; exact take_memI (by omega) hj))
        have hyes : decide (0 ≤ ks.getD k 0 ∧ ks.getD k 0 < wd) = true → (∀ j, j < k → ks.getD j 0 ≠ ks.getD k 0) → keyAt ks wd k = true := fun h h2 => keyAt_yes h (fun hm => by
          obtain ⟨j, hj, e⟩ := mem_takeI (by omega) hm
          exact h2 j hj e)
        obtain ⟨x, HX⟩ : ∃ x, Hid (x = ks.getD k 0) := ⟨_, rfl⟩
        rw [← HX.out] at cx hout htw hyes
        obtain ⟨q, HQ⟩ : ∃ q, Hid (q = decide (0 ≤ x ∧ x < wd)) := ⟨_, rfl⟩
        rw [← HQ.out] at hout hyes
        obtain ⟨wo, hwo⟩ : ∃ wo, wo = wr := ⟨_, rfl⟩
        have HBO : Hid (Below w.heap.size w wo) := by rw [hwo]; exact HB
        go_wp2_with fail
        refine (colK_any x wd _ hwd).mono ?_
        rw [← HQ.out]
        rintro e w1 ⟨rfl, rfl⟩
        cases hq : q with
        | false =>
          obtain rfl := hout hq
          subst hq
          clear hout htw hyes hc
          go_wp2
          go_ret
          exact ⟨rfl, HB⟩
        | true =>
          subst hq
          rw [← hwo]
          clear hwo cx HB HW
          go_wp2
          go_loopw [6] (fun i wr => ∃ j : Nat, j ≤ k ∧ i = .int .i64 j ∧ Hid (∀ t, t < j → ks.getD t 0 ≠ x) ∧ Hid (Below w.heap.size w wr)) (fun i _ => k - (intOf i).toNat)
          case atStart => exact ⟨0, Nat.zero_le _, rfl, fun j hj => by omega, HBO.out⟩
          case round =>
            obtain ⟨j, hj, rfl, HT, HW2⟩ := hrel
            clear HBO
            by_cases hjk : j < k
            · have hjI : (j : Int) < (k : Int) := by omega
              have HB2 := HW2.out
              have cx := (HB2.cell (p := ⟨b, off + k, none⟩) hbw).trans (hc k hlt)
              have cy := (HB2.cell (p := ⟨b, off + j, none⟩) hbw).trans (hc j (by omega))
              rw [← HX.out] at cx
              have htj := htw j hjk
              obtain ⟨y, HY⟩ : ∃ y, Hid (y = ks.getD j 0) := ⟨_, rfl⟩
              rw [← HY.out] at cy htj
              have hjn : j < n := by omega
              by_cases hxy : y = x
              · obtain rfl := htj hxy
                have hbt : (y == x) = true := by simp [hxy]
                clear hout htw hyes hc htj
                go_wp2
                go_quiet (fail)
                go_wp2
                go_ret
                exact ⟨rfl, below_drewN HW2.out _⟩
              · have hbf : (y == x) = false := by simp [hxy]
                have HT2 : Hid (∀ t, t < j + 1 → ks.getD t 0 ≠ x) := fun t ht => by
                  rcases Nat.lt_succ_iff_lt_or_eq.1 ht with h | h
                  · exact HT.out t h
                  · rw [h, ← HY.out]; exact hxy
                clear hout htw hyes hc htj
                go_wp2
                go_quiet (fail)
                go_wp2
                go_roundw
                case rel => exact ⟨j + 1, by omega, by go_num, HT2.out, below_drewN HW2.out _⟩
                case measure => simp [intOf]; omega
            · obtain rfl : j = k := by omega
              have HA2 : Hid (∀ t, t < j + 1 → keyAt ks wd t = true) := fun t ht => by
                rcases Nat.lt_succ_iff_lt_or_eq.1 ht with h | h
                · exact HA.out t h
                · rw [h]; exact hyes (by first | rfl | trivial) HT.out
              clear hout htw hyes hc
              go_wp2
              go_roundw
              case rel => exact ⟨j + 1, by omega, by go_num, HA2.out, HW2.out⟩
              case measure => simp [intOf]; omega
      · obtain rfl : k = n := by omega
        have HDD : Hid (d = decide (k < 6)) := by show _ = _; rw [HD.out, keys_all (fun i hi => HA.out i (by rw [HN.out]; exact hi)), ← HN.out]
        clear hc
        by_cases h6 : k < 6
        · have h6I : (k : Int) < 6 := by omega
          have hd : d = true := by rw [HDD.out]; simpa using h6
          subst hd
          go_wp2
          go_ret
          exact ⟨rfl, HW.out⟩
        · have h6I : ¬ (k : Int) < 6 := by omega
          have hd : d = false := by rw [HDD.out]; simpa using h6
          subst hd
          go_wp2
          go_ret
          exact ⟨rfl, HW.out⟩

set_option maxHeartbeats 4000000 in
theorem l5Fits_any (v u : Value) (zs : List It) (ks : List Int) (col : Int) (w : World) (h : ItemsAt w v zs) (h2 : IntsAt w u ks) (hw : ∀ k, k < zs.length → (zs.getD k ([], 0)).1.length ≤ 6) :
    Calls Tryz.prog 27 #[v, u, .int .i64 col] w fun e w' => e = .returned (.bool (fitsB zs ks col)) ∧ Below w.heap.size w w' := by
  obtain ⟨d, HD⟩ : ∃ d, Hid (d = fitsB zs ks col) := ⟨_, rfl⟩
  rw [← HD.out]
  have HK2 : Hid (IntsAt w u ks) := h2
  obtain ⟨ua, un, uc, rfl⟩ := h2.shape
  clear h2
  rcases h.cases with ⟨a, cap, rfl, rfl⟩ | ⟨b, off, cap, hpos, hlim, rfl, hbw, hc⟩
  · have hd : d = true := by rw [HD.out]; rfl
    subst hd
    clear h
    go_enter Tryz.func27, Tryz.ntmps27
    go_wp2
    refine wp_loop_rounds 1 ?_
    rw [rounds_succ]
    go_wp2
    go_ret
    exact ⟨rfl, Below.refl _ _⟩
  · clear h
    obtain ⟨n, hn⟩ : ∃ n, n = zs.length := ⟨_, rfl⟩
    have HN : Hid (n = zs.length) := hn
    rw [← hn] at hpos hlim hc hw ⊢
    clear hn
    go_enter Tryz.func27, Tryz.ntmps27
    go_wp2
    go_loopw [7] (fun i wr => ∃ k : Nat, k ≤ n ∧ i = .int .i64 k ∧ Hid (∀ j, j < k → fitAt ks col (zs.getD j ([], 0)) = true) ∧ Hid (Below w.heap.size w wr)) (fun i _ => n - (intOf i).toNat)
    case atStart => exact ⟨0, Nat.zero_le _, rfl, fun j hj => by omega, Below.refl _ _⟩
    case round =>
      obtain ⟨k, hk, rfl, HA, HW⟩ := hrel
      by_cases hlt : k < n
      · have hlt' : k < zs.length := by rw [← HN.out]; exact hlt
        have HB := HW.out
        obtain ⟨rv, hrv0, _, hix0⟩ := hc k hlt
        have hm6 := hw k hlt
        have hmiss : fitAt ks col (zs.getD k ([], 0)) = false → d = false := fun h => by rw [HD.out]; exact fits_miss hlt' h
        obtain ⟨_, ra, rc, rfl, _⟩ := hix0
        have hrv := (HB.cell (p := ⟨b, off + k * 2, none⟩) hbw).trans hrv0
        have hfit : fitAt ks col (zs.getD k ([], 0)) = (keysB ks ((zs.getD k ([], 0)).1.length : Int) && decide (0 ≤ col ∧ col < ((zs.getD k ([], 0)).1.length : Int))) := rfl
        have HFT : Hid (fitAt ks col (zs.getD k ([], 0)) = true → ∀ j, j < k + 1 → fitAt ks col (zs.getD j ([], 0)) = true) := fun h0 j hj => by
          rcases Nat.lt_succ_iff_lt_or_eq.1 hj with h | h
          · exact HA.out j h
          · rw [h]; exact h0
        rw [hfit] at hmiss HFT
        obtain ⟨m, HM⟩ : ∃ m, Hid (m = (zs.getD k ([], 0)).1.length) := ⟨_, rfl⟩
        rw [← HM.out] at hrv hmiss HFT hm6
        obtain ⟨q1, HQ1⟩ : ∃ q, Hid (q = keysB ks (m : Int)) := ⟨_, rfl⟩
        obtain ⟨q2, HQ2⟩ : ∃ q, Hid (q = decide (0 ≤ col ∧ col < (m : Int))) := ⟨_, rfl⟩
        rw [← HQ1.out, ← HQ2.out] at hmiss HFT
        have hm6I : (m : Int) ≤ 6 := by omega
        have hbr : b < wr.heap.size := Nat.lt_of_lt_of_le hbw HB.size
        clear hc hrv0 hfit hw
        go_wp2_with fail
        refine (l4Keys_any _ ks (m : Int) _ (HK2.out.below HB) hm6I).mono ?_
        rw [← HQ1.out]
        rintro e w2 ⟨rfl, hb2⟩
        have hrv2 := (hb2.cell (p := ⟨b, off + k * 2, none⟩) hbr).trans hrv
        have hk2 := below_then HB hb2
        clear hrv HB hb2
        cases hq1 : q1 with
        | false =>
          obtain rfl := hmiss (by rw [hq1]; rfl)
          subst hq1
          clear hmiss HFT hrv2
          go_wp2
          go_ret
          exact ⟨rfl, hk2⟩
        | true =>
          subst hq1
          go_wp2_with fail
          refine (colK_any col (m : Int) _ hm6I).mono ?_
          rw [← HQ2.out]
          rintro e w3 ⟨rfl, rfl⟩
          cases hq2 : q2 with
          | false =>
            obtain rfl := hmiss (by rw [hq2]; rfl)
            subst hq2
            clear hmiss HFT hrv2
            go_wp2
            go_ret
            exact ⟨rfl, hk2⟩
          | true =>
            have HA2 : Hid (∀ j, j < k + 1 → fitAt ks col (zs.getD j ([], 0)) = true) := HFT.out (by rw [hq2]; rfl)
            subst hq2
            clear hmiss HFT hrv2
            go_wp2
            go_roundw
            case rel => exact ⟨k + 1, by omega, by go_num, HA2.out, hk2⟩
            case measure => simp [intOf]; omega
      · obtain rfl : k = n := by omega
        have hd : d = true := by rw [HD.out]; exact fits_all (fun i hi => HA.out i (by rw [HN.out]; exact hi))
        subst hd
        clear hc hw
        go_wp2
        go_ret
        exact ⟨rfl, HW.out⟩

end Go.Proofs.YtflbdfpgaeeleaaGreatDoor
