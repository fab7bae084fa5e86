/-
  The contract of slices.BinarySearchFunc at items and impl.compareItems, and of impl.ZGet.
-/
import Derived.Test.YtjaehoehfmklcaaZGet
import Derived.Deep.RegionHeld
namespace Go.Proofs.Ytjaehoehfmklcaa
open Go.RowKit

set_option maxHeartbeats 8000000 in
theorem search_some (b off cap : Nat) (zs : List It) (ra : Option Addr) (rn rc : Nat) (r : List Int) (w : World) (hok : zOkB zs = true) (hpos : 0 < zs.length) (hbw : b < w.heap.size) (hr : IntsAt w (.slice ra rn rc) r)
    (hc : ∀ j, j < zs.length → ∃ rv, w.cell? ⟨b, off + j * 2, none⟩ = some rv ∧ w.cell? ⟨b, off + j * 2 + 1, none⟩ = some (.int .i64 (zs.getD j ([], 0)).2) ∧ IntsAt w rv (zs.getD j ([], 0)).1) :
    Calls Try.prog 32 #[.slice (some ⟨b, off, none⟩) zs.length cap, .agg #[.slice ra rn rc, .int .i64 0], .func (.func 33) #[] #[]] w fun e w' =>
      ∃ (i : Nat) (c : Bool), e = .returned (.tuple #[.int .i64 i, .bool c]) ∧ (c = true → i < zs.length ∧ getZ zs r = (zs.getD i ([], 0)).2) ∧ (c = false → getZ zs r = 0) ∧ i ≤ zs.length ∧ Below w.heap.size w w' := by
  have h100 := zOk_le hok
  have HOK : Hid (zOkB zs = true) := hok
  obtain ⟨n, hn⟩ : ∃ n, n = zs.length := ⟨_, rfl⟩
  have HN : Hid (n = zs.length) := hn
  rw [← hn] at hpos h100 hc ⊢
  clear hn hok
  have hrA := hr.alloc (.cells #[.slice ra rn rc, .int .i64 0] 31)
  go_enter Try.func32, Try.ntmps32
  go_wp2
  go_loopw [9, 10] (fun p q wr => ∃ (i j : Nat), i ≤ j ∧ j ≤ n ∧ p = .int .i64 i ∧ q = .int .i64 j ∧ Hid (∀ a, a < i → ordL (zs.getD a ([], 0)).1 r = -1) ∧ Hid (∀ a, j ≤ a → a < zs.length → ordL (zs.getD a ([], 0)).1 r ≠ -1) ∧
      Hid (Below (w.alloc (.cells #[.slice ra rn rc, .int .i64 0] 31)).heap.size (w.alloc (.cells #[.slice ra rn rc, .int .i64 0] 31)) wr))
    (fun p q _ => (intOf q).toNat - (intOf p).toNat)
  case atStart => exact ⟨0, n, Nat.zero_le _, Nat.le_refl _, rfl, rfl, fun a ha => by omega, fun a ha hb => by have := HN.out; omega, Below.refl _ _⟩
  case round =>
    obtain ⟨i, j, hij, hjn, rfl, rfl, HL, HR, HW⟩ := hrel
    have HB := HW.out
    have hB : Below w.heap.size w wr := below_then (below_alloc _) HB
    have t0 : wr.cell? ⟨w.heap.size, 0, none⟩ = some (.slice ra rn rc) := cell_is HB (by simp) (by simp [go_sem])
    have t1 : wr.cell? ⟨w.heap.size, 1, none⟩ = some (.int .i64 0) := cell_is HB (by simp) (by simp [go_sem])
    have hrw := hrA.below HB
    have hbr : b < wr.heap.size := Nat.lt_of_lt_of_le hbw hB.size
    have hbx : w.heap.size < wr.heap.size := by have := HB.size; simp at this; omega
    by_cases hlt : i < j
    · obtain ⟨h, HH⟩ : ∃ h, Hid (h = (i + j) / 2) := ⟨_, rfl⟩
      have hhj : h < j := by rw [HH.out]; omega
      have hih : i ≤ h := by rw [HH.out]; omega
      have hhi : ((i : Int) + (j : Int)) / 2 = (h : Int) := by rw [HH.out]; omega
      have hhn : h < n := by omega
      obtain ⟨xv, hx0, hy0, hix0⟩ := hc h hhn
      have hx := (hB.cell (p := ⟨b, off + h * 2, none⟩) hbw).trans hx0
      have hy := (hB.cell (p := ⟨b, off + h * 2 + 1, none⟩) hbw).trans hy0
      have hix := hix0.below hB
      clear hx0 hy0 hix0 hc HW
      obtain ⟨xa, xn, xc, rfl⟩ := hix.shape
      have hixd : IntsAt wr.drew (.slice xa xn xc) (zs.getD h ([], 0)).1 := hix.below (Below.drew (Below.refl _ _))
      have hrwd : IntsAt wr.drew (.slice ra rn rc) r := hrw.below (Below.drew (Below.refl _ _))
      obtain ⟨x, HX⟩ : ∃ x, Hid (x = (zs.getD h ([], 0)).1) := ⟨_, rfl⟩
      obtain ⟨y, HY⟩ : ∃ y, Hid (y = (zs.getD h ([], 0)).2) := ⟨_, rfl⟩
      rw [← HX.out] at hixd
      rw [← HY.out] at hy
      obtain ⟨o, HO⟩ : ∃ o, Hid (o = ordL x r) := ⟨_, rfl⟩
      have HX' : Hid (x = (zs.getD h ([], 0)).1) := HX
      clear hix hrw
      go_wp2
      clear hhi
      go_region_held (fun w' => w'.cell? ⟨b, off + h * 2, none⟩ = some (.slice xa xn xc) ∧ w'.cell? ⟨b, off + h * 2 + 1, none⟩ = some (.int .i64 y) ∧ w'.cell? ⟨w.heap.size, 0, none⟩ = some (.slice ra rn rc) ∧ w'.cell? ⟨w.heap.size, 1, none⟩ = some (.int .i64 0)) (go_keep)
        ((go_at_call 33; refine (compareItems_any xa xn xc y x ra rn rc 0 r _ hixd hrwd).mono ?_; rw [← HO.out]; rintro e w2 ⟨rfl, hb2⟩; have q0 := cell_is (p := ⟨b, off + h * 2, none⟩) hb2 hbr hx; have q1 := cell_is (p := ⟨b, off + h * 2 + 1, none⟩) hb2 hbr hy; have q2 := cell_is (p := ⟨w.heap.size, 0, none⟩) hb2 hbx t0; have q3 := cell_is (p := ⟨w.heap.size, 1, none⟩) hb2 hbx t1))
      all_goals
        have HK : Hid (Below (w.alloc (.cells #[.slice ra rn rc, .int .i64 0] 31)).heap.size (w.alloc (.cells #[.slice ra rn rc, .int .i64 0] 31)) w2) := below_then HB.drew hb2
        clear hb2 hixd hrwd hB HB q0 q1 q2 q3 hrA hr t0 t1 hx hy
        have hlt' : h < zs.length := by rw [← HN.out]; exact hhn
        by_cases ho : o < 0
        · have hm1 : Hid (ordL (zs.getD h ([], 0)).1 r = -1) := by
            show ordL (zs.getD h ([], 0)).1 r = -1
            rw [← HX.out]
            have := HO.out
            rcases ordL_cases x r with c | c | c <;> omega
          go_wp2
          go_roundw
          case rel => exact ⟨h + 1, j, by omega, hjn, by go_num, rfl, fun a ha => by
            rcases Nat.lt_succ_iff_lt_or_eq.1 ha with h1 | h1
            · exact ordL_trans _ _ _ (zOk_ord HOK.out h1 hlt') hm1.out
            · rw [h1]; exact hm1.out, HR.out, HK.out⟩
          case measure => simp [intOf]; omega
        · have hm1 : Hid (ordL (zs.getD h ([], 0)).1 r ≠ -1) := by
            show ordL (zs.getD h ([], 0)).1 r ≠ -1
            rw [← HX.out, ← HO.out]
            omega
          go_wp2
          go_roundw
          case rel => exact ⟨i, h, hih, by omega, rfl, by first | rfl | go_num, HL.out, fun a ha hb => by
            rcases Nat.eq_or_lt_of_le ha with h1 | h1
            · rw [← h1]; exact hm1.out
            · intro e
              exact hm1.out (ordL_trans _ _ _ (zOk_ord HOK.out h1 hb) e), HK.out⟩
          case measure => simp [intOf]; omega
    · have e : i = j := by omega
      subst e
      by_cases hin : i < n
      · obtain ⟨xv, hx0, hy0, hix0⟩ := hc i hin
        have hx := (hB.cell (p := ⟨b, off + i * 2, none⟩) hbw).trans hx0
        have hy := (hB.cell (p := ⟨b, off + i * 2 + 1, none⟩) hbw).trans hy0
        have hix := hix0.below hB
        clear hx0 hy0 hix0 hc HB
        obtain ⟨xa, xn, xc, rfl⟩ := hix.shape
        have hixd : IntsAt wr.drew (.slice xa xn xc) (zs.getD i ([], 0)).1 := hix.below (Below.drew (Below.refl _ _))
        have hrwd : IntsAt wr.drew (.slice ra rn rc) r := hrw.below (Below.drew (Below.refl _ _))
        obtain ⟨x, HX⟩ : ∃ x, Hid (x = (zs.getD i ([], 0)).1) := ⟨_, rfl⟩
        obtain ⟨y, HY⟩ : ∃ y, Hid (y = (zs.getD i ([], 0)).2) := ⟨_, rfl⟩
        rw [← HX.out] at hixd
        rw [← HY.out] at hy
        obtain ⟨o, HO⟩ : ∃ o, Hid (o = ordL x r) := ⟨_, rfl⟩
        clear hix hrw
        go_wp2
        go_region_held (fun w' => w'.cell? ⟨b, off + i * 2, none⟩ = some (.slice xa xn xc) ∧ w'.cell? ⟨b, off + i * 2 + 1, none⟩ = some (.int .i64 y) ∧ w'.cell? ⟨w.heap.size, 0, none⟩ = some (.slice ra rn rc) ∧ w'.cell? ⟨w.heap.size, 1, none⟩ = some (.int .i64 0)) (go_keep)
          ((go_at_call 33; refine (compareItems_any xa xn xc y x ra rn rc 0 r _ hixd hrwd).mono ?_; rw [← HO.out]; rintro e w2 ⟨rfl, hb2⟩; have q0 := cell_is (p := ⟨b, off + i * 2, none⟩) hb2 hbr hx; have q1 := cell_is (p := ⟨b, off + i * 2 + 1, none⟩) hb2 hbr hy; have q2 := cell_is (p := ⟨w.heap.size, 0, none⟩) hb2 hbx t0; have q3 := cell_is (p := ⟨w.heap.size, 1, none⟩) hb2 hbx t1))
        all_goals
          have HK : Hid (Below w.heap.size w w2) := below_then hB.drew hb2
          clear hb2 hixd hrwd hB q0 q1 q2 q3
          go_wp2
          go_ret2
          have hlt' : i < zs.length := by rw [← HN.out]; exact hin
          have hfirst : ∀ a, a < i → (zs.getD a ([], 0)).1 ≠ r := fun a ha e => by
            have := HL.out a ha
            rw [e, ordL_self] at this
            omega
          refine ⟨i, o == 0, rfl, fun h => ⟨hin, getZ_at hlt' hfirst ?_⟩, fun h => getZ_none fun a ha e => ?_, hjn, HK.out⟩
          · rw [← HX.out]
            exact ordL_eq.1 (by rw [← HO.out]; simpa using h)
          · have ho : o ≠ 0 := by simpa using h
            rcases Nat.lt_trichotomy a i with h1 | h1 | h1
            · exact hfirst a h1 e
            · subst h1
              rw [← HX.out] at e
              exact ho (by rw [HO.out, e, ordL_self])
            · have h2 := zOk_ord HOK.out h1 ha
              have h3 := HR.out i (Nat.le_refl _) hlt'
              rw [e] at h2
              exact h3 h2
      · have hd : decide (i < n) = false := by rw [decide_eq_false_iff_not]; exact hin
        have HK : Hid (Below w.heap.size w wr) := hB
        clear hc hrw hB HB t0 t1 hr hrA
        go_wp2
        go_quiet (fail)
        go_wp2
        go_ret2
        refine ⟨i, false, rfl, fun h => by simp at h, fun _ => getZ_none fun a ha e => ?_, hjn, below_then HK.out (below_drewN (Below.refl _ _) _)⟩
        have := HL.out a (by have := HN.out; omega)
        rw [e, ordL_self] at this
        omega

theorem search_none (a : Option Addr) (cap : Nat) (ra : Option Addr) (rn rc : Nat) (f : Value) (w : World) :
    Calls Try.prog 32 #[.slice a 0 cap, .agg #[.slice ra rn rc, .int .i64 0], f] w fun e w' => e = .returned (.tuple #[.int .i64 0, .bool false]) ∧ Below w.heap.size w w' := by
  go_enter Try.func32, Try.ntmps32
  go_wp2
  refine wp_loop_rounds 1 ?_
  rw [rounds_succ]
  go_wp2
  go_quiet (fail)
  go_wp2
  go_ret2
  exact ⟨rfl, below_then (below_alloc _) (below_drewN (Below.refl _ _) _)⟩

set_option maxHeartbeats 4000000 in
theorem implZGet_any (v : Value) (zs : List It) (rv : Value) (r : List Int) (w : World) (h : ItemsAt w v zs) (hr : IntsAt w rv r) :
    Calls Try.prog 9 #[v, rv] w fun e w' => e = .returned (.int .i64 (if zOkB zs then getZ zs r else 0)) ∧ Below w.heap.size w w' := by
  obtain ⟨ra, rn, rc, rfl⟩ := hr.shape
  cases hok : zOkB zs with
  | false =>
    go_enter Try.func9, Try.ntmps9
    go_wp2_with fail
    refine (implZOk_any v zs _ h).mono ?_
    rw [hok]
    rintro e w1 ⟨rfl, hb1⟩
    clear h hr
    go_wp2
    go_ret
    exact ⟨rfl, hb1⟩
  | true =>
    go_enter Try.func9, Try.ntmps9
    go_wp2_with fail
    refine (implZOk_any v zs _ h).mono ?_
    rw [hok]
    rintro e w1 ⟨rfl, hb1⟩
    have h1 := h.below hb1
    have hr1 := hr.below hb1
    rcases h1.cases with ⟨a, cap, rfl, rfl⟩ | ⟨b, off, cap, hpos, hlim, rfl, hbw, hc⟩
    · clear h h1 hr hr1
      go_wp2_with fail
      refine (search_none a cap ra rn rc _ _).mono ?_
      rintro e w2 ⟨rfl, hb2⟩
      have HK : Hid (Below w.heap.size w w2) := below_then hb1 hb2
      clear hb1 hb2
      go_wp2
      go_ret
      exact ⟨by simp [getZ], HK.out⟩
    · clear h h1
      go_wp2_with fail
      refine (search_some b off cap zs ra rn rc r _ hok hpos hbw hr1 hc).mono ?_
      rintro e w2 ⟨i, c, rfl, hy, hn, -, hb2⟩
      have HK : Hid (Below w.heap.size w w2) := below_then hb1 hb2
      cases c with
      | false =>
        have H0 : Hid (getZ zs r = 0) := hn rfl
        clear hb1 hb2 hc hr hr1 hy hn
        go_wp2
        go_ret
        exact ⟨ret_int H0.out.symm, HK.out⟩
      | true =>
        obtain ⟨hil, hg⟩ := hy rfl
        have H0 : Hid (getZ zs r = (zs.getD i ([], 0)).2) := hg
        obtain ⟨xv, -, hy0, -⟩ := hc i hil
        have hyc := (hb2.cell (p := ⟨b, off + i * 2 + 1, none⟩) hbw).trans hy0
        obtain ⟨y, HY⟩ : ∃ y, Hid (y = (zs.getD i ([], 0)).2) := ⟨_, rfl⟩
        rw [← HY.out] at hyc
        obtain ⟨n, hn'⟩ : ∃ n, n = zs.length := ⟨_, rfl⟩
        rw [← hn'] at hil hlim ⊢
        clear hb1 hb2 hc hr hr1 hy hn hy0 hg hn'
        go_wp2
        go_ret
        exact ⟨ret_int (by rw [H0.out, HY.out]), HK.out⟩

end Go.Proofs.Ytjaehoehfmklcaa
