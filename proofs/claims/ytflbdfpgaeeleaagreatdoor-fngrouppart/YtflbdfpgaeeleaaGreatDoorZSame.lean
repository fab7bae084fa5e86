/-
  The contracts of spec.ZSame and impl.ZSame (with slices.EqualFunc and impl.sameItem): both answer whether the lists are one, at all items.
-/
import Derived.Test.YtflbdfpgaeeleaaGreatDoorItems
namespace Go.Proofs.YtflbdfpgaeeleaaGreatDoor
open Go.RowKit

theorem specRowSame_val {v v2 : Value} {xs ys : List Int} {c : Bool} (hr : rowSameB xs ys = c) {w : World} (h : IntsAt w v xs) (h2 : IntsAt w v2 ys) : Calls Tryz.prog 59 #[v, v2] w fun e w' => e = .returned (.bool c) ∧ Drew w w' := hr ▸ specRowSame_q v v2 xs ys w h h2
theorem implRowSame_val {v v2 : Value} {xs ys : List Int} {c : Bool} (hr : rowSameB xs ys = c) {w : World} (h : IntsAt w v xs) (h2 : IntsAt w v2 ys) : Calls Tryz.prog 61 #[v, v2] w fun e w' => e = .returned (.bool c) ∧ Drew w w' := hr ▸ implRowSame_q v v2 xs ys w h h2

theorem pair_same {p q : It} (h1 : p.2 = q.2) (h2 : rowSameB p.1 q.1 = true) : p = q := by
  rw [same_iff] at h2
  exact Prod.ext (of_decide_eq_true h2) h1
theorem pair_other {p q : It} (h2 : rowSameB p.1 q.1 = false) : p ≠ q := by
  intro e
  subst e
  rw [same_self] at h2
  simp at h2

def zsB (zs ys : List It) : Bool := decide (zs = ys)
theorem zsB_refl (zs : List It) : zsB zs zs = true := by simp [zsB]
theorem zsB_of (xs ys : List It) (hl : xs.length = ys.length) (h : ∀ j, j < xs.length → xs.getD j ([], 0) = ys.getD j ([], 0)) : zsB xs ys = true := by
  unfold zsB
  rw [decide_eq_true_iff]
  apply List.ext_getElem hl
  intro j h1 h2
  have := h j h1
  simpa [List.getD, h1, h2] using this
theorem zsB_len (xs ys : List It) (hl : xs.length ≠ ys.length) : zsB xs ys = false := by
  unfold zsB
  rw [decide_eq_false_iff_not]
  intro h; exact hl (by rw [h])
theorem zsB_at (xs ys : List It) (j : Nat) (h : xs.getD j ([], 0) ≠ ys.getD j ([], 0)) : zsB xs ys = false := by
  unfold zsB
  rw [decide_eq_false_iff_not]
  intro e; exact h (by rw [e])

set_option maxHeartbeats 2000000 in
theorem sameItem_any (a : Option Addr) (n cap : Nat) (y : Int) (xs : List Int) (a2 : Option Addr) (n2 cap2 : Nat) (y2 : Int) (xs2 : List Int) (w : World) (h : IntsAt w (.slice a n cap) xs) (h2 : IntsAt w (.slice a2 n2 cap2) xs2) :
    Calls Tryz.prog 36 #[.agg #[.slice a n cap, .int .i64 y], .agg #[.slice a2 n2 cap2, .int .i64 y2]] w fun e w' => ∃ c, e = .returned (.bool c) ∧ (c = true → (xs, y) = (xs2, y2)) ∧ (c = false → (xs, y) ≠ (xs2, y2)) ∧ Below w.heap.size w w' := by
  have ha := (h.alloc (.cells #[.slice a n cap, .int .i64 y] 36)).alloc (.cells #[.slice a2 n2 cap2, .int .i64 y2] 36)
  have ha2 := (h2.alloc (.cells #[.slice a n cap, .int .i64 y] 36)).alloc (.cells #[.slice a2 n2 cap2, .int .i64 y2] 36)
  clear h h2
  by_cases hy : y = y2
  · have hne : (y == y2) = true := by simp [hy]
    have HY : Hid (y = y2) := hy
    clear hy
    cases hs : rowSameB xs xs2 with
    | false =>
      go_enter Tryz.func36, Tryz.ntmps36
      go_wp2_with fail
      refine (implRowSame_val hs ha ha2).mono ?_
      rintro e w1 ⟨rfl, hb1⟩
      clear ha ha2
      go_wp2
      go_ret
      exact ⟨false, rfl, fun h => by simp at h, fun _ => pair_other hs, below_then (below_then (below_alloc _) (below_alloc _)) hb1.below⟩
    | true =>
      go_enter Tryz.func36, Tryz.ntmps36
      go_wp2_with fail
      refine (implRowSame_val hs ha ha2).mono ?_
      rintro e w1 ⟨rfl, hb1⟩
      clear ha ha2
      go_wp2
      go_ret
      exact ⟨true, rfl, fun _ => pair_same HY.out hs, fun h => by simp at h, below_then (below_then (below_alloc _) (below_alloc _)) hb1.below⟩
  · have hne : (y == y2) = false := by simp [hy]
    go_enter Tryz.func36, Tryz.ntmps36
    go_wp2
    go_ret
    exact ⟨false, rfl, fun h => by simp at h, fun _ e => hy (by simpa using congrArg Prod.snd e), below_then (below_alloc _) (below_alloc _)⟩

set_option maxHeartbeats 4000000 in
theorem equalFunc_some (b off cap b2 off2 cap2 : Nat) (zs ys : List It) (w : World) (hpos : 0 < zs.length) (hlim : zs.length ≤ 140737488355328) (hlen : zs.length = ys.length) (hbw : b < w.heap.size) (hbw2 : b2 < w.heap.size)
    (hc : ∀ j, j < zs.length → ∃ rv, w.cell? ⟨b, off + j * 2, none⟩ = some rv ∧ w.cell? ⟨b, off + j * 2 + 1, none⟩ = some (.int .i64 (zs.getD j ([], 0)).2) ∧ IntsAt w rv (zs.getD j ([], 0)).1)
    (hc2 : ∀ j, j < zs.length → ∃ rv, w.cell? ⟨b2, off2 + j * 2, none⟩ = some rv ∧ w.cell? ⟨b2, off2 + j * 2 + 1, none⟩ = some (.int .i64 (ys.getD j ([], 0)).2) ∧ IntsAt w rv (ys.getD j ([], 0)).1) :
    Calls Tryz.prog 35 #[.slice (some ⟨b, off, none⟩) zs.length cap, .slice (some ⟨b2, off2, none⟩) zs.length cap2, .func (.func 36) #[] #[]] w fun e w' => e = .returned (.bool (zsB zs ys)) ∧ Below w.heap.size w w' := by
  obtain ⟨n, hn⟩ : ∃ n, n = zs.length := ⟨_, rfl⟩
  have HN : Hid (n = zs.length) := hn
  have HL : Hid (zs.length = ys.length) := hlen
  rw [← hn] at hpos hlim hc hc2 ⊢
  clear hn hlen
  go_enter Tryz.func35, Tryz.ntmps35
  go_wp2
  go_loopw [17] (fun i wr => ∃ k : Nat, k ≤ n ∧ i = .int .i64 k ∧ Hid (Below w.heap.size w wr) ∧ Hid (∀ j, j < k → zs.getD j ([], 0) = ys.getD j ([], 0))) (fun i _ => n - (intOf i).toNat)
  case atStart => exact ⟨0, Nat.zero_le _, rfl, Below.refl _ _, fun j hj => by omega⟩
  case round =>
    obtain ⟨k, hk, rfl, HW, HS⟩ := hrel
    by_cases hlt : k < n
    · have HB := HW.out
      obtain ⟨rv, hrv0, hwt0, hix0⟩ := hc k hlt
      have hrv := (HB.cell (p := ⟨b, off + k * 2, none⟩) hbw).trans hrv0
      have hwt := (HB.cell (p := ⟨b, off + k * 2 + 1, none⟩) hbw).trans hwt0
      have hix := hix0.below HB
      obtain ⟨rv2, hrv02, hwt02, hix02⟩ := hc2 k hlt
      have hrv2 := (HB.cell (p := ⟨b2, off2 + k * 2, none⟩) hbw2).trans hrv02
      have hwt2 := (HB.cell (p := ⟨b2, off2 + k * 2 + 1, none⟩) hbw2).trans hwt02
      have hix2 := hix02.below HB
      have hbr : b < wr.heap.size := Nat.lt_of_lt_of_le hbw HB.size
      have hbr2 : b2 < wr.heap.size := Nat.lt_of_lt_of_le hbw2 HB.size
      clear hrv0 hwt0 hix0 hrv02 hwt02 hix02 HB hc hc2
      obtain ⟨p, HP⟩ : ∃ p, Hid (p = zs.getD k ([], 0)) := ⟨_, rfl⟩
      obtain ⟨q, HQ⟩ : ∃ q, Hid (q = ys.getD k ([], 0)) := ⟨_, rfl⟩
      rw [← HP.out] at hix hwt
      rw [← HQ.out] at hix2 hwt2
      obtain ⟨x, y⟩ := p
      obtain ⟨x2, y2⟩ := q
      obtain ⟨ra, rn, rc, rfl⟩ := hix.shape
      obtain ⟨ra2, rn2, rc2, rfl⟩ := hix2.shape
      simp only at hix hix2 hwt hwt2
      go_wp2_with fail
      refine (sameItem_any ra rn rc y x ra2 rn2 rc2 y2 x2 _ ((hix.alloc _).alloc _) ((hix2.alloc _).alloc _)).mono ?_
      rintro e w1 ⟨c, rfl, h1, h2, hb1⟩
      have HK : Hid (Below w.heap.size w w1) := below_then (below_then HW.out (below_then (below_alloc _) (below_alloc _))) hb1
      clear hb1 hrv hwt hrv2 hwt2 hix hix2
      cases c with
      | false =>
        have H2 : Hid ((x, y) ≠ (x2, y2)) := h2 rfl
        clear h1 h2
        go_wp2
        go_ret
        exact ⟨ret_bool (zsB_at zs ys k (by rw [← HP.out, ← HQ.out]; exact H2.out)).symm, HK.out⟩
      | true =>
        have H1 : Hid ((x, y) = (x2, y2)) := h1 rfl
        clear h1 h2
        go_wp2
        go_roundw
        case rel => exact ⟨k + 1, by omega, by go_num, HK.out, fun j hj => by
          rcases Nat.lt_succ_iff_lt_or_eq.1 hj with h | h
          · exact HS.out j h
          · rw [h, ← HP.out, ← HQ.out]; exact H1.out⟩
        case measure => simp [intOf]; omega
    · have e : k = n := by omega
      subst e
      clear hc hc2
      go_wp2
      go_ret
      exact ⟨ret_bool (zsB_of zs ys HL.out (by rw [← HN.out]; exact HS.out)).symm, HW.out⟩

theorem equalFunc_len (a : Option Addr) (cap n : Nat) (a2 : Option Addr) (cap2 m : Nat) (f : Value) (w : World) (hne : ((n : Int) != (m : Int)) = true) :
    Calls Tryz.prog 35 #[.slice a n cap, .slice a2 m cap2, f] w fun e w' => e = .returned (.bool false) ∧ Below w.heap.size w w' := by
  go_enter Tryz.func35, Tryz.ntmps35
  go_wp2
  go_ret
  exact ⟨rfl, Below.refl _ _⟩

theorem equalFunc_none (a : Option Addr) (cap : Nat) (a2 : Option Addr) (cap2 : Nat) (f : Value) (w : World) :
    Calls Tryz.prog 35 #[.slice a 0 cap, .slice a2 0 cap2, f] w fun e w' => e = .returned (.bool true) ∧ Below w.heap.size w w' := by
  go_enter Tryz.func35, Tryz.ntmps35
  go_wp2
  refine wp_loop_rounds 1 ?_
  rw [rounds_succ]
  go_wp2
  go_ret
  exact ⟨rfl, Below.refl _ _⟩

theorem equalFunc_any (v v2 : Value) (zs ys : List It) (w : World) (h : ItemsAt w v zs) (h2 : ItemsAt w v2 ys) :
    Calls Tryz.prog 35 #[v, v2, .func (.func 36) #[] #[]] w fun e w' => e = .returned (.bool (zsB zs ys)) ∧ Below w.heap.size w w' := by
  by_cases hl : zs.length = ys.length
  · rcases h.cases with ⟨a, cap, rfl, rfl⟩ | ⟨b, off, cap, hpos, hlim, rfl, hbw, hc⟩
    · obtain rfl : ys = [] := List.length_eq_zero_iff.1 hl.symm
      obtain ⟨_, a2, cap2, rfl, _⟩ := h2
      exact equalFunc_none a cap a2 cap2 _ w
    · rcases h2.cases with ⟨a2, cap2, rfl, rfl⟩ | ⟨b2, off2, cap2, _, _, rfl, hbw2, hc2⟩
      · simp at hl; simp [hl] at hpos
      · rw [← hl]
        exact equalFunc_some b off cap b2 off2 cap2 zs ys w hpos hlim hl hbw hbw2 hc (by rw [hl]; exact hc2)
  · obtain ⟨_, a, cap, rfl, _⟩ := h
    obtain ⟨_, a2, cap2, rfl, _⟩ := h2
    rw [zsB_len zs ys hl]
    exact equalFunc_len a cap _ a2 cap2 _ _ w (by rw [bne_iff_ne]; omega)

theorem implZSame_any (v v2 : Value) (zs ys : List It) (w : World) (h : ItemsAt w v zs) (h2 : ItemsAt w v2 ys) :
    Calls Tryz.prog 8 #[v, v2] w fun e w' => e = .returned (.bool (zsB zs ys)) ∧ Below w.heap.size w w' := by
  go_enter Tryz.func8, Tryz.ntmps8
  go_wp2_with fail
  refine (equalFunc_any v v2 zs ys _ h h2).mono ?_
  rintro e w1 ⟨rfl, hb1⟩
  clear h h2
  go_wp2
  go_ret
  exact ⟨rfl, hb1⟩

end Go.Proofs.YtflbdfpgaeeleaaGreatDoor
