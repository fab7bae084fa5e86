/-
  Runs as they come in, not too many: the contracts of impl.RunSame, spec.RunSame and laws.eqSpine at them; runs of a call's own in every memory that agrees from a block on.
-/
import Derived.Test.YtfmgohoddaobmaaRunSame
import Derived.Test.YtfmgohoddaobmaaRunsLaw
import Derived.Test.YtfmgohoddaobmaaPlanCopiesFnExactFlowSame
namespace Go.Proofs.Ytfmgohoddaobmaa
set_option maxRecDepth 100000
set_option linter.unusedVariables false
open Go.RowKit

theorem ItemsAt.shape1 {w : World} {v : Value} {zs : List It} (h : ItemsAt w v zs) : ∃ a cap, v = .slice a zs.length cap := by
  obtain ⟨_, a, cap, rfl, _⟩ := h
  exact ⟨_, _, rfl⟩
/-- As RunsAt, without capacities. -/
def RunsI (w : World) (v : Value) (zss : Rn) : Prop :=
  zss.length ≤ 140737488355328 ∧ ∃ (a : Option Addr) (cap : Nat), v = .slice a zss.length cap ∧
    (zss ≠ [] → ∃ b off, a = some ⟨b, off, none⟩ ∧ b < w.heap.size ∧ ∀ j, j < zss.length → ∃ rv, w.cell? ⟨b, off + j, none⟩ = some rv ∧ ItemsAt w rv (zss.getD j []))
theorem RunsI.below {w w' : World} {v : Value} {zss : Rn} (h : RunsI w v zss) (hb : Below w.heap.size w w') : RunsI w' v zss := by
  obtain ⟨hl, a, cap, rfl, hc⟩ := h
  refine ⟨hl, a, cap, rfl, fun hne => ?_⟩
  obtain ⟨b, off, rfl, hbl, hcell⟩ := hc hne
  refine ⟨b, off, rfl, Nat.lt_of_lt_of_le hbl hb.size, fun j hj => ?_⟩
  obtain ⟨rv, h1, h2⟩ := hcell j hj
  exact ⟨rv, (hb.cell (p := ⟨b, off + j, none⟩) hbl).trans h1, h2.below hb⟩
theorem RunsI.cases {w : World} {v : Value} {zss : Rn} (h : RunsI w v zss) :
    (∃ a cap, zss = [] ∧ v = .slice a 0 cap) ∨
    (∃ b off cap, 0 < zss.length ∧ zss.length ≤ 140737488355328 ∧ v = .slice (some ⟨b, off, none⟩) zss.length cap ∧ b < w.heap.size ∧ ∀ j, j < zss.length → ∃ rv, w.cell? ⟨b, off + j, none⟩ = some rv ∧ ItemsAt w rv (zss.getD j [])) := by
  obtain ⟨hl, a, cap, rfl, hc⟩ := h
  by_cases hx : zss = []
  · subst hx
    exact .inl ⟨a, cap, rfl, rfl⟩
  · obtain ⟨b, off, rfl, hbl, hcell⟩ := hc hx
    exact .inr ⟨b, off, cap, List.length_pos_iff.2 hx, hl, rfl, hbl, hcell⟩
theorem RunsI.shape {w : World} {v : Value} {zss : Rn} (h : RunsI w v zss) : ∃ a cap, v = .slice a zss.length cap := by
  obtain ⟨_, a, cap, rfl, _⟩ := h
  exact ⟨_, _, rfl⟩
theorem RunsI.shapeN {w : World} {v : Value} {zss : Rn} (h : RunsI w v zss) : ∃ a n c, v = .slice a n c := by
  obtain ⟨_, a, cap, rfl, _⟩ := h
  exact ⟨_, _, _, rfl⟩
theorem RawRuns.shapeN {w : World} {v : Value} {zss : Rn} (h : RawRuns w v zss) : ∃ a n c, v = .slice a n c := by
  obtain ⟨-, a, c, rfl, -⟩ := h
  exact ⟨_, _, _, rfl⟩
theorem RawRuns.runsI {w : World} {v : Value} {zss : Rn} (h : RawRuns w v zss) (hl : zss.length + runsLen zss ≤ 1048576) : RunsI w v zss := by
  obtain ⟨_, a, cap, rfl, hc⟩ := h
  refine ⟨by omega, a, cap, rfl, fun hne => ?_⟩
  obtain ⟨b, off, rfl, hb, hcell⟩ := hc hne
  refine ⟨b, off, rfl, hb, fun j hj => ?_⟩
  obtain ⟨rv, h1, h2⟩ := hcell j hj
  exact ⟨rv, h1, h2.items (by have := runsLen_at hj; omega)⟩
theorem Own.up {w x : World} {lo hi : Nat} {v : Value} {xs : List Int} (h : Own w lo hi v xs) (k : Ab lo w x) : RawInts x v xs := by
  obtain ⟨hl, a, cap, rfl, hn, hc⟩ := h.ints
  refine ⟨by omega, a, cap, rfl, hn, fun hne => ?_⟩
  obtain ⟨b, off, rfl, hb, hcell⟩ := hc hne
  obtain ⟨g, c', e, hlo, _⟩ := h.shape (List.length_pos_iff.2 hne)
  simp only [Value.slice.injEq, Option.some.injEq, Addr.mk.injEq] at e
  obtain ⟨⟨rfl, _⟩, _⟩ := e
  exact ⟨b, off, rfl, Nat.lt_of_lt_of_le hb k.size, fun j hj => (k.cell _ _ hlo hb).trans (hcell j hj)⟩
theorem OwnZ.up {w x : World} {lo hi : Nat} {v : Value} {zs : List It} (h : OwnZ w lo hi v zs) (k : Ab lo w x) : RawItems x v zs := by
  obtain ⟨hl, a, cap, rfl, hn, hc⟩ := h.items
  refine ⟨by omega, a, cap, rfl, hn, fun hne => ?_⟩
  obtain ⟨b, off, rfl, hb, hcell⟩ := hc hne
  obtain ⟨ps, hp, hs, hr, _⟩ := h
  have hlen : ps.length = zs.length := by simpa using congrArg List.length hp
  obtain ⟨g, c', e, hlo, _⟩ := hs.shape (by rw [hlen]; exact List.length_pos_iff.2 hne)
  simp only [Value.slice.injEq, Option.some.injEq, Addr.mk.injEq] at e
  obtain ⟨⟨rfl, rfl, _⟩, _⟩ := e
  refine ⟨b, 0, rfl, Nat.lt_of_lt_of_le hb k.size, fun j hj => ?_⟩
  have hj' : j < ps.length := by omega
  refine ⟨(ps.getD j (vn, 0)).1, ?_, ?_, (hr j hj').up k⟩
  · rw [k.cell _ _ hlo hb, Nat.zero_add]; exact hs.cell0 hj'
  · rw [k.cell _ _ hlo hb, Nat.zero_add, hs.cell1 hj', snd_getD hp]
theorem OwnR.up {w x : World} {lo hi : Nat} {v : Value} {zss : Rn} (h : OwnR w lo hi v zss) (k : Ab lo w x) : RawRuns x v zss := by
  obtain ⟨ps, h1, h2, h3, h4, h5⟩ := h
  refine ⟨by omega, ?_⟩
  rcases h1.2 with ⟨rfl, hn⟩ | ⟨g, cap, cur, rfl, hlo, hg, hnc, hcm, _⟩
  · exact ⟨none, 0, by rw [hn], fun hne => absurd (List.length_eq_zero_iff.1 hn) hne⟩
  · have hb := (Array.getElem?_eq_some_iff.1 hg).1
    refine ⟨some ⟨g, 0, none⟩, cap, rfl, fun _ => ⟨g, 0, rfl, Nat.lt_of_lt_of_le hb k.size, fun j hj => ?_⟩⟩
    obtain ⟨m1, m2, q1, _, _, ho, _⟩ := h5.at j hj
    exact ⟨_, by rw [k.cell _ _ hlo hb, Nat.zero_add]; exact ps_get h1 hj, ho.up (k.mono q1)⟩

end Go.Proofs.Ytfmgohoddaobmaa
namespace Go.Proofs.Ytfmgohoddaobmaa.Fw
set_option maxRecDepth 100000
set_option linter.unusedVariables false
open Go.RowKit

set_option maxHeartbeats 4000000 in
theorem equalRuns_some (b off cap b2 off2 cap2 : Nat) (zs ys : Rn) (w : World) (hpos : 0 < zs.length) (hlim : zs.length ≤ 140737488355328) (hlen : zs.length = ys.length) (hbw : b < w.heap.size) (hbw2 : b2 < w.heap.size)
    (hc : ∀ j, j < zs.length → ∃ rv, w.cell? ⟨b, off + j, none⟩ = some rv ∧ ItemsAt w rv (zs.getD j []))
    (hc2 : ∀ j, j < zs.length → ∃ rv, w.cell? ⟨b2, off2 + j, none⟩ = some rv ∧ ItemsAt w rv (ys.getD j [])) :
    Calls Try.prog 39 #[.slice (some ⟨b, off, none⟩) zs.length cap, .slice (some ⟨b2, off2, none⟩) zs.length cap2, .func (.func 40) #[] #[]] w fun e w' => e = .returned (.bool (rsB zs ys)) ∧ Below w.heap.size w w' := by
  obtain ⟨n, hn⟩ : ∃ n, n = zs.length := ⟨_, rfl⟩
  have HN : Hid (n = zs.length) := hn
  have HL : Hid (zs.length = ys.length) := hlen
  rw [← hn] at hpos hlim hc hc2 ⊢
  clear hn hlen
  go_enter Try.func39, Try.ntmps39
  go_wp2
  go_loopw [17] (fun i wr => ∃ k : Nat, k ≤ n ∧ i = .int .i64 k ∧ Hid (Below w.heap.size w wr) ∧ Hid (∀ j, j < k → zs.getD j [] = ys.getD j [])) (fun i _ => n - (intOf i).toNat)
  case atStart => exact ⟨0, Nat.zero_le _, rfl, Below.refl _ _, fun j hj => by omega⟩
  case round =>
    obtain ⟨k, hk, rfl, HW, HS⟩ := hrel
    by_cases hlt : k < n
    · have HB := HW.out
      obtain ⟨rv, hrv0, hix0⟩ := hc k hlt
      have hrv := (HB.cell (p := ⟨b, off + k, none⟩) hbw).trans hrv0
      have hix := hix0.below HB
      obtain ⟨rv2, hrv02, hix02⟩ := hc2 k hlt
      have hrv2 := (HB.cell (p := ⟨b2, off2 + k, none⟩) hbw2).trans hrv02
      have hix2 := hix02.below HB
      clear hrv0 hix0 hrv02 hix02 HB hc hc2
      obtain ⟨p, HP⟩ : ∃ p, Hid (p = zs.getD k []) := ⟨_, rfl⟩
      obtain ⟨q, HQ⟩ : ∃ q, Hid (q = ys.getD k []) := ⟨_, rfl⟩
      rw [← HP.out] at hix
      rw [← HQ.out] at hix2
      have hsh : ∃ a n c, rv = .slice a n c := by obtain ⟨a, c, e⟩ := hix.shape1; exact ⟨a, _, c, e⟩
      have hsh2 : ∃ a n c, rv2 = .slice a n c := by obtain ⟨a, c, e⟩ := hix2.shape1; exact ⟨a, _, c, e⟩
      obtain ⟨ra, rn, rc, rfl⟩ := hsh
      obtain ⟨ra2, rn2, rc2, rfl⟩ := hsh2
      go_wp2_with fail
      refine (implZSame_any _ _ p q _ hix hix2).mono ?_
      rintro e w1 ⟨rfl, hb1⟩
      have HK : Hid (Below w.heap.size w w1) := below_then HW.out hb1
      clear hb1 hrv hrv2 hix hix2
      cases hc : zsB p q with
      | false =>
        have H2 : Hid (p ≠ q) := zsB_false hc
        go_wp2
        go_ret
        exact ⟨ret_bool (rsB_at zs ys k (by rw [← HP.out, ← HQ.out]; exact H2.out)).symm, HK.out⟩
      | true =>
        have H1 : Hid (p = q) := zsB_true hc
        go_wp2
        go_roundw
        case rel => exact ⟨k + 1, by omega, by go_num, HK.out, fun j hj => by
          rcases Nat.lt_succ_iff_lt_or_eq.1 hj with h | h
          · exact HS.out j h
          · rw [h, ← HP.out, ← HQ.out]; exact H1.out⟩
        case measure => simp [intOf]; omega
    · have e : k = n := by omega
      subst e
      clear hc hc2
      go_wp2
      go_ret
      exact ⟨ret_bool (rsB_of zs ys HL.out (by rw [← HN.out]; exact HS.out)).symm, HW.out⟩

theorem equalRuns_len (a : Option Addr) (cap n : Nat) (a2 : Option Addr) (cap2 m : Nat) (f : Value) (w : World) (hne : ((n : Int) != (m : Int)) = true) :
    Calls Try.prog 39 #[.slice a n cap, .slice a2 m cap2, f] w fun e w' => e = .returned (.bool false) ∧ Below w.heap.size w w' := by
  go_enter Try.func39, Try.ntmps39
  go_wp2
  go_ret
  exact ⟨rfl, Below.refl _ _⟩

theorem equalRuns_none (a : Option Addr) (cap : Nat) (a2 : Option Addr) (cap2 : Nat) (f : Value) (w : World) :
    Calls Try.prog 39 #[.slice a 0 cap, .slice a2 0 cap2, f] w fun e w' => e = .returned (.bool true) ∧ Below w.heap.size w w' := by
  go_enter Try.func39, Try.ntmps39
  go_wp2
  refine wp_loop_rounds 1 ?_
  rw [rounds_succ]
  go_wp2
  go_ret
  exact ⟨rfl, Below.refl _ _⟩

theorem equalRuns_any (v v2 : Value) (zs ys : Rn) (w : World) (h : RunsI w v zs) (h2 : RunsI w v2 ys) :
    Calls Try.prog 39 #[v, v2, .func (.func 40) #[] #[]] w fun e w' => e = .returned (.bool (rsB zs ys)) ∧ Below w.heap.size w w' := by
  by_cases hl : zs.length = ys.length
  · rcases h.cases with ⟨a, cap, rfl, rfl⟩ | ⟨b, off, cap, hpos, hlim, rfl, hbw, hc⟩
    · obtain rfl : ys = [] := List.length_eq_zero_iff.1 hl.symm
      obtain ⟨a2, cap2, rfl⟩ := h2.shape
      exact equalRuns_none a cap a2 cap2 _ w
    · rcases h2.cases with ⟨a2, cap2, rfl, rfl⟩ | ⟨b2, off2, cap2, _, _, rfl, hbw2, hc2⟩
      · simp at hl; simp [hl] at hpos
      · rw [← hl]
        exact equalRuns_some b off cap b2 off2 cap2 zs ys w hpos hlim hl hbw hbw2 hc (by rw [hl]; exact hc2)
  · obtain ⟨a, cap, rfl⟩ := h.shape
    obtain ⟨a2, cap2, rfl⟩ := h2.shape
    rw [rsB_len zs ys hl]
    exact equalRuns_len a cap _ a2 cap2 _ _ w (by rw [bne_iff_ne]; omega)

set_option maxHeartbeats 1000000 in
theorem implRunSame_any (v v2 : Value) (zs ys : Rn) (w : World) (h : RunsI w v zs) (h2 : RunsI w v2 ys) :
    Calls Try.prog 52 #[.agg #[v], .agg #[v2]] w fun e w' => e = .returned (.bool (rsB zs ys)) ∧ Below w.heap.size w w' := by
  obtain ⟨a, n, cap, rfl⟩ := h.shapeN
  obtain ⟨a2, n2, cap2, rfl⟩ := h2.shapeN
  go_enter Try.func52, Try.ntmps52
  go_wp2_with fail
  refine (equalRuns_any _ _ zs ys _ ((h.below (below_alloc _)).below (below_alloc _)) ((h2.below (below_alloc _)).below (below_alloc _))).mono ?_
  rintro e w1 ⟨rfl, hb1⟩
  have HK : Hid (Below w.heap.size w w1) := below_then (below_then (below_alloc _) (below_alloc _)) hb1
  clear h h2 hb1
  go_wp2
  go_ret
  exact ⟨rfl, HK.out⟩

set_option maxHeartbeats 4000000 in
theorem specRunSame_some (b off cap b2 off2 cap2 : Nat) (zs ys : Rn) (w : World) (hpos : 0 < zs.length) (hlim : zs.length ≤ 140737488355328) (hlen : zs.length = ys.length) (hbw : b < w.heap.size) (hbw2 : b2 < w.heap.size)
    (hc : ∀ j, j < zs.length → ∃ rv, w.cell? ⟨b, off + j, none⟩ = some rv ∧ ItemsAt w rv (zs.getD j []))
    (hc2 : ∀ j, j < zs.length → ∃ rv, w.cell? ⟨b2, off2 + j, none⟩ = some rv ∧ ItemsAt w rv (ys.getD j [])) :
    Calls Try.prog 19 #[.agg #[.slice (some ⟨b, off, none⟩) zs.length cap], .agg #[.slice (some ⟨b2, off2, none⟩) zs.length cap2]] w fun e w' => e = .returned (.bool (rsB zs ys)) ∧ Below w.heap.size w w' := by
  obtain ⟨n, hn⟩ : ∃ n, n = zs.length := ⟨_, rfl⟩
  have HN : Hid (n = zs.length) := hn
  have HL : Hid (zs.length = ys.length) := hlen
  rw [← hn] at hpos hlim hc hc2 ⊢
  clear hn hlen
  go_enter Try.func19, Try.ntmps19
  go_wp2
  go_loopw [5] (fun i wr => ∃ k : Nat, k ≤ n ∧ i = .int .i64 k ∧ Hid (Below (w.heap.size + 2) ((w.alloc (.cells #[.slice (some ⟨b, off, none⟩) n cap] 48)).alloc (.cells #[.slice (some ⟨b2, off2, none⟩) n cap2] 48)) wr) ∧ Hid (∀ j, j < k → zs.getD j [] = ys.getD j [])) (fun i _ => n - (intOf i).toNat)
  case atStart => exact ⟨0, Nat.zero_le _, rfl, by show Below _ _ _; exact Below.refl _ _, fun j hj => by omega⟩
  case round =>
    obtain ⟨k, hk, rfl, HW, HS⟩ := hrel
    have hbx1 : wr.cell? ⟨w.heap.size, 0, none⟩ = some (.slice (some ⟨b, off, none⟩) n cap) := cell_is HW.out (show w.heap.size < w.heap.size + 2 by omega) (by simp [go_sem])
    have hbx2 : wr.cell? ⟨w.heap.size + 1, 0, none⟩ = some (.slice (some ⟨b2, off2, none⟩) n cap2) := cell_is HW.out (show w.heap.size + 1 < w.heap.size + 2 by omega) (by simp [go_sem])
    have HB : Below w.heap.size w wr := below_then (below_then (below_alloc _) (below_alloc _)) (by simpa using HW.out)
    by_cases hlt : k < n
    · obtain ⟨rv, hrv0, hix0⟩ := hc k hlt
      have hrv := (HB.cell (p := ⟨b, off + k, none⟩) hbw).trans hrv0
      have hix := hix0.below HB
      obtain ⟨rv2, hrv02, hix02⟩ := hc2 k hlt
      have hrv2 := (HB.cell (p := ⟨b2, off2 + k, none⟩) hbw2).trans hrv02
      have hix2 := hix02.below HB
      clear hrv0 hix0 hrv02 hix02 hc hc2
      obtain ⟨p, HP⟩ : ∃ p, Hid (p = zs.getD k []) := ⟨_, rfl⟩
      obtain ⟨q, HQ⟩ : ∃ q, Hid (q = ys.getD k []) := ⟨_, rfl⟩
      rw [← HP.out] at hix
      rw [← HQ.out] at hix2
      have hsh : ∃ a n c, rv = .slice a n c := by obtain ⟨a, c, e⟩ := hix.shape1; exact ⟨a, _, c, e⟩
      have hsh2 : ∃ a n c, rv2 = .slice a n c := by obtain ⟨a, c, e⟩ := hix2.shape1; exact ⟨a, _, c, e⟩
      obtain ⟨ra, rn, rc, rfl⟩ := hsh
      obtain ⟨ra2, rn2, rc2, rfl⟩ := hsh2
      have hsz : w.heap.size + 2 ≤ wr.heap.size := by have := HW.out.size; simpa using this
      obtain ⟨c, HC⟩ : ∃ c, Hid (c = zsB p q) := ⟨_, rfl⟩
      go_wp2
      go_region_with (go_at_call 33; refine (specZSame_any _ _ p q _ (by first | exact hix | exact (hix.below (below_drewN (Below.refl _ _) _)) | exact (hix.below (Below.drew (Below.refl _ _)))) (by first | exact hix2 | exact (hix2.below (below_drewN (Below.refl _ _) _)) | exact (hix2.below (Below.drew (Below.refl _ _))))).mono ?_; rw [← HC.out]; rintro e w1 ⟨rfl, hb1⟩)
      all_goals
        have hb1' : Below wr.heap.size wr w1 := by
          first
            | exact hb1
            | exact below_then (below_drewN (Below.refl _ _) _) hb1
            | exact below_then (Below.drew (Below.refl _ _)) hb1
            | exact hb1.below
            | exact below_then (below_drewN (Below.refl _ _) _) hb1.below
            | exact below_then (Below.drew (Below.refl _ _)) hb1.below
        have HK : Hid (Below (w.heap.size + 2) ((w.alloc (.cells #[.slice (some ⟨b, off, none⟩) n cap] 48)).alloc (.cells #[.slice (some ⟨b2, off2, none⟩) n cap2] 48)) w1) := HW.out.trans (hb1'.mono hsz)
        clear hb1 hb1' hrv hrv2 hix hix2 hbx1 hbx2 HB hsz
        cases c with
        | false =>
          go_wp2
          go_ret
          exact ⟨ret_bool (rsB_at zs ys k (by rw [← HP.out, ← HQ.out]; exact zsB_false HC.out.symm)).symm, below_then (below_then (below_alloc _) (below_alloc _)) (by simpa using HK.out)⟩
        | true =>
          go_wp2
          go_roundw
          case rel => exact ⟨k + 1, by omega, by go_num, HK.out, fun j hj => by
            rcases Nat.lt_succ_iff_lt_or_eq.1 hj with h | h
            · exact HS.out j h
            · rw [h, ← HP.out, ← HQ.out]; exact zsB_true HC.out.symm⟩
          case measure => simp [intOf]; omega
    · have e : k = n := by omega
      subst e
      clear hc hc2
      go_wp2
      go_ret
      exact ⟨ret_bool (rsB_of zs ys HL.out (by rw [← HN.out]; exact HS.out)).symm, HB⟩

theorem specRunSame_len (a : Option Addr) (cap n : Nat) (a2 : Option Addr) (cap2 m : Nat) (w : World) (hne : ((n : Int) != (m : Int)) = true) :
    Calls Try.prog 19 #[.agg #[.slice a n cap], .agg #[.slice a2 m cap2]] w fun e w' => e = .returned (.bool false) ∧ Below w.heap.size w w' := by
  go_enter Try.func19, Try.ntmps19
  go_wp2
  go_ret
  exact ⟨rfl, below_then (below_alloc _) (below_alloc _)⟩

theorem specRunSame_none (a : Option Addr) (cap : Nat) (a2 : Option Addr) (cap2 : Nat) (w : World) :
    Calls Try.prog 19 #[.agg #[.slice a 0 cap], .agg #[.slice a2 0 cap2]] w fun e w' => e = .returned (.bool true) ∧ Below w.heap.size w w' := by
  go_enter Try.func19, Try.ntmps19
  go_wp2
  refine wp_loop_rounds 1 ?_
  rw [rounds_succ]
  go_wp2
  go_ret
  exact ⟨rfl, below_then (below_alloc _) (below_alloc _)⟩

theorem specRunSame_any (v v2 : Value) (zs ys : Rn) (w : World) (h : RunsI w v zs) (h2 : RunsI w v2 ys) :
    Calls Try.prog 19 #[.agg #[v], .agg #[v2]] w fun e w' => e = .returned (.bool (rsB zs ys)) ∧ Below w.heap.size w w' := by
  by_cases hl : zs.length = ys.length
  · rcases h.cases with ⟨a, cap, rfl, rfl⟩ | ⟨b, off, cap, hpos, hlim, rfl, hbw, hc⟩
    · obtain rfl : ys = [] := List.length_eq_zero_iff.1 hl.symm
      obtain ⟨a2, cap2, rfl⟩ := h2.shape
      exact specRunSame_none a cap a2 cap2 w
    · rcases h2.cases with ⟨a2, cap2, rfl, rfl⟩ | ⟨b2, off2, cap2, _, _, rfl, hbw2, hc2⟩
      · simp at hl; simp [hl] at hpos
      · rw [← hl]
        exact specRunSame_some b off cap b2 off2 cap2 zs ys w hpos hlim hl hbw hbw2 hc (by rw [hl]; exact hc2)
  · obtain ⟨a, cap, rfl⟩ := h.shape
    obtain ⟨a2, cap2, rfl⟩ := h2.shape
    rw [rsB_len zs ys hl]
    exact specRunSame_len a cap _ a2 cap2 _ w (by rw [bne_iff_ne]; omega)

set_option maxHeartbeats 4000000 in
theorem eqItemSS_some (b off cap b2 off2 cap2 : Nat) (zss : Rn) (w : World) (hpos : 0 < zss.length) (hlim : zss.length ≤ 140737488355328) (hbw : b < w.heap.size) (hbw2 : b2 < w.heap.size)
    (hc : ∀ j, j < zss.length → ∃ rv, w.cell? ⟨b, off + j, none⟩ = some rv ∧ ItemsAt w rv (zss.getD j []))
    (hc2 : ∀ j, j < zss.length → ∃ rv, w.cell? ⟨b2, off2 + j, none⟩ = some rv ∧ ItemsAt w rv (zss.getD j [])) :
    Calls Try.prog 44 #[.slice (some ⟨b, off, none⟩) zss.length cap, .slice (some ⟨b2, off2, none⟩) zss.length cap2] w fun e w' => e = .returned (.bool true) ∧ Below w.heap.size w w' := by
  obtain ⟨n, hn⟩ : ∃ n, n = zss.length := ⟨_, rfl⟩
  rw [← hn] at hpos hlim hc hc2 ⊢
  clear hn
  go_enter Try.func44, Try.ntmps44
  go_wp2
  go_loopw [5] (fun i wr => ∃ k : Nat, k ≤ n ∧ i = .int .i64 k ∧ Hid (Below w.heap.size w wr)) (fun i _ => n - (intOf i).toNat)
  case atStart => exact ⟨0, Nat.zero_le _, rfl, Below.refl _ _⟩
  case round =>
    obtain ⟨k, hk, rfl, HW⟩ := hrel
    by_cases hlt : k < n
    · have HB := HW.out
      obtain ⟨rv, hrv0, hix0⟩ := hc k hlt
      have hrv := (HB.cell (p := ⟨b, off + k, none⟩) hbw).trans hrv0
      have hix := hix0.below HB
      obtain ⟨rv2, hrv02, hix02⟩ := hc2 k hlt
      have hrv2 := (HB.cell (p := ⟨b2, off2 + k, none⟩) hbw2).trans hrv02
      have hix2 := hix02.below HB
      clear hrv0 hix0 hrv02 hix02 HB hc hc2
      obtain ⟨x, HX⟩ : ∃ x, Hid (x = zss.getD k []) := ⟨_, rfl⟩
      rw [← HX.out] at hix hix2
      obtain ⟨m, HM⟩ : ∃ m, Hid (m = x.length) := ⟨_, rfl⟩
      obtain ⟨ra, rc, hsh⟩ := hix.shape1
      obtain ⟨ra2, rc2, hsh2⟩ := hix2.shape1
      rw [← HM.out] at hsh hsh2
      subst hsh
      subst hsh2
      go_wp2
      go_region_with (go_at_call 66; refine (eqItemS_self _ _ x _ (by first | exact hix | exact (hix.below (below_drewN (Below.refl _ _) _)) | exact (hix.below (Below.drew (Below.refl _ _)))) (by first | exact hix2 | exact (hix2.below (below_drewN (Below.refl _ _) _)) | exact (hix2.below (Below.drew (Below.refl _ _))))).mono ?_; rintro e w1 ⟨rfl, hb1⟩)
      all_goals
        have HK : Hid (Below w.heap.size w w1) := below_then HW.out (by first | exact hb1 | exact below_then (below_drewN (Below.refl _ _) _) hb1 | exact below_then (Below.drew (Below.refl _ _)) hb1)
        clear hix hix2 hrv hrv2
        go_wp2
        go_roundw
        case rel => exact ⟨k + 1, by omega, by go_num, HK.out⟩
        case measure => simp [intOf]; omega
    · have e : k = n := by omega
      subst e
      clear hc hc2
      go_wp2
      go_ret
      exact ⟨rfl, HW.out⟩

theorem eqItemSS_none (a : Option Addr) (cap : Nat) (a2 : Option Addr) (cap2 : Nat) (w : World) :
    Calls Try.prog 44 #[.slice a 0 cap, .slice a2 0 cap2] w fun e w' => e = .returned (.bool true) ∧ Below w.heap.size w w' := by
  go_enter Try.func44, Try.ntmps44
  go_wp2
  refine wp_loop_rounds 1 ?_
  rw [rounds_succ]
  go_wp2
  go_ret
  exact ⟨rfl, Below.refl _ _⟩

theorem eqItemSS_self (v v2 : Value) (zss : Rn) (w : World) (h : RunsI w v zss) (h2 : RunsI w v2 zss) :
    Calls Try.prog 44 #[v, v2] w fun e w' => e = .returned (.bool true) ∧ Below w.heap.size w w' := by
  rcases h.cases with ⟨a, cap, rfl, rfl⟩ | ⟨b, off, cap, hpos, hlim, rfl, hbw, hc⟩
  · obtain ⟨a2, cap2, rfl⟩ := h2.shape
    exact eqItemSS_none a cap a2 cap2 w
  · rcases h2.cases with ⟨a2, cap2, rfl, _⟩ | ⟨b2, off2, cap2, _, _, rfl, hbw2, hc2⟩
    · simp at hpos
    · exact eqItemSS_some b off cap b2 off2 cap2 zss w hpos hlim hbw hbw2 hc hc2

set_option maxHeartbeats 1000000 in
theorem eqSpine_self (v v2 : Value) (zss : Rn) (w : World) (h : RunsI w v zss) (h2 : RunsI w v2 zss) :
    Calls Try.prog 27 #[.agg #[v], .agg #[v2]] w fun e w' => e = .returned (.bool true) ∧ Below w.heap.size w w' := by
  obtain ⟨a, cap, hsh⟩ := h.shape
  obtain ⟨a2, cap2, hsh2⟩ := h2.shape
  obtain ⟨n, HN⟩ : ∃ n, Hid (n = zss.length) := ⟨_, rfl⟩
  rw [← HN.out] at hsh hsh2
  subst hsh
  subst hsh2
  go_enter Try.func27, Try.ntmps27
  go_wp2_with fail
  refine (eqItemSS_self _ _ zss _ ((h.below (below_alloc _)).below (below_alloc _)) ((h2.below (below_alloc _)).below (below_alloc _))).mono ?_
  rintro e w1 ⟨rfl, hb1⟩
  have HK : Hid (Below w.heap.size w w1) := below_then (below_then (below_alloc _) (below_alloc _)) hb1
  clear hb1 h h2
  go_wp2
  go_ret
  exact ⟨rfl, HK.out⟩

end Go.Proofs.Ytfmgohoddaobmaa.Fw
