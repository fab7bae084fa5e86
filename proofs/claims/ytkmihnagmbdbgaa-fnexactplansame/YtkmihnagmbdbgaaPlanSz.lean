/-
  The contracts of laws.szCellS, szIntS, szPlanS and szPlan: what is left behind a plan, or -1.
-/
import Derived.Test.YtkmihnagmbdbgaaPlanMem
namespace Go.Proofs.Ytkmihnagmbdbgaa
set_option maxRecDepth 100000
open Go.RowKit
set_option linter.unusedVariables false

/-- What is left of l behind so much, or -1. -/
def leftI (l : Int) (m : Nat) : Int := if (m : Int) ≤ l then l - m else -1
theorem left_yes {l : Int} {m : Nat} (h : (m : Int) ≤ l) : leftI l m = l - m := if_pos h
theorem left_no {l : Int} {m : Nat} (h : ¬ (m : Int) ≤ l) : leftI l m = -1 := if_neg h

theorem szCellS_any (a : Option Addr) (n cap : Nat) (l : Int) (w : World) (h0 : 0 ≤ l) (h1 : l ≤ 1048576) (hn : n ≤ 9223372036854775807) :
    Calls Try.prog 9 #[.slice a n cap, .int .i64 l] w fun e w' => e = .returned (.int .i64 (leftI l n)) ∧ w' = w := by
  by_cases h : (n : Int) ≤ l
  · have h2 : ¬ l - (n : Int) < 0 := by omega
    go_enter Try.func9, Try.ntmps9
    go_wp2
    go_ret
    exact ⟨ret_int (left_yes h).symm, rfl⟩
  · have h2 : l - (n : Int) < 0 := by omega
    go_enter Try.func9, Try.ntmps9
    go_wp2
    go_ret
    exact ⟨ret_int (left_no (by omega)).symm, rfl⟩
theorem szIntS_left (a : Option Addr) (n cap : Nat) (l : Int) (w : World) (h0 : 0 ≤ l) (h1 : l ≤ 1048576) (hn : n ≤ 9223372036854775807) :
    Calls Try.prog 10 #[.slice a n cap, .int .i64 l] w fun e w' => e = .returned (.int .i64 (leftI l n)) ∧ w' = w := by
  by_cases h : (n : Int) ≤ l
  · have h2 : ¬ l - (n : Int) < 0 := by omega
    go_enter Try.func10, Try.ntmps10
    go_wp2
    go_ret
    exact ⟨ret_int (left_yes h).symm, rfl⟩
  · have h2 : l - (n : Int) < 0 := by omega
    go_enter Try.func10, Try.ntmps10
    go_wp2
    go_ret
    exact ⟨ret_int (left_no (by omega)).symm, rfl⟩

/-- The contract of szPlan at plans that are not deeper than so. -/
def SzOk (n : Nat) : Prop := ∀ (p : Pl (n + 1)) (vc vk vd : Value) (l : Int) (w : World), PlanV (n + 1) w p vc vk vd → 0 ≤ l → l ≤ 1048576 →
  Calls Try.prog 4 #[.agg #[.int .i64 p.nd.k, .int .i64 p.nd.n, .int .i64 p.nd.t.k, .bool p.nd.t.no, .int .i64 p.nd.t.l.k, .int .i64 p.nd.t.l.a, .int .i64 p.nd.t.l.b, .int .i64 p.nd.t.l.n, .int .i64 p.nd.t.r.k, .int .i64 p.nd.t.r.a, .int .i64 p.nd.t.r.b, .int .i64 p.nd.t.r.n, vc, .int .i64 p.nd.a, .int .i64 p.nd.b, vk, .int .i64 p.nd.g, .int .i64 p.nd.c, vd], .int .i64 l] w fun e w' => e = .returned (.int .i64 (leftI l (Pl.sz (n + 1) p))) ∧ Below w.heap.size w w'

theorem fields_of {w : World} {b o : Nat} {n : Nat} {p : Pl (n + 1)} (h : NodeAt (n + 1) w b o p) : ∃ vc vk vd, Fields w b o p.nd vc vk vd ∧ PlanV (n + 1) w p vc vk vd := by
  obtain ⟨_, vc, vk, vd, h1, h2⟩ := h
  exact ⟨vc, vk, vd, h1, h2⟩

set_option maxHeartbeats 2000000 in
theorem szPlanS_none (a : Option Addr) (cap : Nat) (l : Int) (w : World) (h0 : 0 ≤ l) (h1 : l ≤ 1048576) :
    Calls Try.prog 11 #[.slice a 0 cap, .int .i64 l] w fun e w' => e = .returned (.int .i64 l) ∧ w' = w := by
  go_enter Try.func11, Try.ntmps11
  go_wp2
  refine wp_loop_rounds 1 ?_
  rw [rounds_succ]
  go_wp2
  go_ret
  exact ⟨rfl, rfl⟩

set_option maxHeartbeats 4000000 in
theorem szPlanS_some (n : Nat) (IH : SzOk n) (b off cap : Nat) (l : List (Pl (n + 1))) (lf : Int) (w : World) (h0 : 0 ≤ lf) (h1 : lf ≤ 1048576) (hpos : 0 < l.length) (hlim : l.length ≤ 9223372036854775807) (hbw : b < w.heap.size)
    (hk : ∀ j (hj : j < l.length), NodeAt (n + 1) w b (off + j * 19) l[j]) :
    Calls Try.prog 11 #[.slice (some ⟨b, off, none⟩) l.length cap, .int .i64 lf] w fun e w' => e = .returned (.int .i64 (leftI lf (l.length + kidsSz (n + 1) l))) ∧ Below w.heap.size w w' := by
  have HIH : Hid (SzOk n) := IH
  have HK : Hid (∀ j (hj : j < l.length), NodeAt (n + 1) w b (off + j * 19) l[j]) := hk
  obtain ⟨m, hm⟩ : ∃ m, m = l.length := ⟨_, rfl⟩
  have HM : Hid (m = l.length) := hm
  rw [← hm] at hpos hlim ⊢
  clear hm hk IH
  by_cases h : (m : Int) ≤ lf
  · have h2 : ¬ lf - (m : Int) < 0 := by omega
    have hm3 : (m : Int) ≤ 1048576 := by omega
    clear hlim
    go_enter Try.func11, Try.ntmps11
    go_wp2_with fail
    go_loopw [1, 5] (fun x i wr => ∃ (k : Nat) (y : Int), k ≤ m ∧ i = .int .i64 k ∧ x = .int .i64 y ∧ 0 ≤ y ∧ y ≤ 1048576 ∧ Hid (y = lf - (m : Int) - (kidsSz (n + 1) (l.take k) : Int)) ∧ Hid (Below w.heap.size w wr)) (fun _ i _ => m - (intOf i).toNat)
    case atStart => exact ⟨0, lf - (m : Int), Nat.zero_le _, rfl, rfl, by omega, by omega, by show _ = _; simp [kidsSz], Below.refl _ _⟩
    case round =>
      obtain ⟨k, y, hkm, rfl, rfl, hy0, hy1, HY, HB⟩ := hrel
      by_cases hlt : k < m
      · have hkl : k < l.length := by rw [← HM.out]; exact hlt
        obtain ⟨vc, vk, vd, hf, hp⟩ := fields_of (NodeAt.below _ (HK.out k hkl) HB.out)
        obtain ⟨q, hq⟩ : ∃ q, k * 19 = q := ⟨_, rfl⟩
        rw [hq] at hf
        have HR : Hid (wr.rangeAt b (off + q) ([.int .i64 l[k].nd.k, .int .i64 l[k].nd.n, .int .i64 l[k].nd.t.k, .bool l[k].nd.t.no, .int .i64 l[k].nd.t.l.k, .int .i64 l[k].nd.t.l.a, .int .i64 l[k].nd.t.l.b, .int .i64 l[k].nd.t.l.n, .int .i64 l[k].nd.t.r.k, .int .i64 l[k].nd.t.r.a, .int .i64 l[k].nd.t.r.b, .int .i64 l[k].nd.t.r.n, vc, .int .i64 l[k].nd.a, .int .i64 l[k].nd.b, vk, .int .i64 l[k].nd.g, .int .i64 l[k].nd.c, vd] : List Value)) := hf.range
        have hi : (Try.prog.info? 30).map (·.size) = some ([.int .i64 l[k].nd.k, .int .i64 l[k].nd.n, .int .i64 l[k].nd.t.k, .bool l[k].nd.t.no, .int .i64 l[k].nd.t.l.k, .int .i64 l[k].nd.t.l.a, .int .i64 l[k].nd.t.l.b, .int .i64 l[k].nd.t.l.n, .int .i64 l[k].nd.t.r.k, .int .i64 l[k].nd.t.r.a, .int .i64 l[k].nd.t.r.b, .int .i64 l[k].nd.t.r.n, vc, .int .i64 l[k].nd.a, .int .i64 l[k].nd.b, vk, .int .i64 l[k].nd.g, .int .i64 l[k].nd.c, vd] : List Value).length := by kernel_rfl
        have HPV : Hid (PlanV (n + 1) wr l[k] vc vk vd) := hp
        have HST : Hid (kidsSz (n + 1) (l.take (k + 1)) = kidsSz (n + 1) (l.take k) + Pl.sz (n + 1) l[k]) := kidsSz_take hkl
        have HLE : Hid (kidsSz (n + 1) (l.take (k + 1)) ≤ kidsSz (n + 1) l) := kidsSz_le l (k + 1)
        clear hp hf
        go_wp2_with (refine wpList_load_mid rfl 30 _ rfl b (off + q) rfl _ _ HR.out Try.underlying30 rfl hi ?_)
        refine (HIH.out l[k] vc vk vd y _ HPV.out hy0 hy1).mono ?_
        rintro e w2 ⟨rfl, hb2⟩
        have HB2 : Hid (Below w.heap.size w w2) := bel_then HB.out hb2
        clear hb2 hi HR hq
        by_cases hs : (Pl.sz (n + 1) l[k] : Int) ≤ y
        · rw [left_yes hs]
          obtain ⟨z, hz⟩ : ∃ z, z = y - (Pl.sz (n + 1) l[k] : Int) := ⟨_, rfl⟩
          have hz0 : 0 ≤ z := by omega
          have hz1 : z ≤ 1048576 := by omega
          have hz2 : ¬ z < 0 := by omega
          have HZ : Hid (z = lf - (m : Int) - (kidsSz (n + 1) (l.take (k + 1)) : Int)) := by
            show _ = _
            have e1 := HY.out
            have e2 := HST.out
            omega
          rw [← hz]
          clear hz hs
          go_wp2
          go_roundw
          case rel => exact ⟨k + 1, z, by omega, by go_num, rfl, hz0, hz1, HZ.out, HB2.out⟩
          case measure => simp [intOf]; omega
        · rw [left_no hs]
          have HF : Hid (leftI lf (m + kidsSz (n + 1) l) = -1) := by
            show _ = _
            have e1 := HY.out
            have e2 := HST.out
            have e3 := HLE.out
            exact left_no (by omega)
          clear hs
          go_wp2
          go_ret
          exact ⟨ret_int HF.out.symm, HB2.out⟩
      · obtain rfl : k = m := by omega
        have HF : Hid (leftI lf (k + kidsSz (n + 1) l) = y) := by
          show _ = _
          have e1 := HY.out
          rw [HM.out, kidsSz_all, ← HM.out] at e1
          rw [left_yes (by omega), e1]
          omega
        go_wp2
        go_ret
        exact ⟨ret_int HF.out.symm, HB.out⟩
  · have h2 : lf - (m : Int) < 0 := by omega
    have HF : Hid (leftI lf (m + kidsSz (n + 1) l) = -1) := left_no (by omega)
    go_enter Try.func11, Try.ntmps11
    go_wp2
    go_ret
    exact ⟨ret_int HF.out.symm, Below.refl _ _⟩

/-- The contract of szPlanS at kids that are not deeper than so. -/
def SzSOk (n : Nat) : Prop := ∀ (l : List (Pl n)) (v : Value) (lf : Int) (w : World), KidsV (NodeAt n) w v l → 0 ≤ lf → lf ≤ 1048576 →
  Calls Try.prog 11 #[v, .int .i64 lf] w fun e w' => e = .returned (.int .i64 (leftI lf (l.length + kidsSz n l))) ∧ Below w.heap.size w w'
theorem szPlanS_of (n : Nat) (h : ∀ m, n = m + 1 → SzOk m) : SzSOk n := by
  intro l v lf w hv h0 h1
  obtain ⟨hl, a, cap, rfl, _, hc⟩ := hv
  by_cases hne : l = []
  · subst hne
    refine (szPlanS_none a cap lf w h0 h1).mono fun e w' ⟨he, hw⟩ => ⟨?_, by rw [hw]; exact Below.refl _ _⟩
    rw [he]
    exact ret_int (by rw [left_yes (by simp [kidsSz]; omega)]; simp [kidsSz])
  · obtain ⟨b, off, rfl, hbw, hk⟩ := hc hne
    cases n with
    | zero => cases l with
      | nil => exact absurd rfl hne
      | cons x _ => cases x
    | succ n => exact szPlanS_some n (h n rfl) b off cap l lf w h0 h1 (List.length_pos_iff.2 hne) hl hbw hk

set_option maxHeartbeats 4000000 in
theorem szPlan_step (n : Nat) (IH : SzSOk n) : SzOk n := by
  intro p vc vk vd l w hp h0 h1
  have HIH : Hid (SzSOk n) := IH
  obtain ⟨hcs, hks, hkd⟩ := hp
  obtain ⟨hcl, ca, cc, rfl, -⟩ := id hcs
  obtain ⟨hkl, ka, kc, rfl, -⟩ := id hks
  have HKD : Hid (KidsV (NodeAt n) w vd p.kids) := hkd
  obtain ⟨-, da, dc, rfl, -⟩ := id hkd
  obtain ⟨d, hd⟩ : ∃ d, d = p.nd := ⟨_, rfl⟩
  obtain ⟨kl, hkl2⟩ : ∃ kl, kl = p.kids := ⟨_, rfl⟩
  have HSZ : Hid (Pl.sz (n + 1) p = d.cs.length + d.ks.length + (kl.length + kidsSz n kl)) := by show _ = _; rw [hd, hkl2]; rfl
  rw [← hd] at hcl hkl ⊢
  rw [← hkl2] at HKD ⊢
  clear hcs hks hkd IH hd hkl2
  obtain ⟨nc, hnc⟩ : ∃ m, m = d.cs.length := ⟨_, rfl⟩
  obtain ⟨nk, hnk⟩ : ∃ m, m = d.ks.length := ⟨_, rfl⟩
  obtain ⟨nd, hnd⟩ : ∃ m, m = kl.length := ⟨_, rfl⟩
  have HNC : Hid (nc = d.cs.length) := hnc
  have HNK : Hid (nk = d.ks.length) := hnk
  have HND : Hid (nd = kl.length) := hnd
  rw [← hnc] at hcl HSZ ⊢
  rw [← hnk] at hkl HSZ ⊢
  rw [← hnd] at HKD HSZ ⊢
  clear hnc hnk hnd
  obtain ⟨⟨dk, dn, ⟨tk, tn, ⟨lk, la, lb, ln⟩, ⟨rk, ra, rb, rn⟩⟩, dcs, dda, ddb, dks, dg, dc'⟩, hdd⟩ : ∃ d', d' = d := ⟨_, rfl⟩
  rw [← hdd]
  simp only
  clear hdd
  go_enter Try.func4, Try.ntmps4
  go_wp2_with fail
  refine (szCellS_any ca nc cc l _ h0 h1 hcl).mono ?_
  rintro e w1 ⟨rfl, rfl⟩
  by_cases g1 : (nc : Int) ≤ l
  · rw [left_yes g1]
    obtain ⟨x, hx⟩ : ∃ x, x = l - (nc : Int) := ⟨_, rfl⟩
    rw [← hx]
    have hx0 : 0 ≤ x := by omega
    have hx1 : x ≤ 1048576 := by omega
    have hx2 : ¬ x < 0 := by omega
    have HX : Hid (x = l - (nc : Int)) := hx
    clear hx
    go_wp2_with fail
    refine (szIntS_left ka nk kc x _ hx0 hx1 hkl).mono ?_
    rintro e w1 ⟨rfl, rfl⟩
    by_cases g2 : (nk : Int) ≤ x
    · rw [left_yes g2]
      obtain ⟨y, hy⟩ : ∃ y, y = x - (nk : Int) := ⟨_, rfl⟩
      rw [← hy]
      have hy0 : 0 ≤ y := by omega
      have hy1 : y ≤ 1048576 := by omega
      have hy2 : ¬ y < 0 := by omega
      have HY : Hid (y = x - (nk : Int)) := hy
      clear hy
      go_wp2_with fail
      refine (HIH.out kl _ y _ (HKD.out.below (bel_alloc _) fun b o z hz => NodeAt.below n hz (bel_alloc _)) hy0 hy1).mono ?_
      rintro e w2 ⟨rfl, hb2⟩
      have HB2 : Hid (Below w.heap.size w w2) := bel_then (bel_alloc _) hb2
      clear hb2
      by_cases g3 : ((kl.length + kidsSz n kl : Nat) : Int) ≤ y
      · rw [left_yes g3]
        obtain ⟨z, hz⟩ : ∃ z, z = y - ((kl.length + kidsSz n kl : Nat) : Int) := ⟨_, rfl⟩
        rw [← hz]
        have hz2 : ¬ z < 0 := by omega
        have HF : Hid (leftI l (Pl.sz (n + 1) p) = z) := by
          show _ = _
          have e1 := HX.out
          have e2 := HY.out
          have e3 := HND.out
          rw [HSZ.out, left_yes (by omega)]
          omega
        clear hz g3
        go_wp2
        go_ret
        exact ⟨ret_int HF.out.symm, HB2.out⟩
      · rw [left_no g3]
        have HF : Hid (leftI l (Pl.sz (n + 1) p) = -1) := by
          show _ = _
          have e1 := HX.out
          have e2 := HY.out
          have e3 := HND.out
          rw [HSZ.out, left_no (by omega)]
        clear g3
        go_wp2
        go_ret
        exact ⟨ret_int HF.out.symm, HB2.out⟩
    · rw [left_no g2]
      have HF : Hid (leftI l (Pl.sz (n + 1) p) = -1) := by
        show _ = _
        have e1 := HX.out
        rw [HSZ.out, left_no (by omega)]
      clear g2
      go_wp2
      go_ret
      exact ⟨ret_int HF.out.symm, bel_alloc _⟩
  · rw [left_no g1]
    have HF : Hid (leftI l (Pl.sz (n + 1) p) = -1) := by show _ = _; rw [HSZ.out, left_no (by omega)]
    clear g1
    go_wp2
    go_ret
    exact ⟨ret_int HF.out.symm, bel_alloc _⟩

theorem szPlan_any : ∀ n, SzOk n
  | 0 => szPlan_step 0 (szPlanS_of 0 fun m h => by omega)
  | n + 1 => szPlan_step (n + 1) (szPlanS_of (n + 1) fun m h => by obtain rfl : n = m := by omega
                                                                   exact szPlan_any n)

end Go.Proofs.Ytkmihnagmbdbgaa
