/-
  Texts of this claim put behind one another: PlanSz, PlanCopy, PlanCopy2, PlanCopy3.
-/
import Derived.Test.YtfmgohoddaobmaaPlanMem
import Derived.Test.YtfmgohoddaobmaaInts

/-
  The contracts of laws.szCellS, szIntS, szPlanS and szPlan: what is left behind a plan, or -1.
-/
namespace Go.Proofs.Ytfmgohoddaobmaa
set_option maxRecDepth 100000
open Go.RowKit
set_option linter.unusedVariables false

/-- What is left of l behind so much, or -1. -/
def leftI (l : Int) (m : Nat) : Int := if (m : Int) ≤ l then l - m else -1
theorem left_yes {l : Int} {m : Nat} (h : (m : Int) ≤ l) : leftI l m = l - m := if_pos h
theorem left_no {l : Int} {m : Nat} (h : ¬ (m : Int) ≤ l) : leftI l m = -1 := if_neg h

theorem szCellS_any (a : Option Addr) (n cap : Nat) (l : Int) (w : World) (h0 : 0 ≤ l) (h1 : l ≤ 1048576) (hn : n ≤ 9223372036854775807) :
    Calls Try.prog 46 #[.slice a n cap, .int .i64 l] w fun e w' => e = .returned (.int .i64 (leftI l n)) ∧ w' = w := by
  by_cases h : (n : Int) ≤ l
  · have h2 : ¬ l - (n : Int) < 0 := by omega
    go_enter Try.func46, Try.ntmps46
    go_wp2
    go_ret
    exact ⟨ret_int (left_yes h).symm, rfl⟩
  · have h2 : l - (n : Int) < 0 := by omega
    go_enter Try.func46, Try.ntmps46
    go_wp2
    go_ret
    exact ⟨ret_int (left_no (by omega)).symm, rfl⟩
theorem szIntS_left (a : Option Addr) (n cap : Nat) (l : Int) (w : World) (h0 : 0 ≤ l) (h1 : l ≤ 1048576) (hn : n ≤ 9223372036854775807) :
    Calls Try.prog 29 #[.slice a n cap, .int .i64 l] w fun e w' => e = .returned (.int .i64 (leftI l n)) ∧ w' = w := by
  by_cases h : (n : Int) ≤ l
  · have h2 : ¬ l - (n : Int) < 0 := by omega
    go_enter Try.func29, Try.ntmps29
    go_wp2
    go_ret
    exact ⟨ret_int (left_yes h).symm, rfl⟩
  · have h2 : l - (n : Int) < 0 := by omega
    go_enter Try.func29, Try.ntmps29
    go_wp2
    go_ret
    exact ⟨ret_int (left_no (by omega)).symm, rfl⟩

/-- The contract of szPlan at plans that are not deeper than so. -/
def SzOk (n : Nat) : Prop := ∀ (p : Pl (n + 1)) (vc vk vd : Value) (l : Int) (w : World), PlanV (n + 1) w p vc vk vd → 0 ≤ l → l ≤ 1048576 →
  Calls Try.prog 15 #[.agg #[.int .i64 p.nd.k, .int .i64 p.nd.n, .int .i64 p.nd.t.k, .bool p.nd.t.no, .int .i64 p.nd.t.l.k, .int .i64 p.nd.t.l.a, .int .i64 p.nd.t.l.b, .int .i64 p.nd.t.l.n, .int .i64 p.nd.t.r.k, .int .i64 p.nd.t.r.a, .int .i64 p.nd.t.r.b, .int .i64 p.nd.t.r.n, vc, .int .i64 p.nd.a, .int .i64 p.nd.b, vk, .int .i64 p.nd.g, .int .i64 p.nd.c, vd], .int .i64 l] w fun e w' => e = .returned (.int .i64 (leftI l (Pl.sz (n + 1) p))) ∧ Below w.heap.size w w'

theorem fields_of {w : World} {b o : Nat} {n : Nat} {p : Pl (n + 1)} (h : NodeAt (n + 1) w b o p) : ∃ vc vk vd, Fields w b o p.nd vc vk vd ∧ PlanV (n + 1) w p vc vk vd := by
  obtain ⟨_, vc, vk, vd, h1, h2⟩ := h
  exact ⟨vc, vk, vd, h1, h2⟩

set_option maxHeartbeats 2000000 in
theorem szPlanS_none (a : Option Addr) (cap : Nat) (l : Int) (w : World) (h0 : 0 ≤ l) (h1 : l ≤ 1048576) :
    Calls Try.prog 47 #[.slice a 0 cap, .int .i64 l] w fun e w' => e = .returned (.int .i64 l) ∧ w' = w := by
  go_enter Try.func47, Try.ntmps47
  go_wp2
  refine wp_loop_rounds 1 ?_
  rw [rounds_succ]
  go_wp2
  go_ret
  exact ⟨rfl, rfl⟩

set_option maxHeartbeats 4000000 in
theorem szPlanS_some (n : Nat) (IH : SzOk n) (b off cap : Nat) (l : List (Pl (n + 1))) (lf : Int) (w : World) (h0 : 0 ≤ lf) (h1 : lf ≤ 1048576) (hpos : 0 < l.length) (hlim : l.length ≤ 9223372036854775807) (hbw : b < w.heap.size)
    (hk : ∀ j (hj : j < l.length), NodeAt (n + 1) w b (off + j * 19) l[j]) :
    Calls Try.prog 47 #[.slice (some ⟨b, off, none⟩) l.length cap, .int .i64 lf] w fun e w' => e = .returned (.int .i64 (leftI lf (l.length + kidsSz (n + 1) l))) ∧ Below w.heap.size w w' := by
  have HIH : Hid (SzOk n) := IH
  have HK : Hid (∀ j (hj : j < l.length), NodeAt (n + 1) w b (off + j * 19) l[j]) := hk
  obtain ⟨m, hm⟩ : ∃ m, m = l.length := ⟨_, rfl⟩
  have HM : Hid (m = l.length) := hm
  rw [← hm] at hpos hlim ⊢
  clear hm hk IH
  by_cases h : (m : Int) ≤ lf
  · have h2 : ¬ lf - (m : Int) < 0 := by omega
    have hm3 : (m : Int) ≤ 1048576 := by omega
    clear hlim
    go_enter Try.func47, Try.ntmps47
    go_wp2_with fail
    go_loopw [1, 5] (fun x i wr => ∃ (k : Nat) (y : Int), k ≤ m ∧ i = .int .i64 k ∧ x = .int .i64 y ∧ 0 ≤ y ∧ y ≤ 1048576 ∧ Hid (y = lf - (m : Int) - (kidsSz (n + 1) (l.take k) : Int)) ∧ Hid (Below w.heap.size w wr)) (fun _ i _ => m - (intOf i).toNat)
    case atStart => exact ⟨0, lf - (m : Int), Nat.zero_le _, rfl, rfl, by omega, by omega, by show _ = _; simp [kidsSz], Below.refl _ _⟩
    case round =>
      obtain ⟨k, y, hkm, rfl, rfl, hy0, hy1, HY, HB⟩ := hrel
      by_cases hlt : k < m
      · have hkl : k < l.length := by rw [← HM.out]; exact hlt
        obtain ⟨vc, vk, vd, hf, hp⟩ := fields_of (NodeAt.below _ (HK.out k hkl) HB.out)
        obtain ⟨q, hq⟩ : ∃ q, k * 19 = q := ⟨_, rfl⟩
        rw [hq] at hf
        have HR : Hid (wr.rangeAt b (off + q) ([.int .i64 l[k].nd.k, .int .i64 l[k].nd.n, .int .i64 l[k].nd.t.k, .bool l[k].nd.t.no, .int .i64 l[k].nd.t.l.k, .int .i64 l[k].nd.t.l.a, .int .i64 l[k].nd.t.l.b, .int .i64 l[k].nd.t.l.n, .int .i64 l[k].nd.t.r.k, .int .i64 l[k].nd.t.r.a, .int .i64 l[k].nd.t.r.b, .int .i64 l[k].nd.t.r.n, vc, .int .i64 l[k].nd.a, .int .i64 l[k].nd.b, vk, .int .i64 l[k].nd.g, .int .i64 l[k].nd.c, vd] : List Value)) := hf.range
        have hi : (Try.prog.info? 30).map (·.size) = some ([.int .i64 l[k].nd.k, .int .i64 l[k].nd.n, .int .i64 l[k].nd.t.k, .bool l[k].nd.t.no, .int .i64 l[k].nd.t.l.k, .int .i64 l[k].nd.t.l.a, .int .i64 l[k].nd.t.l.b, .int .i64 l[k].nd.t.l.n, .int .i64 l[k].nd.t.r.k, .int .i64 l[k].nd.t.r.a, .int .i64 l[k].nd.t.r.b, .int .i64 l[k].nd.t.r.n, vc, .int .i64 l[k].nd.a, .int .i64 l[k].nd.b, vk, .int .i64 l[k].nd.g, .int .i64 l[k].nd.c, vd] : List Value).length := by kernel_rfl
        have HPV : Hid (PlanV (n + 1) wr l[k] vc vk vd) := hp
        have HST : Hid (kidsSz (n + 1) (l.take (k + 1)) = kidsSz (n + 1) (l.take k) + Pl.sz (n + 1) l[k]) := kidsSz_take hkl
        have HLE : Hid (kidsSz (n + 1) (l.take (k + 1)) ≤ kidsSz (n + 1) l) := kidsSz_le l (k + 1)
        clear hp hf
        go_wp2_with (refine wpList_load_mid rfl 30 _ rfl b (off + q) rfl _ _ HR.out Try.underlying30 rfl hi ?_)
        refine (HIH.out l[k] vc vk vd y _ HPV.out hy0 hy1).mono ?_
        rintro e w2 ⟨rfl, hb2⟩
        have HB2 : Hid (Below w.heap.size w w2) := bel_then HB.out hb2
        clear hb2 hi HR hq
        by_cases hs : (Pl.sz (n + 1) l[k] : Int) ≤ y
        · rw [left_yes hs]
          obtain ⟨z, hz⟩ : ∃ z, z = y - (Pl.sz (n + 1) l[k] : Int) := ⟨_, rfl⟩
          have hz0 : 0 ≤ z := by omega
          have hz1 : z ≤ 1048576 := by omega
          have hz2 : ¬ z < 0 := by omega
          have HZ : Hid (z = lf - (m : Int) - (kidsSz (n + 1) (l.take (k + 1)) : Int)) := by
            show _ = _
            have e1 := HY.out
            have e2 := HST.out
            omega
          rw [← hz]
          clear hz hs
          go_wp2
          go_roundw
          case rel => exact ⟨k + 1, z, by omega, by go_num, rfl, hz0, hz1, HZ.out, HB2.out⟩
          case measure => simp [intOf]; omega
        · rw [left_no hs]
          have HF : Hid (leftI lf (m + kidsSz (n + 1) l) = -1) := by
            show _ = _
            have e1 := HY.out
            have e2 := HST.out
            have e3 := HLE.out
            exact left_no (by omega)
          clear hs
          go_wp2
          go_ret
          exact ⟨ret_int HF.out.symm, HB2.out⟩
      · obtain rfl : k = m := by omega
        have HF : Hid (leftI lf (k + kidsSz (n + 1) l) = y) := by
          show _ = _
          have e1 := HY.out
          rw [HM.out, kidsSz_all, ← HM.out] at e1
          rw [left_yes (by omega), e1]
          omega
        go_wp2
        go_ret
        exact ⟨ret_int HF.out.symm, HB.out⟩
  · have h2 : lf - (m : Int) < 0 := by omega
    have HF : Hid (leftI lf (m + kidsSz (n + 1) l) = -1) := left_no (by omega)
    go_enter Try.func47, Try.ntmps47
    go_wp2
    go_ret
    exact ⟨ret_int HF.out.symm, Below.refl _ _⟩

/-- The contract of szPlanS at kids that are not deeper than so. -/
def SzSOk (n : Nat) : Prop := ∀ (l : List (Pl n)) (v : Value) (lf : Int) (w : World), KidsV (NodeAt n) w v l → 0 ≤ lf → lf ≤ 1048576 →
  Calls Try.prog 47 #[v, .int .i64 lf] w fun e w' => e = .returned (.int .i64 (leftI lf (l.length + kidsSz n l))) ∧ Below w.heap.size w w'
theorem szPlanS_of (n : Nat) (h : ∀ m, n = m + 1 → SzOk m) : SzSOk n := by
  intro l v lf w hv h0 h1
  obtain ⟨hl, a, cap, rfl, _, hc⟩ := hv
  by_cases hne : l = []
  · subst hne
    refine (szPlanS_none a cap lf w h0 h1).mono fun e w' ⟨he, hw⟩ => ⟨?_, by rw [hw]; exact Below.refl _ _⟩
    rw [he]
    exact ret_int (by rw [left_yes (by simp [kidsSz]; omega)]; simp [kidsSz])
  · obtain ⟨b, off, rfl, hbw, hk⟩ := hc hne
    cases n with
    | zero => cases l with
      | nil => exact absurd rfl hne
      | cons x _ => cases x
    | succ n => exact szPlanS_some n (h n rfl) b off cap l lf w h0 h1 (List.length_pos_iff.2 hne) hl hbw hk

set_option maxHeartbeats 4000000 in
theorem szPlan_step (n : Nat) (IH : SzSOk n) : SzOk n := by
  intro p vc vk vd l w hp h0 h1
  have HIH : Hid (SzSOk n) := IH
  obtain ⟨hcs, hks, hkd⟩ := hp
  obtain ⟨hcl, ca, cc, rfl, -⟩ := id hcs
  obtain ⟨hkl, ka, kc, rfl, -⟩ := id hks
  have HKD : Hid (KidsV (NodeAt n) w vd p.kids) := hkd
  obtain ⟨-, da, dc, rfl, -⟩ := id hkd
  obtain ⟨d, hd⟩ : ∃ d, d = p.nd := ⟨_, rfl⟩
  obtain ⟨kl, hkl2⟩ : ∃ kl, kl = p.kids := ⟨_, rfl⟩
  have HSZ : Hid (Pl.sz (n + 1) p = d.cs.length + d.ks.length + (kl.length + kidsSz n kl)) := by show _ = _; rw [hd, hkl2]; rfl
  rw [← hd] at hcl hkl ⊢
  rw [← hkl2] at HKD ⊢
  clear hcs hks hkd IH hd hkl2
  obtain ⟨nc, hnc⟩ : ∃ m, m = d.cs.length := ⟨_, rfl⟩
  obtain ⟨nk, hnk⟩ : ∃ m, m = d.ks.length := ⟨_, rfl⟩
  obtain ⟨nd, hnd⟩ : ∃ m, m = kl.length := ⟨_, rfl⟩
  have HNC : Hid (nc = d.cs.length) := hnc
  have HNK : Hid (nk = d.ks.length) := hnk
  have HND : Hid (nd = kl.length) := hnd
  rw [← hnc] at hcl HSZ ⊢
  rw [← hnk] at hkl HSZ ⊢
  rw [← hnd] at HKD HSZ ⊢
  clear hnc hnk hnd
  obtain ⟨⟨dk, dn, ⟨tk, tn, ⟨lk, la, lb, ln⟩, ⟨rk, ra, rb, rn⟩⟩, dcs, dda, ddb, dks, dg, dc'⟩, hdd⟩ : ∃ d', d' = d := ⟨_, rfl⟩
  rw [← hdd]
  simp only
  clear hdd
  go_enter Try.func15, Try.ntmps15
  go_wp2_with fail
  refine (szCellS_any ca nc cc l _ h0 h1 hcl).mono ?_
  rintro e w1 ⟨rfl, rfl⟩
  by_cases g1 : (nc : Int) ≤ l
  · rw [left_yes g1]
    obtain ⟨x, hx⟩ : ∃ x, x = l - (nc : Int) := ⟨_, rfl⟩
    rw [← hx]
    have hx0 : 0 ≤ x := by omega
    have hx1 : x ≤ 1048576 := by omega
    have hx2 : ¬ x < 0 := by omega
    have HX : Hid (x = l - (nc : Int)) := hx
    clear hx
    go_wp2_with fail
    refine (szIntS_left ka nk kc x _ hx0 hx1 hkl).mono ?_
    rintro e w1 ⟨rfl, rfl⟩
    by_cases g2 : (nk : Int) ≤ x
    · rw [left_yes g2]
      obtain ⟨y, hy⟩ : ∃ y, y = x - (nk : Int) := ⟨_, rfl⟩
      rw [← hy]
      have hy0 : 0 ≤ y := by omega
      have hy1 : y ≤ 1048576 := by omega
      have hy2 : ¬ y < 0 := by omega
      have HY : Hid (y = x - (nk : Int)) := hy
      clear hy
      go_wp2_with fail
      refine (HIH.out kl _ y _ (HKD.out.below (bel_alloc _) fun b o z hz => NodeAt.below n hz (bel_alloc _)) hy0 hy1).mono ?_
      rintro e w2 ⟨rfl, hb2⟩
      have HB2 : Hid (Below w.heap.size w w2) := bel_then (bel_alloc _) hb2
      clear hb2
      by_cases g3 : ((kl.length + kidsSz n kl : Nat) : Int) ≤ y
      · rw [left_yes g3]
        obtain ⟨z, hz⟩ : ∃ z, z = y - ((kl.length + kidsSz n kl : Nat) : Int) := ⟨_, rfl⟩
        rw [← hz]
        have hz2 : ¬ z < 0 := by omega
        have HF : Hid (leftI l (Pl.sz (n + 1) p) = z) := by
          show _ = _
          have e1 := HX.out
          have e2 := HY.out
          have e3 := HND.out
          rw [HSZ.out, left_yes (by omega)]
          omega
        clear hz g3
        go_wp2
        go_ret
        exact ⟨ret_int HF.out.symm, HB2.out⟩
      · rw [left_no g3]
        have HF : Hid (leftI l (Pl.sz (n + 1) p) = -1) := by
          show _ = _
          have e1 := HX.out
          have e2 := HY.out
          have e3 := HND.out
          rw [HSZ.out, left_no (by omega)]
        clear g3
        go_wp2
        go_ret
        exact ⟨ret_int HF.out.symm, HB2.out⟩
    · rw [left_no g2]
      have HF : Hid (leftI l (Pl.sz (n + 1) p) = -1) := by
        show _ = _
        have e1 := HX.out
        rw [HSZ.out, left_no (by omega)]
      clear g2
      go_wp2
      go_ret
      exact ⟨ret_int HF.out.symm, bel_alloc _⟩
  · rw [left_no g1]
    have HF : Hid (leftI l (Pl.sz (n + 1) p) = -1) := by show _ = _; rw [HSZ.out, left_no (by omega)]
    clear g1
    go_wp2
    go_ret
    exact ⟨ret_int HF.out.symm, bel_alloc _⟩

theorem szPlan_any : ∀ n, SzOk n
  | 0 => szPlan_step 0 (szPlanS_of 0 fun m h => by omega)
  | n + 1 => szPlan_step (n + 1) (szPlanS_of (n + 1) fun m h => by obtain rfl : n = m := by omega
                                                                   exact szPlan_any n)

end Go.Proofs.Ytfmgohoddaobmaa

/-
  The contracts of laws.toCell, toTest, toCellS, toIntS: copies in new memory; and what holds in every memory that agrees from a block on.
-/
namespace Go.Proofs.Ytfmgohoddaobmaa
set_option maxRecDepth 100000
open Go.RowKit
set_option linter.unusedVariables false

/-- A block of cells that are not frozen. -/
def Unf (w : World) (b : Nat) : Prop := ∃ c t, w.heap[b]? = some (.cells c t)
/-- From block lo on w' is as w was. -/
structure Ab (lo : Nat) (w w' : World) : Prop where
  size : w.heap.size ≤ w'.heap.size
  cell : ∀ b o, lo ≤ b → b < w.heap.size → w'.cell? ⟨b, o, none⟩ = w.cell? ⟨b, o, none⟩
  un : ∀ b, lo ≤ b → Unf w b → Unf w' b
theorem Unf.lt {w : World} {b : Nat} (h : Unf w b) : b < w.heap.size := by
  obtain ⟨c, t, h⟩ := h
  exact (Array.getElem?_eq_some_iff.1 h).1
theorem Unf.below {w w' : World} {b : Nat} (h : Unf w b) (hb : Below w.heap.size w w') : Unf w' b := by
  have hl := h.lt
  obtain ⟨c, t, h⟩ := h
  exact ⟨c, t, (hb.block b hl).trans h⟩
theorem Unf.set {w : World} {b : Nat} (h : Unf w b) (g o : Nat) (u : Value) : Unf (w.setCell ⟨g, o, none⟩ u) b := by
  obtain ⟨c, t, h⟩ := h
  by_cases e : b = g
  · subst e
    exact ⟨_, t, heap_setCell_same w b o c t u h⟩
  · exact ⟨c, t, (Below.heap_setCell w ⟨g, o, none⟩ u b e).trans h⟩
theorem Unf.sets {b : Nat} (g : Nat) : ∀ (vs : List Value) (o : Nat) {w : World}, Unf w b → Unf (w.setCells g o vs) b
  | [], _, _, h => h
  | v :: r, o, w, h => by rw [World.setCells]; exact Unf.sets g r (o + 1) (h.set g o v)
theorem Ab.refl (lo : Nat) (w : World) : Ab lo w w := ⟨Nat.le_refl _, fun _ _ _ _ => rfl, fun _ _ h => h⟩
theorem Ab.trans {lo : Nat} {a b c : World} (h : Ab lo a b) (k : Ab lo b c) : Ab lo a c :=
  ⟨Nat.le_trans h.size k.size, fun x o h1 h2 => (k.cell x o h1 (Nat.lt_of_lt_of_le h2 h.size)).trans (h.cell x o h1 h2), fun x h1 h2 => k.un x h1 (h.un x h1 h2)⟩
theorem Ab.mono {lo lo' : Nat} {a b : World} (h : Ab lo a b) (hl : lo ≤ lo') : Ab lo' a b := ⟨h.size, fun x o h1 h2 => h.cell x o (Nat.le_trans hl h1) h2, fun x h1 h2 => h.un x (Nat.le_trans hl h1) h2⟩
theorem ab_below {lo : Nat} {w w' : World} (h : Below w.heap.size w w') : Ab lo w w' := ⟨h.size, fun b o _ hb => h.cell (p := ⟨b, o, none⟩) hb, fun b _ hu => hu.below h⟩
theorem size_setCells (b : Nat) : ∀ (vs : List Value) (o : Nat) (w : World), (w.setCells b o vs).heap.size = w.heap.size
  | [], _, _ => rfl
  | v :: r, o, w => by rw [World.setCells, size_setCells b r]; simp [World.setCell]
theorem ab_setCells {lo : Nat} (w : World) (b o : Nat) (vs : List Value) (hb : b < lo) : Ab lo w (w.setCells b o vs) :=
  ⟨by rw [size_setCells]; exact Nat.le_refl _, fun x y hx _ => World.cell?_setCells_out b vs o w ⟨x, y, none⟩ fun e _ => by simp at e; omega, fun x _ h => h.sets b vs o⟩
theorem bel_setCells {B : Nat} {a : World} (b : Nat) : ∀ (vs : List Value) (o : Nat) (w : World), Below B a w → B ≤ b → Below B a (w.setCells b o vs)
  | [], _, _, h, _ => h
  | v :: r, o, w, h, hb => by rw [World.setCells]; exact bel_setCells b r (o + 1) _ (h.setCell hb _) hb

/-- The blocks in which kids lie, all the way down, are not frozen. -/
def KidsU : Nat → World → Value → Prop
  | 0 => fun w v => ∀ b off k c, v = .slice (some ⟨b, off, none⟩) k c → 0 < k → Unf w b
  | n + 1 => fun w v => ∀ b off k c, v = .slice (some ⟨b, off, none⟩) k c → 0 < k → Unf w b ∧ ∀ j, j < k → ∀ vd, w.cell? ⟨b, off + j * 19 + 18, none⟩ = some vd → KidsU n w vd
/-- It holds in every memory that agrees from lo on. -/
def Up (lo : Nat) (w : World) (X : World → Prop) : Prop := ∀ w', Ab lo w w' → X w'
theorem Up.here {lo : Nat} {w : World} {X : World → Prop} (h : Up lo w X) : X w := h w (Ab.refl _ _)
theorem Up.next {lo : Nat} {w w' : World} {X : World → Prop} (h : Up lo w X) (k : Ab lo w w') : Up lo w' X := fun w'' k' => h w'' (k.trans k')
theorem Up.mono {lo lo' : Nat} {w : World} {X : World → Prop} (h : Up lo w X) (hl : lo' ≤ lo) : Up lo' w X := fun w' k => h w' (k.mono hl)
theorem Up.bel {lo : Nat} {w w' : World} {X : World → Prop} (h : Up lo w X) (k : Below w.heap.size w w') : Up lo w' X := h.next (ab_below k)

theorem there_below {w w' : World} {b o n : Nat} (h : w.there b o n) (hb : Below w.heap.size w w') (hl : b < w.heap.size) : w'.there b o n := fun j hj =>
  ⟨by rw [hb.cell (p := ⟨b, o + j, none⟩) hl]; exact (h j hj).1, by rw [hb.frozen (p := ⟨b, o + j, none⟩) hl]; exact (h j hj).2⟩
theorem there_part {w : World} {b n : Nat} (h : w.there b 0 n) {o m : Nat} (hm : o + m ≤ n) : w.there b o m := fun j hj => by
  have := h (o + j) (by omega)
  rwa [Nat.zero_add] at this
theorem there_own {w : World} {base : Nat} {e : TypeId} {s g n cap : Nat} {xs : List Value} (h : w.ownsRow base e s (.slice (some ⟨g, 0, none⟩) n cap) n xs) : w.there g 0 (n * s) := fun j hj => by
  rw [Nat.zero_add]
  refine ⟨?_, h.frozenAt j⟩
  rw [h.cellAt j hj, List.getElem?_eq_getElem (by rw [h.1]; exact hj)]
  rfl
theorem own_lt {w : World} {base : Nat} {e : TypeId} {s g n cap : Nat} {xs : List Value} (h : w.ownsRow base e s (.slice (some ⟨g, 0, none⟩) n cap) n xs) : g < w.heap.size := (h.lt g rfl).2

set_option maxHeartbeats 1000000 in
theorem toCell_exact (k a b n : Int) (w : World) :
    Calls Try.prog 68 #[.agg #[.int .i64 k, .int .i64 a, .int .i64 b, .int .i64 n]] w fun e w' => e = .returned (.agg #[.int .i64 k, .int .i64 a, .int .i64 b, .int .i64 n]) ∧ w' = ((w.alloc (.cells #[.int .i64 k, .int .i64 a, .int .i64 b, .int .i64 n] 23)).alloc (.cells #[.int .i64 k, .int .i64 a, .int .i64 b, .int .i64 n] 39)).alloc (.cells #[.int .i64 k, .int .i64 a, .int .i64 b, .int .i64 n] 39) := by
  go_enter Try.func68, Try.ntmps68
  go_wp2
  exact bodyPost_ret (v := .agg #[.int .i64 k, .int .i64 a, .int .i64 b, .int .i64 n]) (by simp [results, Try.results68, go_sem]) rfl ⟨rfl, rfl⟩
theorem toCell_any (k a b n : Int) (w : World) :
    Calls Try.prog 68 #[.agg #[.int .i64 k, .int .i64 a, .int .i64 b, .int .i64 n]] w fun e w' => e = .returned (.agg #[.int .i64 k, .int .i64 a, .int .i64 b, .int .i64 n]) ∧ Below w.heap.size w w' := by
  refine (toCell_exact k a b n w).mono fun e w' ⟨he, hw⟩ => ⟨he, ?_⟩
  subst hw
  exact bel_then (bel_then (bel_alloc _) (bel_alloc _)) (bel_alloc _)

set_option maxHeartbeats 1000000 in
theorem toTest_any (t : Tst) (w : World) :
    Calls Try.prog 48 #[.agg #[.int .i64 t.k, .bool t.no, .int .i64 t.l.k, .int .i64 t.l.a, .int .i64 t.l.b, .int .i64 t.l.n, .int .i64 t.r.k, .int .i64 t.r.a, .int .i64 t.r.b, .int .i64 t.r.n]] w fun e w' => e = .returned (.agg #[.int .i64 t.k, .bool t.no, .int .i64 t.l.k, .int .i64 t.l.a, .int .i64 t.l.b, .int .i64 t.l.n, .int .i64 t.r.k, .int .i64 t.r.a, .int .i64 t.r.b, .int .i64 t.r.n]) ∧ Below w.heap.size w w' := by
  obtain ⟨k, no, l, r⟩ := t
  simp only
  go_enter Try.func48, Try.ntmps48
  go_wp2_with fail
  refine (toCell_exact _ _ _ _ _).mono ?_
  rintro e w1 ⟨rfl, rfl⟩
  go_wp2_with fail
  refine (toCell_exact _ _ _ _ _).mono ?_
  rintro e w1 ⟨rfl, rfl⟩
  go_wp2
  refine bodyPost_ret (v := .agg #[.int .i64 k, .bool no, .int .i64 l.k, .int .i64 l.a, .int .i64 l.b, .int .i64 l.n, .int .i64 r.k, .int .i64 r.a, .int .i64 r.b, .int .i64 r.n]) (by simp [results, Try.results48, go_sem]) rfl ⟨rfl, ?_⟩
  repeat (first | exact bel_alloc _ | refine bel_then ?_ (bel_alloc _))

theorem Cell4.range {w : World} {b o : Nat} {c : Cel} (h : Cell4 w b o c) : w.rangeAt b o [.int .i64 c.k, .int .i64 c.a, .int .i64 c.b, .int .i64 c.n] := by
  obtain ⟨c0, c1, c2, c3⟩ := h
  intro j v hv
  match j, hv with
  | 0, hv => simp at hv; subst hv; exact c0
  | 1, hv => simp at hv; subst hv; exact c1
  | 2, hv => simp at hv; subst hv; exact c2
  | 3, hv => simp at hv; subst hv; exact c3
  | n + 4, hv => simp at hv
theorem cell4_of {w : World} {b o : Nat} {c : Cel} (h : w.rangeAt b o [.int .i64 c.k, .int .i64 c.a, .int .i64 c.b, .int .i64 c.n]) : Cell4 w b o c := ⟨h 0 _ rfl, h 1 _ rfl, h 2 _ rfl, h 3 _ rfl⟩
theorem infoCell4 : (Try.prog.info? 39).map (fun i => (i.zero, i.size, i.bytes)) = some (some (.agg #[.int .i64 0, .int .i64 0, .int .i64 0, .int .i64 0]), 4, 32) := by kernel_rfl

set_option maxHeartbeats 1000000 in
theorem toCellS_some (b off cap : Nat) (cs : List Cel) (w : World) (hpos : 0 < cs.length) (hlim : cs.length ≤ 1048576) (hbw : b < w.heap.size)
    (hc : ∀ j, j < cs.length → Cell4 w b (off + j * 4) (cs.getD j Cel.zero)) :
    Calls Try.prog 49 #[.slice (some ⟨b, off, none⟩) cs.length cap] w fun e w' =>
      e = .returned (.slice (some ⟨w.heap.size, 0, none⟩) cs.length cs.length) ∧ w.heap.size < w'.heap.size ∧ (∀ j, j < cs.length → Cell4 w' w.heap.size (0 + j * 4) (cs.getD j Cel.zero)) ∧ Below w.heap.size w w' := by
  obtain ⟨i0, hi, hz0, hz1, hz2⟩ := info_parts infoCell4
  obtain ⟨n, hn⟩ : ∃ n, n = cs.length := ⟨_, rfl⟩
  have HN : Hid (n = cs.length) := hn
  rw [← hn] at hpos hlim hc ⊢
  clear hn
  have HC : Hid (∀ j, j < n → Cell4 w b (off + j * 4) (cs.getD j Cel.zero)) := hc
  clear hc
  go_enter Try.func49, Try.ntmps49
  go_wp2_with (at_make; refine wpList_make_full _ rfl _ _ 42 rfl w.heap.size 39 i0 (.agg #[.int .i64 0, .int .i64 0, .int .i64 0, .int .i64 0]) 4 Try.underlying42 hi hz0 hz1 _ _ _ _ n rfl rfl rfl rfl (by rw [hz2]; omega) (by unfold maxLen; omega) (Nat.le_refl _) ?_; intro w1 hown1 hgrow1)
  have HB1 : Hid (Below w.heap.size w w1) := (Below.refl _ _).grown hgrow1 (Nat.le_refl _) (by simp)
  have HT1 : Hid (w1.there w.heap.size 0 (n * 4)) := there_own hown1
  have hl1 : w.heap.size < w1.heap.size := own_lt hown1
  clear hown1 hgrow1 hi hz0 hz1 hz2
  go_loopw [4] (fun i wr => ∃ k : Nat, k ≤ n ∧ i = .int .i64 k ∧ Hid (w.heap.size < wr.heap.size) ∧ Hid (wr.there w.heap.size 0 (n * 4)) ∧ Hid (∀ j, j < k → Cell4 wr w.heap.size (0 + j * 4) (cs.getD j Cel.zero)) ∧ Hid (Below w.heap.size w wr))
    (fun i _ => n - (intOf i).toNat)
  case atStart => exact ⟨0, Nat.zero_le _, rfl, hl1, HT1.out, fun j hj => by omega, HB1.out⟩
  case round =>
    obtain ⟨k, hk, rfl, HL, HT, HD, HB⟩ := hrel
    clear HB1 HT1 hl1
    by_cases hlt : k < n
    · have h4 : Cell4 wr b (off + k * 4) (cs.getD k Cel.zero) := (HC.out k hlt).below HB.out hbw
      obtain ⟨c, hcc⟩ : ∃ c, cs.getD k Cel.zero = c := ⟨_, rfl⟩
      have HCC : Hid (cs.getD k Cel.zero = c) := hcc
      rw [hcc] at h4
      clear hcc
      obtain ⟨q, hq⟩ : ∃ q, k * 4 = q := ⟨_, rfl⟩
      rw [hq] at h4
      have HQ : Hid (k * 4 = q) := hq
      have HR : Hid (wr.rangeAt b (off + q) ([.int .i64 c.k, .int .i64 c.a, .int .i64 c.b, .int .i64 c.n] : List Value)) := h4.range
      have hil : (Try.prog.info? 23).map (·.size) = some ([.int .i64 c.k, .int .i64 c.a, .int .i64 c.b, .int .i64 c.n] : List Value).length := by kernel_rfl
      have hii : (Try.prog.info? 39).map (·.size) = some (#[.int .i64 c.k, .int .i64 c.a, .int .i64 c.b, .int .i64 c.n] : Array Value).size := by kernel_rfl
      have H1 : Hid ((#[.int .i64 c.k, .int .i64 c.a, .int .i64 c.b, .int .i64 c.n] : Array Value).all (·.oneCell') = true) := by show _ = _; simp [Value.oneCell']
      clear h4
      go_wp2_with (refine wpList_load_mid rfl 23 _ rfl b (off + q) rfl _ _ HR.out Try.underlying23 rfl hil ?_)
      refine (toCell_any _ _ _ _ _).mono ?_
      rintro e w2 ⟨rfl, hb2⟩
      have HT2 : Hid (w2.there w.heap.size 0 (n * 4)) := there_below HT.out hb2 HL.out
      have HT3 : Hid (w2.there w.heap.size q 4) := there_part HT2.out (by have := HQ.out; omega)
      have HL2 : Hid (w.heap.size < w2.heap.size) := Nat.lt_of_lt_of_le HL.out hb2.size
      have HB2 : Hid (Below w.heap.size w w2) := bel_then HB.out hb2
      have HD2 : Hid (∀ j, j < k → Cell4 w2 w.heap.size (0 + j * 4) (cs.getD j Cel.zero)) := fun j hj => (HD.out j hj).below hb2 HL.out
      clear hb2 HR hil HT HL HB HD
      go_wp2_with (refine wpList_store_mid rfl 39 _ _ rfl w.heap.size q #[.int .i64 c.k, .int .i64 c.a, .int .i64 c.b, .int .i64 c.n] rfl rfl HT3.out hii H1.out ?_)
      go_roundw
      case rel =>
        refine ⟨k + 1, by omega, by go_num, ?_, ?_, ?_, ?_⟩
        · show _ < _
          rw [size_setCells]; exact HL2.out
        · exact World.there_setCells HT2.out _ _ _
        · intro j hj
          by_cases hjk : j = k
          · subst hjk
            rw [HCC.out, Nat.zero_add, HQ.out]
            exact cell4_of (World.rangeAt_setCells_same _ _ _ _ HT3.out)
          · have hlt2 : j < k := by omega
            refine cell4_of (World.rangeAt_setCells_apart (HD2.out j hlt2).range _ _ _ (Or.inr (Or.inl ?_)))
            have := HQ.out
            simp
            omega
        · exact bel_setCells _ _ _ _ HB2.out (Nat.le_refl _)
      case measure => simp [intOf]; omega
    · have e : k = n := by omega
      subst e
      go_wp2
      go_ret
      exact ⟨rfl, HL.out, HD.out, HB.out⟩

set_option maxHeartbeats 1000000 in
theorem toCellS_none (a : Option Addr) (cap : Nat) (w : World) :
    Calls Try.prog 49 #[.slice a 0 cap] w fun e w' => e = .returned (.slice (some ⟨w.heap.size, 0, none⟩) 0 0) ∧ Below w.heap.size w w' := by
  obtain ⟨i0, hi, hz0, hz1, hz2⟩ := info_parts infoCell4
  go_enter Try.func49, Try.ntmps49
  go_wp2_with (at_make; refine wpList_make_full _ rfl _ _ 42 rfl w.heap.size 39 i0 (.agg #[.int .i64 0, .int .i64 0, .int .i64 0, .int .i64 0]) 4 Try.underlying42 hi hz0 hz1 _ _ _ _ 0 rfl rfl rfl rfl (by rw [hz2]; omega) (by unfold maxLen; omega) (Nat.le_refl _) ?_; intro w1 hown1 hgrow1)
  have hb1 : Below w.heap.size w w1 := (Below.refl _ _).grown hgrow1 (Nat.le_refl _) (by simp)
  clear hown1 hgrow1 hi hz0 hz1 hz2
  refine wp_loop_rounds 1 ?_
  rw [rounds_succ]
  go_wp2
  go_ret
  exact ⟨rfl, hb1⟩

/-- A copy of cells, in new memory. -/
theorem toCellS_any (v : Value) (cs : List Cel) (w : World) (h : RawCels w v cs) (hlim : cs.length ≤ 1048576) :
    Calls Try.prog 49 #[v] w fun e w' => ∃ a, e = .returned (.slice (some a) cs.length cs.length) ∧ Up w.heap.size w' (fun x => RawCels x (.slice (some a) cs.length cs.length) cs) ∧ Below w.heap.size w w' := by
  obtain ⟨hl, a, cap, rfl, _, hc⟩ := h
  by_cases hne : cs = []
  · subst hne
    refine (toCellS_none a cap w).mono fun e w' ⟨he, hb⟩ => ⟨_, he, fun x _ => ⟨by simp, _, _, rfl, fun h => by simp at h, fun h => absurd rfl h⟩, hb⟩
  · obtain ⟨b, off, rfl, hbw, hk⟩ := hc hne
    refine (toCellS_some b off cap cs w (List.length_pos_iff.2 hne) hlim hbw hk).mono fun e w' ⟨he, hs, hd, hb⟩ => ⟨_, he, fun x hx => ?_, hb⟩
    refine ⟨hl, _, _, rfl, fun h => by simp at h, fun _ => ⟨_, _, rfl, Nat.lt_of_lt_of_le hs hx.size, fun j hj => ?_⟩⟩
    have k := hd j hj
    have kk : ∀ o, x.cell? ⟨w.heap.size, o, none⟩ = w'.cell? ⟨w.heap.size, o, none⟩ := fun o => hx.cell _ o (Nat.le_refl _) hs
    exact ⟨(kk _).trans k.1, (kk _).trans k.2.1, (kk _).trans k.2.2.1, (kk _).trans k.2.2.2⟩

/-- A copy of numbers, in new memory. -/
theorem toIntS_up (v : Value) (xs : List Int) (w : World) (h : RawInts w v xs) (hlim : xs.length ≤ 1048576) :
    Calls Try.prog 35 #[v] w fun e w' => ∃ a, e = .returned (.slice (some a) xs.length xs.length) ∧ Up w.heap.size w' (fun x => RawInts x (.slice (some a) xs.length xs.length) xs) ∧ Below w.heap.size w w' := by
  refine (toIntS_any v xs w (h.ints (by omega)) hlim).mono fun e w' ⟨he, ho, hb⟩ => ⟨_, he, fun x hx => ?_, hb⟩
  refine ⟨by omega, _, _, rfl, fun h => by simp at h, fun hne => ⟨_, _, rfl, Nat.lt_of_lt_of_le (own_lt ho) hx.size, fun j hj => ?_⟩⟩
  rw [Nat.zero_add, hx.cell _ j (Nat.le_refl _) (own_lt ho), ho.cellAt j (by omega), List.getElem?_map, List.getElem?_eq_getElem hj]
  simp [List.getD, hj]

end Go.Proofs.Ytfmgohoddaobmaa

/-
  The contracts of laws.toPlanS and laws.toPlan: a plan copied into new memory.
-/
namespace Go.Proofs.Ytfmgohoddaobmaa
set_option maxRecDepth 100000
open Go.RowKit
set_option linter.unusedVariables false

theorem fields_range {w : World} {b o : Nat} {d : Nd} {vc vk vd : Value} (h : w.rangeAt b o [.int .i64 d.k, .int .i64 d.n, .int .i64 d.t.k, .bool d.t.no, .int .i64 d.t.l.k, .int .i64 d.t.l.a, .int .i64 d.t.l.b, .int .i64 d.t.l.n, .int .i64 d.t.r.k, .int .i64 d.t.r.a, .int .i64 d.t.r.b, .int .i64 d.t.r.n, vc, .int .i64 d.a, .int .i64 d.b, vk, .int .i64 d.g, .int .i64 d.c, vd]) : Fields w b o d vc vk vd :=
  ⟨h 0 _ rfl, h 1 _ rfl, h 2 _ rfl, h 3 _ rfl, h 4 _ rfl, h 5 _ rfl, h 6 _ rfl, h 7 _ rfl, h 8 _ rfl, h 9 _ rfl, h 10 _ rfl, h 11 _ rfl, h 12 _ rfl, h 13 _ rfl, h 14 _ rfl, h 15 _ rfl, h 16 _ rfl, h 17 _ rfl, h 18 _ rfl⟩
theorem Fields.same {w w' : World} {b o : Nat} {d : Nd} {vc vk vd : Value} (h : Fields w b o d vc vk vd) (k : ∀ o, w'.cell? ⟨b, o, none⟩ = w.cell? ⟨b, o, none⟩) : Fields w' b o d vc vk vd := by
  obtain ⟨c0, c1, c2, c3, c4, c5, c6, c7, c8, c9, c10, c11, c12, c13, c14, c15, c16, c17, c18⟩ := h
  exact ⟨(k _).trans c0, (k _).trans c1, (k _).trans c2, (k _).trans c3, (k _).trans c4, (k _).trans c5, (k _).trans c6, (k _).trans c7, (k _).trans c8, (k _).trans c9, (k _).trans c10, (k _).trans c11, (k _).trans c12, (k _).trans c13, (k _).trans c14, (k _).trans c15, (k _).trans c16, (k _).trans c17, (k _).trans c18⟩
theorem one19 (d : Nd) (vc vk vd : Value) (h1 : vc.oneCell' = true) (h2 : vk.oneCell' = true) (h3 : vd.oneCell' = true) : (#[.int .i64 d.k, .int .i64 d.n, .int .i64 d.t.k, .bool d.t.no, .int .i64 d.t.l.k, .int .i64 d.t.l.a, .int .i64 d.t.l.b, .int .i64 d.t.l.n, .int .i64 d.t.r.k, .int .i64 d.t.r.a, .int .i64 d.t.r.b, .int .i64 d.t.r.n, vc, .int .i64 d.a, .int .i64 d.b, vk, .int .i64 d.g, .int .i64 d.c, vd] : Array Value).all (·.oneCell') = true :=
  all_oneCell_toArray (cs := [.int .i64 d.k, .int .i64 d.n, .int .i64 d.t.k, .bool d.t.no, .int .i64 d.t.l.k, .int .i64 d.t.l.a, .int .i64 d.t.l.b, .int .i64 d.t.l.n, .int .i64 d.t.r.k, .int .i64 d.t.r.a, .int .i64 d.t.r.b, .int .i64 d.t.r.n, vc, .int .i64 d.a, .int .i64 d.b, vk, .int .i64 d.g, .int .i64 d.c, vd]) fun v hv => by
    simp only [List.mem_cons, List.not_mem_nil, or_false] at hv
    rcases hv with rfl | rfl | rfl | rfl | rfl | rfl | rfl | rfl | rfl | rfl | rfl | rfl | rfl | rfl | rfl | rfl | rfl | rfl | rfl <;> first | rfl | assumption
theorem infoPlan19 : (Try.prog.info? 45).map (fun i => (i.zero, i.size, i.bytes)) = some (some (.agg #[.int .i64 0, .int .i64 0, .int .i64 0, .bool false, .int .i64 0, .int .i64 0, .int .i64 0, .int .i64 0, .int .i64 0, .int .i64 0, .int .i64 0, .int .i64 0, .slice none 0 0, .int .i64 0, .int .i64 0, .slice none 0 0, .int .i64 0, .int .i64 0, .slice none 0 0]), 19, 200) := by kernel_rfl

/-- What hangs on a plan of new memory. -/
def PlanU (n : Nat) (x : World) (p : Pl (n + 1)) (vc vk vd : Value) : Prop := PlanV (n + 1) x p vc vk vd ∧ KidsU n x vd
/-- The contract of toPlan at plans that are not deeper than so. -/
def CpOk (n : Nat) : Prop := ∀ (p : Pl (n + 1)) (vc vk vd : Value) (w : World), PlanV (n + 1) w p vc vk vd → Pl.sz (n + 1) p ≤ 1048576 →
  Calls Try.prog 20 #[.agg #[.int .i64 p.nd.k, .int .i64 p.nd.n, .int .i64 p.nd.t.k, .bool p.nd.t.no, .int .i64 p.nd.t.l.k, .int .i64 p.nd.t.l.a, .int .i64 p.nd.t.l.b, .int .i64 p.nd.t.l.n, .int .i64 p.nd.t.r.k, .int .i64 p.nd.t.r.a, .int .i64 p.nd.t.r.b, .int .i64 p.nd.t.r.n, vc, .int .i64 p.nd.a, .int .i64 p.nd.b, vk, .int .i64 p.nd.g, .int .i64 p.nd.c, vd]] w fun e w' => ∃ ca ka da, e = .returned (.agg #[.int .i64 p.nd.k, .int .i64 p.nd.n, .int .i64 p.nd.t.k, .bool p.nd.t.no, .int .i64 p.nd.t.l.k, .int .i64 p.nd.t.l.a, .int .i64 p.nd.t.l.b, .int .i64 p.nd.t.l.n, .int .i64 p.nd.t.r.k, .int .i64 p.nd.t.r.a, .int .i64 p.nd.t.r.b, .int .i64 p.nd.t.r.n, .slice (some ca) p.nd.cs.length p.nd.cs.length, .int .i64 p.nd.a, .int .i64 p.nd.b, .slice (some ka) p.nd.ks.length p.nd.ks.length, .int .i64 p.nd.g, .int .i64 p.nd.c, .slice (some da) p.kids.length p.kids.length]) ∧ Up w.heap.size w' (fun x => PlanU n x p (.slice (some ca) p.nd.cs.length p.nd.cs.length) (.slice (some ka) p.nd.ks.length p.nd.ks.length) (.slice (some da) p.kids.length p.kids.length)) ∧ Below w.heap.size w w'
/-- The contract of toPlanS at kids that are not deeper than so. -/
def CpSOk (n : Nat) : Prop := ∀ (l : List (Pl n)) (v : Value) (w : World), KidsV (NodeAt n) w v l → l.length + kidsSz n l ≤ 1048576 →
  Calls Try.prog 50 #[v] w fun e w' => ∃ a, e = .returned (.slice (some a) l.length l.length) ∧ Up w.heap.size w' (fun x => KidsV (NodeAt n) x (.slice (some a) l.length l.length) l ∧ KidsU n x (.slice (some a) l.length l.length)) ∧ Below w.heap.size w w'

set_option maxHeartbeats 1000000 in
theorem toPlanS_none (a : Option Addr) (cap : Nat) (w : World) :
    Calls Try.prog 50 #[.slice a 0 cap] w fun e w' => e = .returned (.slice (some ⟨w.heap.size, 0, none⟩) 0 0) ∧ Below w.heap.size w w' := by
  obtain ⟨i0, hi, hz0, hz1, hz2⟩ := info_parts infoPlan19
  go_enter Try.func50, Try.ntmps50
  go_wp2_with (at_make; refine wpList_make_full _ rfl _ _ 43 rfl w.heap.size 45 i0 (.agg #[.int .i64 0, .int .i64 0, .int .i64 0, .bool false, .int .i64 0, .int .i64 0, .int .i64 0, .int .i64 0, .int .i64 0, .int .i64 0, .int .i64 0, .int .i64 0, .slice none 0 0, .int .i64 0, .int .i64 0, .slice none 0 0, .int .i64 0, .int .i64 0, .slice none 0 0]) 19 Try.underlying43 hi hz0 hz1 _ _ _ _ 0 rfl rfl rfl rfl (by rw [hz2]; omega) (by unfold maxLen; omega) (Nat.le_refl _) ?_; intro w1 hown1 hgrow1)
  have hb1 : Below w.heap.size w w1 := (Below.refl _ _).grown hgrow1 (Nat.le_refl _) (by simp)
  clear hown1 hgrow1 hi hz0 hz1 hz2
  refine wp_loop_rounds 1 ?_
  rw [rounds_succ]
  go_wp2
  go_ret
  exact ⟨rfl, hb1⟩

/-- The first k kids are copied. -/
def Done (n : Nat) (l : List (Pl (n + 1))) (g k : Nat) (w : World) : Prop := ∀ j (hj : j < l.length), j < k → ∃ vc vk vd, Fields w g (0 + j * 19) l[j].nd vc vk vd ∧ Up (g + 1) w (fun x => PlanU n x l[j] vc vk vd)

set_option maxHeartbeats 4000000 in
theorem toPlanS_some (n : Nat) (IH : CpOk n) (b off cap : Nat) (l : List (Pl (n + 1))) (w : World) (hpos : 0 < l.length) (hlim : l.length + kidsSz (n + 1) l ≤ 1048576) (hbw : b < w.heap.size)
    (hk : ∀ j (hj : j < l.length), NodeAt (n + 1) w b (off + j * 19) l[j]) :
    Calls Try.prog 50 #[.slice (some ⟨b, off, none⟩) l.length cap] w fun e w' =>
      e = .returned (.slice (some ⟨w.heap.size, 0, none⟩) l.length l.length) ∧ w.heap.size < w'.heap.size ∧ Unf w' w.heap.size ∧ Done n l w.heap.size l.length w' ∧ Below w.heap.size w w' := by
  have HIH : Hid (CpOk n) := IH
  have HK : Hid (∀ j (hj : j < l.length), NodeAt (n + 1) w b (off + j * 19) l[j]) := hk
  have HSZ : Hid (∀ j (hj : j < l.length), Pl.sz (n + 1) l[j] ≤ 1048576) := fun j hj => by have := kidsSz_at hj; omega
  have hlim2 : l.length ≤ 1048576 := by omega
  obtain ⟨i0, hi, hz0, hz1, hz2⟩ := info_parts infoPlan19
  obtain ⟨m, hm⟩ : ∃ m, m = l.length := ⟨_, rfl⟩
  have HM : Hid (m = l.length) := hm
  rw [← hm] at hpos hlim2 ⊢
  clear hm hk IH hlim
  go_enter Try.func50, Try.ntmps50
  go_wp2_with (at_make; refine wpList_make_full _ rfl _ _ 43 rfl w.heap.size 45 i0 (.agg #[.int .i64 0, .int .i64 0, .int .i64 0, .bool false, .int .i64 0, .int .i64 0, .int .i64 0, .int .i64 0, .int .i64 0, .int .i64 0, .int .i64 0, .int .i64 0, .slice none 0 0, .int .i64 0, .int .i64 0, .slice none 0 0, .int .i64 0, .int .i64 0, .slice none 0 0]) 19 Try.underlying43 hi hz0 hz1 _ _ _ _ m rfl rfl rfl rfl (by rw [hz2]; omega) (by unfold maxLen; omega) (Nat.le_refl _) ?_; intro w1 hown1 hgrow1)
  have HB1 : Hid (Below w.heap.size w w1) := (Below.refl _ _).grown hgrow1 (Nat.le_refl _) (by simp)
  have HT1 : Hid (w1.there w.heap.size 0 (m * 19)) := there_own hown1
  have hl1 : w.heap.size < w1.heap.size := own_lt hown1
  have HUN1 : Hid (Unf w1 w.heap.size) := by
    rcases hown1.2 with ⟨e, _⟩ | ⟨g, cap', cur, e, _, hg, _⟩
    · simp at e
    · simp only [Value.slice.injEq, Option.some.injEq, Addr.mk.injEq] at e
      obtain ⟨⟨rfl, _⟩, _⟩ := e
      exact ⟨_, _, hg⟩
  clear hown1 hgrow1 hi hz0 hz1 hz2
  go_loopw [4] (fun i wr => ∃ k : Nat, k ≤ m ∧ i = .int .i64 k ∧ Hid (w.heap.size < wr.heap.size) ∧ Hid (wr.there w.heap.size 0 (m * 19)) ∧ Hid (Unf wr w.heap.size) ∧ Hid (Done n l w.heap.size k wr) ∧ Hid (Below w.heap.size w wr))
    (fun i _ => m - (intOf i).toNat)
  case atStart => exact ⟨0, Nat.zero_le _, rfl, hl1, HT1.out, HUN1.out, fun j _ hj => by omega, HB1.out⟩
  case round =>
    obtain ⟨k, hk, rfl, HL, HT, HUN, HD, HB⟩ := hrel
    clear HB1 HT1 hl1 HUN1
    by_cases hlt : k < m
    · have hkl : k < l.length := by rw [← HM.out]; exact hlt
      obtain ⟨vc, vk, vd, hf, hp⟩ := fields_of (NodeAt.below _ (HK.out k hkl) HB.out)
      obtain ⟨q, hq⟩ : ∃ q, k * 19 = q := ⟨_, rfl⟩
      rw [hq] at hf
      have HQ : Hid (k * 19 = q) := hq
      have HR : Hid (wr.rangeAt b (off + q) ([.int .i64 l[k].nd.k, .int .i64 l[k].nd.n, .int .i64 l[k].nd.t.k, .bool l[k].nd.t.no, .int .i64 l[k].nd.t.l.k, .int .i64 l[k].nd.t.l.a, .int .i64 l[k].nd.t.l.b, .int .i64 l[k].nd.t.l.n, .int .i64 l[k].nd.t.r.k, .int .i64 l[k].nd.t.r.a, .int .i64 l[k].nd.t.r.b, .int .i64 l[k].nd.t.r.n, vc, .int .i64 l[k].nd.a, .int .i64 l[k].nd.b, vk, .int .i64 l[k].nd.g, .int .i64 l[k].nd.c, vd] : List Value)) := hf.range
      have hil : (Try.prog.info? 30).map (·.size) = some ([.int .i64 l[k].nd.k, .int .i64 l[k].nd.n, .int .i64 l[k].nd.t.k, .bool l[k].nd.t.no, .int .i64 l[k].nd.t.l.k, .int .i64 l[k].nd.t.l.a, .int .i64 l[k].nd.t.l.b, .int .i64 l[k].nd.t.l.n, .int .i64 l[k].nd.t.r.k, .int .i64 l[k].nd.t.r.a, .int .i64 l[k].nd.t.r.b, .int .i64 l[k].nd.t.r.n, vc, .int .i64 l[k].nd.a, .int .i64 l[k].nd.b, vk, .int .i64 l[k].nd.g, .int .i64 l[k].nd.c, vd] : List Value).length := by kernel_rfl
      have HPV : Hid (PlanV (n + 1) wr l[k] vc vk vd) := hp
      clear hp hf
      go_wp2_with (refine wpList_load_mid rfl 30 _ rfl b (off + q) rfl _ _ HR.out Try.underlying30 rfl hil ?_)
      refine (HIH.out l[k] vc vk vd _ HPV.out (HSZ.out k hkl)).mono ?_
      rintro e w2 ⟨ca, ka, da, rfl, hup, hb2⟩
      have HT2 : Hid (w2.there w.heap.size 0 (m * 19)) := there_below HT.out hb2 HL.out
      have HT3 : Hid (w2.there w.heap.size q (#[.int .i64 l[k].nd.k, .int .i64 l[k].nd.n, .int .i64 l[k].nd.t.k, .bool l[k].nd.t.no, .int .i64 l[k].nd.t.l.k, .int .i64 l[k].nd.t.l.a, .int .i64 l[k].nd.t.l.b, .int .i64 l[k].nd.t.l.n, .int .i64 l[k].nd.t.r.k, .int .i64 l[k].nd.t.r.a, .int .i64 l[k].nd.t.r.b, .int .i64 l[k].nd.t.r.n, .slice (some ca) l[k].nd.cs.length l[k].nd.cs.length, .int .i64 l[k].nd.a, .int .i64 l[k].nd.b, .slice (some ka) l[k].nd.ks.length l[k].nd.ks.length, .int .i64 l[k].nd.g, .int .i64 l[k].nd.c, .slice (some da) l[k].kids.length l[k].kids.length] : Array Value).size) := there_part HT2.out (by have := HQ.out; show q + 19 ≤ _; omega)
      have HL2 : Hid (w.heap.size < w2.heap.size) := Nat.lt_of_lt_of_le HL.out hb2.size
      have HB2 : Hid (Below w.heap.size w w2) := bel_then HB.out hb2
      have HUN2 : Hid (Unf w2 w.heap.size) := HUN.out.below hb2
      have HU : Hid (Up (w.heap.size + 1) w2 (fun x => PlanU n x l[k] (.slice (some ca) l[k].nd.cs.length l[k].nd.cs.length) (.slice (some ka) l[k].nd.ks.length l[k].nd.ks.length) (.slice (some da) l[k].kids.length l[k].kids.length))) := fun x hx => hup x (hx.mono HL.out)
      have HD2 : Hid (Done n l w.heap.size k w2) := fun j hj hjk => by
        obtain ⟨a1, a2, a3, h1, h2⟩ := HD.out j hj hjk
        exact ⟨a1, a2, a3, h1.below hb2 HL.out, h2.bel hb2⟩
      have hii : (Try.prog.info? 45).map (·.size) = some (#[.int .i64 l[k].nd.k, .int .i64 l[k].nd.n, .int .i64 l[k].nd.t.k, .bool l[k].nd.t.no, .int .i64 l[k].nd.t.l.k, .int .i64 l[k].nd.t.l.a, .int .i64 l[k].nd.t.l.b, .int .i64 l[k].nd.t.l.n, .int .i64 l[k].nd.t.r.k, .int .i64 l[k].nd.t.r.a, .int .i64 l[k].nd.t.r.b, .int .i64 l[k].nd.t.r.n, .slice (some ca) l[k].nd.cs.length l[k].nd.cs.length, .int .i64 l[k].nd.a, .int .i64 l[k].nd.b, .slice (some ka) l[k].nd.ks.length l[k].nd.ks.length, .int .i64 l[k].nd.g, .int .i64 l[k].nd.c, .slice (some da) l[k].kids.length l[k].kids.length] : Array Value).size := by kernel_rfl
      have H1 : Hid ((#[.int .i64 l[k].nd.k, .int .i64 l[k].nd.n, .int .i64 l[k].nd.t.k, .bool l[k].nd.t.no, .int .i64 l[k].nd.t.l.k, .int .i64 l[k].nd.t.l.a, .int .i64 l[k].nd.t.l.b, .int .i64 l[k].nd.t.l.n, .int .i64 l[k].nd.t.r.k, .int .i64 l[k].nd.t.r.a, .int .i64 l[k].nd.t.r.b, .int .i64 l[k].nd.t.r.n, .slice (some ca) l[k].nd.cs.length l[k].nd.cs.length, .int .i64 l[k].nd.a, .int .i64 l[k].nd.b, .slice (some ka) l[k].nd.ks.length l[k].nd.ks.length, .int .i64 l[k].nd.g, .int .i64 l[k].nd.c, .slice (some da) l[k].kids.length l[k].kids.length] : Array Value).all (·.oneCell') = true) := one19 l[k].nd _ _ _ rfl rfl rfl
      clear hb2 hup HR hil HT HL HB HD HPV
      go_wp2_with (refine wpList_store_mid rfl 45 _ _ rfl w.heap.size q #[.int .i64 l[k].nd.k, .int .i64 l[k].nd.n, .int .i64 l[k].nd.t.k, .bool l[k].nd.t.no, .int .i64 l[k].nd.t.l.k, .int .i64 l[k].nd.t.l.a, .int .i64 l[k].nd.t.l.b, .int .i64 l[k].nd.t.l.n, .int .i64 l[k].nd.t.r.k, .int .i64 l[k].nd.t.r.a, .int .i64 l[k].nd.t.r.b, .int .i64 l[k].nd.t.r.n, .slice (some ca) l[k].nd.cs.length l[k].nd.cs.length, .int .i64 l[k].nd.a, .int .i64 l[k].nd.b, .slice (some ka) l[k].nd.ks.length l[k].nd.ks.length, .int .i64 l[k].nd.g, .int .i64 l[k].nd.c, .slice (some da) l[k].kids.length l[k].kids.length] rfl rfl ?_ hii H1.out ?_)
      · exact HT3.out
      go_roundw
      case rel =>
        refine ⟨k + 1, by omega, by go_num, ?_, ?_, ?_, ?_, ?_⟩
        · show _ < _
          rw [size_setCells]; exact HL2.out
        · exact World.there_setCells HT2.out _ _ _
        · exact HUN2.out.sets _ _ _
        · intro j hj hjk1
          by_cases hjk : j = k
          · subst hjk
            refine ⟨_, _, _, ?_, HU.out.next (ab_setCells _ _ _ _ (by omega))⟩
            rw [Nat.zero_add, HQ.out]
            exact fields_range (World.rangeAt_setCells_same _ _ _ _ HT3.out)
          · have hlt2 : j < k := by omega
            obtain ⟨a1, a2, a3, h1, h2⟩ := HD2.out j hj hlt2
            refine ⟨a1, a2, a3, fields_range (World.rangeAt_setCells_apart h1.range _ _ _ (Or.inr (Or.inl ?_))), h2.next (ab_setCells _ _ _ _ (by omega))⟩
            have := HQ.out
            simp
            omega
        · exact bel_setCells _ _ _ _ HB2.out (Nat.le_refl _)
      case measure => simp [intOf]; omega
    · have e : k = m := by omega
      subst e
      go_wp2
      go_ret
      exact ⟨rfl, HL.out, HUN.out, HD.out, HB.out⟩

theorem toPlanS_of (n : Nat) (h : ∀ m, n = m + 1 → CpOk m) : CpSOk n := by
  intro l v w hv hlim
  obtain ⟨hl, a, cap, rfl, _, hc⟩ := hv
  by_cases hne : l = []
  · subst hne
    refine (toPlanS_none a cap w).mono fun e w' ⟨he, hb⟩ => ⟨_, he, fun x _ => ⟨⟨by simp, _, _, rfl, fun h => by simp at h, fun h => absurd rfl h⟩, ?_⟩, hb⟩
    cases n with
    | zero => intro b off k c e hk; simp only [Value.slice.injEq, List.length_nil] at e; omega
    | succ n => intro b off k c e hk; simp only [Value.slice.injEq, List.length_nil] at e; omega
  · obtain ⟨b, off, rfl, hbw, hk⟩ := hc hne
    cases n with
    | zero => cases l with
      | nil => exact absurd rfl hne
      | cons x _ => cases x
    | succ n =>
      refine (toPlanS_some n (h n rfl) b off cap l w (List.length_pos_iff.2 hne) hlim hbw hk).mono fun e w' ⟨he, hs, hun, hd, hb⟩ => ⟨_, he, fun x hx => ⟨?_, ?_⟩, hb⟩
      · refine ⟨hl, _, _, rfl, fun h => by simp at h, fun _ => ⟨_, _, rfl, Nat.lt_of_lt_of_le hs hx.size, fun j hj => ?_⟩⟩
        obtain ⟨vc, vk, vd, h1, h2⟩ := hd j hj hj
        exact ⟨Nat.lt_of_lt_of_le hs hx.size, vc, vk, vd, h1.same (fun o => hx.cell _ o (Nat.le_refl _) hs), (h2 x (hx.mono (by omega))).1⟩
      · intro b' off' k' c' e' hk'
        simp only [Value.slice.injEq, Option.some.injEq, Addr.mk.injEq, and_true] at e'
        obtain ⟨⟨rfl, rfl⟩, rfl, rfl⟩ := e'
        refine ⟨hx.un _ (Nat.le_refl _) hun, fun j hj vd' hvd => ?_⟩
        obtain ⟨vc, vk, vd, h1, h2⟩ := hd j hj hj
        have h18 := (h1.same (fun o => hx.cell _ o (Nat.le_refl _) hs)).2.2.2.2.2.2.2.2.2.2.2.2.2.2.2.2.2.2
        rw [h18] at hvd
        simp only [Option.some.injEq] at hvd
        subst hvd
        exact (h2 x (hx.mono (by omega))).2

theorem at_below {w w1 : World} {b : Nat} {o : Obj} (h : w.heap[b]? = some o) (hb : Below w.heap.size w w1) : w1.heap[b]? = some o := (hb.block b (Array.getElem?_eq_some_iff.1 h).1).trans h
theorem alloc_at (w : World) (o : Obj) : (w.alloc o).heap[w.heap.size]? = some o := by show (w.heap.push o)[w.heap.size]? = some o; simp
theorem alloc_sz (w : World) (o : Obj) : (w.alloc o).heap.size = w.heap.size + 1 := by show (w.heap.push o).size = _; simp
theorem threeAt (w : World) (o1 o2 o3 : Obj) : (((w.alloc o1).alloc o2).alloc o3).heap[w.heap.size]? = some o1 ∧ (((w.alloc o1).alloc o2).alloc o3).heap[w.heap.size + 1]? = some o2 ∧ (((w.alloc o1).alloc o2).alloc o3).heap[w.heap.size + 1 + 1]? = some o3 ∧ Below w.heap.size w (((w.alloc o1).alloc o2).alloc o3) ∧ (((w.alloc o1).alloc o2).alloc o3).heap.size = w.heap.size + 1 + 1 + 1 := by
  refine ⟨at_below (at_below (alloc_at w o1) (bel_alloc _)) (bel_alloc _), ?_, ?_, bel_then (bel_then (bel_alloc _) (bel_alloc _)) (bel_alloc _), ?_⟩
  · have h := at_below (alloc_at (w.alloc o1) o2) (bel_alloc o3)
    rwa [alloc_sz] at h
  · have h := alloc_at ((w.alloc o1).alloc o2) o3
    rwa [alloc_sz, alloc_sz] at h
  · rw [alloc_sz, alloc_sz, alloc_sz]
theorem cell_at {w : World} {b j : Nat} {vs : Array Value} {t : TypeId} {v : Value} (h : w.heap[b]? = some (.cells vs t)) (hj : vs[j]? = some v) : w.cell? ⟨b, j, none⟩ = some v := by simp [World.cell?, h, hj]
theorem frozen_at {w : World} {b : Nat} {vs : Array Value} {t : TypeId} (h : w.heap[b]? = some (.cells vs t)) (j : Nat) : w.frozen? ⟨b, j, none⟩ = false := by simp [World.frozen?, h]
theorem blk_same {w : World} {g j : Nat} {l : List Value} {e : TypeId} {u : Value} (h : w.heap[g]? = some (.cells l.toArray e)) : (w.setCell ⟨g, j, none⟩ u).heap[g]? = some (.cells (l.set j u).toArray e) := by
  have k := heap_setCell_same w g j l.toArray e u h
  rwa [List.setIfInBounds_toArray] at k
theorem setCell_sz (w : World) (a : Addr) (u : Value) : (w.setCell a u).heap.size = w.heap.size := by simp [World.setCell]
theorem ab_setCell {lo : Nat} {w w' : World} (h : Ab lo w w') {b o : Nat} {u : Value} (hb : b < lo) : Ab lo w (w'.setCell ⟨b, o, none⟩ u) := h.trans (ab_setCells w' b o [u] hb)
theorem range_blk {w : World} {b : Nat} {vs : Array Value} {t : TypeId} (h : w.heap[b]? = some (.cells vs t)) : w.rangeAt b 0 vs.toList := fun j v hv => by
  rw [Nat.zero_add]
  exact cell_at h (by simpa using hv)
theorem there_blk {w : World} {b : Nat} {vs : Array Value} {t : TypeId} (h : w.heap[b]? = some (.cells vs t)) : w.there b 0 vs.size := fun j hj => by
  rw [Nat.zero_add]
  exact ⟨by rw [cell_at h (Array.getElem?_eq_getElem hj)]; rfl, frozen_at h j⟩
theorem results_cell {P : Program} {fn : Func} {tmps : Array Value} {w : World} {v : Value} {a : Nat} {t : TypeId} {ad : Addr} (h : fn.results = #[.cell a t]) (ha : tmps.getD a undef = .pointer (some ad)) (hl : (loadVar t ad).run P w = .ok v w) : (results fn tmps).run P w = .ok v w := by
  unfold results
  rw [h]
  generalize hq : loadVar t = L at hl
  simp only [Array.mapM_eq_mapM_toList, List.mapM_cons, List.mapM_nil, ha, asAddr, hq]
  simp [hl]
theorem blk_other {w : World} {b g j : Nat} {u : Value} {o : Obj} (h : w.heap[b]? = some o) (hne : b ≠ g) : (w.setCell ⟨g, j, none⟩ u).heap[b]? = some o := (Below.heap_setCell w ⟨g, j, none⟩ u b hne).trans h

end Go.Proofs.Ytfmgohoddaobmaa

/-
  The contract of laws.toPlan.
-/
namespace Go.Proofs.Ytfmgohoddaobmaa
set_option maxRecDepth 100000
open Go.RowKit
set_option linter.unusedVariables false

set_option maxHeartbeats 800000 in
theorem toPlan_step (n : Nat) (IH : CpSOk n) : CpOk n := by
  intro p vc vk vd w hp hlim
  have HIH : Hid (CpSOk n) := IH
  obtain ⟨hcs, hks, hkd⟩ := hp
  have HCS : Hid (RawCels w vc p.nd.cs) := hcs
  have HKS : Hid (RawInts w vk p.nd.ks) := hks
  have HKD : Hid (KidsV (NodeAt n) w vd p.kids) := hkd
  obtain ⟨-, ca, cc, rfl, -⟩ := id hcs
  obtain ⟨-, ka, kc, rfl, -⟩ := id hks
  obtain ⟨-, da, dc, rfl, -⟩ := id hkd
  have hsz := Pl.sz_succ p
  have HL1 : Hid (p.nd.cs.length ≤ 1048576) := by show _ ≤ _; omega
  have HL2 : Hid (p.nd.ks.length ≤ 1048576) := by show _ ≤ _; omega
  have HL3 : Hid (p.kids.length + kidsSz n p.kids ≤ 1048576) := by show _ ≤ _; unfold kidsSz; omega
  have HPV : Hid (∀ x vc vk vd, RawCels x vc p.nd.cs → RawInts x vk p.nd.ks → KidsV (NodeAt n) x vd p.kids → PlanV (n + 1) x p vc vk vd) := fun x vc vk vd h1 h2 h3 => ⟨h1, h2, h3⟩
  clear hcs hks hkd IH hsz hlim
  obtain ⟨d, hd⟩ : ∃ d, d = p.nd := ⟨_, rfl⟩
  obtain ⟨kl, hkl2⟩ : ∃ kl, kl = p.kids := ⟨_, rfl⟩
  rw [← hd] at HCS HKS HL1 HL2 HPV ⊢
  rw [← hkl2] at HKD HL3 HPV ⊢
  clear hd hkl2
  obtain ⟨nc, hnc⟩ : ∃ m, m = d.cs.length := ⟨_, rfl⟩
  obtain ⟨nk, hnk⟩ : ∃ m, m = d.ks.length := ⟨_, rfl⟩
  obtain ⟨nd, hnd⟩ : ∃ m, m = kl.length := ⟨_, rfl⟩
  have HNC : Hid (nc = d.cs.length) := hnc
  have HNK : Hid (nk = d.ks.length) := hnk
  have HND : Hid (nd = kl.length) := hnd
  rw [← hnc] at HCS HL1 ⊢
  rw [← hnk] at HKS HL2 ⊢
  rw [← hnd] at HKD HL3 ⊢
  clear hnc hnk hnd
  obtain ⟨⟨dk, dn, ⟨tk, tn, ⟨lk, la, lb, ln⟩, ⟨rk, ra, rb, rn⟩⟩, dcs, dda, ddb, dks, dg, dc'⟩, hdd⟩ : ∃ d', d' = d := ⟨_, rfl⟩
  subst hdd
  simp only at HCS HKS HL1 HL2 HPV HNC HNK ⊢
  go_enter Try.func20, Try.ntmps20
  go_wp2_with fail
  refine (toTest_any ⟨tk, tn, ⟨lk, la, lb, ln⟩, ⟨rk, ra, rb, rn⟩⟩ _).mono ?_
  rintro e w1 ⟨rfl, hb⟩
  simp only
  have HP : Hid (w1.heap[w.heap.size]? = some (.cells #[.int .i64 dk, .int .i64 dn, .int .i64 tk, .bool tn, .int .i64 lk, .int .i64 la, .int .i64 lb, .int .i64 ln, .int .i64 rk, .int .i64 ra, .int .i64 rb, .int .i64 rn, .slice ca nc cc, .int .i64 dda, .int .i64 ddb, .slice ka nk kc, .int .i64 dg, .int .i64 dc', .slice da nd dc] 30)) := at_below (threeAt w _ _ _).1 hb
  have HR : Hid (w1.heap[w.heap.size + 1]? = some (.cells #[.int .i64 0, .int .i64 0, .int .i64 0, .bool false, .int .i64 0, .int .i64 0, .int .i64 0, .int .i64 0, .int .i64 0, .int .i64 0, .int .i64 0, .int .i64 0, .slice none 0 0, .int .i64 0, .int .i64 0, .slice none 0 0, .int .i64 0, .int .i64 0, .slice none 0 0] 45)) := at_below (threeAt w _ _ _).2.1 hb
  have HO : Hid (w1.heap[w.heap.size + 1 + 1]? = some (.cells #[.int .i64 dk, .int .i64 dn, .int .i64 0, .bool false, .int .i64 0, .int .i64 0, .int .i64 0, .int .i64 0, .int .i64 0, .int .i64 0, .int .i64 0, .int .i64 0, .slice none 0 0, .int .i64 0, .int .i64 0, .slice none 0 0, .int .i64 0, .int .i64 0, .slice none 0 0] 45)) := at_below (threeAt w _ _ _).2.2.1 hb
  have HB : Hid (Below w.heap.size w w1) := bel_then (threeAt w _ _ _).2.2.2.1 hb
  have hsz : w.heap.size + 1 + 1 < w1.heap.size := by have h1 := hb.size; rw [(threeAt w _ _ _).2.2.2.2] at h1; omega
  have HS : Hid (w.heap.size + 1 + 1 < w1.heap.size) := hsz
  clear hb hsz
  have fz : ∀ j, w1.frozen? ⟨w.heap.size + 1 + 1, j, none⟩ = false := fun j => frozen_at HO.out j
  have o2 : w1.cell? ⟨w.heap.size + 1 + 1, 2, none⟩ = some (.int .i64 0) := cell_at HO.out rfl
  have o3 : w1.cell? ⟨w.heap.size + 1 + 1, 3, none⟩ = some (.bool false) := cell_at HO.out rfl
  have o4 : w1.cell? ⟨w.heap.size + 1 + 1, 4, none⟩ = some (.int .i64 0) := cell_at HO.out rfl
  have o5 : w1.cell? ⟨w.heap.size + 1 + 1, 5, none⟩ = some (.int .i64 0) := cell_at HO.out rfl
  have o6 : w1.cell? ⟨w.heap.size + 1 + 1, 6, none⟩ = some (.int .i64 0) := cell_at HO.out rfl
  have o7 : w1.cell? ⟨w.heap.size + 1 + 1, 7, none⟩ = some (.int .i64 0) := cell_at HO.out rfl
  have o8 : w1.cell? ⟨w.heap.size + 1 + 1, 8, none⟩ = some (.int .i64 0) := cell_at HO.out rfl
  have o9 : w1.cell? ⟨w.heap.size + 1 + 1, 9, none⟩ = some (.int .i64 0) := cell_at HO.out rfl
  have o10 : w1.cell? ⟨w.heap.size + 1 + 1, 10, none⟩ = some (.int .i64 0) := cell_at HO.out rfl
  have o11 : w1.cell? ⟨w.heap.size + 1 + 1, 11, none⟩ = some (.int .i64 0) := cell_at HO.out rfl
  have p12 : w1.cell? ⟨w.heap.size, 12, none⟩ = some (.slice ca nc cc) := cell_at HP.out rfl
  go_wp2_with fail
  refine (toCellS_any _ dcs _ (HCS.out.below ?hbel) (by rw [← HNC.out]; exact HL1.out)).mono ?_
  case hbel => 
    iterate 10 refine Below.setCell ?_ (Nat.le_succ_of_le (Nat.le_succ _)) _
    exact HB.out
  rintro e w2 ⟨ca', rfl, hup, hb⟩
  rw [← HNC.out] at hup ⊢
  replace HP : Hid (w2.heap[w.heap.size]? = some (.cells #[.int .i64 dk, .int .i64 dn, .int .i64 tk, .bool tn, .int .i64 lk, .int .i64 la, .int .i64 lb, .int .i64 ln, .int .i64 rk, .int .i64 ra, .int .i64 rb, .int .i64 rn, .slice ca nc cc, .int .i64 dda, .int .i64 ddb, .slice ka nk kc, .int .i64 dg, .int .i64 dc', .slice da nd dc] 30)) := at_below (blk_other (blk_other (blk_other (blk_other (blk_other (blk_other (blk_other (blk_other (blk_other (blk_other (HP.out) (by omega)) (by omega)) (by omega)) (by omega)) (by omega)) (by omega)) (by omega)) (by omega)) (by omega)) (by omega)) hb
  replace HR : Hid (w2.heap[w.heap.size + 1]? = some (.cells #[.int .i64 0, .int .i64 0, .int .i64 0, .bool false, .int .i64 0, .int .i64 0, .int .i64 0, .int .i64 0, .int .i64 0, .int .i64 0, .int .i64 0, .int .i64 0, .slice none 0 0, .int .i64 0, .int .i64 0, .slice none 0 0, .int .i64 0, .int .i64 0, .slice none 0 0] 45)) := at_below (blk_other (blk_other (blk_other (blk_other (blk_other (blk_other (blk_other (blk_other (blk_other (blk_other (HR.out) (by omega)) (by omega)) (by omega)) (by omega)) (by omega)) (by omega)) (by omega)) (by omega)) (by omega)) (by omega)) hb
  replace HO : Hid (w2.heap[w.heap.size + 1 + 1]? = some (.cells #[.int .i64 dk, .int .i64 dn, .int .i64 tk, .bool tn, .int .i64 lk, .int .i64 la, .int .i64 lb, .int .i64 ln, .int .i64 rk, .int .i64 ra, .int .i64 rb, .int .i64 rn, .slice none 0 0, .int .i64 0, .int .i64 0, .slice none 0 0, .int .i64 0, .int .i64 0, .slice none 0 0] 45)) := at_below (blk_same (blk_same (blk_same (blk_same (blk_same (blk_same (blk_same (blk_same (blk_same (blk_same (HO.out))))))))))) hb
  replace HB : Hid (Below w.heap.size w w2) := bel_then (by
    iterate 10 refine Below.setCell ?_ (Nat.le_succ_of_le (Nat.le_succ _)) _
    exact HB.out) hb
  simp only [setCell_sz] at hup
  have HUC : Hid (Up (w.heap.size + 1 + 1 + 1) w2 (fun x => RawCels x (.slice (some ca') nc nc) dcs)) := hup.mono HS.out
  have hsz : w1.heap.size ≤ w2.heap.size := by have := hb.size; simp only [setCell_sz] at this; exact this
  replace HS : Hid (w.heap.size + 1 + 1 < w2.heap.size) := Nat.lt_of_lt_of_le HS.out hsz
  clear o2 o3 o4 o5 o6 o7 o8 o9 o10 o11 p12 fz hup hb hsz
  have fz : ∀ j, w2.frozen? ⟨w.heap.size + 1 + 1, j, none⟩ = false := fun j => frozen_at HO.out j
  have o12 : w2.cell? ⟨w.heap.size + 1 + 1, 12, none⟩ = some (.slice none 0 0) := cell_at HO.out rfl
  have o13 : w2.cell? ⟨w.heap.size + 1 + 1, 13, none⟩ = some (.int .i64 0) := cell_at HO.out rfl
  have o14 : w2.cell? ⟨w.heap.size + 1 + 1, 14, none⟩ = some (.int .i64 0) := cell_at HO.out rfl
  have p13 : w2.cell? ⟨w.heap.size, 13, none⟩ = some (.int .i64 dda) := cell_at HP.out rfl
  have p14 : w2.cell? ⟨w.heap.size, 14, none⟩ = some (.int .i64 ddb) := cell_at HP.out rfl
  have p15 : w2.cell? ⟨w.heap.size, 15, none⟩ = some (.slice ka nk kc) := cell_at HP.out rfl
  go_wp2_with fail
  refine (toIntS_up _ dks _ (HKS.out.below ?hbel) (by rw [← HNK.out]; exact HL2.out)).mono ?_
  case hbel => 
    iterate 3 refine Below.setCell ?_ (Nat.le_succ_of_le (Nat.le_succ _)) _
    exact HB.out
  rintro e w3 ⟨ka', rfl, hup, hb⟩
  rw [← HNK.out] at hup ⊢
  replace HP : Hid (w3.heap[w.heap.size]? = some (.cells #[.int .i64 dk, .int .i64 dn, .int .i64 tk, .bool tn, .int .i64 lk, .int .i64 la, .int .i64 lb, .int .i64 ln, .int .i64 rk, .int .i64 ra, .int .i64 rb, .int .i64 rn, .slice ca nc cc, .int .i64 dda, .int .i64 ddb, .slice ka nk kc, .int .i64 dg, .int .i64 dc', .slice da nd dc] 30)) := at_below (blk_other (blk_other (blk_other (HP.out) (by omega)) (by omega)) (by omega)) hb
  replace HR : Hid (w3.heap[w.heap.size + 1]? = some (.cells #[.int .i64 0, .int .i64 0, .int .i64 0, .bool false, .int .i64 0, .int .i64 0, .int .i64 0, .int .i64 0, .int .i64 0, .int .i64 0, .int .i64 0, .int .i64 0, .slice none 0 0, .int .i64 0, .int .i64 0, .slice none 0 0, .int .i64 0, .int .i64 0, .slice none 0 0] 45)) := at_below (blk_other (blk_other (blk_other (HR.out) (by omega)) (by omega)) (by omega)) hb
  replace HO : Hid (w3.heap[w.heap.size + 1 + 1]? = some (.cells #[.int .i64 dk, .int .i64 dn, .int .i64 tk, .bool tn, .int .i64 lk, .int .i64 la, .int .i64 lb, .int .i64 ln, .int .i64 rk, .int .i64 ra, .int .i64 rb, .int .i64 rn, .slice (some ca') nc nc, .int .i64 dda, .int .i64 ddb, .slice none 0 0, .int .i64 0, .int .i64 0, .slice none 0 0] 45)) := at_below (blk_same (blk_same (blk_same (HO.out)))) hb
  replace HB : Hid (Below w.heap.size w w3) := bel_then (by
    iterate 3 refine Below.setCell ?_ (Nat.le_succ_of_le (Nat.le_succ _)) _
    exact HB.out) hb
  simp only [setCell_sz] at hup
  replace HUC : Hid (Up (w.heap.size + 1 + 1 + 1) w3 (fun x => RawCels x (.slice (some ca') nc nc) dcs)) := Up.bel (Up.next HUC.out (ab_setCell (ab_setCell (ab_setCell (Ab.refl _ _) (Nat.lt_succ_self _)) (Nat.lt_succ_self _)) (Nat.lt_succ_self _))) hb
  have HUK : Hid (Up (w.heap.size + 1 + 1 + 1) w3 (fun x => RawInts x (.slice (some ka') nk nk) dks)) := hup.mono HS.out
  have hsz : w2.heap.size ≤ w3.heap.size := by have := hb.size; simp only [setCell_sz] at this; exact this
  replace HS : Hid (w.heap.size + 1 + 1 < w3.heap.size) := Nat.lt_of_lt_of_le HS.out hsz
  clear o12 o13 o14 p13 p14 p15 fz hup hb hsz
  have fz : ∀ j, w3.frozen? ⟨w.heap.size + 1 + 1, j, none⟩ = false := fun j => frozen_at HO.out j
  have o15 : w3.cell? ⟨w.heap.size + 1 + 1, 15, none⟩ = some (.slice none 0 0) := cell_at HO.out rfl
  have o16 : w3.cell? ⟨w.heap.size + 1 + 1, 16, none⟩ = some (.int .i64 0) := cell_at HO.out rfl
  have o17 : w3.cell? ⟨w.heap.size + 1 + 1, 17, none⟩ = some (.int .i64 0) := cell_at HO.out rfl
  have p16 : w3.cell? ⟨w.heap.size, 16, none⟩ = some (.int .i64 dg) := cell_at HP.out rfl
  have p17 : w3.cell? ⟨w.heap.size, 17, none⟩ = some (.int .i64 dc') := cell_at HP.out rfl
  have p18 : w3.cell? ⟨w.heap.size, 18, none⟩ = some (.slice da nd dc) := cell_at HP.out rfl
  go_wp2_with fail
  refine (HIH.out kl _ _ (HKD.out.below ?hbel ?hnod) (by rw [← HND.out]; exact HL3.out)).mono ?_
  case hbel => 
    iterate 3 refine Below.setCell ?_ (Nat.le_succ_of_le (Nat.le_succ _)) _
    exact HB.out
  case hnod =>
    intro b o x hx
    refine NodeAt.below n hx ?_
    
    iterate 3 refine Below.setCell ?_ (Nat.le_succ_of_le (Nat.le_succ _)) _
    exact HB.out
  rintro e w4 ⟨da', rfl, hup, hb⟩
  rw [← HND.out] at hup ⊢
  replace HP : Hid (w4.heap[w.heap.size]? = some (.cells #[.int .i64 dk, .int .i64 dn, .int .i64 tk, .bool tn, .int .i64 lk, .int .i64 la, .int .i64 lb, .int .i64 ln, .int .i64 rk, .int .i64 ra, .int .i64 rb, .int .i64 rn, .slice ca nc cc, .int .i64 dda, .int .i64 ddb, .slice ka nk kc, .int .i64 dg, .int .i64 dc', .slice da nd dc] 30)) := at_below (blk_other (blk_other (blk_other (HP.out) (by omega)) (by omega)) (by omega)) hb
  replace HR : Hid (w4.heap[w.heap.size + 1]? = some (.cells #[.int .i64 0, .int .i64 0, .int .i64 0, .bool false, .int .i64 0, .int .i64 0, .int .i64 0, .int .i64 0, .int .i64 0, .int .i64 0, .int .i64 0, .int .i64 0, .slice none 0 0, .int .i64 0, .int .i64 0, .slice none 0 0, .int .i64 0, .int .i64 0, .slice none 0 0] 45)) := at_below (blk_other (blk_other (blk_other (HR.out) (by omega)) (by omega)) (by omega)) hb
  replace HO : Hid (w4.heap[w.heap.size + 1 + 1]? = some (.cells #[.int .i64 dk, .int .i64 dn, .int .i64 tk, .bool tn, .int .i64 lk, .int .i64 la, .int .i64 lb, .int .i64 ln, .int .i64 rk, .int .i64 ra, .int .i64 rb, .int .i64 rn, .slice (some ca') nc nc, .int .i64 dda, .int .i64 ddb, .slice (some ka') nk nk, .int .i64 dg, .int .i64 dc', .slice none 0 0] 45)) := at_below (blk_same (blk_same (blk_same (HO.out)))) hb
  replace HB : Hid (Below w.heap.size w w4) := bel_then (by
    iterate 3 refine Below.setCell ?_ (Nat.le_succ_of_le (Nat.le_succ _)) _
    exact HB.out) hb
  simp only [setCell_sz] at hup
  replace HUC : Hid (Up (w.heap.size + 1 + 1 + 1) w4 (fun x => RawCels x (.slice (some ca') nc nc) dcs)) := Up.bel (Up.next HUC.out (ab_setCell (ab_setCell (ab_setCell (Ab.refl _ _) (Nat.lt_succ_self _)) (Nat.lt_succ_self _)) (Nat.lt_succ_self _))) hb
  replace HUK : Hid (Up (w.heap.size + 1 + 1 + 1) w4 (fun x => RawInts x (.slice (some ka') nk nk) dks)) := Up.bel (Up.next HUK.out (ab_setCell (ab_setCell (ab_setCell (Ab.refl _ _) (Nat.lt_succ_self _)) (Nat.lt_succ_self _)) (Nat.lt_succ_self _))) hb
  have HUD : Hid (Up (w.heap.size + 1 + 1 + 1) w4 (fun x => KidsV (NodeAt n) x (.slice (some da') nd nd) kl ∧ KidsU n x (.slice (some da') nd nd))) := hup.mono HS.out
  have hsz : w3.heap.size ≤ w4.heap.size := by have := hb.size; simp only [setCell_sz] at this; exact this
  replace HS : Hid (w.heap.size + 1 + 1 < w4.heap.size) := Nat.lt_of_lt_of_le HS.out hsz
  clear o15 o16 o17 p16 p17 p18 fz hup hb hsz
  have fz : ∀ j, w4.frozen? ⟨w.heap.size + 1 + 1, j, none⟩ = false := fun j => frozen_at HO.out j
  have o18 : w4.cell? ⟨w.heap.size + 1 + 1, 18, none⟩ = some (.slice none 0 0) := cell_at HO.out rfl
  have HR5 : Hid ((w4.setCell ⟨w.heap.size + 1 + 1, 18, none⟩ (.slice (some da') nd nd)).rangeAt (w.heap.size + 1 + 1) 0 ([.int .i64 dk, .int .i64 dn, .int .i64 tk, .bool tn, .int .i64 lk, .int .i64 la, .int .i64 lb, .int .i64 ln, .int .i64 rk, .int .i64 ra, .int .i64 rb, .int .i64 rn, .slice (some ca') nc nc, .int .i64 dda, .int .i64 ddb, .slice (some ka') nk nk, .int .i64 dg, .int .i64 dc', .slice (some da') nd nd] : List Value)) := range_blk (vs := #[.int .i64 dk, .int .i64 dn, .int .i64 tk, .bool tn, .int .i64 lk, .int .i64 la, .int .i64 lb, .int .i64 ln, .int .i64 rk, .int .i64 ra, .int .i64 rb, .int .i64 rn, .slice (some ca') nc nc, .int .i64 dda, .int .i64 ddb, .slice (some ka') nk nk, .int .i64 dg, .int .i64 dc', .slice (some da') nd nd]) (blk_same HO.out)
  have HT5 : Hid ((w4.setCell ⟨w.heap.size + 1 + 1, 18, none⟩ (.slice (some da') nd nd)).there (w.heap.size + 1) 0 (#[.int .i64 dk, .int .i64 dn, .int .i64 tk, .bool tn, .int .i64 lk, .int .i64 la, .int .i64 lb, .int .i64 ln, .int .i64 rk, .int .i64 ra, .int .i64 rb, .int .i64 rn, .slice (some ca') nc nc, .int .i64 dda, .int .i64 ddb, .slice (some ka') nk nk, .int .i64 dg, .int .i64 dc', .slice (some da') nd nd] : Array Value).size) := there_blk (vs := #[.int .i64 0, .int .i64 0, .int .i64 0, .bool false, .int .i64 0, .int .i64 0, .int .i64 0, .int .i64 0, .int .i64 0, .int .i64 0, .int .i64 0, .int .i64 0, .slice none 0 0, .int .i64 0, .int .i64 0, .slice none 0 0, .int .i64 0, .int .i64 0, .slice none 0 0]) (blk_other HR.out (by omega))
  have hil : (Try.prog.info? 45).map (·.size) = some ([.int .i64 dk, .int .i64 dn, .int .i64 tk, .bool tn, .int .i64 lk, .int .i64 la, .int .i64 lb, .int .i64 ln, .int .i64 rk, .int .i64 ra, .int .i64 rb, .int .i64 rn, .slice (some ca') nc nc, .int .i64 dda, .int .i64 ddb, .slice (some ka') nk nk, .int .i64 dg, .int .i64 dc', .slice (some da') nd nd] : List Value).length := by kernel_rfl
  have hii : (Try.prog.info? 45).map (·.size) = some (#[.int .i64 dk, .int .i64 dn, .int .i64 tk, .bool tn, .int .i64 lk, .int .i64 la, .int .i64 lb, .int .i64 ln, .int .i64 rk, .int .i64 ra, .int .i64 rb, .int .i64 rn, .slice (some ca') nc nc, .int .i64 dda, .int .i64 ddb, .slice (some ka') nk nk, .int .i64 dg, .int .i64 dc', .slice (some da') nd nd] : Array Value).size := by kernel_rfl
  have H1 : Hid ((#[.int .i64 dk, .int .i64 dn, .int .i64 tk, .bool tn, .int .i64 lk, .int .i64 la, .int .i64 lb, .int .i64 ln, .int .i64 rk, .int .i64 ra, .int .i64 rb, .int .i64 rn, .slice (some ca') nc nc, .int .i64 dda, .int .i64 ddb, .slice (some ka') nk nk, .int .i64 dg, .int .i64 dc', .slice (some da') nd nd] : Array Value).all (·.oneCell') = true) := one19 ⟨dk, dn, ⟨tk, tn, ⟨lk, la, lb, ln⟩, ⟨rk, ra, rb, rn⟩⟩, dcs, dda, ddb, dks, dg, dc'⟩ _ _ _ rfl rfl rfl
  go_wp2_with (first | (refine wpList_load_mid rfl 45 _ rfl (w.heap.size + 1 + 1) 0 rfl _ _ HR5.out Try.underlying45 rfl hil ?_) | (refine wpList_store_mid rfl 45 _ _ rfl (w.heap.size + 1) 0 #[.int .i64 dk, .int .i64 dn, .int .i64 tk, .bool tn, .int .i64 lk, .int .i64 la, .int .i64 lb, .int .i64 ln, .int .i64 rk, .int .i64 ra, .int .i64 rb, .int .i64 rn, .slice (some ca') nc nc, .int .i64 dda, .int .i64 ddb, .slice (some ka') nk nk, .int .i64 dg, .int .i64 dc', .slice (some da') nd nd] rfl rfl ?_ hii H1.out ?_))
  · exact HT5.out
  refine bodyPost_ret (v := .agg #[.int .i64 dk, .int .i64 dn, .int .i64 tk, .bool tn, .int .i64 lk, .int .i64 la, .int .i64 lb, .int .i64 ln, .int .i64 rk, .int .i64 ra, .int .i64 rb, .int .i64 rn, .slice (some ca') nc nc, .int .i64 dda, .int .i64 ddb, .slice (some ka') nk nk, .int .i64 dg, .int .i64 dc', .slice (some da') nd nd]) (results_cell (a := 2) (t := 45) (ad := ⟨w.heap.size + 1, 0, none⟩) Try.results20 (by simp [Act.put]) ?hload) (by simp [Act.put]) ⟨ca', ka', da', rfl, ?hup, ?hbelow⟩
  case hload => exact run_loadVar_mid (P := Try.prog) _ (w.heap.size + 1) 0 45 [.int .i64 dk, .int .i64 dn, .int .i64 tk, .bool tn, .int .i64 lk, .int .i64 la, .int .i64 lb, .int .i64 ln, .int .i64 rk, .int .i64 ra, .int .i64 rb, .int .i64 rn, .slice (some ca') nc nc, .int .i64 dda, .int .i64 ddb, .slice (some ka') nk nk, .int .i64 dg, .int .i64 dc', .slice (some da') nd nd] _ (World.rangeAt_setCells_same _ _ _ _ HT5.out) Try.underlying45 rfl hil
  case hup =>
    intro x hx
    have hx2 : Ab (w.heap.size + 1 + 1 + 1) w4 x := Ab.trans (Ab.trans (ab_setCell (Ab.refl _ _) (Nat.lt_succ_self _)) (ab_setCells _ _ _ _ (by omega))) (hx.mono (by omega))
    exact ⟨HPV.out x _ _ _ (HUC.out x hx2) (HUK.out x hx2) (HUD.out x hx2).1, (HUD.out x hx2).2⟩
  case hbelow => exact bel_setCells _ _ _ _ (HB.out.setCell (Nat.le_succ_of_le (Nat.le_succ _)) _) (Nat.le_succ _)

theorem toPlan_anyU : ∀ n, CpOk n
  | 0 => toPlan_step 0 (toPlanS_of 0 fun m h => by omega)
  | n + 1 => toPlan_step (n + 1) (toPlanS_of (n + 1) fun m h => by obtain rfl : n = m := by omega
                                                                   exact toPlan_anyU n)
/-- The contract of toPlan, the blocks aside. -/
theorem toPlan_any (n : Nat) : ∀ (p : Pl (n + 1)) (vc vk vd : Value) (w : World), PlanV (n + 1) w p vc vk vd → Pl.sz (n + 1) p ≤ 1048576 →
  Calls Try.prog 20 #[.agg #[.int .i64 p.nd.k, .int .i64 p.nd.n, .int .i64 p.nd.t.k, .bool p.nd.t.no, .int .i64 p.nd.t.l.k, .int .i64 p.nd.t.l.a, .int .i64 p.nd.t.l.b, .int .i64 p.nd.t.l.n, .int .i64 p.nd.t.r.k, .int .i64 p.nd.t.r.a, .int .i64 p.nd.t.r.b, .int .i64 p.nd.t.r.n, vc, .int .i64 p.nd.a, .int .i64 p.nd.b, vk, .int .i64 p.nd.g, .int .i64 p.nd.c, vd]] w fun e w' => ∃ ca ka da, e = .returned (.agg #[.int .i64 p.nd.k, .int .i64 p.nd.n, .int .i64 p.nd.t.k, .bool p.nd.t.no, .int .i64 p.nd.t.l.k, .int .i64 p.nd.t.l.a, .int .i64 p.nd.t.l.b, .int .i64 p.nd.t.l.n, .int .i64 p.nd.t.r.k, .int .i64 p.nd.t.r.a, .int .i64 p.nd.t.r.b, .int .i64 p.nd.t.r.n, .slice (some ca) p.nd.cs.length p.nd.cs.length, .int .i64 p.nd.a, .int .i64 p.nd.b, .slice (some ka) p.nd.ks.length p.nd.ks.length, .int .i64 p.nd.g, .int .i64 p.nd.c, .slice (some da) p.kids.length p.kids.length]) ∧ Up w.heap.size w' (fun x => PlanV (n + 1) x p (.slice (some ca) p.nd.cs.length p.nd.cs.length) (.slice (some ka) p.nd.ks.length p.nd.ks.length) (.slice (some da) p.kids.length p.kids.length)) ∧ Below w.heap.size w w' := by
  intro p vc vk vd w hp hl
  refine (toPlan_anyU n p vc vk vd w hp hl).mono ?_
  rintro e w' ⟨ca, ka, da, he, hup, hb⟩
  exact ⟨ca, ka, da, he, fun x hx => (hup x hx).1, hb⟩

end Go.Proofs.Ytfmgohoddaobmaa
