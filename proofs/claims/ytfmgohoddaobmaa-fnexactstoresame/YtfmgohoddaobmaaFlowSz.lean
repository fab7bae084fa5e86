/-
  The contracts of laws.szFlowS and szFlow: what is left behind a flow, or a number below 0.
-/
import Derived.Test.YtfmgohoddaobmaaFlowMem
namespace Go.Proofs.Ytfmgohoddaobmaa.Fw
set_option maxRecDepth 100000
open Go.RowKit
set_option linter.unusedVariables false
set_option linter.unusedSimpArgs false
variable {D : Nat}

theorem planV_shapes {n : Nat} {w : World} {p : Pl (n + 1)} {vc vk vd : Value} (h : PlanV (n + 1) w p vc vk vd) : (∃ a n c, vc = .slice a n c) ∧ (∃ a n c, vk = .slice a n c) ∧ (∃ a n c, vd = .slice a n c) := by
  obtain ⟨⟨-, a, c, rfl, -⟩, ⟨-, a2, c2, rfl, -⟩, ⟨-, a3, c3, rfl, -⟩⟩ := h
  exact ⟨⟨_, _, _, rfl⟩, ⟨_, _, _, rfl⟩, ⟨_, _, _, rfl⟩⟩
theorem FKidsV.shapeN {α : Type} {N : World → Nat → Nat → α → Prop} {w : World} {v : Value} {l : List α} (h : FKidsV N w v l) : ∃ a n c, v = .slice a n c := by
  obtain ⟨-, a, c, rfl, -⟩ := h
  exact ⟨_, _, _, rfl⟩
theorem ff_blk {w : World} {b : Nat} {x : FN D} {vc vk vd vl vr vf : Value} {t : TypeId} (h : w.heap[b]? = some (.cells #[.int .i64 x.p.nd.k, .int .i64 x.p.nd.n, .int .i64 x.p.nd.t.k, .bool x.p.nd.t.no, .int .i64 x.p.nd.t.l.k, .int .i64 x.p.nd.t.l.a, .int .i64 x.p.nd.t.l.b, .int .i64 x.p.nd.t.l.n, .int .i64 x.p.nd.t.r.k, .int .i64 x.p.nd.t.r.a, .int .i64 x.p.nd.t.r.b, .int .i64 x.p.nd.t.r.n, vc, .int .i64 x.p.nd.a, .int .i64 x.p.nd.b, vk, .int .i64 x.p.nd.g, .int .i64 x.p.nd.c, vd, vl, vr, vf] t)) : FFields w b 0 x vc vk vd vl vr vf :=
  ⟨⟨cell_at h rfl, cell_at h rfl, cell_at h rfl, cell_at h rfl, cell_at h rfl, cell_at h rfl, cell_at h rfl, cell_at h rfl, cell_at h rfl, cell_at h rfl, cell_at h rfl, cell_at h rfl, cell_at h rfl, cell_at h rfl, cell_at h rfl, cell_at h rfl, cell_at h rfl, cell_at h rfl, cell_at h rfl⟩, cell_at h rfl, cell_at h rfl, cell_at h rfl⟩
theorem one_range {w : World} {b o : Nat} {v : Value} (h : w.cell? ⟨b, o, none⟩ = some v) : w.rangeAt b o [v] := by
  intro j u hu
  match j, hu with
  | 0, hu => simp at hu; subst hu; exact h
  | n + 1, hu => simp at hu

/-- The contract of szFlow at flows that are not deeper than so. -/
def SzF (D n : Nat) : Prop := ∀ (p : Fl D (n + 1)) (vc vk vd vl vr vf : Value) (l : Int) (w : World), FlowV (n + 1) w p vc vk vd vl vr vf → 0 ≤ l → l ≤ 1048576 →
  Calls Try.prog 5 #[.agg #[.int .i64 p.nd.p.nd.k, .int .i64 p.nd.p.nd.n, .int .i64 p.nd.p.nd.t.k, .bool p.nd.p.nd.t.no, .int .i64 p.nd.p.nd.t.l.k, .int .i64 p.nd.p.nd.t.l.a, .int .i64 p.nd.p.nd.t.l.b, .int .i64 p.nd.p.nd.t.l.n, .int .i64 p.nd.p.nd.t.r.k, .int .i64 p.nd.p.nd.t.r.a, .int .i64 p.nd.p.nd.t.r.b, .int .i64 p.nd.p.nd.t.r.n, vc, .int .i64 p.nd.p.nd.a, .int .i64 p.nd.p.nd.b, vk, .int .i64 p.nd.p.nd.g, .int .i64 p.nd.p.nd.c, vd, vl, vr, vf], .int .i64 l] w fun e w' => ∃ r : Int, e = .returned (.int .i64 r) ∧ (r < 0 ∨ (0 ≤ r ∧ r = l - (Fl.sz (n + 1) p : Int))) ∧ Below w.heap.size w w'
/-- The contract of szFlowS at kids that are not deeper than so. -/
def SzFS (D n : Nat) : Prop := ∀ (l : List (Fl D n)) (v : Value) (lf : Int) (w : World), FKidsV (FNodeAt n) w v l → 0 ≤ lf → lf ≤ 1048576 →
  Calls Try.prog 17 #[v, .int .i64 lf] w fun e w' => ∃ r : Int, e = .returned (.int .i64 r) ∧ (r < 0 ∨ (0 ≤ r ∧ r = lf - ((l.length + kidsSz n l : Nat) : Int))) ∧ Below w.heap.size w w'

set_option maxHeartbeats 2000000 in
theorem szFlowS_none (a : Option Addr) (cap : Nat) (l : Int) (w : World) (h0 : 0 ≤ l) (h1 : l ≤ 1048576) :
    Calls Try.prog 17 #[.slice a 0 cap, .int .i64 l] w fun e w' => e = .returned (.int .i64 l) ∧ w' = w := by
  go_enter Try.func17, Try.ntmps17
  go_wp2
  refine wp_loop_rounds 1 ?_
  rw [rounds_succ]
  go_wp2
  go_ret
  exact ⟨rfl, rfl⟩

set_option maxHeartbeats 4000000 in
theorem szFlowS_some (n : Nat) (IH : SzF D n) (b off cap : Nat) (l : List (Fl D (n + 1))) (lf : Int) (w : World) (h0 : 0 ≤ lf) (h1 : lf ≤ 1048576) (hpos : 0 < l.length) (hlim : l.length ≤ 9223372036854775807) (hbw : b < w.heap.size)
    (hk : ∀ j (hj : j < l.length), FNodeAt (n + 1) w b (off + j * 22) l[j]) :
    Calls Try.prog 17 #[.slice (some ⟨b, off, none⟩) l.length cap, .int .i64 lf] w fun e w' => ∃ r : Int, e = .returned (.int .i64 r) ∧ (r < 0 ∨ (0 ≤ r ∧ r = lf - ((l.length + kidsSz (n + 1) l : Nat) : Int))) ∧ Below w.heap.size w w' := by
  have HIH : Hid (SzF D n) := IH
  have HK : Hid (∀ j (hj : j < l.length), FNodeAt (n + 1) w b (off + j * 22) l[j]) := hk
  obtain ⟨m, hm⟩ : ∃ m, m = l.length := ⟨_, rfl⟩
  have HM : Hid (m = l.length) := hm
  rw [← hm] at hpos hlim ⊢
  clear hm hk IH
  by_cases h : (m : Int) ≤ lf
  · have h2 : ¬ lf - (m : Int) < 0 := by omega
    have hm3 : (m : Int) ≤ 1048576 := by omega
    clear hlim
    go_enter Try.func17, Try.ntmps17
    go_wp2_with fail
    go_loopw [1, 5] (fun x i wr => ∃ (k : Nat) (y : Int), k ≤ m ∧ i = .int .i64 k ∧ x = .int .i64 y ∧ 0 ≤ y ∧ y ≤ 1048576 ∧ Hid (y = lf - (m : Int) - (kidsSz (n + 1) (l.take k) : Int)) ∧ Hid (Below w.heap.size w wr)) (fun _ i _ => m - (intOf i).toNat)
    case atStart => exact ⟨0, lf - (m : Int), Nat.zero_le _, rfl, rfl, by omega, by omega, by show _ = _; simp [kidsSz], Below.refl _ _⟩
    case round =>
      obtain ⟨k, y, hkm, rfl, rfl, hy0, hy1, HY, HB⟩ := hrel
      by_cases hlt : k < m
      · have hkl : k < l.length := by rw [← HM.out]; exact hlt
        obtain ⟨vc, vk, vd, vl, vr, vf, hf, hp⟩ := ffields_of (FNodeAt.below _ (HK.out k hkl) HB.out)
        obtain ⟨q, hq⟩ : ∃ q, k * 22 = q := ⟨_, rfl⟩
        rw [hq] at hf
        have HR : Hid (wr.rangeAt b (off + q) ([.int .i64 l[k].nd.p.nd.k, .int .i64 l[k].nd.p.nd.n, .int .i64 l[k].nd.p.nd.t.k, .bool l[k].nd.p.nd.t.no, .int .i64 l[k].nd.p.nd.t.l.k, .int .i64 l[k].nd.p.nd.t.l.a, .int .i64 l[k].nd.p.nd.t.l.b, .int .i64 l[k].nd.p.nd.t.l.n, .int .i64 l[k].nd.p.nd.t.r.k, .int .i64 l[k].nd.p.nd.t.r.a, .int .i64 l[k].nd.p.nd.t.r.b, .int .i64 l[k].nd.p.nd.t.r.n, vc, .int .i64 l[k].nd.p.nd.a, .int .i64 l[k].nd.p.nd.b, vk, .int .i64 l[k].nd.p.nd.g, .int .i64 l[k].nd.p.nd.c, vd, vl, vr, vf] : List Value)) := hf.range
        have hi : (Try.prog.info? 36).map (·.size) = some ([.int .i64 l[k].nd.p.nd.k, .int .i64 l[k].nd.p.nd.n, .int .i64 l[k].nd.p.nd.t.k, .bool l[k].nd.p.nd.t.no, .int .i64 l[k].nd.p.nd.t.l.k, .int .i64 l[k].nd.p.nd.t.l.a, .int .i64 l[k].nd.p.nd.t.l.b, .int .i64 l[k].nd.p.nd.t.l.n, .int .i64 l[k].nd.p.nd.t.r.k, .int .i64 l[k].nd.p.nd.t.r.a, .int .i64 l[k].nd.p.nd.t.r.b, .int .i64 l[k].nd.p.nd.t.r.n, vc, .int .i64 l[k].nd.p.nd.a, .int .i64 l[k].nd.p.nd.b, vk, .int .i64 l[k].nd.p.nd.g, .int .i64 l[k].nd.p.nd.c, vd, vl, vr, vf] : List Value).length := by kernel_rfl
        have HPV : Hid (FlowV (n + 1) wr l[k] vc vk vd vl vr vf) := hp
        have HST : Hid (kidsSz (n + 1) (l.take (k + 1)) = kidsSz (n + 1) (l.take k) + Fl.sz (n + 1) l[k]) := kidsSz_take hkl
        clear hp hf
        go_wp2_with (refine wpList_load_mid rfl 36 _ rfl b (off + q) rfl _ _ HR.out Try.underlying36 rfl hi ?_)
        refine (HIH.out l[k] vc vk vd vl vr vf y _ HPV.out hy0 hy1).mono ?_
        rintro e w2 ⟨r, rfl, hr, hb2⟩
        have HB2 : Hid (Below w.heap.size w w2) := bel_then HB.out hb2
        clear hb2 hi HR hq
        by_cases hs : r < 0
        · clear hr
          go_wp2
          go_ret
          exact ⟨-1, rfl, .inl (by omega), HB2.out⟩
        · have hz0 : 0 ≤ r := by omega
          have HZ : Hid (r = lf - (m : Int) - (kidsSz (n + 1) (l.take (k + 1)) : Int)) := by
            show _ = _
            have e1 := HY.out
            have e2 := HST.out
            omega
          have hz1 : r ≤ 1048576 := by omega
          clear hr
          go_wp2
          go_roundw
          case rel => exact ⟨k + 1, r, by omega, by go_num, rfl, hz0, hz1, HZ.out, HB2.out⟩
          case measure => simp [intOf]; omega
      · obtain rfl : k = m := by omega
        have HF : Hid (y = lf - ((k + kidsSz (n + 1) l : Nat) : Int)) := by
          show _ = _
          have e1 := HY.out
          rw [HM.out, kidsSz_all, ← HM.out] at e1
          omega
        go_wp2
        go_ret
        exact ⟨y, rfl, .inr ⟨hy0, HF.out⟩, HB.out⟩
  · have h2 : lf - (m : Int) < 0 := by omega
    go_enter Try.func17, Try.ntmps17
    go_wp2
    go_ret
    exact ⟨-1, rfl, .inl (by omega), Below.refl _ _⟩

theorem szFlowS_of (n : Nat) (h : ∀ m, n = m + 1 → SzF D m) : SzFS D n := by
  intro l v lf w hv h0 h1
  obtain ⟨hl, a, cap, rfl, _, hc⟩ := hv
  by_cases hne : l = []
  · subst hne
    refine (szFlowS_none a cap lf w h0 h1).mono fun e w' ⟨he, hw⟩ => ⟨lf, he, .inr ⟨h0, by simp [kidsSz]⟩, by rw [hw]; exact Below.refl _ _⟩
  · obtain ⟨b, off, rfl, hbw, hk⟩ := hc hne
    cases n with
    | zero => exact absurd (no_kids l) hne
    | succ n => exact szFlowS_some n (h n rfl) b off cap l lf w h0 h1 (List.length_pos_iff.2 hne) hl hbw hk

set_option maxHeartbeats 4000000 in
theorem szFlow_step (n : Nat) (IH : SzFS D n) : SzF D n := by
  intro p vc vk vd vl vr vf l w hp h0 h1
  have HIH : Hid (SzFS D n) := IH
  obtain ⟨⟨ca, nc, cc, rfl⟩, ⟨ka, nk, kc, rfl⟩, ⟨da, nd, dc, rfl⟩⟩ := planV_shapes hp.1
  obtain ⟨la, nl, lc, rfl⟩ := hp.2.1.shapeN
  obtain ⟨ra, nr, rc, rfl⟩ := hp.2.2.1.shapeN
  obtain ⟨fa, nf, fc, rfl⟩ := hp.2.2.2.shapeN
  have HP : Hid (PlanV (D + 1) w p.nd.p (.slice ca nc cc) (.slice ka nk kc) (.slice da nd dc)) := hp.1
  have HL : Hid (RawRuns w (.slice la nl lc) p.nd.l) := hp.2.1
  have HR : Hid (RawRuns w (.slice ra nr rc) p.nd.r) := hp.2.2.1
  have HK : Hid (FKidsV (FNodeAt n) w (.slice fa nf fc) p.kids) := hp.2.2.2
  have HSZ : Hid (Fl.sz (n + 1) p = Pl.sz (D + 1) p.nd.p + (p.nd.l.length + runsLen p.nd.l) + (p.nd.r.length + runsLen p.nd.r) + (p.kids.length + kidsSz n p.kids)) := by show _ = _; rfl
  clear hp IH
  obtain ⟨W, hW⟩ : ∃ W, W = w.alloc (.cells #[.int .i64 p.nd.p.nd.k, .int .i64 p.nd.p.nd.n, .int .i64 p.nd.p.nd.t.k, .bool p.nd.p.nd.t.no, .int .i64 p.nd.p.nd.t.l.k, .int .i64 p.nd.p.nd.t.l.a, .int .i64 p.nd.p.nd.t.l.b, .int .i64 p.nd.p.nd.t.l.n, .int .i64 p.nd.p.nd.t.r.k, .int .i64 p.nd.p.nd.t.r.a, .int .i64 p.nd.p.nd.t.r.b, .int .i64 p.nd.p.nd.t.r.n, .slice ca nc cc, .int .i64 p.nd.p.nd.a, .int .i64 p.nd.p.nd.b, .slice ka nk kc, .int .i64 p.nd.p.nd.g, .int .i64 p.nd.p.nd.c, .slice da nd dc, .slice la nl lc, .slice ra nr rc, .slice fa nf fc] 36) := ⟨_, rfl⟩
  have HA0 : Hid (W.heap[w.heap.size]? = some (.cells #[.int .i64 p.nd.p.nd.k, .int .i64 p.nd.p.nd.n, .int .i64 p.nd.p.nd.t.k, .bool p.nd.p.nd.t.no, .int .i64 p.nd.p.nd.t.l.k, .int .i64 p.nd.p.nd.t.l.a, .int .i64 p.nd.p.nd.t.l.b, .int .i64 p.nd.p.nd.t.l.n, .int .i64 p.nd.p.nd.t.r.k, .int .i64 p.nd.p.nd.t.r.a, .int .i64 p.nd.p.nd.t.r.b, .int .i64 p.nd.p.nd.t.r.n, .slice ca nc cc, .int .i64 p.nd.p.nd.a, .int .i64 p.nd.p.nd.b, .slice ka nk kc, .int .i64 p.nd.p.nd.g, .int .i64 p.nd.p.nd.c, .slice da nd dc, .slice la nl lc, .slice ra nr rc, .slice fa nf fc] 36)) := by show _ = _; rw [hW]; exact alloc_at _ _
  have HB0 : Hid (Below w.heap.size w W) := by show Below _ _ _; rw [hW]; exact bel_alloc _
  have HR0 : Hid (W.rangeAt w.heap.size 0 [.int .i64 p.nd.p.nd.k, .int .i64 p.nd.p.nd.n, .int .i64 p.nd.p.nd.t.k, .bool p.nd.p.nd.t.no, .int .i64 p.nd.p.nd.t.l.k, .int .i64 p.nd.p.nd.t.l.a, .int .i64 p.nd.p.nd.t.l.b, .int .i64 p.nd.p.nd.t.l.n, .int .i64 p.nd.p.nd.t.r.k, .int .i64 p.nd.p.nd.t.r.a, .int .i64 p.nd.p.nd.t.r.b, .int .i64 p.nd.p.nd.t.r.n, .slice ca nc cc, .int .i64 p.nd.p.nd.a, .int .i64 p.nd.p.nd.b, .slice ka nk kc, .int .i64 p.nd.p.nd.g, .int .i64 p.nd.p.nd.c, .slice da nd dc]) := (ff_blk HA0.out).1.range
  have hil : (Try.prog.info? 30).map (·.size) = some ([.int .i64 p.nd.p.nd.k, .int .i64 p.nd.p.nd.n, .int .i64 p.nd.p.nd.t.k, .bool p.nd.p.nd.t.no, .int .i64 p.nd.p.nd.t.l.k, .int .i64 p.nd.p.nd.t.l.a, .int .i64 p.nd.p.nd.t.l.b, .int .i64 p.nd.p.nd.t.l.n, .int .i64 p.nd.p.nd.t.r.k, .int .i64 p.nd.p.nd.t.r.a, .int .i64 p.nd.p.nd.t.r.b, .int .i64 p.nd.p.nd.t.r.n, .slice ca nc cc, .int .i64 p.nd.p.nd.a, .int .i64 p.nd.p.nd.b, .slice ka nk kc, .int .i64 p.nd.p.nd.g, .int .i64 p.nd.p.nd.c, .slice da nd dc] : List Value).length := by kernel_rfl
  have hsl : (Try.prog.info? 33).map (·.size) = some ([.slice la nl lc] : List Value).length := by kernel_rfl
  have hsr : (Try.prog.info? 33).map (·.size) = some ([.slice ra nr rc] : List Value).length := by kernel_rfl
  have hW' := hW.symm
  clear hW
  go_enter Try.func5, Try.ntmps5
  go_wp2_with (refine wpList_load_mid rfl 30 _ rfl w.heap.size 0 rfl [.int .i64 p.nd.p.nd.k, .int .i64 p.nd.p.nd.n, .int .i64 p.nd.p.nd.t.k, .bool p.nd.p.nd.t.no, .int .i64 p.nd.p.nd.t.l.k, .int .i64 p.nd.p.nd.t.l.a, .int .i64 p.nd.p.nd.t.l.b, .int .i64 p.nd.p.nd.t.l.n, .int .i64 p.nd.p.nd.t.r.k, .int .i64 p.nd.p.nd.t.r.a, .int .i64 p.nd.p.nd.t.r.b, .int .i64 p.nd.p.nd.t.r.n, .slice ca nc cc, .int .i64 p.nd.p.nd.a, .int .i64 p.nd.p.nd.b, .slice ka nk kc, .int .i64 p.nd.p.nd.g, .int .i64 p.nd.p.nd.c, .slice da nd dc] _ HR0.out Try.underlying30 rfl hil ?_)
  clear hW'
  refine (szPlan_any D p.nd.p _ _ _ l _ (PlanV.below HP.out HB0.out) h0 h1).mono ?_
  rintro e w1 ⟨rfl, hb⟩
  have HA1 : Hid (w1.heap[w.heap.size]? = some (.cells #[.int .i64 p.nd.p.nd.k, .int .i64 p.nd.p.nd.n, .int .i64 p.nd.p.nd.t.k, .bool p.nd.p.nd.t.no, .int .i64 p.nd.p.nd.t.l.k, .int .i64 p.nd.p.nd.t.l.a, .int .i64 p.nd.p.nd.t.l.b, .int .i64 p.nd.p.nd.t.l.n, .int .i64 p.nd.p.nd.t.r.k, .int .i64 p.nd.p.nd.t.r.a, .int .i64 p.nd.p.nd.t.r.b, .int .i64 p.nd.p.nd.t.r.n, .slice ca nc cc, .int .i64 p.nd.p.nd.a, .int .i64 p.nd.p.nd.b, .slice ka nk kc, .int .i64 p.nd.p.nd.g, .int .i64 p.nd.p.nd.c, .slice da nd dc, .slice la nl lc, .slice ra nr rc, .slice fa nf fc] 36)) := at_below HA0.out hb
  have HB1 : Hid (Below w.heap.size w w1) := bel_then HB0.out hb
  have HRL : Hid (w1.rangeAt w.heap.size 19 [.slice la nl lc]) := one_range (ff_blk HA1.out).2.1
  clear hb
  by_cases g1 : (Pl.sz (D + 1) p.nd.p : Int) ≤ l
  case neg =>
    rw [left_no g1]
    clear g1
    go_wp2
    go_ret
    exact ⟨-1, rfl, .inl (by omega), HB1.out⟩
  rw [left_yes g1]
  obtain ⟨x, hx⟩ : ∃ x, x = l - (Pl.sz (D + 1) p.nd.p : Int) := ⟨_, rfl⟩
  rw [← hx]
  have hx0 : 0 ≤ x := by omega
  have hx1 : x ≤ 1048576 := by omega
  have hx2 : ¬ x < 0 := by omega
  have HX : Hid (x = l - (Pl.sz (D + 1) p.nd.p : Int)) := hx
  clear hx g1
  go_wp2_with (refine wpList_load_mid rfl 33 _ rfl w.heap.size 19 rfl [.slice la nl lc] _ HRL.out Try.underlying33 rfl hsl ?_)
  refine (szSpine_any _ p.nd.l x _ (HL.out.below HB1.out) hx0 hx1).mono ?_
  rintro e w2 ⟨y, rfl, hr, hb⟩
  have HY : Hid (y < 0 ∨ (0 ≤ y ∧ y = x - p.nd.l.length - runsLen p.nd.l)) := hr
  have HA2 : Hid (w2.heap[w.heap.size]? = some (.cells #[.int .i64 p.nd.p.nd.k, .int .i64 p.nd.p.nd.n, .int .i64 p.nd.p.nd.t.k, .bool p.nd.p.nd.t.no, .int .i64 p.nd.p.nd.t.l.k, .int .i64 p.nd.p.nd.t.l.a, .int .i64 p.nd.p.nd.t.l.b, .int .i64 p.nd.p.nd.t.l.n, .int .i64 p.nd.p.nd.t.r.k, .int .i64 p.nd.p.nd.t.r.a, .int .i64 p.nd.p.nd.t.r.b, .int .i64 p.nd.p.nd.t.r.n, .slice ca nc cc, .int .i64 p.nd.p.nd.a, .int .i64 p.nd.p.nd.b, .slice ka nk kc, .int .i64 p.nd.p.nd.g, .int .i64 p.nd.p.nd.c, .slice da nd dc, .slice la nl lc, .slice ra nr rc, .slice fa nf fc] 36)) := at_below HA1.out hb
  have HB2 : Hid (Below w.heap.size w w2) := bel_then HB1.out hb
  have HRR : Hid (w2.rangeAt w.heap.size 20 [.slice ra nr rc]) := one_range (ff_blk HA2.out).2.2.1
  clear hb hr
  by_cases g2 : y < 0
  · go_wp2
    go_ret
    exact ⟨-1, rfl, .inl (by omega), HB2.out⟩
  have hy0 : 0 ≤ y := by omega
  have hy1 : y ≤ 1048576 := by have := HY.out; omega
  go_wp2_with (refine wpList_load_mid rfl 33 _ rfl w.heap.size 20 rfl [.slice ra nr rc] _ HRR.out Try.underlying33 rfl hsr ?_)
  refine (szSpine_any _ p.nd.r y _ (HR.out.below HB2.out) hy0 hy1).mono ?_
  rintro e w3 ⟨z, rfl, hr, hb⟩
  have HZ : Hid (z < 0 ∨ (0 ≤ z ∧ z = y - p.nd.r.length - runsLen p.nd.r)) := hr
  have HA3 : Hid (w3.heap[w.heap.size]? = some (.cells #[.int .i64 p.nd.p.nd.k, .int .i64 p.nd.p.nd.n, .int .i64 p.nd.p.nd.t.k, .bool p.nd.p.nd.t.no, .int .i64 p.nd.p.nd.t.l.k, .int .i64 p.nd.p.nd.t.l.a, .int .i64 p.nd.p.nd.t.l.b, .int .i64 p.nd.p.nd.t.l.n, .int .i64 p.nd.p.nd.t.r.k, .int .i64 p.nd.p.nd.t.r.a, .int .i64 p.nd.p.nd.t.r.b, .int .i64 p.nd.p.nd.t.r.n, .slice ca nc cc, .int .i64 p.nd.p.nd.a, .int .i64 p.nd.p.nd.b, .slice ka nk kc, .int .i64 p.nd.p.nd.g, .int .i64 p.nd.p.nd.c, .slice da nd dc, .slice la nl lc, .slice ra nr rc, .slice fa nf fc] 36)) := at_below HA2.out hb
  have HB3 : Hid (Below w.heap.size w w3) := bel_then HB2.out hb
  have ck : w3.cell? ⟨w.heap.size, 21, none⟩ = some (.slice fa nf fc) := (ff_blk HA3.out).2.2.2
  clear hb hr
  by_cases g3 : z < 0
  · go_wp2
    go_ret
    exact ⟨-1, rfl, .inl (by omega), HB3.out⟩
  have hz0 : 0 ≤ z := by omega
  have hz1 : z ≤ 1048576 := by have := HZ.out; omega
  go_wp2_with fail
  refine (HIH.out p.kids _ z _ (HK.out.below HB3.out fun b o u hu => FNodeAt.below n hu HB3.out) hz0 hz1).mono ?_
  rintro e w4 ⟨u, rfl, hr, hb⟩
  have HB4 : Hid (Below w.heap.size w w4) := bel_then HB3.out hb
  have HU : Hid (u < 0 ∨ (0 ≤ u ∧ u = z - ((p.kids.length + kidsSz n p.kids : Nat) : Int))) := hr
  clear hb hr ck
  by_cases g4 : u < 0
  · go_wp2
    go_ret
    exact ⟨-1, rfl, .inl (by omega), HB4.out⟩
  have HF : Hid (0 ≤ u ∧ u = l - (Fl.sz (n + 1) p : Int)) := by
    show _ ∧ _
    have e1 := HX.out
    have e2 := HY.out
    have e3 := HZ.out
    have e4 := HU.out
    rw [HSZ.out]
    omega
  go_wp2
  go_ret
  exact ⟨u, rfl, .inr HF.out, HB4.out⟩

theorem szFlow_any : ∀ n, SzF D n
  | 0 => szFlow_step 0 (szFlowS_of 0 fun m h => by omega)
  | n + 1 => szFlow_step (n + 1) (szFlowS_of (n + 1) fun m h => by obtain rfl : n = m := by omega
                                                                   exact szFlow_any n)

end Go.Proofs.Ytfmgohoddaobmaa.Fw
