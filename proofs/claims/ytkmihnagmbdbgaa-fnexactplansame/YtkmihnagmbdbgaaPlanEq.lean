/-
  The contracts of laws.eqCell, eqTest, eqCellS, eqPlanS and eqPlan at what is the same: true.
-/
import Derived.Test.YtkmihnagmbdbgaaPlanCopy3
import Derived.Deep.RegionHeld3
namespace Go.Proofs.Ytkmihnagmbdbgaa
set_option maxRecDepth 100000
open Go.RowKit
set_option linter.unusedVariables false
set_option linter.unusedSimpArgs false

set_option maxHeartbeats 1000000 in
theorem eqCell_exact (c : Cel) (w : World) :
    Calls Try.prog 28 #[.agg #[.int .i64 c.k, .int .i64 c.a, .int .i64 c.b, .int .i64 c.n], .agg #[.int .i64 c.k, .int .i64 c.a, .int .i64 c.b, .int .i64 c.n]] w fun e w' => e = .returned (.bool true) ∧ w' = (w.alloc (.cells #[.int .i64 c.k, .int .i64 c.a, .int .i64 c.b, .int .i64 c.n] 33)).alloc (.cells #[.int .i64 c.k, .int .i64 c.a, .int .i64 c.b, .int .i64 c.n] 33) := by
  obtain ⟨k, a, b, n⟩ := c
  simp only
  go_enter Try.func28, Try.ntmps28
  go_wp2
  go_ret
  exact ⟨rfl, rfl⟩
theorem eqCell_same (c : Cel) (w : World) :
    Calls Try.prog 28 #[.agg #[.int .i64 c.k, .int .i64 c.a, .int .i64 c.b, .int .i64 c.n], .agg #[.int .i64 c.k, .int .i64 c.a, .int .i64 c.b, .int .i64 c.n]] w fun e w' => e = .returned (.bool true) ∧ Below w.heap.size w w' :=
  (eqCell_exact c w).mono fun e w' ⟨he, hw⟩ => ⟨he, by rw [hw]; exact bel_then (bel_alloc _) (bel_alloc _)⟩

set_option maxHeartbeats 1000000 in
theorem eqTest_same (t : Tst) (w : World) :
    Calls Try.prog 20 #[.agg #[.int .i64 t.k, .bool t.no, .int .i64 t.l.k, .int .i64 t.l.a, .int .i64 t.l.b, .int .i64 t.l.n, .int .i64 t.r.k, .int .i64 t.r.a, .int .i64 t.r.b, .int .i64 t.r.n], .agg #[.int .i64 t.k, .bool t.no, .int .i64 t.l.k, .int .i64 t.l.a, .int .i64 t.l.b, .int .i64 t.l.n, .int .i64 t.r.k, .int .i64 t.r.a, .int .i64 t.r.b, .int .i64 t.r.n]] w fun e w' => e = .returned (.bool true) ∧ Below w.heap.size w w' := by
  obtain ⟨k, no, l, r⟩ := t
  simp only
  go_enter Try.func20, Try.ntmps20
  go_wp2_with fail
  refine (eqCell_exact l _).mono ?_
  rintro e w1 ⟨rfl, rfl⟩
  go_wp2_with fail
  refine (eqCell_exact r _).mono ?_
  rintro e w1 ⟨rfl, rfl⟩
  go_wp2
  go_ret
  refine ⟨rfl, ?_⟩
  repeat (first | exact bel_alloc _ | refine bel_then ?_ (bel_alloc _))

theorem range_below {w w' : World} {b o : Nat} {cs : List Value} (h : w.rangeAt b o cs) (hb : Below w.heap.size w w') (hl : b < w.heap.size) : w'.rangeAt b o cs := fun j v hv => (hb.cell (p := ⟨b, o + j, none⟩) hl).trans (h j v hv)

set_option maxHeartbeats 1000000 in
theorem eqCellS_none (a a2 : Option Addr) (cap cap2 : Nat) (w : World) :
    Calls Try.prog 21 #[.slice a 0 cap, .slice a2 0 cap2] w fun e w' => e = .returned (.bool true) ∧ Below w.heap.size w w' := by
  go_enter Try.func21, Try.ntmps21
  go_wp2
  refine wp_loop_rounds 1 ?_
  rw [rounds_succ]
  go_wp2
  go_ret
  exact ⟨rfl, Below.refl _ _⟩

set_option maxHeartbeats 1000000 in
theorem eqCellS_some (b off cap b2 off2 cap2 : Nat) (cs : List Cel) (w : World) (hpos : 0 < cs.length) (hlim : cs.length ≤ 1048576) (hbw : b < w.heap.size) (hbw2 : b2 < w.heap.size)
    (hc : ∀ j, j < cs.length → Cell4 w b (off + j * 4) (cs.getD j Cel.zero)) (hc2 : ∀ j, j < cs.length → Cell4 w b2 (off2 + j * 4) (cs.getD j Cel.zero)) :
    Calls Try.prog 21 #[.slice (some ⟨b, off, none⟩) cs.length cap, .slice (some ⟨b2, off2, none⟩) cs.length cap2] w fun e w' => e = .returned (.bool true) ∧ Below w.heap.size w w' := by
  obtain ⟨n, hn⟩ : ∃ n, n = cs.length := ⟨_, rfl⟩
  rw [← hn] at hpos hlim hc hc2 ⊢
  clear hn
  have HC : Hid (∀ j, j < n → Cell4 w b (off + j * 4) (cs.getD j Cel.zero)) := hc
  have HC2 : Hid (∀ j, j < n → Cell4 w b2 (off2 + j * 4) (cs.getD j Cel.zero)) := hc2
  clear hc hc2
  go_enter Try.func21, Try.ntmps21
  go_wp2
  go_loopw [5] (fun i wr => ∃ k : Nat, k ≤ n ∧ i = .int .i64 k ∧ Hid (Below w.heap.size w wr)) (fun i _ => n - (intOf i).toNat)
  case atStart => exact ⟨0, Nat.zero_le _, rfl, Below.refl _ _⟩
  case round =>
    obtain ⟨k, hk, rfl, HB⟩ := hrel
    by_cases hlt : k < n
    · have h4 : Cell4 wr b (off + k * 4) (cs.getD k Cel.zero) := (HC.out k hlt).below HB.out hbw
      have h5 : Cell4 wr b2 (off2 + k * 4) (cs.getD k Cel.zero) := (HC2.out k hlt).below HB.out hbw2
      obtain ⟨c, hcc⟩ : ∃ c, cs.getD k Cel.zero = c := ⟨_, rfl⟩
      rw [hcc] at h4 h5
      clear hcc
      obtain ⟨q, hq⟩ : ∃ q, k * 4 = q := ⟨_, rfl⟩
      rw [hq] at h4 h5
      have HR : Hid (wr.rangeAt b (off + q) ([.int .i64 c.k, .int .i64 c.a, .int .i64 c.b, .int .i64 c.n] : List Value)) := h4.range
      have HR2 : Hid (wr.rangeAt b2 (off2 + q) ([.int .i64 c.k, .int .i64 c.a, .int .i64 c.b, .int .i64 c.n] : List Value)) := h5.range
      have hii : (Try.prog.info? 33).map (·.size) = some ([.int .i64 c.k, .int .i64 c.a, .int .i64 c.b, .int .i64 c.n] : List Value).length := by kernel_rfl
      clear h4 h5
      have HS1 : Hid (b < wr.heap.size) := Nat.lt_of_lt_of_le hbw HB.out.size
      have HS2 : Hid (b2 < wr.heap.size) := Nat.lt_of_lt_of_le hbw2 HB.out.size
      go_wp2_with fail
      refine wp_region_held_drew (S := (fun x => x.rangeAt b (off + q) ([.int .i64 c.k, .int .i64 c.a, .int .i64 c.b, .int .i64 c.n] : List Value) ∧ x.rangeAt b2 (off2 + q) ([.int .i64 c.k, .int .i64 c.a, .int .i64 c.b, .int .i64 c.n] : List Value))) (by kernel_rfl) ?_ (fun hHeld => ?_)
      · (try dsimp only); exact ⟨HR.out, HR2.out⟩
      refine wpAnyH_take (i := 0) (v := ?_) rfl (by kernel_rfl) (by kernel_rfl) (by kernel_rfl) (fun _ _ _ h => h) (Or.inl ⟨by rfl, ?_⟩) (by assumption) ?_
      rotate_left 1
      · intro w hSw; (try dsimp only at hSw); go_simp; try with_reducible rfl
      simp only [Act.put, List.getElem_toArray, List.getElem_cons_succ, List.getElem_cons_zero, List.setIfInBounds_toArray, List.set_cons_zero, List.set_cons_succ]
      refine wpAnyH_take (i := 1) (v := ?_) rfl (by kernel_rfl) (by kernel_rfl) (by kernel_rfl) (fun _ _ _ h => h) (Or.inl ⟨by rfl, ?_⟩) (by assumption) ?_
      rotate_left 1
      · intro w hSw; (try dsimp only at hSw); go_simp; try with_reducible rfl
      simp only [Act.put, List.getElem_toArray, List.getElem_cons_succ, List.getElem_cons_zero, List.setIfInBounds_toArray, List.set_cons_zero, List.set_cons_succ]
      refine wpAnyH_take (i := 2) (v := ?_) rfl (by kernel_rfl) (by kernel_rfl) (by kernel_rfl) (fun _ _ _ h => h) (Or.inl ⟨by rfl, ?_⟩) (by assumption) ?_
      rotate_left 1
      · intro w hSw; (try dsimp only at hSw); go_simp; try with_reducible rfl
      simp only [Act.put, List.getElem_toArray, List.getElem_cons_succ, List.getElem_cons_zero, List.setIfInBounds_toArray, List.set_cons_zero, List.set_cons_succ]
      refine wpAnyH_take (i := 3) (v := .agg ([.int .i64 c.k, .int .i64 c.a, .int .i64 c.b, .int .i64 c.n] : List Value).toArray) rfl (by kernel_rfl) (by kernel_rfl) (by kernel_rfl) (fun _ _ _ h => h) (yieldsIf_load_mid (by rfl) 33 _ rfl b (off + q) rfl [.int .i64 c.k, .int .i64 c.a, .int .i64 c.b, .int .i64 c.n] _ (fun x h => h.1) Try.underlying33 rfl hii) (by assumption) ?_
      simp only [Act.put, List.getElem_toArray, List.getElem_cons_succ, List.getElem_cons_zero, List.setIfInBounds_toArray, List.set_cons_zero, List.set_cons_succ]
      refine wpAnyH_take (i := 4) (v := ?_) rfl (by kernel_rfl) (by kernel_rfl) (by kernel_rfl) (fun _ _ _ h => h) (Or.inl ⟨by rfl, ?_⟩) (by assumption) ?_
      rotate_left 1
      · intro w hSw; (try dsimp only at hSw); go_simp; try with_reducible rfl
      simp only [Act.put, List.getElem_toArray, List.getElem_cons_succ, List.getElem_cons_zero, List.setIfInBounds_toArray, List.set_cons_zero, List.set_cons_succ]
      refine wpAnyH_take (i := 5) (v := ?_) rfl (by kernel_rfl) (by kernel_rfl) (by kernel_rfl) (fun _ _ _ h => h) (Or.inl ⟨by rfl, ?_⟩) (by assumption) ?_
      rotate_left 1
      · intro w hSw; (try dsimp only at hSw); go_simp; try with_reducible rfl
      simp only [Act.put, List.getElem_toArray, List.getElem_cons_succ, List.getElem_cons_zero, List.setIfInBounds_toArray, List.set_cons_zero, List.set_cons_succ]
      refine wpAnyH_take (i := 6) (v := ?_) rfl (by kernel_rfl) (by kernel_rfl) (by kernel_rfl) (fun _ _ _ h => h) (Or.inl ⟨by rfl, ?_⟩) (by assumption) ?_
      rotate_left 1
      · intro w hSw; (try dsimp only at hSw); go_simp; try with_reducible rfl
      simp only [Act.put, List.getElem_toArray, List.getElem_cons_succ, List.getElem_cons_zero, List.setIfInBounds_toArray, List.set_cons_zero, List.set_cons_succ]
      refine wpAnyH_take (i := 7) (v := .agg ([.int .i64 c.k, .int .i64 c.a, .int .i64 c.b, .int .i64 c.n] : List Value).toArray) rfl (by kernel_rfl) (by kernel_rfl) (by kernel_rfl) (fun _ _ _ h => h) (yieldsIf_load_mid (by rfl) 33 _ rfl b2 (off2 + q) rfl [.int .i64 c.k, .int .i64 c.a, .int .i64 c.b, .int .i64 c.n] _ (fun x h => h.2) Try.underlying33 rfl hii) (by assumption) ?_
      simp only [Act.put, List.getElem_toArray, List.getElem_cons_succ, List.getElem_cons_zero, List.setIfInBounds_toArray, List.set_cons_zero, List.set_cons_succ]
      refine wpAnyH_ready (rs := [8]) (by kernel_rfl) (by simp) ?_
      refine AllReadyH.cons rfl (fun K hK => ?_) AllReadyH.nil
      go_simp
      (refine (eqCell_same c _).mono ?_; rintro e w2 ⟨rfl, hb2⟩; have hb : Below wr.heap.size wr w2 := (by first | exact hb2 | exact (Below.drew (Below.refl _ _)).trans hb2); have Y2 : w2.rangeAt b (off + q) ([.int .i64 c.k, .int .i64 c.a, .int .i64 c.b, .int .i64 c.n] : List Value) ∧ w2.rangeAt b2 (off2 + q) ([.int .i64 c.k, .int .i64 c.a, .int .i64 c.b, .int .i64 c.n] : List Value) := ⟨range_below HR.out hb HS1.out, range_below HR2.out hb HS2.out⟩; have HB2 : Hid (Below w.heap.size w w2) := bel_then HB.out hb; clear hb2 hb)
      refine hK.out _ _ ?_ (fun hHeld => ?_)
      · (try dsimp only); exact Y2
      clear hK K
      try simp only [Act.put, List.getElem_toArray, List.getElem_cons_succ, List.getElem_cons_zero, List.setIfInBounds_toArray, List.set_cons_zero, List.set_cons_succ]
      refine wpAnyH_take (i := 9) (v := ?_) rfl (by kernel_rfl) (by kernel_rfl) (by kernel_rfl) (fun _ _ _ h => h) (Or.inl ⟨by rfl, ?_⟩) (by assumption) ?_
      rotate_left 1
      · intro w hSw; (try dsimp only at hSw); go_simp; try with_reducible rfl
      simp only [Act.put, List.getElem_toArray, List.getElem_cons_succ, List.getElem_cons_zero, List.setIfInBounds_toArray, List.set_cons_zero, List.set_cons_succ]
      refine wpAnyH_done (by kernel_rfl) ?_ _
      clear HR HR2 hii HB
      go_wp2
      go_roundw
      case rel => exact ⟨k + 1, by omega, by go_num, HB2.out⟩
      case measure => simp [intOf]; omega
    · have e : k = n := by omega
      subst e
      go_wp2
      go_ret
      exact ⟨rfl, HB.out⟩
theorem eqCellS_same (v v2 : Value) (cs : List Cel) (w : World) (h : RawCels w v cs) (h2 : RawCels w v2 cs) (hlim : cs.length ≤ 1048576) :
    Calls Try.prog 21 #[v, v2] w fun e w' => e = .returned (.bool true) ∧ Below w.heap.size w w' := by
  obtain ⟨_, a, cap, rfl, _, hc⟩ := h
  obtain ⟨_, a2, cap2, rfl, _, hc2⟩ := h2
  by_cases hne : cs = []
  · subst hne
    exact eqCellS_none a a2 cap cap2 w
  · obtain ⟨b, off, rfl, hbw, hk⟩ := hc hne
    obtain ⟨b2, off2, rfl, hbw2, hk2⟩ := hc2 hne
    exact eqCellS_some b off cap b2 off2 cap2 cs w (List.length_pos_iff.2 hne) hlim hbw hbw2 hk hk2

/-- The contract of eqPlan at one plan, twice. -/
def EqOk (n : Nat) : Prop := ∀ (p : Pl (n + 1)) (vc vk vd vc2 vk2 vd2 : Value) (w : World), PlanV (n + 1) w p vc vk vd → PlanV (n + 1) w p vc2 vk2 vd2 → Pl.sz (n + 1) p ≤ 1048576 →
  Calls Try.prog 8 #[.agg #[.int .i64 p.nd.k, .int .i64 p.nd.n, .int .i64 p.nd.t.k, .bool p.nd.t.no, .int .i64 p.nd.t.l.k, .int .i64 p.nd.t.l.a, .int .i64 p.nd.t.l.b, .int .i64 p.nd.t.l.n, .int .i64 p.nd.t.r.k, .int .i64 p.nd.t.r.a, .int .i64 p.nd.t.r.b, .int .i64 p.nd.t.r.n, vc, .int .i64 p.nd.a, .int .i64 p.nd.b, vk, .int .i64 p.nd.g, .int .i64 p.nd.c, vd], .agg #[.int .i64 p.nd.k, .int .i64 p.nd.n, .int .i64 p.nd.t.k, .bool p.nd.t.no, .int .i64 p.nd.t.l.k, .int .i64 p.nd.t.l.a, .int .i64 p.nd.t.l.b, .int .i64 p.nd.t.l.n, .int .i64 p.nd.t.r.k, .int .i64 p.nd.t.r.a, .int .i64 p.nd.t.r.b, .int .i64 p.nd.t.r.n, vc2, .int .i64 p.nd.a, .int .i64 p.nd.b, vk2, .int .i64 p.nd.g, .int .i64 p.nd.c, vd2]] w fun e w' => e = .returned (.bool true) ∧ Below w.heap.size w w'
def EqSOk (n : Nat) : Prop := ∀ (l : List (Pl n)) (v v2 : Value) (w : World), KidsV (NodeAt n) w v l → KidsV (NodeAt n) w v2 l → l.length + kidsSz n l ≤ 1048576 →
  Calls Try.prog 23 #[v, v2] w fun e w' => e = .returned (.bool true) ∧ Below w.heap.size w w'

set_option maxHeartbeats 1000000 in
theorem eqPlanS_none (a a2 : Option Addr) (cap cap2 : Nat) (w : World) :
    Calls Try.prog 23 #[.slice a 0 cap, .slice a2 0 cap2] w fun e w' => e = .returned (.bool true) ∧ Below w.heap.size w w' := by
  go_enter Try.func23, Try.ntmps23
  go_wp2
  refine wp_loop_rounds 1 ?_
  rw [rounds_succ]
  go_wp2
  go_ret
  exact ⟨rfl, Below.refl _ _⟩

set_option maxHeartbeats 1000000 in
theorem eqPlanS_some (n : Nat) (IH : EqOk n) (b off cap b2 off2 cap2 : Nat) (l : List (Pl (n + 1))) (w : World) (hpos : 0 < l.length) (hlim : l.length + kidsSz (n + 1) l ≤ 1048576) (hbw : b < w.heap.size) (hbw2 : b2 < w.heap.size)
    (hk : ∀ j (hj : j < l.length), NodeAt (n + 1) w b (off + j * 19) l[j]) (hk2 : ∀ j (hj : j < l.length), NodeAt (n + 1) w b2 (off2 + j * 19) l[j]) :
    Calls Try.prog 23 #[.slice (some ⟨b, off, none⟩) l.length cap, .slice (some ⟨b2, off2, none⟩) l.length cap2] w fun e w' => e = .returned (.bool true) ∧ Below w.heap.size w w' := by
  have HIH : Hid (EqOk n) := IH
  have HK : Hid (∀ j (hj : j < l.length), NodeAt (n + 1) w b (off + j * 19) l[j]) := hk
  have HK2 : Hid (∀ j (hj : j < l.length), NodeAt (n + 1) w b2 (off2 + j * 19) l[j]) := hk2
  have HSZ : Hid (∀ j (hj : j < l.length), Pl.sz (n + 1) l[j] ≤ 1048576) := fun j hj => by have := kidsSz_at hj; omega
  have hlim2 : l.length ≤ 1048576 := by omega
  obtain ⟨m, hm⟩ : ∃ m, m = l.length := ⟨_, rfl⟩
  have HM : Hid (m = l.length) := hm
  rw [← hm] at hpos hlim2 ⊢
  clear hm hk hk2 IH hlim
  go_enter Try.func23, Try.ntmps23
  go_wp2
  go_loopw [5] (fun i wr => ∃ k : Nat, k ≤ m ∧ i = .int .i64 k ∧ Hid (Below w.heap.size w wr)) (fun i _ => m - (intOf i).toNat)
  case atStart => exact ⟨0, Nat.zero_le _, rfl, Below.refl _ _⟩
  case round =>
    obtain ⟨k, hk, rfl, HB⟩ := hrel
    by_cases hlt : k < m
    · have hkl : k < l.length := by rw [← HM.out]; exact hlt
      obtain ⟨vc, vk, vd, hf, hp⟩ := fields_of (NodeAt.below _ (HK.out k hkl) HB.out)
      obtain ⟨vc2, vk2, vd2, hf2, hp2⟩ := fields_of (NodeAt.below _ (HK2.out k hkl) HB.out)
      obtain ⟨q, hq⟩ : ∃ q, k * 19 = q := ⟨_, rfl⟩
      rw [hq] at hf hf2
      have HR : Hid (wr.rangeAt b (off + q) ([.int .i64 l[k].nd.k, .int .i64 l[k].nd.n, .int .i64 l[k].nd.t.k, .bool l[k].nd.t.no, .int .i64 l[k].nd.t.l.k, .int .i64 l[k].nd.t.l.a, .int .i64 l[k].nd.t.l.b, .int .i64 l[k].nd.t.l.n, .int .i64 l[k].nd.t.r.k, .int .i64 l[k].nd.t.r.a, .int .i64 l[k].nd.t.r.b, .int .i64 l[k].nd.t.r.n, vc, .int .i64 l[k].nd.a, .int .i64 l[k].nd.b, vk, .int .i64 l[k].nd.g, .int .i64 l[k].nd.c, vd] : List Value)) := hf.range
      have HR2 : Hid (wr.rangeAt b2 (off2 + q) ([.int .i64 l[k].nd.k, .int .i64 l[k].nd.n, .int .i64 l[k].nd.t.k, .bool l[k].nd.t.no, .int .i64 l[k].nd.t.l.k, .int .i64 l[k].nd.t.l.a, .int .i64 l[k].nd.t.l.b, .int .i64 l[k].nd.t.l.n, .int .i64 l[k].nd.t.r.k, .int .i64 l[k].nd.t.r.a, .int .i64 l[k].nd.t.r.b, .int .i64 l[k].nd.t.r.n, vc2, .int .i64 l[k].nd.a, .int .i64 l[k].nd.b, vk2, .int .i64 l[k].nd.g, .int .i64 l[k].nd.c, vd2] : List Value)) := hf2.range
      have hil : (Try.prog.info? 39).map (·.size) = some ([.int .i64 l[k].nd.k, .int .i64 l[k].nd.n, .int .i64 l[k].nd.t.k, .bool l[k].nd.t.no, .int .i64 l[k].nd.t.l.k, .int .i64 l[k].nd.t.l.a, .int .i64 l[k].nd.t.l.b, .int .i64 l[k].nd.t.l.n, .int .i64 l[k].nd.t.r.k, .int .i64 l[k].nd.t.r.a, .int .i64 l[k].nd.t.r.b, .int .i64 l[k].nd.t.r.n, vc, .int .i64 l[k].nd.a, .int .i64 l[k].nd.b, vk, .int .i64 l[k].nd.g, .int .i64 l[k].nd.c, vd] : List Value).length := by kernel_rfl
      have hil2 : (Try.prog.info? 39).map (·.size) = some ([.int .i64 l[k].nd.k, .int .i64 l[k].nd.n, .int .i64 l[k].nd.t.k, .bool l[k].nd.t.no, .int .i64 l[k].nd.t.l.k, .int .i64 l[k].nd.t.l.a, .int .i64 l[k].nd.t.l.b, .int .i64 l[k].nd.t.l.n, .int .i64 l[k].nd.t.r.k, .int .i64 l[k].nd.t.r.a, .int .i64 l[k].nd.t.r.b, .int .i64 l[k].nd.t.r.n, vc2, .int .i64 l[k].nd.a, .int .i64 l[k].nd.b, vk2, .int .i64 l[k].nd.g, .int .i64 l[k].nd.c, vd2] : List Value).length := by kernel_rfl
      have HPV : Hid (PlanV (n + 1) wr l[k] vc vk vd) := hp
      have HPV2 : Hid (PlanV (n + 1) wr l[k] vc2 vk2 vd2) := hp2
      clear hp hf hp2 hf2
      have HS1 : Hid (b < wr.heap.size) := Nat.lt_of_lt_of_le hbw HB.out.size
      have HS2 : Hid (b2 < wr.heap.size) := Nat.lt_of_lt_of_le hbw2 HB.out.size
      go_wp2_with fail
      refine wp_region_held_drew (S := (fun x => x.rangeAt b (off + q) ([.int .i64 l[k].nd.k, .int .i64 l[k].nd.n, .int .i64 l[k].nd.t.k, .bool l[k].nd.t.no, .int .i64 l[k].nd.t.l.k, .int .i64 l[k].nd.t.l.a, .int .i64 l[k].nd.t.l.b, .int .i64 l[k].nd.t.l.n, .int .i64 l[k].nd.t.r.k, .int .i64 l[k].nd.t.r.a, .int .i64 l[k].nd.t.r.b, .int .i64 l[k].nd.t.r.n, vc, .int .i64 l[k].nd.a, .int .i64 l[k].nd.b, vk, .int .i64 l[k].nd.g, .int .i64 l[k].nd.c, vd] : List Value) ∧ x.rangeAt b2 (off2 + q) ([.int .i64 l[k].nd.k, .int .i64 l[k].nd.n, .int .i64 l[k].nd.t.k, .bool l[k].nd.t.no, .int .i64 l[k].nd.t.l.k, .int .i64 l[k].nd.t.l.a, .int .i64 l[k].nd.t.l.b, .int .i64 l[k].nd.t.l.n, .int .i64 l[k].nd.t.r.k, .int .i64 l[k].nd.t.r.a, .int .i64 l[k].nd.t.r.b, .int .i64 l[k].nd.t.r.n, vc2, .int .i64 l[k].nd.a, .int .i64 l[k].nd.b, vk2, .int .i64 l[k].nd.g, .int .i64 l[k].nd.c, vd2] : List Value))) (by kernel_rfl) ?_ (fun hHeld => ?_)
      · (try dsimp only); exact ⟨HR.out, HR2.out⟩
      refine wpAnyH_take (i := 0) (v := ?_) rfl (by kernel_rfl) (by kernel_rfl) (by kernel_rfl) (fun _ _ _ h => h) (Or.inl ⟨by rfl, ?_⟩) (by assumption) ?_
      rotate_left 1
      · intro w hSw; (try dsimp only at hSw); go_simp; try with_reducible rfl
      simp only [Act.put, List.getElem_toArray, List.getElem_cons_succ, List.getElem_cons_zero, List.setIfInBounds_toArray, List.set_cons_zero, List.set_cons_succ]
      refine wpAnyH_take (i := 1) (v := ?_) rfl (by kernel_rfl) (by kernel_rfl) (by kernel_rfl) (fun _ _ _ h => h) (Or.inl ⟨by rfl, ?_⟩) (by assumption) ?_
      rotate_left 1
      · intro w hSw; (try dsimp only at hSw); go_simp; try with_reducible rfl
      simp only [Act.put, List.getElem_toArray, List.getElem_cons_succ, List.getElem_cons_zero, List.setIfInBounds_toArray, List.set_cons_zero, List.set_cons_succ]
      refine wpAnyH_take (i := 2) (v := ?_) rfl (by kernel_rfl) (by kernel_rfl) (by kernel_rfl) (fun _ _ _ h => h) (Or.inl ⟨by rfl, ?_⟩) (by assumption) ?_
      rotate_left 1
      · intro w hSw; (try dsimp only at hSw); go_simp; try with_reducible rfl
      simp only [Act.put, List.getElem_toArray, List.getElem_cons_succ, List.getElem_cons_zero, List.setIfInBounds_toArray, List.set_cons_zero, List.set_cons_succ]
      refine wpAnyH_take (i := 3) (v := .agg ([.int .i64 l[k].nd.k, .int .i64 l[k].nd.n, .int .i64 l[k].nd.t.k, .bool l[k].nd.t.no, .int .i64 l[k].nd.t.l.k, .int .i64 l[k].nd.t.l.a, .int .i64 l[k].nd.t.l.b, .int .i64 l[k].nd.t.l.n, .int .i64 l[k].nd.t.r.k, .int .i64 l[k].nd.t.r.a, .int .i64 l[k].nd.t.r.b, .int .i64 l[k].nd.t.r.n, vc, .int .i64 l[k].nd.a, .int .i64 l[k].nd.b, vk, .int .i64 l[k].nd.g, .int .i64 l[k].nd.c, vd] : List Value).toArray) rfl (by kernel_rfl) (by kernel_rfl) (by kernel_rfl) (fun _ _ _ h => h) (yieldsIf_load_mid (by rfl) 39 _ rfl b (off + q) rfl [.int .i64 l[k].nd.k, .int .i64 l[k].nd.n, .int .i64 l[k].nd.t.k, .bool l[k].nd.t.no, .int .i64 l[k].nd.t.l.k, .int .i64 l[k].nd.t.l.a, .int .i64 l[k].nd.t.l.b, .int .i64 l[k].nd.t.l.n, .int .i64 l[k].nd.t.r.k, .int .i64 l[k].nd.t.r.a, .int .i64 l[k].nd.t.r.b, .int .i64 l[k].nd.t.r.n, vc, .int .i64 l[k].nd.a, .int .i64 l[k].nd.b, vk, .int .i64 l[k].nd.g, .int .i64 l[k].nd.c, vd] _ (fun x h => h.1) Try.underlying39 rfl hil) (by assumption) ?_
      simp only [Act.put, List.getElem_toArray, List.getElem_cons_succ, List.getElem_cons_zero, List.setIfInBounds_toArray, List.set_cons_zero, List.set_cons_succ]
      refine wpAnyH_take (i := 4) (v := ?_) rfl (by kernel_rfl) (by kernel_rfl) (by kernel_rfl) (fun _ _ _ h => h) (Or.inl ⟨by rfl, ?_⟩) (by assumption) ?_
      rotate_left 1
      · intro w hSw; (try dsimp only at hSw); go_simp; try with_reducible rfl
      simp only [Act.put, List.getElem_toArray, List.getElem_cons_succ, List.getElem_cons_zero, List.setIfInBounds_toArray, List.set_cons_zero, List.set_cons_succ]
      refine wpAnyH_take (i := 5) (v := ?_) rfl (by kernel_rfl) (by kernel_rfl) (by kernel_rfl) (fun _ _ _ h => h) (Or.inl ⟨by rfl, ?_⟩) (by assumption) ?_
      rotate_left 1
      · intro w hSw; (try dsimp only at hSw); go_simp; try with_reducible rfl
      simp only [Act.put, List.getElem_toArray, List.getElem_cons_succ, List.getElem_cons_zero, List.setIfInBounds_toArray, List.set_cons_zero, List.set_cons_succ]
      refine wpAnyH_take (i := 6) (v := ?_) rfl (by kernel_rfl) (by kernel_rfl) (by kernel_rfl) (fun _ _ _ h => h) (Or.inl ⟨by rfl, ?_⟩) (by assumption) ?_
      rotate_left 1
      · intro w hSw; (try dsimp only at hSw); go_simp; try with_reducible rfl
      simp only [Act.put, List.getElem_toArray, List.getElem_cons_succ, List.getElem_cons_zero, List.setIfInBounds_toArray, List.set_cons_zero, List.set_cons_succ]
      refine wpAnyH_take (i := 7) (v := .agg ([.int .i64 l[k].nd.k, .int .i64 l[k].nd.n, .int .i64 l[k].nd.t.k, .bool l[k].nd.t.no, .int .i64 l[k].nd.t.l.k, .int .i64 l[k].nd.t.l.a, .int .i64 l[k].nd.t.l.b, .int .i64 l[k].nd.t.l.n, .int .i64 l[k].nd.t.r.k, .int .i64 l[k].nd.t.r.a, .int .i64 l[k].nd.t.r.b, .int .i64 l[k].nd.t.r.n, vc2, .int .i64 l[k].nd.a, .int .i64 l[k].nd.b, vk2, .int .i64 l[k].nd.g, .int .i64 l[k].nd.c, vd2] : List Value).toArray) rfl (by kernel_rfl) (by kernel_rfl) (by kernel_rfl) (fun _ _ _ h => h) (yieldsIf_load_mid (by rfl) 39 _ rfl b2 (off2 + q) rfl [.int .i64 l[k].nd.k, .int .i64 l[k].nd.n, .int .i64 l[k].nd.t.k, .bool l[k].nd.t.no, .int .i64 l[k].nd.t.l.k, .int .i64 l[k].nd.t.l.a, .int .i64 l[k].nd.t.l.b, .int .i64 l[k].nd.t.l.n, .int .i64 l[k].nd.t.r.k, .int .i64 l[k].nd.t.r.a, .int .i64 l[k].nd.t.r.b, .int .i64 l[k].nd.t.r.n, vc2, .int .i64 l[k].nd.a, .int .i64 l[k].nd.b, vk2, .int .i64 l[k].nd.g, .int .i64 l[k].nd.c, vd2] _ (fun x h => h.2) Try.underlying39 rfl hil2) (by assumption) ?_
      simp only [Act.put, List.getElem_toArray, List.getElem_cons_succ, List.getElem_cons_zero, List.setIfInBounds_toArray, List.set_cons_zero, List.set_cons_succ]
      refine wpAnyH_ready (rs := [8]) (by kernel_rfl) (by simp) ?_
      refine AllReadyH.cons rfl (fun K hK => ?_) AllReadyH.nil
      go_simp
      (refine (HIH.out l[k] vc vk vd vc2 vk2 vd2 _ (by first | exact HPV.out | exact HPV.out.below (Below.drew (Below.refl _ _))) (by first | exact HPV2.out | exact HPV2.out.below (Below.drew (Below.refl _ _))) (HSZ.out k hkl)).mono ?_; rintro e w2 ⟨rfl, hb2⟩; have hb : Below wr.heap.size wr w2 := (by first | exact hb2 | exact (Below.drew (Below.refl _ _)).trans hb2); have Y2 : w2.rangeAt b (off + q) ([.int .i64 l[k].nd.k, .int .i64 l[k].nd.n, .int .i64 l[k].nd.t.k, .bool l[k].nd.t.no, .int .i64 l[k].nd.t.l.k, .int .i64 l[k].nd.t.l.a, .int .i64 l[k].nd.t.l.b, .int .i64 l[k].nd.t.l.n, .int .i64 l[k].nd.t.r.k, .int .i64 l[k].nd.t.r.a, .int .i64 l[k].nd.t.r.b, .int .i64 l[k].nd.t.r.n, vc, .int .i64 l[k].nd.a, .int .i64 l[k].nd.b, vk, .int .i64 l[k].nd.g, .int .i64 l[k].nd.c, vd] : List Value) ∧ w2.rangeAt b2 (off2 + q) ([.int .i64 l[k].nd.k, .int .i64 l[k].nd.n, .int .i64 l[k].nd.t.k, .bool l[k].nd.t.no, .int .i64 l[k].nd.t.l.k, .int .i64 l[k].nd.t.l.a, .int .i64 l[k].nd.t.l.b, .int .i64 l[k].nd.t.l.n, .int .i64 l[k].nd.t.r.k, .int .i64 l[k].nd.t.r.a, .int .i64 l[k].nd.t.r.b, .int .i64 l[k].nd.t.r.n, vc2, .int .i64 l[k].nd.a, .int .i64 l[k].nd.b, vk2, .int .i64 l[k].nd.g, .int .i64 l[k].nd.c, vd2] : List Value) := ⟨range_below HR.out hb HS1.out, range_below HR2.out hb HS2.out⟩; have HB2 : Hid (Below w.heap.size w w2) := bel_then HB.out hb; clear hb2 hb)
      refine hK.out _ _ ?_ (fun hHeld => ?_)
      · (try dsimp only); exact Y2
      clear hK K
      try simp only [Act.put, List.getElem_toArray, List.getElem_cons_succ, List.getElem_cons_zero, List.setIfInBounds_toArray, List.set_cons_zero, List.set_cons_succ]
      refine wpAnyH_take (i := 9) (v := ?_) rfl (by kernel_rfl) (by kernel_rfl) (by kernel_rfl) (fun _ _ _ h => h) (Or.inl ⟨by rfl, ?_⟩) (by assumption) ?_
      rotate_left 1
      · intro w hSw; (try dsimp only at hSw); go_simp; try with_reducible rfl
      simp only [Act.put, List.getElem_toArray, List.getElem_cons_succ, List.getElem_cons_zero, List.setIfInBounds_toArray, List.set_cons_zero, List.set_cons_succ]
      refine wpAnyH_done (by kernel_rfl) ?_ _
      clear HR HR2 hil hil2 HB HPV HPV2
      go_wp2
      go_roundw
      case rel => exact ⟨k + 1, by omega, by go_num, HB2.out⟩
      case measure => simp [intOf]; omega
    · have e : k = m := by omega
      subst e
      go_wp2
      go_ret
      exact ⟨rfl, HB.out⟩
theorem eqPlanS_of (n : Nat) (h : ∀ m, n = m + 1 → EqOk m) : EqSOk n := by
  intro l v v2 w hv hv2 hlim
  obtain ⟨_, a, cap, rfl, _, hc⟩ := hv
  obtain ⟨_, a2, cap2, rfl, _, hc2⟩ := hv2
  by_cases hne : l = []
  · subst hne
    exact eqPlanS_none a a2 cap cap2 w
  · obtain ⟨b, off, rfl, hbw, hk⟩ := hc hne
    obtain ⟨b2, off2, rfl, hbw2, hk2⟩ := hc2 hne
    cases n with
    | zero => cases l with
      | nil => exact absurd rfl hne
      | cons x _ => cases x
    | succ n => exact eqPlanS_some n (h n rfl) b off cap b2 off2 cap2 l w (List.length_pos_iff.2 hne) hlim hbw hbw2 hk hk2

theorem two (w : World) (o1 o2 : Obj) : ((w.alloc o1).alloc o2).heap[w.heap.size]? = some o1 ∧ ((w.alloc o1).alloc o2).heap[w.heap.size + 1]? = some o2 ∧ Below w.heap.size w ((w.alloc o1).alloc o2) := by
  refine ⟨at_below (alloc_at w o1) (bel_alloc _), ?_, bel_then (bel_alloc _) (bel_alloc _)⟩
  have h := alloc_at (w.alloc o1) o2
  rwa [alloc_sz] at h

set_option maxHeartbeats 1000000 in
theorem eqPlan_step (n : Nat) (IH : EqSOk n) : EqOk n := by
  intro p vc vk vd vc2 vk2 vd2 w hp hp2 hlim
  have HIH : Hid (EqSOk n) := IH
  obtain ⟨hcs, hks, hkd⟩ := hp
  obtain ⟨hcs2, hks2, hkd2⟩ := hp2
  have HCS : Hid (RawCels w vc p.nd.cs) := hcs
  have HKS : Hid (RawInts w vk p.nd.ks) := hks
  have HKD : Hid (KidsV (NodeAt n) w vd p.kids) := hkd
  have HCS2 : Hid (RawCels w vc2 p.nd.cs) := hcs2
  have HKS2 : Hid (RawInts w vk2 p.nd.ks) := hks2
  have HKD2 : Hid (KidsV (NodeAt n) w vd2 p.kids) := hkd2
  obtain ⟨-, ca, cc, rfl, -⟩ := id hcs
  obtain ⟨-, ka, kc, rfl, -⟩ := id hks
  obtain ⟨-, da, dc, rfl, -⟩ := id hkd
  obtain ⟨-, ca2, cc2, rfl, -⟩ := id hcs2
  obtain ⟨-, ka2, kc2, rfl, -⟩ := id hks2
  obtain ⟨-, da2, dc2, rfl, -⟩ := id hkd2
  have hsz := Pl.sz_succ p
  have HL1 : Hid (p.nd.cs.length ≤ 1048576) := by show _ ≤ _; omega
  have HL2 : Hid (p.nd.ks.length ≤ 1048576) := by show _ ≤ _; omega
  have HL3 : Hid (p.kids.length + kidsSz n p.kids ≤ 1048576) := by show _ ≤ _; unfold kidsSz; omega
  clear hcs hks hkd hcs2 hks2 hkd2 IH hsz hlim
  obtain ⟨d, hd⟩ : ∃ d, d = p.nd := ⟨_, rfl⟩
  obtain ⟨kl, hkl2⟩ : ∃ kl, kl = p.kids := ⟨_, rfl⟩
  rw [← hd] at HCS HKS HCS2 HKS2 HL1 HL2 ⊢
  rw [← hkl2] at HKD HKD2 HL3 ⊢
  clear hd hkl2
  obtain ⟨nc, hnc⟩ : ∃ m, m = d.cs.length := ⟨_, rfl⟩
  obtain ⟨nk, hnk⟩ : ∃ m, m = d.ks.length := ⟨_, rfl⟩
  obtain ⟨nd, hnd⟩ : ∃ m, m = kl.length := ⟨_, rfl⟩
  have HNC : Hid (nc = d.cs.length) := hnc
  have HNK : Hid (nk = d.ks.length) := hnk
  have HND : Hid (nd = kl.length) := hnd
  rw [← hnc] at HCS HCS2 HL1 ⊢
  rw [← hnk] at HKS HKS2 HL2 ⊢
  rw [← hnd] at HKD HKD2 HL3 ⊢
  clear hnc hnk hnd
  obtain ⟨⟨dk, dn, ⟨tk, tn, ⟨lk, la, lb, ln⟩, ⟨rk, ra, rb, rn⟩⟩, dcs, dda, ddb, dks, dg, dc'⟩, hdd⟩ : ∃ d', d' = d := ⟨_, rfl⟩
  subst hdd
  simp only at HCS HKS HCS2 HKS2 HL1 HL2 HNC HNK ⊢
  go_enter Try.func8, Try.ntmps8
  go_wp2_with fail
  refine (eqTest_same ⟨tk, tn, ⟨lk, la, lb, ln⟩, ⟨rk, ra, rb, rn⟩⟩ _).mono ?_
  rintro e w1 ⟨rfl, hb⟩
  have HA : Hid (w1.heap[w.heap.size]? = some (.cells #[.int .i64 dk, .int .i64 dn, .int .i64 tk, .bool tn, .int .i64 lk, .int .i64 la, .int .i64 lb, .int .i64 ln, .int .i64 rk, .int .i64 ra, .int .i64 rb, .int .i64 rn, .slice ca nc cc, .int .i64 dda, .int .i64 ddb, .slice ka nk kc, .int .i64 dg, .int .i64 dc', .slice da nd dc] 39)) := at_below (two w _ _).1 hb
  have HQ : Hid (w1.heap[w.heap.size + 1]? = some (.cells #[.int .i64 dk, .int .i64 dn, .int .i64 tk, .bool tn, .int .i64 lk, .int .i64 la, .int .i64 lb, .int .i64 ln, .int .i64 rk, .int .i64 ra, .int .i64 rb, .int .i64 rn, .slice ca2 nc cc2, .int .i64 dda, .int .i64 ddb, .slice ka2 nk kc2, .int .i64 dg, .int .i64 dc', .slice da2 nd dc2] 39)) := at_below (two w _ _).2.1 hb
  have HB : Hid (Below w.heap.size w w1) := bel_then (two w _ _).2.2 hb
  clear hb
  have a12 : w1.cell? ⟨w.heap.size, 12, none⟩ = some (.slice ca nc cc) := cell_at HA.out rfl
  have b12 : w1.cell? ⟨w.heap.size + 1, 12, none⟩ = some (.slice ca2 nc cc2) := cell_at HQ.out rfl
  go_wp2_with fail
  refine (eqCellS_same _ _ dcs _ (HCS.out.below HB.out) (HCS2.out.below HB.out) (by rw [← HNC.out]; exact HL1.out)).mono ?_
  rintro e w2 ⟨rfl, hb⟩
  replace HA : Hid (w2.heap[w.heap.size]? = some (.cells #[.int .i64 dk, .int .i64 dn, .int .i64 tk, .bool tn, .int .i64 lk, .int .i64 la, .int .i64 lb, .int .i64 ln, .int .i64 rk, .int .i64 ra, .int .i64 rb, .int .i64 rn, .slice ca nc cc, .int .i64 dda, .int .i64 ddb, .slice ka nk kc, .int .i64 dg, .int .i64 dc', .slice da nd dc] 39)) := at_below HA.out hb
  replace HQ : Hid (w2.heap[w.heap.size + 1]? = some (.cells #[.int .i64 dk, .int .i64 dn, .int .i64 tk, .bool tn, .int .i64 lk, .int .i64 la, .int .i64 lb, .int .i64 ln, .int .i64 rk, .int .i64 ra, .int .i64 rb, .int .i64 rn, .slice ca2 nc cc2, .int .i64 dda, .int .i64 ddb, .slice ka2 nk kc2, .int .i64 dg, .int .i64 dc', .slice da2 nd dc2] 39)) := at_below HQ.out hb
  replace HB : Hid (Below w.heap.size w w2) := bel_then HB.out hb
  clear hb
  clear a12 b12
  have a13 : w2.cell? ⟨w.heap.size, 13, none⟩ = some (.int .i64 dda) := cell_at HA.out rfl
  have b13 : w2.cell? ⟨w.heap.size + 1, 13, none⟩ = some (.int .i64 dda) := cell_at HQ.out rfl
  have a14 : w2.cell? ⟨w.heap.size, 14, none⟩ = some (.int .i64 ddb) := cell_at HA.out rfl
  have b14 : w2.cell? ⟨w.heap.size + 1, 14, none⟩ = some (.int .i64 ddb) := cell_at HQ.out rfl
  have a15 : w2.cell? ⟨w.heap.size, 15, none⟩ = some (.slice ka nk kc) := cell_at HA.out rfl
  have b15 : w2.cell? ⟨w.heap.size + 1, 15, none⟩ = some (.slice ka2 nk kc2) := cell_at HQ.out rfl
  go_wp2_with fail
  refine (eqIntS_any _ _ dks dks _ ((HKS.out.below HB.out).ints (by have := HL2.out; have := HNK.out; omega)) ((HKS2.out.below HB.out).ints (by have := HL2.out; have := HNK.out; omega))).mono ?_
  rintro e w3 ⟨rfl, hb⟩
  rw [sameB_refl]
  replace HA : Hid (w3.heap[w.heap.size]? = some (.cells #[.int .i64 dk, .int .i64 dn, .int .i64 tk, .bool tn, .int .i64 lk, .int .i64 la, .int .i64 lb, .int .i64 ln, .int .i64 rk, .int .i64 ra, .int .i64 rb, .int .i64 rn, .slice ca nc cc, .int .i64 dda, .int .i64 ddb, .slice ka nk kc, .int .i64 dg, .int .i64 dc', .slice da nd dc] 39)) := at_below HA.out hb
  replace HQ : Hid (w3.heap[w.heap.size + 1]? = some (.cells #[.int .i64 dk, .int .i64 dn, .int .i64 tk, .bool tn, .int .i64 lk, .int .i64 la, .int .i64 lb, .int .i64 ln, .int .i64 rk, .int .i64 ra, .int .i64 rb, .int .i64 rn, .slice ca2 nc cc2, .int .i64 dda, .int .i64 ddb, .slice ka2 nk kc2, .int .i64 dg, .int .i64 dc', .slice da2 nd dc2] 39)) := at_below HQ.out hb
  replace HB : Hid (Below w.heap.size w w3) := bel_then HB.out hb
  clear hb
  clear a13 b13 a14 b14 a15 b15
  have a16 : w3.cell? ⟨w.heap.size, 16, none⟩ = some (.int .i64 dg) := cell_at HA.out rfl
  have b16 : w3.cell? ⟨w.heap.size + 1, 16, none⟩ = some (.int .i64 dg) := cell_at HQ.out rfl
  have a17 : w3.cell? ⟨w.heap.size, 17, none⟩ = some (.int .i64 dc') := cell_at HA.out rfl
  have b17 : w3.cell? ⟨w.heap.size + 1, 17, none⟩ = some (.int .i64 dc') := cell_at HQ.out rfl
  have a18 : w3.cell? ⟨w.heap.size, 18, none⟩ = some (.slice da nd dc) := cell_at HA.out rfl
  have b18 : w3.cell? ⟨w.heap.size + 1, 18, none⟩ = some (.slice da2 nd dc2) := cell_at HQ.out rfl
  go_wp2_with fail
  refine (HIH.out kl _ _ _ (HKD.out.below HB.out fun b o x hx => NodeAt.below n hx HB.out) (HKD2.out.below HB.out fun b o x hx => NodeAt.below n hx HB.out) (by rw [← HND.out]; exact HL3.out)).mono ?_
  rintro e w4 ⟨rfl, hb⟩
  replace HA : Hid (w4.heap[w.heap.size]? = some (.cells #[.int .i64 dk, .int .i64 dn, .int .i64 tk, .bool tn, .int .i64 lk, .int .i64 la, .int .i64 lb, .int .i64 ln, .int .i64 rk, .int .i64 ra, .int .i64 rb, .int .i64 rn, .slice ca nc cc, .int .i64 dda, .int .i64 ddb, .slice ka nk kc, .int .i64 dg, .int .i64 dc', .slice da nd dc] 39)) := at_below HA.out hb
  replace HQ : Hid (w4.heap[w.heap.size + 1]? = some (.cells #[.int .i64 dk, .int .i64 dn, .int .i64 tk, .bool tn, .int .i64 lk, .int .i64 la, .int .i64 lb, .int .i64 ln, .int .i64 rk, .int .i64 ra, .int .i64 rb, .int .i64 rn, .slice ca2 nc cc2, .int .i64 dda, .int .i64 ddb, .slice ka2 nk kc2, .int .i64 dg, .int .i64 dc', .slice da2 nd dc2] 39)) := at_below HQ.out hb
  replace HB : Hid (Below w.heap.size w w4) := bel_then HB.out hb
  clear hb
  clear a16 b16 a17 b17 a18 b18
  go_wp2
  go_ret
  exact ⟨rfl, HB.out⟩

theorem eqPlan_same : ∀ n, EqOk n
  | 0 => eqPlan_step 0 (eqPlanS_of 0 fun m h => by omega)
  | n + 1 => eqPlan_step (n + 1) (eqPlanS_of (n + 1) fun m h => by obtain rfl : n = m := by omega
                                                                   exact eqPlan_same n)

end Go.Proofs.Ytkmihnagmbdbgaa
