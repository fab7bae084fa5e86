/-
  The contracts of laws.eqFlowS and laws.eqFlow at two flows that are one.
-/
import Derived.Test.YtfmgohoddaobmaaFlowCopy
import Derived.Test.YtfmgohoddaobmaaPlanEq
namespace Go.Proofs.Ytfmgohoddaobmaa.Fw
set_option maxRecDepth 100000
open Go.RowKit
set_option linter.unusedVariables false
set_option linter.unusedSimpArgs false
variable {D : Nat}

/-- The contract of eqFlow at one flow, twice in memory. -/
def EqF (D n : Nat) : Prop := ∀ (p : Fl D (n + 1)) (vc vk vd vl vr vf vc2 vk2 vd2 vl2 vr2 vf2 : Value) (w : World), FlowV (n + 1) w p vc vk vd vl vr vf → FlowV (n + 1) w p vc2 vk2 vd2 vl2 vr2 vf2 → Fl.sz (n + 1) p ≤ 1048576 →
  Calls Try.prog 9 #[.agg #[.int .i64 p.nd.p.nd.k, .int .i64 p.nd.p.nd.n, .int .i64 p.nd.p.nd.t.k, .bool p.nd.p.nd.t.no, .int .i64 p.nd.p.nd.t.l.k, .int .i64 p.nd.p.nd.t.l.a, .int .i64 p.nd.p.nd.t.l.b, .int .i64 p.nd.p.nd.t.l.n, .int .i64 p.nd.p.nd.t.r.k, .int .i64 p.nd.p.nd.t.r.a, .int .i64 p.nd.p.nd.t.r.b, .int .i64 p.nd.p.nd.t.r.n, vc, .int .i64 p.nd.p.nd.a, .int .i64 p.nd.p.nd.b, vk, .int .i64 p.nd.p.nd.g, .int .i64 p.nd.p.nd.c, vd, vl, vr, vf], .agg #[.int .i64 p.nd.p.nd.k, .int .i64 p.nd.p.nd.n, .int .i64 p.nd.p.nd.t.k, .bool p.nd.p.nd.t.no, .int .i64 p.nd.p.nd.t.l.k, .int .i64 p.nd.p.nd.t.l.a, .int .i64 p.nd.p.nd.t.l.b, .int .i64 p.nd.p.nd.t.l.n, .int .i64 p.nd.p.nd.t.r.k, .int .i64 p.nd.p.nd.t.r.a, .int .i64 p.nd.p.nd.t.r.b, .int .i64 p.nd.p.nd.t.r.n, vc2, .int .i64 p.nd.p.nd.a, .int .i64 p.nd.p.nd.b, vk2, .int .i64 p.nd.p.nd.g, .int .i64 p.nd.p.nd.c, vd2, vl2, vr2, vf2]] w fun e w' => e = .returned (.bool true) ∧ Below w.heap.size w w'
/-- The contract of eqFlowS. -/
def EqFS (D n : Nat) : Prop := ∀ (l : List (Fl D n)) (v v2 : Value) (w : World), FKidsV (FNodeAt n) w v l → FKidsV (FNodeAt n) w v2 l → l.length + kidsSz n l ≤ 1048576 →
  Calls Try.prog 28 #[v, v2] w fun e w' => e = .returned (.bool true) ∧ Below w.heap.size w w'
theorem eqFlowS_none (a a2 : Option Addr) (cap cap2 : Nat) (w : World) :
    Calls Try.prog 28 #[.slice a 0 cap, .slice a2 0 cap2] w fun e w' => e = .returned (.bool true) ∧ Below w.heap.size w w' := by
  go_enter Try.func28, Try.ntmps28
  go_wp2
  refine wp_loop_rounds 1 ?_
  rw [rounds_succ]
  go_wp2
  go_ret
  exact ⟨rfl, Below.refl _ _⟩

set_option maxHeartbeats 2000000 in
theorem eqFlowS_some (n : Nat) (IH : EqF D n) (b off cap b2 off2 cap2 : Nat) (l : List (Fl D (n + 1))) (w : World) (hpos : 0 < l.length) (hlim : l.length + kidsSz (n + 1) l ≤ 1048576) (hbw : b < w.heap.size) (hbw2 : b2 < w.heap.size)
    (hk : ∀ j (hj : j < l.length), FNodeAt (n + 1) w b (off + j * 22) l[j]) (hk2 : ∀ j (hj : j < l.length), FNodeAt (n + 1) w b2 (off2 + j * 22) l[j]) :
    Calls Try.prog 28 #[.slice (some ⟨b, off, none⟩) l.length cap, .slice (some ⟨b2, off2, none⟩) l.length cap2] w fun e w' => e = .returned (.bool true) ∧ Below w.heap.size w w' := by
  have HIH : Hid (EqF D n) := IH
  have HK : Hid (∀ j (hj : j < l.length), FNodeAt (n + 1) w b (off + j * 22) l[j]) := hk
  have HK2 : Hid (∀ j (hj : j < l.length), FNodeAt (n + 1) w b2 (off2 + j * 22) l[j]) := hk2
  have HSZ : Hid (∀ j (hj : j < l.length), Fl.sz (n + 1) l[j] ≤ 1048576) := fun j hj => by have := kidsSz_at hj; omega
  have hlim2 : l.length ≤ 1048576 := by omega
  obtain ⟨m, hm⟩ : ∃ m, m = l.length := ⟨_, rfl⟩
  have HM : Hid (m = l.length) := hm
  rw [← hm] at hpos hlim2 ⊢
  clear hm hk hk2 IH hlim
  go_enter Try.func28, Try.ntmps28
  go_wp2
  go_loopw [5] (fun i wr => ∃ k : Nat, k ≤ m ∧ i = .int .i64 k ∧ Hid (Below w.heap.size w wr)) (fun i _ => m - (intOf i).toNat)
  case atStart => exact ⟨0, Nat.zero_le _, rfl, Below.refl _ _⟩
  case round =>
    obtain ⟨k, hk, rfl, HB⟩ := hrel
    by_cases hlt : k < m
    · have hkl : k < l.length := by rw [← HM.out]; exact hlt
      obtain ⟨vc, vk, vd, vl, vr, vf, hf, hp⟩ := ffields_of (FNodeAt.below _ (HK.out k hkl) HB.out)
      obtain ⟨vc2, vk2, vd2, vl2, vr2, vf2, hf2, hp2⟩ := ffields_of (FNodeAt.below _ (HK2.out k hkl) HB.out)
      obtain ⟨q, hq⟩ : ∃ q, k * 22 = q := ⟨_, rfl⟩
      rw [hq] at hf hf2
      have HR : Hid (wr.rangeAt b (off + q) ([.int .i64 l[k].nd.p.nd.k, .int .i64 l[k].nd.p.nd.n, .int .i64 l[k].nd.p.nd.t.k, .bool l[k].nd.p.nd.t.no, .int .i64 l[k].nd.p.nd.t.l.k, .int .i64 l[k].nd.p.nd.t.l.a, .int .i64 l[k].nd.p.nd.t.l.b, .int .i64 l[k].nd.p.nd.t.l.n, .int .i64 l[k].nd.p.nd.t.r.k, .int .i64 l[k].nd.p.nd.t.r.a, .int .i64 l[k].nd.p.nd.t.r.b, .int .i64 l[k].nd.p.nd.t.r.n, vc, .int .i64 l[k].nd.p.nd.a, .int .i64 l[k].nd.p.nd.b, vk, .int .i64 l[k].nd.p.nd.g, .int .i64 l[k].nd.p.nd.c, vd, vl, vr, vf] : List Value)) := hf.range
      have HR2 : Hid (wr.rangeAt b2 (off2 + q) ([.int .i64 l[k].nd.p.nd.k, .int .i64 l[k].nd.p.nd.n, .int .i64 l[k].nd.p.nd.t.k, .bool l[k].nd.p.nd.t.no, .int .i64 l[k].nd.p.nd.t.l.k, .int .i64 l[k].nd.p.nd.t.l.a, .int .i64 l[k].nd.p.nd.t.l.b, .int .i64 l[k].nd.p.nd.t.l.n, .int .i64 l[k].nd.p.nd.t.r.k, .int .i64 l[k].nd.p.nd.t.r.a, .int .i64 l[k].nd.p.nd.t.r.b, .int .i64 l[k].nd.p.nd.t.r.n, vc2, .int .i64 l[k].nd.p.nd.a, .int .i64 l[k].nd.p.nd.b, vk2, .int .i64 l[k].nd.p.nd.g, .int .i64 l[k].nd.p.nd.c, vd2, vl2, vr2, vf2] : List Value)) := hf2.range
      have hil : (Try.prog.info? 51).map (·.size) = some ([.int .i64 l[k].nd.p.nd.k, .int .i64 l[k].nd.p.nd.n, .int .i64 l[k].nd.p.nd.t.k, .bool l[k].nd.p.nd.t.no, .int .i64 l[k].nd.p.nd.t.l.k, .int .i64 l[k].nd.p.nd.t.l.a, .int .i64 l[k].nd.p.nd.t.l.b, .int .i64 l[k].nd.p.nd.t.l.n, .int .i64 l[k].nd.p.nd.t.r.k, .int .i64 l[k].nd.p.nd.t.r.a, .int .i64 l[k].nd.p.nd.t.r.b, .int .i64 l[k].nd.p.nd.t.r.n, vc, .int .i64 l[k].nd.p.nd.a, .int .i64 l[k].nd.p.nd.b, vk, .int .i64 l[k].nd.p.nd.g, .int .i64 l[k].nd.p.nd.c, vd, vl, vr, vf] : List Value).length := by kernel_rfl
      have hil2 : (Try.prog.info? 51).map (·.size) = some ([.int .i64 l[k].nd.p.nd.k, .int .i64 l[k].nd.p.nd.n, .int .i64 l[k].nd.p.nd.t.k, .bool l[k].nd.p.nd.t.no, .int .i64 l[k].nd.p.nd.t.l.k, .int .i64 l[k].nd.p.nd.t.l.a, .int .i64 l[k].nd.p.nd.t.l.b, .int .i64 l[k].nd.p.nd.t.l.n, .int .i64 l[k].nd.p.nd.t.r.k, .int .i64 l[k].nd.p.nd.t.r.a, .int .i64 l[k].nd.p.nd.t.r.b, .int .i64 l[k].nd.p.nd.t.r.n, vc2, .int .i64 l[k].nd.p.nd.a, .int .i64 l[k].nd.p.nd.b, vk2, .int .i64 l[k].nd.p.nd.g, .int .i64 l[k].nd.p.nd.c, vd2, vl2, vr2, vf2] : List Value).length := by kernel_rfl
      have HPV : Hid (FlowV (n + 1) wr l[k] vc vk vd vl vr vf) := hp
      have HPV2 : Hid (FlowV (n + 1) wr l[k] vc2 vk2 vd2 vl2 vr2 vf2) := hp2
      clear hp hf hp2 hf2
      have HS1 : Hid (b < wr.heap.size) := Nat.lt_of_lt_of_le hbw HB.out.size
      have HS2 : Hid (b2 < wr.heap.size) := Nat.lt_of_lt_of_le hbw2 HB.out.size
      go_wp2_with fail
      refine wp_region_held_drew (S := (fun x => x.rangeAt b (off + q) ([.int .i64 l[k].nd.p.nd.k, .int .i64 l[k].nd.p.nd.n, .int .i64 l[k].nd.p.nd.t.k, .bool l[k].nd.p.nd.t.no, .int .i64 l[k].nd.p.nd.t.l.k, .int .i64 l[k].nd.p.nd.t.l.a, .int .i64 l[k].nd.p.nd.t.l.b, .int .i64 l[k].nd.p.nd.t.l.n, .int .i64 l[k].nd.p.nd.t.r.k, .int .i64 l[k].nd.p.nd.t.r.a, .int .i64 l[k].nd.p.nd.t.r.b, .int .i64 l[k].nd.p.nd.t.r.n, vc, .int .i64 l[k].nd.p.nd.a, .int .i64 l[k].nd.p.nd.b, vk, .int .i64 l[k].nd.p.nd.g, .int .i64 l[k].nd.p.nd.c, vd, vl, vr, vf] : List Value) ∧ x.rangeAt b2 (off2 + q) ([.int .i64 l[k].nd.p.nd.k, .int .i64 l[k].nd.p.nd.n, .int .i64 l[k].nd.p.nd.t.k, .bool l[k].nd.p.nd.t.no, .int .i64 l[k].nd.p.nd.t.l.k, .int .i64 l[k].nd.p.nd.t.l.a, .int .i64 l[k].nd.p.nd.t.l.b, .int .i64 l[k].nd.p.nd.t.l.n, .int .i64 l[k].nd.p.nd.t.r.k, .int .i64 l[k].nd.p.nd.t.r.a, .int .i64 l[k].nd.p.nd.t.r.b, .int .i64 l[k].nd.p.nd.t.r.n, vc2, .int .i64 l[k].nd.p.nd.a, .int .i64 l[k].nd.p.nd.b, vk2, .int .i64 l[k].nd.p.nd.g, .int .i64 l[k].nd.p.nd.c, vd2, vl2, vr2, vf2] : List Value))) (by kernel_rfl) ?_ (fun hHeld => ?_)
      · (try dsimp only); exact ⟨HR.out, HR2.out⟩
      refine wpAnyH_take (i := 0) (v := ?_) rfl (by kernel_rfl) (by kernel_rfl) (by kernel_rfl) (fun _ _ _ h => h) (Or.inl ⟨by rfl, ?_⟩) (by assumption) ?_
      rotate_left 1
      · intro w hSw; (try dsimp only at hSw); go_simp; try with_reducible rfl
      simp only [Act.put, List.getElem_toArray, List.getElem_cons_succ, List.getElem_cons_zero, List.setIfInBounds_toArray, List.set_cons_zero, List.set_cons_succ]
      refine wpAnyH_take (i := 1) (v := ?_) rfl (by kernel_rfl) (by kernel_rfl) (by kernel_rfl) (fun _ _ _ h => h) (Or.inl ⟨by rfl, ?_⟩) (by assumption) ?_
      rotate_left 1
      · intro w hSw; (try dsimp only at hSw); go_simp; try with_reducible rfl
      simp only [Act.put, List.getElem_toArray, List.getElem_cons_succ, List.getElem_cons_zero, List.setIfInBounds_toArray, List.set_cons_zero, List.set_cons_succ]
      refine wpAnyH_take (i := 2) (v := ?_) rfl (by kernel_rfl) (by kernel_rfl) (by kernel_rfl) (fun _ _ _ h => h) (Or.inl ⟨by rfl, ?_⟩) (by assumption) ?_
      rotate_left 1
      · intro w hSw; (try dsimp only at hSw); go_simp; try with_reducible rfl
      simp only [Act.put, List.getElem_toArray, List.getElem_cons_succ, List.getElem_cons_zero, List.setIfInBounds_toArray, List.set_cons_zero, List.set_cons_succ]
      refine wpAnyH_take (i := 3) (v := .agg ([.int .i64 l[k].nd.p.nd.k, .int .i64 l[k].nd.p.nd.n, .int .i64 l[k].nd.p.nd.t.k, .bool l[k].nd.p.nd.t.no, .int .i64 l[k].nd.p.nd.t.l.k, .int .i64 l[k].nd.p.nd.t.l.a, .int .i64 l[k].nd.p.nd.t.l.b, .int .i64 l[k].nd.p.nd.t.l.n, .int .i64 l[k].nd.p.nd.t.r.k, .int .i64 l[k].nd.p.nd.t.r.a, .int .i64 l[k].nd.p.nd.t.r.b, .int .i64 l[k].nd.p.nd.t.r.n, vc, .int .i64 l[k].nd.p.nd.a, .int .i64 l[k].nd.p.nd.b, vk, .int .i64 l[k].nd.p.nd.g, .int .i64 l[k].nd.p.nd.c, vd, vl, vr, vf] : List Value).toArray) rfl (by kernel_rfl) (by kernel_rfl) (by kernel_rfl) (fun _ _ _ h => h) (yieldsIf_load_mid (by rfl) 51 _ rfl b (off + q) rfl [.int .i64 l[k].nd.p.nd.k, .int .i64 l[k].nd.p.nd.n, .int .i64 l[k].nd.p.nd.t.k, .bool l[k].nd.p.nd.t.no, .int .i64 l[k].nd.p.nd.t.l.k, .int .i64 l[k].nd.p.nd.t.l.a, .int .i64 l[k].nd.p.nd.t.l.b, .int .i64 l[k].nd.p.nd.t.l.n, .int .i64 l[k].nd.p.nd.t.r.k, .int .i64 l[k].nd.p.nd.t.r.a, .int .i64 l[k].nd.p.nd.t.r.b, .int .i64 l[k].nd.p.nd.t.r.n, vc, .int .i64 l[k].nd.p.nd.a, .int .i64 l[k].nd.p.nd.b, vk, .int .i64 l[k].nd.p.nd.g, .int .i64 l[k].nd.p.nd.c, vd, vl, vr, vf] _ (fun x h => h.1) Try.underlying51 rfl hil) (by assumption) ?_
      simp only [Act.put, List.getElem_toArray, List.getElem_cons_succ, List.getElem_cons_zero, List.setIfInBounds_toArray, List.set_cons_zero, List.set_cons_succ]
      refine wpAnyH_take (i := 4) (v := ?_) rfl (by kernel_rfl) (by kernel_rfl) (by kernel_rfl) (fun _ _ _ h => h) (Or.inl ⟨by rfl, ?_⟩) (by assumption) ?_
      rotate_left 1
      · intro w hSw; (try dsimp only at hSw); go_simp; try with_reducible rfl
      simp only [Act.put, List.getElem_toArray, List.getElem_cons_succ, List.getElem_cons_zero, List.setIfInBounds_toArray, List.set_cons_zero, List.set_cons_succ]
      refine wpAnyH_take (i := 5) (v := ?_) rfl (by kernel_rfl) (by kernel_rfl) (by kernel_rfl) (fun _ _ _ h => h) (Or.inl ⟨by rfl, ?_⟩) (by assumption) ?_
      rotate_left 1
      · intro w hSw; (try dsimp only at hSw); go_simp; try with_reducible rfl
      simp only [Act.put, List.getElem_toArray, List.getElem_cons_succ, List.getElem_cons_zero, List.setIfInBounds_toArray, List.set_cons_zero, List.set_cons_succ]
      refine wpAnyH_take (i := 6) (v := ?_) rfl (by kernel_rfl) (by kernel_rfl) (by kernel_rfl) (fun _ _ _ h => h) (Or.inl ⟨by rfl, ?_⟩) (by assumption) ?_
      rotate_left 1
      · intro w hSw; (try dsimp only at hSw); go_simp; try with_reducible rfl
      simp only [Act.put, List.getElem_toArray, List.getElem_cons_succ, List.getElem_cons_zero, List.setIfInBounds_toArray, List.set_cons_zero, List.set_cons_succ]
      refine wpAnyH_take (i := 7) (v := .agg ([.int .i64 l[k].nd.p.nd.k, .int .i64 l[k].nd.p.nd.n, .int .i64 l[k].nd.p.nd.t.k, .bool l[k].nd.p.nd.t.no, .int .i64 l[k].nd.p.nd.t.l.k, .int .i64 l[k].nd.p.nd.t.l.a, .int .i64 l[k].nd.p.nd.t.l.b, .int .i64 l[k].nd.p.nd.t.l.n, .int .i64 l[k].nd.p.nd.t.r.k, .int .i64 l[k].nd.p.nd.t.r.a, .int .i64 l[k].nd.p.nd.t.r.b, .int .i64 l[k].nd.p.nd.t.r.n, vc2, .int .i64 l[k].nd.p.nd.a, .int .i64 l[k].nd.p.nd.b, vk2, .int .i64 l[k].nd.p.nd.g, .int .i64 l[k].nd.p.nd.c, vd2, vl2, vr2, vf2] : List Value).toArray) rfl (by kernel_rfl) (by kernel_rfl) (by kernel_rfl) (fun _ _ _ h => h) (yieldsIf_load_mid (by rfl) 51 _ rfl b2 (off2 + q) rfl [.int .i64 l[k].nd.p.nd.k, .int .i64 l[k].nd.p.nd.n, .int .i64 l[k].nd.p.nd.t.k, .bool l[k].nd.p.nd.t.no, .int .i64 l[k].nd.p.nd.t.l.k, .int .i64 l[k].nd.p.nd.t.l.a, .int .i64 l[k].nd.p.nd.t.l.b, .int .i64 l[k].nd.p.nd.t.l.n, .int .i64 l[k].nd.p.nd.t.r.k, .int .i64 l[k].nd.p.nd.t.r.a, .int .i64 l[k].nd.p.nd.t.r.b, .int .i64 l[k].nd.p.nd.t.r.n, vc2, .int .i64 l[k].nd.p.nd.a, .int .i64 l[k].nd.p.nd.b, vk2, .int .i64 l[k].nd.p.nd.g, .int .i64 l[k].nd.p.nd.c, vd2, vl2, vr2, vf2] _ (fun x h => h.2) Try.underlying51 rfl hil2) (by assumption) ?_
      simp only [Act.put, List.getElem_toArray, List.getElem_cons_succ, List.getElem_cons_zero, List.setIfInBounds_toArray, List.set_cons_zero, List.set_cons_succ]
      refine wpAnyH_ready (rs := [8]) (by kernel_rfl) (by simp) ?_
      refine AllReadyH.cons rfl (fun K hK => ?_) AllReadyH.nil
      go_simp
      (refine (HIH.out l[k] vc vk vd vl vr vf vc2 vk2 vd2 vl2 vr2 vf2 _ (by first | exact HPV.out | exact HPV.out.below (Below.drew (Below.refl _ _))) (by first | exact HPV2.out | exact HPV2.out.below (Below.drew (Below.refl _ _))) (HSZ.out k hkl)).mono ?_; rintro e w2 ⟨rfl, hb2⟩; have hb : Below wr.heap.size wr w2 := (by first | exact hb2 | exact (Below.drew (Below.refl _ _)).trans hb2); have HB2 : Hid (Below w.heap.size w w2) := bel_then HB.out hb; have Y2 : w2.rangeAt b (off + q) ([.int .i64 l[k].nd.p.nd.k, .int .i64 l[k].nd.p.nd.n, .int .i64 l[k].nd.p.nd.t.k, .bool l[k].nd.p.nd.t.no, .int .i64 l[k].nd.p.nd.t.l.k, .int .i64 l[k].nd.p.nd.t.l.a, .int .i64 l[k].nd.p.nd.t.l.b, .int .i64 l[k].nd.p.nd.t.l.n, .int .i64 l[k].nd.p.nd.t.r.k, .int .i64 l[k].nd.p.nd.t.r.a, .int .i64 l[k].nd.p.nd.t.r.b, .int .i64 l[k].nd.p.nd.t.r.n, vc, .int .i64 l[k].nd.p.nd.a, .int .i64 l[k].nd.p.nd.b, vk, .int .i64 l[k].nd.p.nd.g, .int .i64 l[k].nd.p.nd.c, vd, vl, vr, vf] : List Value) ∧ w2.rangeAt b2 (off2 + q) ([.int .i64 l[k].nd.p.nd.k, .int .i64 l[k].nd.p.nd.n, .int .i64 l[k].nd.p.nd.t.k, .bool l[k].nd.p.nd.t.no, .int .i64 l[k].nd.p.nd.t.l.k, .int .i64 l[k].nd.p.nd.t.l.a, .int .i64 l[k].nd.p.nd.t.l.b, .int .i64 l[k].nd.p.nd.t.l.n, .int .i64 l[k].nd.p.nd.t.r.k, .int .i64 l[k].nd.p.nd.t.r.a, .int .i64 l[k].nd.p.nd.t.r.b, .int .i64 l[k].nd.p.nd.t.r.n, vc2, .int .i64 l[k].nd.p.nd.a, .int .i64 l[k].nd.p.nd.b, vk2, .int .i64 l[k].nd.p.nd.g, .int .i64 l[k].nd.p.nd.c, vd2, vl2, vr2, vf2] : List Value) := ⟨range_below HR.out hb HS1.out, range_below HR2.out hb HS2.out⟩; clear hb hb2)
      refine hK.out _ _ ?_ (fun hHeld => ?_)
      · (try dsimp only); exact Y2
      clear hK K
      try simp only [Act.put, List.getElem_toArray, List.getElem_cons_succ, List.getElem_cons_zero, List.setIfInBounds_toArray, List.set_cons_zero, List.set_cons_succ]
      refine wpAnyH_take (i := 9) (v := ?_) rfl (by kernel_rfl) (by kernel_rfl) (by kernel_rfl) (fun _ _ _ h => h) (Or.inl ⟨by rfl, ?_⟩) (by assumption) ?_
      rotate_left 1
      · intro w hSw; (try dsimp only at hSw); go_simp; try with_reducible rfl
      simp only [Act.put, List.getElem_toArray, List.getElem_cons_succ, List.getElem_cons_zero, List.setIfInBounds_toArray, List.set_cons_zero, List.set_cons_succ]
      refine wpAnyH_done (by kernel_rfl) ?_ _
      clear HR HR2 hil hil2 HB HPV HPV2
      go_wp2
      go_roundw
      case rel => exact ⟨k + 1, by omega, by go_num, HB2.out⟩
      case measure => simp [intOf]; omega
    · have e : k = m := by omega
      subst e
      go_wp2
      go_ret
      exact ⟨rfl, HB.out⟩
theorem eqFlowS_of (n : Nat) (h : ∀ m, n = m + 1 → EqF D m) : EqFS D n := by
  intro l v v2 w hv hv2 hlim
  obtain ⟨_, a, cap, rfl, _, hc⟩ := hv
  obtain ⟨_, a2, cap2, rfl, _, hc2⟩ := hv2
  by_cases hne : l = []
  · subst hne
    exact eqFlowS_none a a2 cap cap2 w
  · obtain ⟨b, off, rfl, hbw, hk⟩ := hc hne
    obtain ⟨b2, off2, rfl, hbw2, hk2⟩ := hc2 hne
    cases n with
    | zero => exact absurd (no_kids l) hne
    | succ n => exact eqFlowS_some n (h n rfl) b off cap b2 off2 cap2 l w (List.length_pos_iff.2 hne) hlim hbw hbw2 hk hk2

set_option maxHeartbeats 2000000 in
theorem eqFlow_step (n : Nat) (IH : EqFS D n) : EqF D n := by
  intro p vc vk vd vl vr vf vc2 vk2 vd2 vl2 vr2 vf2 w hp hp2 hlim
  have HIH : Hid (EqFS D n) := IH
  obtain ⟨⟨ca, nc, cc, rfl⟩, ⟨ka, nk, kc, rfl⟩, ⟨da, nd, dc, rfl⟩⟩ := planV_shapes hp.1
  obtain ⟨la, nl, lc, rfl⟩ := hp.2.1.shapeN
  obtain ⟨ra, nr, rc, rfl⟩ := hp.2.2.1.shapeN
  obtain ⟨fa, nf, fc, rfl⟩ := hp.2.2.2.shapeN
  obtain ⟨⟨ca2, nc2, cc2, rfl⟩, ⟨ka2, nk2, kc2, rfl⟩, ⟨da2, nd2, dc2, rfl⟩⟩ := planV_shapes hp2.1
  obtain ⟨la2, nl2, lc2, rfl⟩ := hp2.2.1.shapeN
  obtain ⟨ra2, nr2, rc2, rfl⟩ := hp2.2.2.1.shapeN
  obtain ⟨fa2, nf2, fc2, rfl⟩ := hp2.2.2.2.shapeN
  have HP : Hid (PlanV (D + 1) w p.nd.p (.slice ca nc cc) (.slice ka nk kc) (.slice da nd dc)) := hp.1
  have HL : Hid (RawRuns w (.slice la nl lc) p.nd.l) := hp.2.1
  have HR : Hid (RawRuns w (.slice ra nr rc) p.nd.r) := hp.2.2.1
  have HK : Hid (FKidsV (FNodeAt n) w (.slice fa nf fc) p.kids) := hp.2.2.2
  have HP2 : Hid (PlanV (D + 1) w p.nd.p (.slice ca2 nc2 cc2) (.slice ka2 nk2 kc2) (.slice da2 nd2 dc2)) := hp2.1
  have HL2 : Hid (RawRuns w (.slice la2 nl2 lc2) p.nd.l) := hp2.2.1
  have HR2 : Hid (RawRuns w (.slice ra2 nr2 rc2) p.nd.r) := hp2.2.2.1
  have HK2 : Hid (FKidsV (FNodeAt n) w (.slice fa2 nf2 fc2) p.kids) := hp2.2.2.2
  have HZ : Hid (Pl.sz (D + 1) p.nd.p ≤ 1048576 ∧ p.nd.l.length + runsLen p.nd.l ≤ 1048576 ∧ p.nd.r.length + runsLen p.nd.r ≤ 1048576 ∧ p.kids.length + kidsSz n p.kids ≤ 1048576) := by
    have e : Fl.sz (n + 1) p = Pl.sz (D + 1) p.nd.p + (p.nd.l.length + runsLen p.nd.l) + (p.nd.r.length + runsLen p.nd.r) + (p.kids.length + kidsSz n p.kids) := rfl
    show _ ∧ _
    omega
  clear hp hp2 IH hlim
  obtain ⟨w0, hw0⟩ : ∃ w0, w0 = (w.alloc (.cells #[.int .i64 p.nd.p.nd.k, .int .i64 p.nd.p.nd.n, .int .i64 p.nd.p.nd.t.k, .bool p.nd.p.nd.t.no, .int .i64 p.nd.p.nd.t.l.k, .int .i64 p.nd.p.nd.t.l.a, .int .i64 p.nd.p.nd.t.l.b, .int .i64 p.nd.p.nd.t.l.n, .int .i64 p.nd.p.nd.t.r.k, .int .i64 p.nd.p.nd.t.r.a, .int .i64 p.nd.p.nd.t.r.b, .int .i64 p.nd.p.nd.t.r.n, .slice ca nc cc, .int .i64 p.nd.p.nd.a, .int .i64 p.nd.p.nd.b, .slice ka nk kc, .int .i64 p.nd.p.nd.g, .int .i64 p.nd.p.nd.c, .slice da nd dc, .slice la nl lc, .slice ra nr rc, .slice fa nf fc] 51)).alloc (.cells #[.int .i64 p.nd.p.nd.k, .int .i64 p.nd.p.nd.n, .int .i64 p.nd.p.nd.t.k, .bool p.nd.p.nd.t.no, .int .i64 p.nd.p.nd.t.l.k, .int .i64 p.nd.p.nd.t.l.a, .int .i64 p.nd.p.nd.t.l.b, .int .i64 p.nd.p.nd.t.l.n, .int .i64 p.nd.p.nd.t.r.k, .int .i64 p.nd.p.nd.t.r.a, .int .i64 p.nd.p.nd.t.r.b, .int .i64 p.nd.p.nd.t.r.n, .slice ca2 nc2 cc2, .int .i64 p.nd.p.nd.a, .int .i64 p.nd.p.nd.b, .slice ka2 nk2 kc2, .int .i64 p.nd.p.nd.g, .int .i64 p.nd.p.nd.c, .slice da2 nd2 dc2, .slice la2 nl2 lc2, .slice ra2 nr2 rc2, .slice fa2 nf2 fc2] 51) := ⟨_, rfl⟩
  have HA : Hid (w0.heap[w.heap.size]? = some (.cells #[.int .i64 p.nd.p.nd.k, .int .i64 p.nd.p.nd.n, .int .i64 p.nd.p.nd.t.k, .bool p.nd.p.nd.t.no, .int .i64 p.nd.p.nd.t.l.k, .int .i64 p.nd.p.nd.t.l.a, .int .i64 p.nd.p.nd.t.l.b, .int .i64 p.nd.p.nd.t.l.n, .int .i64 p.nd.p.nd.t.r.k, .int .i64 p.nd.p.nd.t.r.a, .int .i64 p.nd.p.nd.t.r.b, .int .i64 p.nd.p.nd.t.r.n, .slice ca nc cc, .int .i64 p.nd.p.nd.a, .int .i64 p.nd.p.nd.b, .slice ka nk kc, .int .i64 p.nd.p.nd.g, .int .i64 p.nd.p.nd.c, .slice da nd dc, .slice la nl lc, .slice ra nr rc, .slice fa nf fc] 51)) := by show _ = _; rw [hw0]; exact (two w _ _).1
  have HQ : Hid (w0.heap[w.heap.size + 1]? = some (.cells #[.int .i64 p.nd.p.nd.k, .int .i64 p.nd.p.nd.n, .int .i64 p.nd.p.nd.t.k, .bool p.nd.p.nd.t.no, .int .i64 p.nd.p.nd.t.l.k, .int .i64 p.nd.p.nd.t.l.a, .int .i64 p.nd.p.nd.t.l.b, .int .i64 p.nd.p.nd.t.l.n, .int .i64 p.nd.p.nd.t.r.k, .int .i64 p.nd.p.nd.t.r.a, .int .i64 p.nd.p.nd.t.r.b, .int .i64 p.nd.p.nd.t.r.n, .slice ca2 nc2 cc2, .int .i64 p.nd.p.nd.a, .int .i64 p.nd.p.nd.b, .slice ka2 nk2 kc2, .int .i64 p.nd.p.nd.g, .int .i64 p.nd.p.nd.c, .slice da2 nd2 dc2, .slice la2 nl2 lc2, .slice ra2 nr2 rc2, .slice fa2 nf2 fc2] 51)) := by show _ = _; rw [hw0]; exact (two w _ _).2.1
  have HB : Hid (Below w.heap.size w w0) := by show Below _ _ _; rw [hw0]; exact (two w _ _).2.2
  have HRA : Hid (w0.rangeAt (w.heap.size) 0 [.int .i64 p.nd.p.nd.k, .int .i64 p.nd.p.nd.n, .int .i64 p.nd.p.nd.t.k, .bool p.nd.p.nd.t.no, .int .i64 p.nd.p.nd.t.l.k, .int .i64 p.nd.p.nd.t.l.a, .int .i64 p.nd.p.nd.t.l.b, .int .i64 p.nd.p.nd.t.l.n, .int .i64 p.nd.p.nd.t.r.k, .int .i64 p.nd.p.nd.t.r.a, .int .i64 p.nd.p.nd.t.r.b, .int .i64 p.nd.p.nd.t.r.n, .slice ca nc cc, .int .i64 p.nd.p.nd.a, .int .i64 p.nd.p.nd.b, .slice ka nk kc, .int .i64 p.nd.p.nd.g, .int .i64 p.nd.p.nd.c, .slice da nd dc]) := (ff_blk HA.out).1.range
  have HRB : Hid (w0.rangeAt (w.heap.size + 1) 0 [.int .i64 p.nd.p.nd.k, .int .i64 p.nd.p.nd.n, .int .i64 p.nd.p.nd.t.k, .bool p.nd.p.nd.t.no, .int .i64 p.nd.p.nd.t.l.k, .int .i64 p.nd.p.nd.t.l.a, .int .i64 p.nd.p.nd.t.l.b, .int .i64 p.nd.p.nd.t.l.n, .int .i64 p.nd.p.nd.t.r.k, .int .i64 p.nd.p.nd.t.r.a, .int .i64 p.nd.p.nd.t.r.b, .int .i64 p.nd.p.nd.t.r.n, .slice ca2 nc2 cc2, .int .i64 p.nd.p.nd.a, .int .i64 p.nd.p.nd.b, .slice ka2 nk2 kc2, .int .i64 p.nd.p.nd.g, .int .i64 p.nd.p.nd.c, .slice da2 nd2 dc2]) := (ff_blk HQ.out).1.range
  have hil : (Try.prog.info? 45).map (·.size) = some ([.int .i64 p.nd.p.nd.k, .int .i64 p.nd.p.nd.n, .int .i64 p.nd.p.nd.t.k, .bool p.nd.p.nd.t.no, .int .i64 p.nd.p.nd.t.l.k, .int .i64 p.nd.p.nd.t.l.a, .int .i64 p.nd.p.nd.t.l.b, .int .i64 p.nd.p.nd.t.l.n, .int .i64 p.nd.p.nd.t.r.k, .int .i64 p.nd.p.nd.t.r.a, .int .i64 p.nd.p.nd.t.r.b, .int .i64 p.nd.p.nd.t.r.n, .slice ca nc cc, .int .i64 p.nd.p.nd.a, .int .i64 p.nd.p.nd.b, .slice ka nk kc, .int .i64 p.nd.p.nd.g, .int .i64 p.nd.p.nd.c, .slice da nd dc] : List Value).length := by kernel_rfl
  have hil2 : (Try.prog.info? 45).map (·.size) = some ([.int .i64 p.nd.p.nd.k, .int .i64 p.nd.p.nd.n, .int .i64 p.nd.p.nd.t.k, .bool p.nd.p.nd.t.no, .int .i64 p.nd.p.nd.t.l.k, .int .i64 p.nd.p.nd.t.l.a, .int .i64 p.nd.p.nd.t.l.b, .int .i64 p.nd.p.nd.t.l.n, .int .i64 p.nd.p.nd.t.r.k, .int .i64 p.nd.p.nd.t.r.a, .int .i64 p.nd.p.nd.t.r.b, .int .i64 p.nd.p.nd.t.r.n, .slice ca2 nc2 cc2, .int .i64 p.nd.p.nd.a, .int .i64 p.nd.p.nd.b, .slice ka2 nk2 kc2, .int .i64 p.nd.p.nd.g, .int .i64 p.nd.p.nd.c, .slice da2 nd2 dc2] : List Value).length := by kernel_rfl
  have hw0' := hw0.symm
  clear hw0
  go_enter Try.func9, Try.ntmps9
  go_wp2_with (first | (refine wpList_load_mid rfl 45 _ rfl (w.heap.size) 0 rfl [.int .i64 p.nd.p.nd.k, .int .i64 p.nd.p.nd.n, .int .i64 p.nd.p.nd.t.k, .bool p.nd.p.nd.t.no, .int .i64 p.nd.p.nd.t.l.k, .int .i64 p.nd.p.nd.t.l.a, .int .i64 p.nd.p.nd.t.l.b, .int .i64 p.nd.p.nd.t.l.n, .int .i64 p.nd.p.nd.t.r.k, .int .i64 p.nd.p.nd.t.r.a, .int .i64 p.nd.p.nd.t.r.b, .int .i64 p.nd.p.nd.t.r.n, .slice ca nc cc, .int .i64 p.nd.p.nd.a, .int .i64 p.nd.p.nd.b, .slice ka nk kc, .int .i64 p.nd.p.nd.g, .int .i64 p.nd.p.nd.c, .slice da nd dc] _ HRA.out Try.underlying45 rfl hil ?_) | (refine wpList_load_mid rfl 45 _ rfl (w.heap.size + 1) 0 rfl [.int .i64 p.nd.p.nd.k, .int .i64 p.nd.p.nd.n, .int .i64 p.nd.p.nd.t.k, .bool p.nd.p.nd.t.no, .int .i64 p.nd.p.nd.t.l.k, .int .i64 p.nd.p.nd.t.l.a, .int .i64 p.nd.p.nd.t.l.b, .int .i64 p.nd.p.nd.t.l.n, .int .i64 p.nd.p.nd.t.r.k, .int .i64 p.nd.p.nd.t.r.a, .int .i64 p.nd.p.nd.t.r.b, .int .i64 p.nd.p.nd.t.r.n, .slice ca2 nc2 cc2, .int .i64 p.nd.p.nd.a, .int .i64 p.nd.p.nd.b, .slice ka2 nk2 kc2, .int .i64 p.nd.p.nd.g, .int .i64 p.nd.p.nd.c, .slice da2 nd2 dc2] _ HRB.out Try.underlying45 rfl hil2 ?_))
  clear hw0'
  refine (eqPlan_same D p.nd.p _ _ _ _ _ _ _ (PlanV.below HP.out HB.out) (PlanV.below HP2.out HB.out) HZ.out.1).mono ?_
  rintro e w1 ⟨rfl, hb⟩
  replace HA : Hid (w1.heap[w.heap.size]? = some (.cells #[.int .i64 p.nd.p.nd.k, .int .i64 p.nd.p.nd.n, .int .i64 p.nd.p.nd.t.k, .bool p.nd.p.nd.t.no, .int .i64 p.nd.p.nd.t.l.k, .int .i64 p.nd.p.nd.t.l.a, .int .i64 p.nd.p.nd.t.l.b, .int .i64 p.nd.p.nd.t.l.n, .int .i64 p.nd.p.nd.t.r.k, .int .i64 p.nd.p.nd.t.r.a, .int .i64 p.nd.p.nd.t.r.b, .int .i64 p.nd.p.nd.t.r.n, .slice ca nc cc, .int .i64 p.nd.p.nd.a, .int .i64 p.nd.p.nd.b, .slice ka nk kc, .int .i64 p.nd.p.nd.g, .int .i64 p.nd.p.nd.c, .slice da nd dc, .slice la nl lc, .slice ra nr rc, .slice fa nf fc] 51)) := at_below HA.out hb
  replace HQ : Hid (w1.heap[w.heap.size + 1]? = some (.cells #[.int .i64 p.nd.p.nd.k, .int .i64 p.nd.p.nd.n, .int .i64 p.nd.p.nd.t.k, .bool p.nd.p.nd.t.no, .int .i64 p.nd.p.nd.t.l.k, .int .i64 p.nd.p.nd.t.l.a, .int .i64 p.nd.p.nd.t.l.b, .int .i64 p.nd.p.nd.t.l.n, .int .i64 p.nd.p.nd.t.r.k, .int .i64 p.nd.p.nd.t.r.a, .int .i64 p.nd.p.nd.t.r.b, .int .i64 p.nd.p.nd.t.r.n, .slice ca2 nc2 cc2, .int .i64 p.nd.p.nd.a, .int .i64 p.nd.p.nd.b, .slice ka2 nk2 kc2, .int .i64 p.nd.p.nd.g, .int .i64 p.nd.p.nd.c, .slice da2 nd2 dc2, .slice la2 nl2 lc2, .slice ra2 nr2 rc2, .slice fa2 nf2 fc2] 51)) := at_below HQ.out hb
  replace HB : Hid (Below w.heap.size w w1) := bel_then HB.out hb
  clear hb HRA HRB hil hil2
  have HSA : Hid (w1.rangeAt (w.heap.size) 19 [.slice la nl lc]) := one_range (ff_blk HA.out).2.1
  have HSB : Hid (w1.rangeAt (w.heap.size + 1) 19 [.slice la2 nl2 lc2]) := one_range (ff_blk HQ.out).2.1
  have hsa : (Try.prog.info? 48).map (·.size) = some ([.slice la nl lc] : List Value).length := by kernel_rfl
  have hsb : (Try.prog.info? 48).map (·.size) = some ([.slice la2 nl2 lc2] : List Value).length := by kernel_rfl
  go_wp2_with (first | (refine wpList_load_mid rfl 48 _ rfl (w.heap.size) 19 rfl [.slice la nl lc] _ HSA.out Try.underlying48 rfl hsa ?_) | (refine wpList_load_mid rfl 48 _ rfl (w.heap.size + 1) 19 rfl [.slice la2 nl2 lc2] _ HSB.out Try.underlying48 rfl hsb ?_))
  refine (eqSpine_self _ _ p.nd.l _ ((HL.out.below HB.out).runsI HZ.out.2.1) ((HL2.out.below HB.out).runsI HZ.out.2.1)).mono ?_
  rintro e w2 ⟨rfl, hb⟩
  replace HA : Hid (w2.heap[w.heap.size]? = some (.cells #[.int .i64 p.nd.p.nd.k, .int .i64 p.nd.p.nd.n, .int .i64 p.nd.p.nd.t.k, .bool p.nd.p.nd.t.no, .int .i64 p.nd.p.nd.t.l.k, .int .i64 p.nd.p.nd.t.l.a, .int .i64 p.nd.p.nd.t.l.b, .int .i64 p.nd.p.nd.t.l.n, .int .i64 p.nd.p.nd.t.r.k, .int .i64 p.nd.p.nd.t.r.a, .int .i64 p.nd.p.nd.t.r.b, .int .i64 p.nd.p.nd.t.r.n, .slice ca nc cc, .int .i64 p.nd.p.nd.a, .int .i64 p.nd.p.nd.b, .slice ka nk kc, .int .i64 p.nd.p.nd.g, .int .i64 p.nd.p.nd.c, .slice da nd dc, .slice la nl lc, .slice ra nr rc, .slice fa nf fc] 51)) := at_below HA.out hb
  replace HQ : Hid (w2.heap[w.heap.size + 1]? = some (.cells #[.int .i64 p.nd.p.nd.k, .int .i64 p.nd.p.nd.n, .int .i64 p.nd.p.nd.t.k, .bool p.nd.p.nd.t.no, .int .i64 p.nd.p.nd.t.l.k, .int .i64 p.nd.p.nd.t.l.a, .int .i64 p.nd.p.nd.t.l.b, .int .i64 p.nd.p.nd.t.l.n, .int .i64 p.nd.p.nd.t.r.k, .int .i64 p.nd.p.nd.t.r.a, .int .i64 p.nd.p.nd.t.r.b, .int .i64 p.nd.p.nd.t.r.n, .slice ca2 nc2 cc2, .int .i64 p.nd.p.nd.a, .int .i64 p.nd.p.nd.b, .slice ka2 nk2 kc2, .int .i64 p.nd.p.nd.g, .int .i64 p.nd.p.nd.c, .slice da2 nd2 dc2, .slice la2 nl2 lc2, .slice ra2 nr2 rc2, .slice fa2 nf2 fc2] 51)) := at_below HQ.out hb
  replace HB : Hid (Below w.heap.size w w2) := bel_then HB.out hb
  clear hb HSA HSB hsa hsb
  have HSA : Hid (w2.rangeAt (w.heap.size) 20 [.slice ra nr rc]) := one_range (ff_blk HA.out).2.2.1
  have HSB : Hid (w2.rangeAt (w.heap.size + 1) 20 [.slice ra2 nr2 rc2]) := one_range (ff_blk HQ.out).2.2.1
  have hsa : (Try.prog.info? 48).map (·.size) = some ([.slice ra nr rc] : List Value).length := by kernel_rfl
  have hsb : (Try.prog.info? 48).map (·.size) = some ([.slice ra2 nr2 rc2] : List Value).length := by kernel_rfl
  go_wp2_with (first | (refine wpList_load_mid rfl 48 _ rfl (w.heap.size) 20 rfl [.slice ra nr rc] _ HSA.out Try.underlying48 rfl hsa ?_) | (refine wpList_load_mid rfl 48 _ rfl (w.heap.size + 1) 20 rfl [.slice ra2 nr2 rc2] _ HSB.out Try.underlying48 rfl hsb ?_))
  refine (eqSpine_self _ _ p.nd.r _ ((HR.out.below HB.out).runsI HZ.out.2.2.1) ((HR2.out.below HB.out).runsI HZ.out.2.2.1)).mono ?_
  rintro e w3 ⟨rfl, hb⟩
  replace HA : Hid (w3.heap[w.heap.size]? = some (.cells #[.int .i64 p.nd.p.nd.k, .int .i64 p.nd.p.nd.n, .int .i64 p.nd.p.nd.t.k, .bool p.nd.p.nd.t.no, .int .i64 p.nd.p.nd.t.l.k, .int .i64 p.nd.p.nd.t.l.a, .int .i64 p.nd.p.nd.t.l.b, .int .i64 p.nd.p.nd.t.l.n, .int .i64 p.nd.p.nd.t.r.k, .int .i64 p.nd.p.nd.t.r.a, .int .i64 p.nd.p.nd.t.r.b, .int .i64 p.nd.p.nd.t.r.n, .slice ca nc cc, .int .i64 p.nd.p.nd.a, .int .i64 p.nd.p.nd.b, .slice ka nk kc, .int .i64 p.nd.p.nd.g, .int .i64 p.nd.p.nd.c, .slice da nd dc, .slice la nl lc, .slice ra nr rc, .slice fa nf fc] 51)) := at_below HA.out hb
  replace HQ : Hid (w3.heap[w.heap.size + 1]? = some (.cells #[.int .i64 p.nd.p.nd.k, .int .i64 p.nd.p.nd.n, .int .i64 p.nd.p.nd.t.k, .bool p.nd.p.nd.t.no, .int .i64 p.nd.p.nd.t.l.k, .int .i64 p.nd.p.nd.t.l.a, .int .i64 p.nd.p.nd.t.l.b, .int .i64 p.nd.p.nd.t.l.n, .int .i64 p.nd.p.nd.t.r.k, .int .i64 p.nd.p.nd.t.r.a, .int .i64 p.nd.p.nd.t.r.b, .int .i64 p.nd.p.nd.t.r.n, .slice ca2 nc2 cc2, .int .i64 p.nd.p.nd.a, .int .i64 p.nd.p.nd.b, .slice ka2 nk2 kc2, .int .i64 p.nd.p.nd.g, .int .i64 p.nd.p.nd.c, .slice da2 nd2 dc2, .slice la2 nl2 lc2, .slice ra2 nr2 rc2, .slice fa2 nf2 fc2] 51)) := at_below HQ.out hb
  replace HB : Hid (Below w.heap.size w w3) := bel_then HB.out hb
  clear hb HSA HSB hsa hsb
  have ck : w3.cell? ⟨w.heap.size, 21, none⟩ = some (.slice fa nf fc) := (ff_blk HA.out).2.2.2
  have ck2 : w3.cell? ⟨w.heap.size + 1, 21, none⟩ = some (.slice fa2 nf2 fc2) := (ff_blk HQ.out).2.2.2
  go_wp2_with fail
  refine (HIH.out p.kids _ _ _ (HK.out.below HB.out fun b o x hx => FNodeAt.below n hx HB.out) (HK2.out.below HB.out fun b o x hx => FNodeAt.below n hx HB.out) HZ.out.2.2.2).mono ?_
  rintro e w4 ⟨rfl, hb⟩
  replace HB : Hid (Below w.heap.size w w4) := bel_then HB.out hb
  clear hb ck ck2
  go_wp2
  go_ret
  exact ⟨rfl, HB.out⟩

theorem eqFlow_same : ∀ n, EqF D n
  | 0 => eqFlow_step 0 (eqFlowS_of 0 fun m h => by omega)
  | n + 1 => eqFlow_step (n + 1) (eqFlowS_of (n + 1) fun m h => by obtain rfl : n = m := by omega
                                                                   exact eqFlow_same n)

end Go.Proofs.Ytfmgohoddaobmaa.Fw
