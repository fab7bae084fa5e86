/-
  The contracts of laws.toPlanS and laws.toPlan: a plan copied into new memory.
-/
import Derived.Test.YtkmihnagmbdbgaaPlanCopy
namespace Go.Proofs.Ytkmihnagmbdbgaa
set_option maxRecDepth 100000
open Go.RowKit
set_option linter.unusedVariables false

theorem fields_range {w : World} {b o : Nat} {d : Nd} {vc vk vd : Value} (h : w.rangeAt b o [.int .i64 d.k, .int .i64 d.n, .int .i64 d.t.k, .bool d.t.no, .int .i64 d.t.l.k, .int .i64 d.t.l.a, .int .i64 d.t.l.b, .int .i64 d.t.l.n, .int .i64 d.t.r.k, .int .i64 d.t.r.a, .int .i64 d.t.r.b, .int .i64 d.t.r.n, vc, .int .i64 d.a, .int .i64 d.b, vk, .int .i64 d.g, .int .i64 d.c, vd]) : Fields w b o d vc vk vd :=
  ⟨h 0 _ rfl, h 1 _ rfl, h 2 _ rfl, h 3 _ rfl, h 4 _ rfl, h 5 _ rfl, h 6 _ rfl, h 7 _ rfl, h 8 _ rfl, h 9 _ rfl, h 10 _ rfl, h 11 _ rfl, h 12 _ rfl, h 13 _ rfl, h 14 _ rfl, h 15 _ rfl, h 16 _ rfl, h 17 _ rfl, h 18 _ rfl⟩
theorem Fields.same {w w' : World} {b o : Nat} {d : Nd} {vc vk vd : Value} (h : Fields w b o d vc vk vd) (k : ∀ o, w'.cell? ⟨b, o, none⟩ = w.cell? ⟨b, o, none⟩) : Fields w' b o d vc vk vd := by
  obtain ⟨c0, c1, c2, c3, c4, c5, c6, c7, c8, c9, c10, c11, c12, c13, c14, c15, c16, c17, c18⟩ := h
  exact ⟨(k _).trans c0, (k _).trans c1, (k _).trans c2, (k _).trans c3, (k _).trans c4, (k _).trans c5, (k _).trans c6, (k _).trans c7, (k _).trans c8, (k _).trans c9, (k _).trans c10, (k _).trans c11, (k _).trans c12, (k _).trans c13, (k _).trans c14, (k _).trans c15, (k _).trans c16, (k _).trans c17, (k _).trans c18⟩
theorem one19 (d : Nd) (vc vk vd : Value) (h1 : vc.oneCell' = true) (h2 : vk.oneCell' = true) (h3 : vd.oneCell' = true) : (#[.int .i64 d.k, .int .i64 d.n, .int .i64 d.t.k, .bool d.t.no, .int .i64 d.t.l.k, .int .i64 d.t.l.a, .int .i64 d.t.l.b, .int .i64 d.t.l.n, .int .i64 d.t.r.k, .int .i64 d.t.r.a, .int .i64 d.t.r.b, .int .i64 d.t.r.n, vc, .int .i64 d.a, .int .i64 d.b, vk, .int .i64 d.g, .int .i64 d.c, vd] : Array Value).all (·.oneCell') = true :=
  all_oneCell_toArray (cs := [.int .i64 d.k, .int .i64 d.n, .int .i64 d.t.k, .bool d.t.no, .int .i64 d.t.l.k, .int .i64 d.t.l.a, .int .i64 d.t.l.b, .int .i64 d.t.l.n, .int .i64 d.t.r.k, .int .i64 d.t.r.a, .int .i64 d.t.r.b, .int .i64 d.t.r.n, vc, .int .i64 d.a, .int .i64 d.b, vk, .int .i64 d.g, .int .i64 d.c, vd]) fun v hv => by
    simp only [List.mem_cons, List.not_mem_nil, or_false] at hv
    rcases hv with rfl | rfl | rfl | rfl | rfl | rfl | rfl | rfl | rfl | rfl | rfl | rfl | rfl | rfl | rfl | rfl | rfl | rfl | rfl <;> first | rfl | assumption
theorem infoPlan19 : (Try.prog.info? 39).map (fun i => (i.zero, i.size, i.bytes)) = some (some (.agg #[.int .i64 0, .int .i64 0, .int .i64 0, .bool false, .int .i64 0, .int .i64 0, .int .i64 0, .int .i64 0, .int .i64 0, .int .i64 0, .int .i64 0, .int .i64 0, .slice none 0 0, .int .i64 0, .int .i64 0, .slice none 0 0, .int .i64 0, .int .i64 0, .slice none 0 0]), 19, 200) := by kernel_rfl

/-- What hangs on a plan of new memory. -/
def PlanU (n : Nat) (x : World) (p : Pl (n + 1)) (vc vk vd : Value) : Prop := PlanV (n + 1) x p vc vk vd ∧ KidsU n x vd
/-- The contract of toPlan at plans that are not deeper than so. -/
def CpOk (n : Nat) : Prop := ∀ (p : Pl (n + 1)) (vc vk vd : Value) (w : World), PlanV (n + 1) w p vc vk vd → Pl.sz (n + 1) p ≤ 1048576 →
  Calls Try.prog 6 #[.agg #[.int .i64 p.nd.k, .int .i64 p.nd.n, .int .i64 p.nd.t.k, .bool p.nd.t.no, .int .i64 p.nd.t.l.k, .int .i64 p.nd.t.l.a, .int .i64 p.nd.t.l.b, .int .i64 p.nd.t.l.n, .int .i64 p.nd.t.r.k, .int .i64 p.nd.t.r.a, .int .i64 p.nd.t.r.b, .int .i64 p.nd.t.r.n, vc, .int .i64 p.nd.a, .int .i64 p.nd.b, vk, .int .i64 p.nd.g, .int .i64 p.nd.c, vd]] w fun e w' => ∃ ca ka da, e = .returned (.agg #[.int .i64 p.nd.k, .int .i64 p.nd.n, .int .i64 p.nd.t.k, .bool p.nd.t.no, .int .i64 p.nd.t.l.k, .int .i64 p.nd.t.l.a, .int .i64 p.nd.t.l.b, .int .i64 p.nd.t.l.n, .int .i64 p.nd.t.r.k, .int .i64 p.nd.t.r.a, .int .i64 p.nd.t.r.b, .int .i64 p.nd.t.r.n, .slice (some ca) p.nd.cs.length p.nd.cs.length, .int .i64 p.nd.a, .int .i64 p.nd.b, .slice (some ka) p.nd.ks.length p.nd.ks.length, .int .i64 p.nd.g, .int .i64 p.nd.c, .slice (some da) p.kids.length p.kids.length]) ∧ Up w.heap.size w' (fun x => PlanU n x p (.slice (some ca) p.nd.cs.length p.nd.cs.length) (.slice (some ka) p.nd.ks.length p.nd.ks.length) (.slice (some da) p.kids.length p.kids.length)) ∧ Below w.heap.size w w'
/-- The contract of toPlanS at kids that are not deeper than so. -/
def CpSOk (n : Nat) : Prop := ∀ (l : List (Pl n)) (v : Value) (w : World), KidsV (NodeAt n) w v l → l.length + kidsSz n l ≤ 1048576 →
  Calls Try.prog 16 #[v] w fun e w' => ∃ a, e = .returned (.slice (some a) l.length l.length) ∧ Up w.heap.size w' (fun x => KidsV (NodeAt n) x (.slice (some a) l.length l.length) l ∧ KidsU n x (.slice (some a) l.length l.length)) ∧ Below w.heap.size w w'

set_option maxHeartbeats 1000000 in
theorem toPlanS_none (a : Option Addr) (cap : Nat) (w : World) :
    Calls Try.prog 16 #[.slice a 0 cap] w fun e w' => e = .returned (.slice (some ⟨w.heap.size, 0, none⟩) 0 0) ∧ Below w.heap.size w w' := by
  obtain ⟨i0, hi, hz0, hz1, hz2⟩ := info_parts infoPlan19
  go_enter Try.func16, Try.ntmps16
  go_wp2_with (at_make; refine wpList_make_full _ rfl _ _ 37 rfl w.heap.size 39 i0 (.agg #[.int .i64 0, .int .i64 0, .int .i64 0, .bool false, .int .i64 0, .int .i64 0, .int .i64 0, .int .i64 0, .int .i64 0, .int .i64 0, .int .i64 0, .int .i64 0, .slice none 0 0, .int .i64 0, .int .i64 0, .slice none 0 0, .int .i64 0, .int .i64 0, .slice none 0 0]) 19 Try.underlying37 hi hz0 hz1 _ _ _ _ 0 rfl rfl rfl rfl (by rw [hz2]; omega) (by unfold maxLen; omega) (Nat.le_refl _) ?_; intro w1 hown1 hgrow1)
  have hb1 : Below w.heap.size w w1 := (Below.refl _ _).grown hgrow1 (Nat.le_refl _) (by simp)
  clear hown1 hgrow1 hi hz0 hz1 hz2
  refine wp_loop_rounds 1 ?_
  rw [rounds_succ]
  go_wp2
  go_ret
  exact ⟨rfl, hb1⟩

/-- The first k kids are copied. -/
def Done (n : Nat) (l : List (Pl (n + 1))) (g k : Nat) (w : World) : Prop := ∀ j (hj : j < l.length), j < k → ∃ vc vk vd, Fields w g (0 + j * 19) l[j].nd vc vk vd ∧ Up (g + 1) w (fun x => PlanU n x l[j] vc vk vd)

set_option maxHeartbeats 4000000 in
theorem toPlanS_some (n : Nat) (IH : CpOk n) (b off cap : Nat) (l : List (Pl (n + 1))) (w : World) (hpos : 0 < l.length) (hlim : l.length + kidsSz (n + 1) l ≤ 1048576) (hbw : b < w.heap.size)
    (hk : ∀ j (hj : j < l.length), NodeAt (n + 1) w b (off + j * 19) l[j]) :
    Calls Try.prog 16 #[.slice (some ⟨b, off, none⟩) l.length cap] w fun e w' =>
      e = .returned (.slice (some ⟨w.heap.size, 0, none⟩) l.length l.length) ∧ w.heap.size < w'.heap.size ∧ Unf w' w.heap.size ∧ Done n l w.heap.size l.length w' ∧ Below w.heap.size w w' := by
  have HIH : Hid (CpOk n) := IH
  have HK : Hid (∀ j (hj : j < l.length), NodeAt (n + 1) w b (off + j * 19) l[j]) := hk
  have HSZ : Hid (∀ j (hj : j < l.length), Pl.sz (n + 1) l[j] ≤ 1048576) := fun j hj => by have := kidsSz_at hj; omega
  have hlim2 : l.length ≤ 1048576 := by omega
  obtain ⟨i0, hi, hz0, hz1, hz2⟩ := info_parts infoPlan19
  obtain ⟨m, hm⟩ : ∃ m, m = l.length := ⟨_, rfl⟩
  have HM : Hid (m = l.length) := hm
  rw [← hm] at hpos hlim2 ⊢
  clear hm hk IH hlim
  go_enter Try.func16, Try.ntmps16
  go_wp2_with (at_make; refine wpList_make_full _ rfl _ _ 37 rfl w.heap.size 39 i0 (.agg #[.int .i64 0, .int .i64 0, .int .i64 0, .bool false, .int .i64 0, .int .i64 0, .int .i64 0, .int .i64 0, .int .i64 0, .int .i64 0, .int .i64 0, .int .i64 0, .slice none 0 0, .int .i64 0, .int .i64 0, .slice none 0 0, .int .i64 0, .int .i64 0, .slice none 0 0]) 19 Try.underlying37 hi hz0 hz1 _ _ _ _ m rfl rfl rfl rfl (by rw [hz2]; omega) (by unfold maxLen; omega) (Nat.le_refl _) ?_; intro w1 hown1 hgrow1)
  have HB1 : Hid (Below w.heap.size w w1) := (Below.refl _ _).grown hgrow1 (Nat.le_refl _) (by simp)
  have HT1 : Hid (w1.there w.heap.size 0 (m * 19)) := there_own hown1
  have hl1 : w.heap.size < w1.heap.size := own_lt hown1
  have HUN1 : Hid (Unf w1 w.heap.size) := by
    rcases hown1.2 with ⟨e, _⟩ | ⟨g, cap', cur, e, _, hg, _⟩
    · simp at e
    · simp only [Value.slice.injEq, Option.some.injEq, Addr.mk.injEq] at e
      obtain ⟨⟨rfl, _⟩, _⟩ := e
      exact ⟨_, _, hg⟩
  clear hown1 hgrow1 hi hz0 hz1 hz2
  go_loopw [4] (fun i wr => ∃ k : Nat, k ≤ m ∧ i = .int .i64 k ∧ Hid (w.heap.size < wr.heap.size) ∧ Hid (wr.there w.heap.size 0 (m * 19)) ∧ Hid (Unf wr w.heap.size) ∧ Hid (Done n l w.heap.size k wr) ∧ Hid (Below w.heap.size w wr))
    (fun i _ => m - (intOf i).toNat)
  case atStart => exact ⟨0, Nat.zero_le _, rfl, hl1, HT1.out, HUN1.out, fun j _ hj => by omega, HB1.out⟩
  case round =>
    obtain ⟨k, hk, rfl, HL, HT, HUN, HD, HB⟩ := hrel
    clear HB1 HT1 hl1 HUN1
    by_cases hlt : k < m
    · have hkl : k < l.length := by rw [← HM.out]; exact hlt
      obtain ⟨vc, vk, vd, hf, hp⟩ := fields_of (NodeAt.below _ (HK.out k hkl) HB.out)
      obtain ⟨q, hq⟩ : ∃ q, k * 19 = q := ⟨_, rfl⟩
      rw [hq] at hf
      have HQ : Hid (k * 19 = q) := hq
      have HR : Hid (wr.rangeAt b (off + q) ([.int .i64 l[k].nd.k, .int .i64 l[k].nd.n, .int .i64 l[k].nd.t.k, .bool l[k].nd.t.no, .int .i64 l[k].nd.t.l.k, .int .i64 l[k].nd.t.l.a, .int .i64 l[k].nd.t.l.b, .int .i64 l[k].nd.t.l.n, .int .i64 l[k].nd.t.r.k, .int .i64 l[k].nd.t.r.a, .int .i64 l[k].nd.t.r.b, .int .i64 l[k].nd.t.r.n, vc, .int .i64 l[k].nd.a, .int .i64 l[k].nd.b, vk, .int .i64 l[k].nd.g, .int .i64 l[k].nd.c, vd] : List Value)) := hf.range
      have hil : (Try.prog.info? 30).map (·.size) = some ([.int .i64 l[k].nd.k, .int .i64 l[k].nd.n, .int .i64 l[k].nd.t.k, .bool l[k].nd.t.no, .int .i64 l[k].nd.t.l.k, .int .i64 l[k].nd.t.l.a, .int .i64 l[k].nd.t.l.b, .int .i64 l[k].nd.t.l.n, .int .i64 l[k].nd.t.r.k, .int .i64 l[k].nd.t.r.a, .int .i64 l[k].nd.t.r.b, .int .i64 l[k].nd.t.r.n, vc, .int .i64 l[k].nd.a, .int .i64 l[k].nd.b, vk, .int .i64 l[k].nd.g, .int .i64 l[k].nd.c, vd] : List Value).length := by kernel_rfl
      have HPV : Hid (PlanV (n + 1) wr l[k] vc vk vd) := hp
      clear hp hf
      go_wp2_with (refine wpList_load_mid rfl 30 _ rfl b (off + q) rfl _ _ HR.out Try.underlying30 rfl hil ?_)
      refine (HIH.out l[k] vc vk vd _ HPV.out (HSZ.out k hkl)).mono ?_
      rintro e w2 ⟨ca, ka, da, rfl, hup, hb2⟩
      have HT2 : Hid (w2.there w.heap.size 0 (m * 19)) := there_below HT.out hb2 HL.out
      have HT3 : Hid (w2.there w.heap.size q (#[.int .i64 l[k].nd.k, .int .i64 l[k].nd.n, .int .i64 l[k].nd.t.k, .bool l[k].nd.t.no, .int .i64 l[k].nd.t.l.k, .int .i64 l[k].nd.t.l.a, .int .i64 l[k].nd.t.l.b, .int .i64 l[k].nd.t.l.n, .int .i64 l[k].nd.t.r.k, .int .i64 l[k].nd.t.r.a, .int .i64 l[k].nd.t.r.b, .int .i64 l[k].nd.t.r.n, .slice (some ca) l[k].nd.cs.length l[k].nd.cs.length, .int .i64 l[k].nd.a, .int .i64 l[k].nd.b, .slice (some ka) l[k].nd.ks.length l[k].nd.ks.length, .int .i64 l[k].nd.g, .int .i64 l[k].nd.c, .slice (some da) l[k].kids.length l[k].kids.length] : Array Value).size) := there_part HT2.out (by have := HQ.out; show q + 19 ≤ _; omega)
      have HL2 : Hid (w.heap.size < w2.heap.size) := Nat.lt_of_lt_of_le HL.out hb2.size
      have HB2 : Hid (Below w.heap.size w w2) := bel_then HB.out hb2
      have HUN2 : Hid (Unf w2 w.heap.size) := HUN.out.below hb2
      have HU : Hid (Up (w.heap.size + 1) w2 (fun x => PlanU n x l[k] (.slice (some ca) l[k].nd.cs.length l[k].nd.cs.length) (.slice (some ka) l[k].nd.ks.length l[k].nd.ks.length) (.slice (some da) l[k].kids.length l[k].kids.length))) := fun x hx => hup x (hx.mono HL.out)
      have HD2 : Hid (Done n l w.heap.size k w2) := fun j hj hjk => by
        obtain ⟨a1, a2, a3, h1, h2⟩ := HD.out j hj hjk
        exact ⟨a1, a2, a3, h1.below hb2 HL.out, h2.bel hb2⟩
      have hii : (Try.prog.info? 39).map (·.size) = some (#[.int .i64 l[k].nd.k, .int .i64 l[k].nd.n, .int .i64 l[k].nd.t.k, .bool l[k].nd.t.no, .int .i64 l[k].nd.t.l.k, .int .i64 l[k].nd.t.l.a, .int .i64 l[k].nd.t.l.b, .int .i64 l[k].nd.t.l.n, .int .i64 l[k].nd.t.r.k, .int .i64 l[k].nd.t.r.a, .int .i64 l[k].nd.t.r.b, .int .i64 l[k].nd.t.r.n, .slice (some ca) l[k].nd.cs.length l[k].nd.cs.length, .int .i64 l[k].nd.a, .int .i64 l[k].nd.b, .slice (some ka) l[k].nd.ks.length l[k].nd.ks.length, .int .i64 l[k].nd.g, .int .i64 l[k].nd.c, .slice (some da) l[k].kids.length l[k].kids.length] : Array Value).size := by kernel_rfl
      have H1 : Hid ((#[.int .i64 l[k].nd.k, .int .i64 l[k].nd.n, .int .i64 l[k].nd.t.k, .bool l[k].nd.t.no, .int .i64 l[k].nd.t.l.k, .int .i64 l[k].nd.t.l.a, .int .i64 l[k].nd.t.l.b, .int .i64 l[k].nd.t.l.n, .int .i64 l[k].nd.t.r.k, .int .i64 l[k].nd.t.r.a, .int .i64 l[k].nd.t.r.b, .int .i64 l[k].nd.t.r.n, .slice (some ca) l[k].nd.cs.length l[k].nd.cs.length, .int .i64 l[k].nd.a, .int .i64 l[k].nd.b, .slice (some ka) l[k].nd.ks.length l[k].nd.ks.length, .int .i64 l[k].nd.g, .int .i64 l[k].nd.c, .slice (some da) l[k].kids.length l[k].kids.length] : Array Value).all (·.oneCell') = true) := one19 l[k].nd _ _ _ rfl rfl rfl
      clear hb2 hup HR hil HT HL HB HD HPV
      go_wp2_with (refine wpList_store_mid rfl 39 _ _ rfl w.heap.size q #[.int .i64 l[k].nd.k, .int .i64 l[k].nd.n, .int .i64 l[k].nd.t.k, .bool l[k].nd.t.no, .int .i64 l[k].nd.t.l.k, .int .i64 l[k].nd.t.l.a, .int .i64 l[k].nd.t.l.b, .int .i64 l[k].nd.t.l.n, .int .i64 l[k].nd.t.r.k, .int .i64 l[k].nd.t.r.a, .int .i64 l[k].nd.t.r.b, .int .i64 l[k].nd.t.r.n, .slice (some ca) l[k].nd.cs.length l[k].nd.cs.length, .int .i64 l[k].nd.a, .int .i64 l[k].nd.b, .slice (some ka) l[k].nd.ks.length l[k].nd.ks.length, .int .i64 l[k].nd.g, .int .i64 l[k].nd.c, .slice (some da) l[k].kids.length l[k].kids.length] rfl rfl ?_ hii H1.out ?_)
      · exact HT3.out
      go_roundw
      case rel =>
        refine ⟨k + 1, by omega, by go_num, ?_, ?_, ?_, ?_, ?_⟩
        · show _ < _
          rw [size_setCells]; exact HL2.out
        · exact World.there_setCells HT2.out _ _ _
        · exact HUN2.out.sets _ _ _
        · intro j hj hjk1
          by_cases hjk : j = k
          · subst hjk
            refine ⟨_, _, _, ?_, HU.out.next (ab_setCells _ _ _ _ (by omega))⟩
            rw [Nat.zero_add, HQ.out]
            exact fields_range (World.rangeAt_setCells_same _ _ _ _ HT3.out)
          · have hlt2 : j < k := by omega
            obtain ⟨a1, a2, a3, h1, h2⟩ := HD2.out j hj hlt2
            refine ⟨a1, a2, a3, fields_range (World.rangeAt_setCells_apart h1.range _ _ _ (Or.inr (Or.inl ?_))), h2.next (ab_setCells _ _ _ _ (by omega))⟩
            have := HQ.out
            simp
            omega
        · exact bel_setCells _ _ _ _ HB2.out (Nat.le_refl _)
      case measure => simp [intOf]; omega
    · have e : k = m := by omega
      subst e
      go_wp2
      go_ret
      exact ⟨rfl, HL.out, HUN.out, HD.out, HB.out⟩

theorem toPlanS_of (n : Nat) (h : ∀ m, n = m + 1 → CpOk m) : CpSOk n := by
  intro l v w hv hlim
  obtain ⟨hl, a, cap, rfl, _, hc⟩ := hv
  by_cases hne : l = []
  · subst hne
    refine (toPlanS_none a cap w).mono fun e w' ⟨he, hb⟩ => ⟨_, he, fun x _ => ⟨⟨by simp, _, _, rfl, fun h => by simp at h, fun h => absurd rfl h⟩, ?_⟩, hb⟩
    cases n with
    | zero => intro b off k c e hk; simp only [Value.slice.injEq, List.length_nil] at e; omega
    | succ n => intro b off k c e hk; simp only [Value.slice.injEq, List.length_nil] at e; omega
  · obtain ⟨b, off, rfl, hbw, hk⟩ := hc hne
    cases n with
    | zero => cases l with
      | nil => exact absurd rfl hne
      | cons x _ => cases x
    | succ n =>
      refine (toPlanS_some n (h n rfl) b off cap l w (List.length_pos_iff.2 hne) hlim hbw hk).mono fun e w' ⟨he, hs, hun, hd, hb⟩ => ⟨_, he, fun x hx => ⟨?_, ?_⟩, hb⟩
      · refine ⟨hl, _, _, rfl, fun h => by simp at h, fun _ => ⟨_, _, rfl, Nat.lt_of_lt_of_le hs hx.size, fun j hj => ?_⟩⟩
        obtain ⟨vc, vk, vd, h1, h2⟩ := hd j hj hj
        exact ⟨Nat.lt_of_lt_of_le hs hx.size, vc, vk, vd, h1.same (fun o => hx.cell _ o (Nat.le_refl _) hs), (h2 x (hx.mono (by omega))).1⟩
      · intro b' off' k' c' e' hk'
        simp only [Value.slice.injEq, Option.some.injEq, Addr.mk.injEq, and_true] at e'
        obtain ⟨⟨rfl, rfl⟩, rfl, rfl⟩ := e'
        refine ⟨hx.un _ (Nat.le_refl _) hun, fun j hj vd' hvd => ?_⟩
        obtain ⟨vc, vk, vd, h1, h2⟩ := hd j hj hj
        have h18 := (h1.same (fun o => hx.cell _ o (Nat.le_refl _) hs)).2.2.2.2.2.2.2.2.2.2.2.2.2.2.2.2.2.2
        rw [h18] at hvd
        simp only [Option.some.injEq] at hvd
        subst hvd
        exact (h2 x (hx.mono (by omega))).2

theorem at_below {w w1 : World} {b : Nat} {o : Obj} (h : w.heap[b]? = some o) (hb : Below w.heap.size w w1) : w1.heap[b]? = some o := (hb.block b (Array.getElem?_eq_some_iff.1 h).1).trans h
theorem alloc_at (w : World) (o : Obj) : (w.alloc o).heap[w.heap.size]? = some o := by show (w.heap.push o)[w.heap.size]? = some o; simp
theorem alloc_sz (w : World) (o : Obj) : (w.alloc o).heap.size = w.heap.size + 1 := by show (w.heap.push o).size = _; simp
theorem threeAt (w : World) (o1 o2 o3 : Obj) : (((w.alloc o1).alloc o2).alloc o3).heap[w.heap.size]? = some o1 ∧ (((w.alloc o1).alloc o2).alloc o3).heap[w.heap.size + 1]? = some o2 ∧ (((w.alloc o1).alloc o2).alloc o3).heap[w.heap.size + 1 + 1]? = some o3 ∧ Below w.heap.size w (((w.alloc o1).alloc o2).alloc o3) ∧ (((w.alloc o1).alloc o2).alloc o3).heap.size = w.heap.size + 1 + 1 + 1 := by
  refine ⟨at_below (at_below (alloc_at w o1) (bel_alloc _)) (bel_alloc _), ?_, ?_, bel_then (bel_then (bel_alloc _) (bel_alloc _)) (bel_alloc _), ?_⟩
  · have h := at_below (alloc_at (w.alloc o1) o2) (bel_alloc o3)
    rwa [alloc_sz] at h
  · have h := alloc_at ((w.alloc o1).alloc o2) o3
    rwa [alloc_sz, alloc_sz] at h
  · rw [alloc_sz, alloc_sz, alloc_sz]
theorem cell_at {w : World} {b j : Nat} {vs : Array Value} {t : TypeId} {v : Value} (h : w.heap[b]? = some (.cells vs t)) (hj : vs[j]? = some v) : w.cell? ⟨b, j, none⟩ = some v := by simp [World.cell?, h, hj]
theorem frozen_at {w : World} {b : Nat} {vs : Array Value} {t : TypeId} (h : w.heap[b]? = some (.cells vs t)) (j : Nat) : w.frozen? ⟨b, j, none⟩ = false := by simp [World.frozen?, h]
theorem blk_same {w : World} {g j : Nat} {l : List Value} {e : TypeId} {u : Value} (h : w.heap[g]? = some (.cells l.toArray e)) : (w.setCell ⟨g, j, none⟩ u).heap[g]? = some (.cells (l.set j u).toArray e) := by
  have k := heap_setCell_same w g j l.toArray e u h
  rwa [List.setIfInBounds_toArray] at k
theorem setCell_sz (w : World) (a : Addr) (u : Value) : (w.setCell a u).heap.size = w.heap.size := by simp [World.setCell]
theorem ab_setCell {lo : Nat} {w w' : World} (h : Ab lo w w') {b o : Nat} {u : Value} (hb : b < lo) : Ab lo w (w'.setCell ⟨b, o, none⟩ u) := h.trans (ab_setCells w' b o [u] hb)
theorem range_blk {w : World} {b : Nat} {vs : Array Value} {t : TypeId} (h : w.heap[b]? = some (.cells vs t)) : w.rangeAt b 0 vs.toList := fun j v hv => by
  rw [Nat.zero_add]
  exact cell_at h (by simpa using hv)
theorem there_blk {w : World} {b : Nat} {vs : Array Value} {t : TypeId} (h : w.heap[b]? = some (.cells vs t)) : w.there b 0 vs.size := fun j hj => by
  rw [Nat.zero_add]
  exact ⟨by rw [cell_at h (Array.getElem?_eq_getElem hj)]; rfl, frozen_at h j⟩
theorem results_cell {P : Program} {fn : Func} {tmps : Array Value} {w : World} {v : Value} {a : Nat} {t : TypeId} {ad : Addr} (h : fn.results = #[.cell a t]) (ha : tmps.getD a undef = .pointer (some ad)) (hl : (loadVar t ad).run P w = .ok v w) : (results fn tmps).run P w = .ok v w := by
  unfold results
  rw [h]
  generalize hq : loadVar t = L at hl
  simp only [Array.mapM_eq_mapM_toList, List.mapM_cons, List.mapM_nil, ha, asAddr, hq]
  simp [hl]
theorem blk_other {w : World} {b g j : Nat} {u : Value} {o : Obj} (h : w.heap[b]? = some o) (hne : b ≠ g) : (w.setCell ⟨g, j, none⟩ u).heap[b]? = some o := (Below.heap_setCell w ⟨g, j, none⟩ u b hne).trans h

end Go.Proofs.Ytkmihnagmbdbgaa
