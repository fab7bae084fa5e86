/-
  The contracts of laws.toFlowS and laws.toFlow: a flow copied into new memory, in blocks that are not frozen.
-/
import Derived.Test.YtfmgohoddaobmaaFlowSz
namespace Go.Proofs.Ytfmgohoddaobmaa.Fw
set_option maxRecDepth 100000
open Go.RowKit
set_option linter.unusedVariables false
set_option linter.unusedSimpArgs false
variable {D : Nat}

theorem infoFlow22 : (Try.prog.info? 51).map (fun i => (i.zero, i.size, i.bytes)) = some (some (.agg #[.int .i64 0, .int .i64 0, .int .i64 0, .bool false, .int .i64 0, .int .i64 0, .int .i64 0, .int .i64 0, .int .i64 0, .int .i64 0, .int .i64 0, .int .i64 0, .slice none 0 0, .int .i64 0, .int .i64 0, .slice none 0 0, .int .i64 0, .int .i64 0, .slice none 0 0, .slice none 0 0, .slice none 0 0, .slice none 0 0]), 22, 272) := by kernel_rfl
def setsL : List Value → Nat → List Value → List Value
  | l, _, [] => l
  | l, o, v :: vs => setsL (l.set o v) (o + 1) vs
theorem blk_sets {g : Nat} {e : TypeId} : ∀ (vs : List Value) (o : Nat) {l : List Value} {w : World}, w.heap[g]? = some (.cells l.toArray e) → (w.setCells g o vs).heap[g]? = some (.cells (setsL l o vs).toArray e)
  | [], _, _, _, h => h
  | v :: r, o, l, w, h => by rw [World.setCells, setsL]; exact blk_sets r (o + 1) (blk_same h)
theorem blk_others {g b : Nat} {x : Obj} (hne : b ≠ g) : ∀ (vs : List Value) (o : Nat) {w : World}, w.heap[b]? = some x → (w.setCells g o vs).heap[b]? = some x
  | [], _, _, h => h
  | v :: r, o, w, h => by rw [World.setCells]; exact blk_others hne r (o + 1) (blk_other h hne)
theorem there_at {w : World} {b : Nat} {vs : Array Value} {t : TypeId} (h : w.heap[b]? = some (.cells vs t)) (o m : Nat) (hm : o + m ≤ vs.size) : w.there b o m := there_part (there_blk h) hm

/-- The blocks in which kids of flows lie, and the kids of their plans, all the way down, are not frozen. -/
def FKidsU (D : Nat) : Nat → World → Value → Prop
  | 0 => fun w v => ∀ b off k c, v = .slice (some ⟨b, off, none⟩) k c → 0 < k → Unf w b
  | n + 1 => fun w v => ∀ b off k c, v = .slice (some ⟨b, off, none⟩) k c → 0 < k → Unf w b ∧ ∀ j, j < k → (∀ vd, w.cell? ⟨b, off + j * 22 + 18, none⟩ = some vd → KidsU D w vd) ∧ ∀ vf, w.cell? ⟨b, off + j * 22 + 21, none⟩ = some vf → FKidsU D n w vf
/-- A flow in blocks that are not frozen. -/
def FlowU (n : Nat) (w : World) (p : Fl D (n + 1)) (vc vk vd vl vr vf : Value) : Prop := FlowV (n + 1) w p vc vk vd vl vr vf ∧ KidsU D w vd ∧ FKidsU D n w vf
/-- They are slices. -/
def Sl6 (vc vk vd vl vr vf : Value) : Prop := (∃ a n c, vc = Value.slice a n c) ∧ (∃ a n c, vk = Value.slice a n c) ∧ (∃ a n c, vd = Value.slice a n c) ∧ (∃ a n c, vl = Value.slice a n c) ∧ (∃ a n c, vr = Value.slice a n c) ∧ (∃ a n c, vf = Value.slice a n c)
/-- The contract of toFlow at flows that are not deeper than so. -/
def CpF (D n : Nat) : Prop := ∀ (p : Fl D (n + 1)) (vc vk vd vl vr vf : Value) (w : World), FlowV (n + 1) w p vc vk vd vl vr vf → Fl.sz (n + 1) p ≤ 1048576 →
  Calls Try.prog 7 #[.agg #[.int .i64 p.nd.p.nd.k, .int .i64 p.nd.p.nd.n, .int .i64 p.nd.p.nd.t.k, .bool p.nd.p.nd.t.no, .int .i64 p.nd.p.nd.t.l.k, .int .i64 p.nd.p.nd.t.l.a, .int .i64 p.nd.p.nd.t.l.b, .int .i64 p.nd.p.nd.t.l.n, .int .i64 p.nd.p.nd.t.r.k, .int .i64 p.nd.p.nd.t.r.a, .int .i64 p.nd.p.nd.t.r.b, .int .i64 p.nd.p.nd.t.r.n, vc, .int .i64 p.nd.p.nd.a, .int .i64 p.nd.p.nd.b, vk, .int .i64 p.nd.p.nd.g, .int .i64 p.nd.p.nd.c, vd, vl, vr, vf]] w fun e w' => ∃ vc' vk' vd' vl' vr' vf', e = .returned (.agg #[.int .i64 p.nd.p.nd.k, .int .i64 p.nd.p.nd.n, .int .i64 p.nd.p.nd.t.k, .bool p.nd.p.nd.t.no, .int .i64 p.nd.p.nd.t.l.k, .int .i64 p.nd.p.nd.t.l.a, .int .i64 p.nd.p.nd.t.l.b, .int .i64 p.nd.p.nd.t.l.n, .int .i64 p.nd.p.nd.t.r.k, .int .i64 p.nd.p.nd.t.r.a, .int .i64 p.nd.p.nd.t.r.b, .int .i64 p.nd.p.nd.t.r.n, vc', .int .i64 p.nd.p.nd.a, .int .i64 p.nd.p.nd.b, vk', .int .i64 p.nd.p.nd.g, .int .i64 p.nd.p.nd.c, vd', vl', vr', vf']) ∧ Sl6 vc' vk' vd' vl' vr' vf' ∧ Up w.heap.size w' (fun x => FlowU n x p vc' vk' vd' vl' vr' vf') ∧ Below w.heap.size w w'
/-- The contract of toFlowS at kids that are not deeper than so. -/
def CpFS (D n : Nat) : Prop := ∀ (l : List (Fl D n)) (v : Value) (w : World), FKidsV (FNodeAt n) w v l → l.length + kidsSz n l ≤ 1048576 →
  Calls Try.prog 22 #[v] w fun e w' => ∃ a, e = .returned (.slice (some a) l.length l.length) ∧ Up w.heap.size w' (fun x => FKidsV (FNodeAt n) x (.slice (some a) l.length l.length) l ∧ FKidsU D n x (.slice (some a) l.length l.length)) ∧ Below w.heap.size w w'

set_option maxHeartbeats 1000000 in
theorem toFlowS_none (a : Option Addr) (cap : Nat) (w : World) :
    Calls Try.prog 22 #[.slice a 0 cap] w fun e w' => e = .returned (.slice (some ⟨w.heap.size, 0, none⟩) 0 0) ∧ Below w.heap.size w w' := by
  obtain ⟨i0, hi, hz0, hz1, hz2⟩ := info_parts infoFlow22
  go_enter Try.func22, Try.ntmps22
  go_wp2_with (at_make; refine wpList_make_full _ rfl _ _ 49 rfl w.heap.size 51 i0 (.agg #[.int .i64 0, .int .i64 0, .int .i64 0, .bool false, .int .i64 0, .int .i64 0, .int .i64 0, .int .i64 0, .int .i64 0, .int .i64 0, .int .i64 0, .int .i64 0, .slice none 0 0, .int .i64 0, .int .i64 0, .slice none 0 0, .int .i64 0, .int .i64 0, .slice none 0 0, .slice none 0 0, .slice none 0 0, .slice none 0 0]) 22 Try.underlying49 hi hz0 hz1 _ _ _ _ 0 rfl rfl rfl rfl (by rw [hz2]; omega) (by unfold maxLen; omega) (Nat.le_refl _) ?_; intro w1 hown1 hgrow1)
  have hb1 : Below w.heap.size w w1 := (Below.refl _ _).grown hgrow1 (Nat.le_refl _) (by simp)
  clear hown1 hgrow1 hi hz0 hz1 hz2
  refine wp_loop_rounds 1 ?_
  rw [rounds_succ]
  go_wp2
  go_ret
  exact ⟨rfl, hb1⟩

/-- The first k kids are copied. -/
def FDone (n : Nat) (l : List (Fl D (n + 1))) (g k : Nat) (w : World) : Prop := ∀ j (hj : j < l.length), j < k → ∃ vc vk vd vl vr vf, FFields w g (0 + j * 22) l[j].nd vc vk vd vl vr vf ∧ Up (g + 1) w (fun x => FlowU n x l[j] vc vk vd vl vr vf)

set_option maxHeartbeats 4000000 in
theorem toFlowS_some (n : Nat) (IH : CpF D n) (b off cap : Nat) (l : List (Fl D (n + 1))) (w : World) (hpos : 0 < l.length) (hlim : l.length + kidsSz (n + 1) l ≤ 1048576) (hbw : b < w.heap.size)
    (hk : ∀ j (hj : j < l.length), FNodeAt (n + 1) w b (off + j * 22) l[j]) :
    Calls Try.prog 22 #[.slice (some ⟨b, off, none⟩) l.length cap] w fun e w' =>
      e = .returned (.slice (some ⟨w.heap.size, 0, none⟩) l.length l.length) ∧ w.heap.size < w'.heap.size ∧ Unf w' w.heap.size ∧ FDone n l w.heap.size l.length w' ∧ Below w.heap.size w w' := by
  have HIH : Hid (CpF D n) := IH
  have HK : Hid (∀ j (hj : j < l.length), FNodeAt (n + 1) w b (off + j * 22) l[j]) := hk
  have HSZ : Hid (∀ j (hj : j < l.length), Fl.sz (n + 1) l[j] ≤ 1048576) := fun j hj => by have := kidsSz_at hj; omega
  have hlim2 : l.length ≤ 1048576 := by omega
  obtain ⟨i0, hi, hz0, hz1, hz2⟩ := info_parts infoFlow22
  obtain ⟨m, hm⟩ : ∃ m, m = l.length := ⟨_, rfl⟩
  have HM : Hid (m = l.length) := hm
  rw [← hm] at hpos hlim2 ⊢
  clear hm hk IH hlim
  go_enter Try.func22, Try.ntmps22
  go_wp2_with (at_make; refine wpList_make_full _ rfl _ _ 49 rfl w.heap.size 51 i0 (.agg #[.int .i64 0, .int .i64 0, .int .i64 0, .bool false, .int .i64 0, .int .i64 0, .int .i64 0, .int .i64 0, .int .i64 0, .int .i64 0, .int .i64 0, .int .i64 0, .slice none 0 0, .int .i64 0, .int .i64 0, .slice none 0 0, .int .i64 0, .int .i64 0, .slice none 0 0, .slice none 0 0, .slice none 0 0, .slice none 0 0]) 22 Try.underlying49 hi hz0 hz1 _ _ _ _ m rfl rfl rfl rfl (by rw [hz2]; omega) (by unfold maxLen; omega) (Nat.le_refl _) ?_; intro w1 hown1 hgrow1)
  have HB1 : Hid (Below w.heap.size w w1) := (Below.refl _ _).grown hgrow1 (Nat.le_refl _) (by simp)
  have HT1 : Hid (w1.there w.heap.size 0 (m * 22)) := there_own hown1
  have hl1 : w.heap.size < w1.heap.size := own_lt hown1
  have HUN1 : Hid (Unf w1 w.heap.size) := by
    rcases hown1.2 with ⟨e, _⟩ | ⟨g, cap', cur, e, _, hg, _⟩
    · simp at e
    · simp only [Value.slice.injEq, Option.some.injEq, Addr.mk.injEq] at e
      obtain ⟨⟨rfl, _⟩, _⟩ := e
      exact ⟨_, _, hg⟩
  clear hown1 hgrow1 hi hz0 hz1 hz2
  go_loopw [4] (fun i wr => ∃ k : Nat, k ≤ m ∧ i = .int .i64 k ∧ Hid (w.heap.size < wr.heap.size) ∧ Hid (wr.there w.heap.size 0 (m * 22)) ∧ Hid (Unf wr w.heap.size) ∧ Hid (FDone n l w.heap.size k wr) ∧ Hid (Below w.heap.size w wr))
    (fun i _ => m - (intOf i).toNat)
  case atStart => exact ⟨0, Nat.zero_le _, rfl, hl1, HT1.out, HUN1.out, fun j _ hj => by omega, HB1.out⟩
  case round =>
    obtain ⟨k, hk, rfl, HL, HT, HUN, HD, HB⟩ := hrel
    clear HB1 HT1 hl1 HUN1
    by_cases hlt : k < m
    · have hkl : k < l.length := by rw [← HM.out]; exact hlt
      obtain ⟨vc, vk, vd, vl, vr, vf, hf, hp⟩ := ffields_of (FNodeAt.below _ (HK.out k hkl) HB.out)
      obtain ⟨q, hq⟩ : ∃ q, k * 22 = q := ⟨_, rfl⟩
      rw [hq] at hf
      have HQ : Hid (k * 22 = q) := hq
      have HR : Hid (wr.rangeAt b (off + q) ([.int .i64 l[k].nd.p.nd.k, .int .i64 l[k].nd.p.nd.n, .int .i64 l[k].nd.p.nd.t.k, .bool l[k].nd.p.nd.t.no, .int .i64 l[k].nd.p.nd.t.l.k, .int .i64 l[k].nd.p.nd.t.l.a, .int .i64 l[k].nd.p.nd.t.l.b, .int .i64 l[k].nd.p.nd.t.l.n, .int .i64 l[k].nd.p.nd.t.r.k, .int .i64 l[k].nd.p.nd.t.r.a, .int .i64 l[k].nd.p.nd.t.r.b, .int .i64 l[k].nd.p.nd.t.r.n, vc, .int .i64 l[k].nd.p.nd.a, .int .i64 l[k].nd.p.nd.b, vk, .int .i64 l[k].nd.p.nd.g, .int .i64 l[k].nd.p.nd.c, vd, vl, vr, vf] : List Value)) := hf.range
      have hil : (Try.prog.info? 36).map (·.size) = some ([.int .i64 l[k].nd.p.nd.k, .int .i64 l[k].nd.p.nd.n, .int .i64 l[k].nd.p.nd.t.k, .bool l[k].nd.p.nd.t.no, .int .i64 l[k].nd.p.nd.t.l.k, .int .i64 l[k].nd.p.nd.t.l.a, .int .i64 l[k].nd.p.nd.t.l.b, .int .i64 l[k].nd.p.nd.t.l.n, .int .i64 l[k].nd.p.nd.t.r.k, .int .i64 l[k].nd.p.nd.t.r.a, .int .i64 l[k].nd.p.nd.t.r.b, .int .i64 l[k].nd.p.nd.t.r.n, vc, .int .i64 l[k].nd.p.nd.a, .int .i64 l[k].nd.p.nd.b, vk, .int .i64 l[k].nd.p.nd.g, .int .i64 l[k].nd.p.nd.c, vd, vl, vr, vf] : List Value).length := by kernel_rfl
      have HPV : Hid (FlowV (n + 1) wr l[k] vc vk vd vl vr vf) := hp
      clear hp hf
      go_wp2_with (refine wpList_load_mid rfl 36 _ rfl b (off + q) rfl _ _ HR.out Try.underlying36 rfl hil ?_)
      refine (HIH.out l[k] vc vk vd vl vr vf _ HPV.out (HSZ.out k hkl)).mono ?_
      rintro e w2 ⟨vc', vk', vd', vl', vr', vf', rfl, ⟨⟨ca', nc', cc', rfl⟩, ⟨ka', nk', kc', rfl⟩, ⟨da', nd', dc', rfl⟩, ⟨la', nl', lc', rfl⟩, ⟨ra', nr', rc', rfl⟩, ⟨fa', nf', fc', rfl⟩⟩, hup, hb2⟩
      have HT2 : Hid (w2.there w.heap.size 0 (m * 22)) := there_below HT.out hb2 HL.out
      have HT3 : Hid (w2.there w.heap.size q (#[.int .i64 l[k].nd.p.nd.k, .int .i64 l[k].nd.p.nd.n, .int .i64 l[k].nd.p.nd.t.k, .bool l[k].nd.p.nd.t.no, .int .i64 l[k].nd.p.nd.t.l.k, .int .i64 l[k].nd.p.nd.t.l.a, .int .i64 l[k].nd.p.nd.t.l.b, .int .i64 l[k].nd.p.nd.t.l.n, .int .i64 l[k].nd.p.nd.t.r.k, .int .i64 l[k].nd.p.nd.t.r.a, .int .i64 l[k].nd.p.nd.t.r.b, .int .i64 l[k].nd.p.nd.t.r.n, .slice ca' nc' cc', .int .i64 l[k].nd.p.nd.a, .int .i64 l[k].nd.p.nd.b, .slice ka' nk' kc', .int .i64 l[k].nd.p.nd.g, .int .i64 l[k].nd.p.nd.c, .slice da' nd' dc', .slice la' nl' lc', .slice ra' nr' rc', .slice fa' nf' fc'] : Array Value).size) := there_part HT2.out (by have := HQ.out; show q + 22 ≤ _; omega)
      have HL2 : Hid (w.heap.size < w2.heap.size) := Nat.lt_of_lt_of_le HL.out hb2.size
      have HB2 : Hid (Below w.heap.size w w2) := bel_then HB.out hb2
      have HUN2 : Hid (Unf w2 w.heap.size) := HUN.out.below hb2
      have HU : Hid (Up (w.heap.size + 1) w2 (fun x => FlowU n x l[k] (.slice ca' nc' cc') (.slice ka' nk' kc') (.slice da' nd' dc') (.slice la' nl' lc') (.slice ra' nr' rc') (.slice fa' nf' fc'))) := fun x hx => hup x (hx.mono HL.out)
      have HD2 : Hid (FDone n l w.heap.size k w2) := fun j hj hjk => by
        obtain ⟨a1, a2, a3, a4, a5, a6, h1, h2⟩ := HD.out j hj hjk
        exact ⟨a1, a2, a3, a4, a5, a6, h1.below hb2 HL.out, h2.bel hb2⟩
      have hii : (Try.prog.info? 51).map (·.size) = some (#[.int .i64 l[k].nd.p.nd.k, .int .i64 l[k].nd.p.nd.n, .int .i64 l[k].nd.p.nd.t.k, .bool l[k].nd.p.nd.t.no, .int .i64 l[k].nd.p.nd.t.l.k, .int .i64 l[k].nd.p.nd.t.l.a, .int .i64 l[k].nd.p.nd.t.l.b, .int .i64 l[k].nd.p.nd.t.l.n, .int .i64 l[k].nd.p.nd.t.r.k, .int .i64 l[k].nd.p.nd.t.r.a, .int .i64 l[k].nd.p.nd.t.r.b, .int .i64 l[k].nd.p.nd.t.r.n, .slice ca' nc' cc', .int .i64 l[k].nd.p.nd.a, .int .i64 l[k].nd.p.nd.b, .slice ka' nk' kc', .int .i64 l[k].nd.p.nd.g, .int .i64 l[k].nd.p.nd.c, .slice da' nd' dc', .slice la' nl' lc', .slice ra' nr' rc', .slice fa' nf' fc'] : Array Value).size := by kernel_rfl
      have H1 : Hid ((#[.int .i64 l[k].nd.p.nd.k, .int .i64 l[k].nd.p.nd.n, .int .i64 l[k].nd.p.nd.t.k, .bool l[k].nd.p.nd.t.no, .int .i64 l[k].nd.p.nd.t.l.k, .int .i64 l[k].nd.p.nd.t.l.a, .int .i64 l[k].nd.p.nd.t.l.b, .int .i64 l[k].nd.p.nd.t.l.n, .int .i64 l[k].nd.p.nd.t.r.k, .int .i64 l[k].nd.p.nd.t.r.a, .int .i64 l[k].nd.p.nd.t.r.b, .int .i64 l[k].nd.p.nd.t.r.n, .slice ca' nc' cc', .int .i64 l[k].nd.p.nd.a, .int .i64 l[k].nd.p.nd.b, .slice ka' nk' kc', .int .i64 l[k].nd.p.nd.g, .int .i64 l[k].nd.p.nd.c, .slice da' nd' dc', .slice la' nl' lc', .slice ra' nr' rc', .slice fa' nf' fc'] : Array Value).all (·.oneCell') = true) := one22 l[k].nd _ _ _ _ _ _ rfl rfl rfl rfl rfl rfl
      clear hb2 hup HR hil HT HL HB HD HPV
      go_wp2_with (refine wpList_store_mid rfl 51 _ _ rfl w.heap.size q #[.int .i64 l[k].nd.p.nd.k, .int .i64 l[k].nd.p.nd.n, .int .i64 l[k].nd.p.nd.t.k, .bool l[k].nd.p.nd.t.no, .int .i64 l[k].nd.p.nd.t.l.k, .int .i64 l[k].nd.p.nd.t.l.a, .int .i64 l[k].nd.p.nd.t.l.b, .int .i64 l[k].nd.p.nd.t.l.n, .int .i64 l[k].nd.p.nd.t.r.k, .int .i64 l[k].nd.p.nd.t.r.a, .int .i64 l[k].nd.p.nd.t.r.b, .int .i64 l[k].nd.p.nd.t.r.n, .slice ca' nc' cc', .int .i64 l[k].nd.p.nd.a, .int .i64 l[k].nd.p.nd.b, .slice ka' nk' kc', .int .i64 l[k].nd.p.nd.g, .int .i64 l[k].nd.p.nd.c, .slice da' nd' dc', .slice la' nl' lc', .slice ra' nr' rc', .slice fa' nf' fc'] rfl rfl ?_ hii H1.out ?_)
      · exact HT3.out
      go_roundw
      case rel =>
        refine ⟨k + 1, by omega, by go_num, ?_, ?_, ?_, ?_, ?_⟩
        · show _ < _
          rw [size_setCells]; exact HL2.out
        · exact World.there_setCells HT2.out _ _ _
        · exact HUN2.out.sets _ _ _
        · intro j hj hjk1
          by_cases hjk : j = k
          · subst hjk
            refine ⟨_, _, _, _, _, _, ?_, HU.out.next (ab_setCells _ _ _ _ (by omega))⟩
            rw [Nat.zero_add, HQ.out]
            exact ffields_range (World.rangeAt_setCells_same _ _ _ _ HT3.out)
          · have hlt2 : j < k := by omega
            obtain ⟨a1, a2, a3, a4, a5, a6, h1, h2⟩ := HD2.out j hj hlt2
            refine ⟨a1, a2, a3, a4, a5, a6, ffields_range (World.rangeAt_setCells_apart h1.range _ _ _ (Or.inr (Or.inl ?_))), h2.next (ab_setCells _ _ _ _ (by omega))⟩
            have := HQ.out
            simp
            omega
        · exact bel_setCells _ _ _ _ HB2.out (Nat.le_refl _)
      case measure => simp [intOf]; omega
    · have e : k = m := by omega
      subst e
      go_wp2
      go_ret
      exact ⟨rfl, HL.out, HUN.out, HD.out, HB.out⟩

theorem toFlowS_of (n : Nat) (h : ∀ m, n = m + 1 → CpF D m) : CpFS D n := by
  intro l v w hv hlim
  obtain ⟨hl, a, cap, rfl, _, hc⟩ := hv
  by_cases hne : l = []
  · subst hne
    refine (toFlowS_none a cap w).mono fun e w' ⟨he, hb⟩ => ⟨_, he, fun x _ => ⟨⟨by simp, _, _, rfl, fun h => by simp at h, fun h => absurd rfl h⟩, ?_⟩, hb⟩
    cases n with
    | zero => intro b off k c e hk; simp only [Value.slice.injEq, List.length_nil] at e; omega
    | succ n => intro b off k c e hk; simp only [Value.slice.injEq, List.length_nil] at e; omega
  · obtain ⟨b, off, rfl, hbw, hk⟩ := hc hne
    cases n with
    | zero => exact absurd (no_kids l) hne
    | succ n =>
      refine (toFlowS_some n (h n rfl) b off cap l w (List.length_pos_iff.2 hne) hlim hbw hk).mono fun e w' ⟨he, hs, hun, hd, hb⟩ => ⟨_, he, fun x hx => ⟨?_, ?_⟩, hb⟩
      · refine ⟨hl, _, _, rfl, fun h => by simp at h, fun _ => ⟨_, _, rfl, Nat.lt_of_lt_of_le hs hx.size, fun j hj => ?_⟩⟩
        obtain ⟨vc, vk, vd, vl, vr, vf, h1, h2⟩ := hd j hj hj
        exact ⟨Nat.lt_of_lt_of_le hs hx.size, vc, vk, vd, vl, vr, vf, h1.same (fun o => hx.cell _ o (Nat.le_refl _) hs), (h2 x (hx.mono (by omega))).1⟩
      · intro b' off' k' c' e' hk'
        simp only [Value.slice.injEq, Option.some.injEq, Addr.mk.injEq, and_true] at e'
        obtain ⟨⟨rfl, rfl⟩, rfl, rfl⟩ := e'
        refine ⟨hx.un _ (Nat.le_refl _) hun, fun j hj => ?_⟩
        obtain ⟨vc, vk, vd, vl, vr, vf, h1, h2⟩ := hd j hj hj
        have hs2 := h1.same (fun o => hx.cell _ o (Nat.le_refl _) hs)
        have hfu := h2 x (hx.mono (by omega))
        refine ⟨fun vd' hvd => ?_, fun vf' hvf => ?_⟩
        · have h18 := hs2.1.2.2.2.2.2.2.2.2.2.2.2.2.2.2.2.2.2.2
          rw [h18] at hvd
          simp only [Option.some.injEq] at hvd
          subst hvd
          exact hfu.2.1
        · have h21 := hs2.2.2.2
          rw [h21] at hvf
          simp only [Option.some.injEq] at hvf
          subst hvf
          exact hfu.2.2

set_option maxHeartbeats 4000000 in
theorem toFlow_step (n : Nat) (IH : CpFS D n) : CpF D n := by
  intro p vc vk vd vl vr vf w hp hlim
  have HIH : Hid (CpFS D n) := IH
  obtain ⟨⟨ca, nc, cc, rfl⟩, ⟨ka, nk, kc, rfl⟩, ⟨da, nd, dc, rfl⟩⟩ := planV_shapes hp.1
  obtain ⟨la, nl, lc, rfl⟩ := hp.2.1.shapeN
  obtain ⟨ra, nr, rc, rfl⟩ := hp.2.2.1.shapeN
  obtain ⟨fa, nf, fc, rfl⟩ := hp.2.2.2.shapeN
  have HP : Hid (PlanV (D + 1) w p.nd.p (.slice ca nc cc) (.slice ka nk kc) (.slice da nd dc)) := hp.1
  have HL : Hid (RawRuns w (.slice la nl lc) p.nd.l) := hp.2.1
  have HR : Hid (RawRuns w (.slice ra nr rc) p.nd.r) := hp.2.2.1
  have HK : Hid (FKidsV (FNodeAt n) w (.slice fa nf fc) p.kids) := hp.2.2.2
  have HZ : Hid (Pl.sz (D + 1) p.nd.p ≤ 1048576 ∧ p.nd.l.length + runsLen p.nd.l ≤ 1048576 ∧ p.nd.r.length + runsLen p.nd.r ≤ 1048576 ∧ p.kids.length + kidsSz n p.kids ≤ 1048576) := by
    have e : Fl.sz (n + 1) p = Pl.sz (D + 1) p.nd.p + (p.nd.l.length + runsLen p.nd.l) + (p.nd.r.length + runsLen p.nd.r) + (p.kids.length + kidsSz n p.kids) := rfl
    show _ ∧ _
    omega
  clear hp IH hlim
  obtain ⟨W, hW⟩ : ∃ W, W = ((w.alloc (.cells #[.int .i64 p.nd.p.nd.k, .int .i64 p.nd.p.nd.n, .int .i64 p.nd.p.nd.t.k, .bool p.nd.p.nd.t.no, .int .i64 p.nd.p.nd.t.l.k, .int .i64 p.nd.p.nd.t.l.a, .int .i64 p.nd.p.nd.t.l.b, .int .i64 p.nd.p.nd.t.l.n, .int .i64 p.nd.p.nd.t.r.k, .int .i64 p.nd.p.nd.t.r.a, .int .i64 p.nd.p.nd.t.r.b, .int .i64 p.nd.p.nd.t.r.n, .slice ca nc cc, .int .i64 p.nd.p.nd.a, .int .i64 p.nd.p.nd.b, .slice ka nk kc, .int .i64 p.nd.p.nd.g, .int .i64 p.nd.p.nd.c, .slice da nd dc, .slice la nl lc, .slice ra nr rc, .slice fa nf fc] 36)).alloc (.cells #[.int .i64 0, .int .i64 0, .int .i64 0, .bool false, .int .i64 0, .int .i64 0, .int .i64 0, .int .i64 0, .int .i64 0, .int .i64 0, .int .i64 0, .int .i64 0, .slice none 0 0, .int .i64 0, .int .i64 0, .slice none 0 0, .int .i64 0, .int .i64 0, .slice none 0 0, .slice none 0 0, .slice none 0 0, .slice none 0 0] 51)).alloc (.cells #[.int .i64 0, .int .i64 0, .int .i64 0, .bool false, .int .i64 0, .int .i64 0, .int .i64 0, .int .i64 0, .int .i64 0, .int .i64 0, .int .i64 0, .int .i64 0, .slice none 0 0, .int .i64 0, .int .i64 0, .slice none 0 0, .int .i64 0, .int .i64 0, .slice none 0 0, .slice none 0 0, .slice none 0 0, .slice none 0 0] 51) := ⟨_, rfl⟩
  have HA : Hid (W.heap[w.heap.size]? = some (.cells #[.int .i64 p.nd.p.nd.k, .int .i64 p.nd.p.nd.n, .int .i64 p.nd.p.nd.t.k, .bool p.nd.p.nd.t.no, .int .i64 p.nd.p.nd.t.l.k, .int .i64 p.nd.p.nd.t.l.a, .int .i64 p.nd.p.nd.t.l.b, .int .i64 p.nd.p.nd.t.l.n, .int .i64 p.nd.p.nd.t.r.k, .int .i64 p.nd.p.nd.t.r.a, .int .i64 p.nd.p.nd.t.r.b, .int .i64 p.nd.p.nd.t.r.n, .slice ca nc cc, .int .i64 p.nd.p.nd.a, .int .i64 p.nd.p.nd.b, .slice ka nk kc, .int .i64 p.nd.p.nd.g, .int .i64 p.nd.p.nd.c, .slice da nd dc, .slice la nl lc, .slice ra nr rc, .slice fa nf fc] 36)) := by show _ = _; rw [hW]; exact (threeAt w _ _ _).1
  have HV : Hid (W.heap[w.heap.size + 1]? = some (.cells #[.int .i64 0, .int .i64 0, .int .i64 0, .bool false, .int .i64 0, .int .i64 0, .int .i64 0, .int .i64 0, .int .i64 0, .int .i64 0, .int .i64 0, .int .i64 0, .slice none 0 0, .int .i64 0, .int .i64 0, .slice none 0 0, .int .i64 0, .int .i64 0, .slice none 0 0, .slice none 0 0, .slice none 0 0, .slice none 0 0] 51)) := by show _ = _; rw [hW]; exact (threeAt w _ _ _).2.1
  have HO : Hid (W.heap[w.heap.size + 1 + 1]? = some (.cells #[.int .i64 0, .int .i64 0, .int .i64 0, .bool false, .int .i64 0, .int .i64 0, .int .i64 0, .int .i64 0, .int .i64 0, .int .i64 0, .int .i64 0, .int .i64 0, .slice none 0 0, .int .i64 0, .int .i64 0, .slice none 0 0, .int .i64 0, .int .i64 0, .slice none 0 0, .slice none 0 0, .slice none 0 0, .slice none 0 0] 51)) := by show _ = _; rw [hW]; exact (threeAt w _ _ _).2.2.1
  have HB : Hid (Below w.heap.size w W) := by show Below _ _ _; rw [hW]; exact (threeAt w _ _ _).2.2.2.1
  have HS : Hid (w.heap.size + 1 + 1 < W.heap.size) := by show _ < _; rw [hW, (threeAt w _ _ _).2.2.2.2]; omega
  have HR0 : Hid (W.rangeAt w.heap.size 0 [.int .i64 p.nd.p.nd.k, .int .i64 p.nd.p.nd.n, .int .i64 p.nd.p.nd.t.k, .bool p.nd.p.nd.t.no, .int .i64 p.nd.p.nd.t.l.k, .int .i64 p.nd.p.nd.t.l.a, .int .i64 p.nd.p.nd.t.l.b, .int .i64 p.nd.p.nd.t.l.n, .int .i64 p.nd.p.nd.t.r.k, .int .i64 p.nd.p.nd.t.r.a, .int .i64 p.nd.p.nd.t.r.b, .int .i64 p.nd.p.nd.t.r.n, .slice ca nc cc, .int .i64 p.nd.p.nd.a, .int .i64 p.nd.p.nd.b, .slice ka nk kc, .int .i64 p.nd.p.nd.g, .int .i64 p.nd.p.nd.c, .slice da nd dc]) := (ff_blk HA.out).1.range
  have hil : (Try.prog.info? 30).map (·.size) = some ([.int .i64 p.nd.p.nd.k, .int .i64 p.nd.p.nd.n, .int .i64 p.nd.p.nd.t.k, .bool p.nd.p.nd.t.no, .int .i64 p.nd.p.nd.t.l.k, .int .i64 p.nd.p.nd.t.l.a, .int .i64 p.nd.p.nd.t.l.b, .int .i64 p.nd.p.nd.t.l.n, .int .i64 p.nd.p.nd.t.r.k, .int .i64 p.nd.p.nd.t.r.a, .int .i64 p.nd.p.nd.t.r.b, .int .i64 p.nd.p.nd.t.r.n, .slice ca nc cc, .int .i64 p.nd.p.nd.a, .int .i64 p.nd.p.nd.b, .slice ka nk kc, .int .i64 p.nd.p.nd.g, .int .i64 p.nd.p.nd.c, .slice da nd dc] : List Value).length := by kernel_rfl
  have hsl : (Try.prog.info? 33).map (·.size) = some ([.slice la nl lc] : List Value).length := by kernel_rfl
  have hsr : (Try.prog.info? 33).map (·.size) = some ([.slice ra nr rc] : List Value).length := by kernel_rfl
  have hW' := hW.symm
  clear hW
  go_enter Try.func7, Try.ntmps7
  go_wp2_with (refine wpList_load_mid rfl 30 _ rfl (w.heap.size) 0 rfl [.int .i64 p.nd.p.nd.k, .int .i64 p.nd.p.nd.n, .int .i64 p.nd.p.nd.t.k, .bool p.nd.p.nd.t.no, .int .i64 p.nd.p.nd.t.l.k, .int .i64 p.nd.p.nd.t.l.a, .int .i64 p.nd.p.nd.t.l.b, .int .i64 p.nd.p.nd.t.l.n, .int .i64 p.nd.p.nd.t.r.k, .int .i64 p.nd.p.nd.t.r.a, .int .i64 p.nd.p.nd.t.r.b, .int .i64 p.nd.p.nd.t.r.n, .slice ca nc cc, .int .i64 p.nd.p.nd.a, .int .i64 p.nd.p.nd.b, .slice ka nk kc, .int .i64 p.nd.p.nd.g, .int .i64 p.nd.p.nd.c, .slice da nd dc] _ HR0.out Try.underlying30 rfl hil ?_)
  clear hW' HR0
  refine (toPlan_anyU D p.nd.p _ _ _ _ (PlanV.below HP.out HB.out) HZ.out.1).mono ?_
  rintro e w1 ⟨xca, xka, xda, rfl, hup, hb⟩
  obtain ⟨ca', hca⟩ : ∃ a, a = some xca := ⟨_, rfl⟩
  obtain ⟨nc', hnc⟩ : ∃ a, a = p.nd.p.nd.cs.length := ⟨_, rfl⟩
  obtain ⟨ka', hka⟩ : ∃ a, a = some xka := ⟨_, rfl⟩
  obtain ⟨nk', hnk⟩ : ∃ a, a = p.nd.p.nd.ks.length := ⟨_, rfl⟩
  obtain ⟨da', hda⟩ : ∃ a, a = some xda := ⟨_, rfl⟩
  obtain ⟨nd', hnd⟩ : ∃ a, a = p.nd.p.kids.length := ⟨_, rfl⟩
  rw [← hca, ← hka, ← hda, ← hnc, ← hnk, ← hnd] at hup ⊢
  have HUP : Hid (Up (w.heap.size + 1 + 1 + 1) w1 (fun x => PlanU D x p.nd.p (.slice ca' nc' nc') (.slice ka' nk' nk') (.slice da' nd' nd'))) := hup.mono HS.out
  replace HA : Hid (w1.heap[w.heap.size]? = some (.cells #[.int .i64 p.nd.p.nd.k, .int .i64 p.nd.p.nd.n, .int .i64 p.nd.p.nd.t.k, .bool p.nd.p.nd.t.no, .int .i64 p.nd.p.nd.t.l.k, .int .i64 p.nd.p.nd.t.l.a, .int .i64 p.nd.p.nd.t.l.b, .int .i64 p.nd.p.nd.t.l.n, .int .i64 p.nd.p.nd.t.r.k, .int .i64 p.nd.p.nd.t.r.a, .int .i64 p.nd.p.nd.t.r.b, .int .i64 p.nd.p.nd.t.r.n, .slice ca nc cc, .int .i64 p.nd.p.nd.a, .int .i64 p.nd.p.nd.b, .slice ka nk kc, .int .i64 p.nd.p.nd.g, .int .i64 p.nd.p.nd.c, .slice da nd dc, .slice la nl lc, .slice ra nr rc, .slice fa nf fc] 36)) := at_below HA.out hb
  replace HV : Hid (w1.heap[w.heap.size + 1]? = some (.cells #[.int .i64 0, .int .i64 0, .int .i64 0, .bool false, .int .i64 0, .int .i64 0, .int .i64 0, .int .i64 0, .int .i64 0, .int .i64 0, .int .i64 0, .int .i64 0, .slice none 0 0, .int .i64 0, .int .i64 0, .slice none 0 0, .int .i64 0, .int .i64 0, .slice none 0 0, .slice none 0 0, .slice none 0 0, .slice none 0 0] 51)) := at_below HV.out hb
  replace HO : Hid (w1.heap[w.heap.size + 1 + 1]? = some (.cells #[.int .i64 0, .int .i64 0, .int .i64 0, .bool false, .int .i64 0, .int .i64 0, .int .i64 0, .int .i64 0, .int .i64 0, .int .i64 0, .int .i64 0, .int .i64 0, .slice none 0 0, .int .i64 0, .int .i64 0, .slice none 0 0, .int .i64 0, .int .i64 0, .slice none 0 0, .slice none 0 0, .slice none 0 0, .slice none 0 0] 51)) := at_below HO.out hb
  replace HB : Hid (Below w.heap.size w w1) := bel_then HB.out hb
  replace HS : Hid (w.heap.size + 1 + 1 < w1.heap.size) := Nat.lt_of_lt_of_le HS.out hb.size
  clear hup hb hca hka hda hnc hnk hnd
  have HT1 : Hid (w1.there (w.heap.size + 1 + 1) 0 (#[.int .i64 p.nd.p.nd.k, .int .i64 p.nd.p.nd.n, .int .i64 p.nd.p.nd.t.k, .bool p.nd.p.nd.t.no, .int .i64 p.nd.p.nd.t.l.k, .int .i64 p.nd.p.nd.t.l.a, .int .i64 p.nd.p.nd.t.l.b, .int .i64 p.nd.p.nd.t.l.n, .int .i64 p.nd.p.nd.t.r.k, .int .i64 p.nd.p.nd.t.r.a, .int .i64 p.nd.p.nd.t.r.b, .int .i64 p.nd.p.nd.t.r.n, .slice ca' nc' nc', .int .i64 p.nd.p.nd.a, .int .i64 p.nd.p.nd.b, .slice ka' nk' nk', .int .i64 p.nd.p.nd.g, .int .i64 p.nd.p.nd.c, .slice da' nd' nd'] : Array Value).size) := there_at HO.out 0 19 (by show _ ≤ 22; omega)
  have hi1 : (Try.prog.info? 45).map (·.size) = some (#[.int .i64 p.nd.p.nd.k, .int .i64 p.nd.p.nd.n, .int .i64 p.nd.p.nd.t.k, .bool p.nd.p.nd.t.no, .int .i64 p.nd.p.nd.t.l.k, .int .i64 p.nd.p.nd.t.l.a, .int .i64 p.nd.p.nd.t.l.b, .int .i64 p.nd.p.nd.t.l.n, .int .i64 p.nd.p.nd.t.r.k, .int .i64 p.nd.p.nd.t.r.a, .int .i64 p.nd.p.nd.t.r.b, .int .i64 p.nd.p.nd.t.r.n, .slice ca' nc' nc', .int .i64 p.nd.p.nd.a, .int .i64 p.nd.p.nd.b, .slice ka' nk' nk', .int .i64 p.nd.p.nd.g, .int .i64 p.nd.p.nd.c, .slice da' nd' nd'] : Array Value).size := by kernel_rfl
  have HO1 : Hid ((#[.int .i64 p.nd.p.nd.k, .int .i64 p.nd.p.nd.n, .int .i64 p.nd.p.nd.t.k, .bool p.nd.p.nd.t.no, .int .i64 p.nd.p.nd.t.l.k, .int .i64 p.nd.p.nd.t.l.a, .int .i64 p.nd.p.nd.t.l.b, .int .i64 p.nd.p.nd.t.l.n, .int .i64 p.nd.p.nd.t.r.k, .int .i64 p.nd.p.nd.t.r.a, .int .i64 p.nd.p.nd.t.r.b, .int .i64 p.nd.p.nd.t.r.n, .slice ca' nc' nc', .int .i64 p.nd.p.nd.a, .int .i64 p.nd.p.nd.b, .slice ka' nk' nk', .int .i64 p.nd.p.nd.g, .int .i64 p.nd.p.nd.c, .slice da' nd' nd'] : Array Value).all (·.oneCell') = true) := one19 p.nd.p.nd _ _ _ rfl rfl rfl
  have HBS : Hid (Below w.heap.size w (w1.setCells (w.heap.size + 1 + 1) 0 [.int .i64 p.nd.p.nd.k, .int .i64 p.nd.p.nd.n, .int .i64 p.nd.p.nd.t.k, .bool p.nd.p.nd.t.no, .int .i64 p.nd.p.nd.t.l.k, .int .i64 p.nd.p.nd.t.l.a, .int .i64 p.nd.p.nd.t.l.b, .int .i64 p.nd.p.nd.t.l.n, .int .i64 p.nd.p.nd.t.r.k, .int .i64 p.nd.p.nd.t.r.a, .int .i64 p.nd.p.nd.t.r.b, .int .i64 p.nd.p.nd.t.r.n, .slice ca' nc' nc', .int .i64 p.nd.p.nd.a, .int .i64 p.nd.p.nd.b, .slice ka' nk' nk', .int .i64 p.nd.p.nd.g, .int .i64 p.nd.p.nd.c, .slice da' nd' nd'])) := bel_setCells _ _ _ _ HB.out (by omega)
  have HRL : Hid ((w1.setCells (w.heap.size + 1 + 1) 0 [.int .i64 p.nd.p.nd.k, .int .i64 p.nd.p.nd.n, .int .i64 p.nd.p.nd.t.k, .bool p.nd.p.nd.t.no, .int .i64 p.nd.p.nd.t.l.k, .int .i64 p.nd.p.nd.t.l.a, .int .i64 p.nd.p.nd.t.l.b, .int .i64 p.nd.p.nd.t.l.n, .int .i64 p.nd.p.nd.t.r.k, .int .i64 p.nd.p.nd.t.r.a, .int .i64 p.nd.p.nd.t.r.b, .int .i64 p.nd.p.nd.t.r.n, .slice ca' nc' nc', .int .i64 p.nd.p.nd.a, .int .i64 p.nd.p.nd.b, .slice ka' nk' nk', .int .i64 p.nd.p.nd.g, .int .i64 p.nd.p.nd.c, .slice da' nd' nd']).rangeAt (w.heap.size) 19 [.slice la nl lc]) := one_range (ff_blk (blk_others (by omega) [.int .i64 p.nd.p.nd.k, .int .i64 p.nd.p.nd.n, .int .i64 p.nd.p.nd.t.k, .bool p.nd.p.nd.t.no, .int .i64 p.nd.p.nd.t.l.k, .int .i64 p.nd.p.nd.t.l.a, .int .i64 p.nd.p.nd.t.l.b, .int .i64 p.nd.p.nd.t.l.n, .int .i64 p.nd.p.nd.t.r.k, .int .i64 p.nd.p.nd.t.r.a, .int .i64 p.nd.p.nd.t.r.b, .int .i64 p.nd.p.nd.t.r.n, .slice ca' nc' nc', .int .i64 p.nd.p.nd.a, .int .i64 p.nd.p.nd.b, .slice ka' nk' nk', .int .i64 p.nd.p.nd.g, .int .i64 p.nd.p.nd.c, .slice da' nd' nd'] 0 HA.out)).2.1
  go_wp2_with (first | (refine wpList_store_mid rfl 45 _ _ rfl (w.heap.size + 1 + 1) 0 #[.int .i64 p.nd.p.nd.k, .int .i64 p.nd.p.nd.n, .int .i64 p.nd.p.nd.t.k, .bool p.nd.p.nd.t.no, .int .i64 p.nd.p.nd.t.l.k, .int .i64 p.nd.p.nd.t.l.a, .int .i64 p.nd.p.nd.t.l.b, .int .i64 p.nd.p.nd.t.l.n, .int .i64 p.nd.p.nd.t.r.k, .int .i64 p.nd.p.nd.t.r.a, .int .i64 p.nd.p.nd.t.r.b, .int .i64 p.nd.p.nd.t.r.n, .slice ca' nc' nc', .int .i64 p.nd.p.nd.a, .int .i64 p.nd.p.nd.b, .slice ka' nk' nk', .int .i64 p.nd.p.nd.g, .int .i64 p.nd.p.nd.c, .slice da' nd' nd'] rfl rfl ?_ hi1 HO1.out ?_) | (refine wpList_load_mid rfl 33 _ rfl (w.heap.size) 19 rfl [.slice la nl lc] _ ?_ Try.underlying33 rfl hsl ?_))
  · exact HT1.out
  · exact HRL.out
  refine (toSpine_any _ p.nd.l _ (HL.out.below HBS.out) HZ.out.2.1).mono ?_
  rintro e w2 ⟨vl', rfl, O2, hb⟩
  obtain ⟨la', nl', lc', rfl⟩ : ∃ a n c, vl' = Value.slice a n c := by obtain ⟨a, c, h⟩ := O2.shape; exact ⟨a, _, c, h⟩
  have HUL : Hid (Up (w.heap.size + 1 + 1 + 1) w2 (fun x => RawRuns x (.slice la' nl' lc') p.nd.l)) := fun x hx => O2.up (hx.mono (by rw [size_setCells]; exact HS.out))
  replace HA : Hid (w2.heap[w.heap.size]? = some (.cells #[.int .i64 p.nd.p.nd.k, .int .i64 p.nd.p.nd.n, .int .i64 p.nd.p.nd.t.k, .bool p.nd.p.nd.t.no, .int .i64 p.nd.p.nd.t.l.k, .int .i64 p.nd.p.nd.t.l.a, .int .i64 p.nd.p.nd.t.l.b, .int .i64 p.nd.p.nd.t.l.n, .int .i64 p.nd.p.nd.t.r.k, .int .i64 p.nd.p.nd.t.r.a, .int .i64 p.nd.p.nd.t.r.b, .int .i64 p.nd.p.nd.t.r.n, .slice ca nc cc, .int .i64 p.nd.p.nd.a, .int .i64 p.nd.p.nd.b, .slice ka nk kc, .int .i64 p.nd.p.nd.g, .int .i64 p.nd.p.nd.c, .slice da nd dc, .slice la nl lc, .slice ra nr rc, .slice fa nf fc] 36)) := at_below (blk_others (by omega) [.int .i64 p.nd.p.nd.k, .int .i64 p.nd.p.nd.n, .int .i64 p.nd.p.nd.t.k, .bool p.nd.p.nd.t.no, .int .i64 p.nd.p.nd.t.l.k, .int .i64 p.nd.p.nd.t.l.a, .int .i64 p.nd.p.nd.t.l.b, .int .i64 p.nd.p.nd.t.l.n, .int .i64 p.nd.p.nd.t.r.k, .int .i64 p.nd.p.nd.t.r.a, .int .i64 p.nd.p.nd.t.r.b, .int .i64 p.nd.p.nd.t.r.n, .slice ca' nc' nc', .int .i64 p.nd.p.nd.a, .int .i64 p.nd.p.nd.b, .slice ka' nk' nk', .int .i64 p.nd.p.nd.g, .int .i64 p.nd.p.nd.c, .slice da' nd' nd'] 0 HA.out) hb
  replace HV : Hid (w2.heap[w.heap.size + 1]? = some (.cells #[.int .i64 0, .int .i64 0, .int .i64 0, .bool false, .int .i64 0, .int .i64 0, .int .i64 0, .int .i64 0, .int .i64 0, .int .i64 0, .int .i64 0, .int .i64 0, .slice none 0 0, .int .i64 0, .int .i64 0, .slice none 0 0, .int .i64 0, .int .i64 0, .slice none 0 0, .slice none 0 0, .slice none 0 0, .slice none 0 0] 51)) := at_below (blk_others (by omega) [.int .i64 p.nd.p.nd.k, .int .i64 p.nd.p.nd.n, .int .i64 p.nd.p.nd.t.k, .bool p.nd.p.nd.t.no, .int .i64 p.nd.p.nd.t.l.k, .int .i64 p.nd.p.nd.t.l.a, .int .i64 p.nd.p.nd.t.l.b, .int .i64 p.nd.p.nd.t.l.n, .int .i64 p.nd.p.nd.t.r.k, .int .i64 p.nd.p.nd.t.r.a, .int .i64 p.nd.p.nd.t.r.b, .int .i64 p.nd.p.nd.t.r.n, .slice ca' nc' nc', .int .i64 p.nd.p.nd.a, .int .i64 p.nd.p.nd.b, .slice ka' nk' nk', .int .i64 p.nd.p.nd.g, .int .i64 p.nd.p.nd.c, .slice da' nd' nd'] 0 HV.out) hb
  replace HO : Hid (w2.heap[w.heap.size + 1 + 1]? = some (.cells #[.int .i64 p.nd.p.nd.k, .int .i64 p.nd.p.nd.n, .int .i64 p.nd.p.nd.t.k, .bool p.nd.p.nd.t.no, .int .i64 p.nd.p.nd.t.l.k, .int .i64 p.nd.p.nd.t.l.a, .int .i64 p.nd.p.nd.t.l.b, .int .i64 p.nd.p.nd.t.l.n, .int .i64 p.nd.p.nd.t.r.k, .int .i64 p.nd.p.nd.t.r.a, .int .i64 p.nd.p.nd.t.r.b, .int .i64 p.nd.p.nd.t.r.n, .slice ca' nc' nc', .int .i64 p.nd.p.nd.a, .int .i64 p.nd.p.nd.b, .slice ka' nk' nk', .int .i64 p.nd.p.nd.g, .int .i64 p.nd.p.nd.c, .slice da' nd' nd', .slice none 0 0, .slice none 0 0, .slice none 0 0] 51)) := at_below (blk_sets [.int .i64 p.nd.p.nd.k, .int .i64 p.nd.p.nd.n, .int .i64 p.nd.p.nd.t.k, .bool p.nd.p.nd.t.no, .int .i64 p.nd.p.nd.t.l.k, .int .i64 p.nd.p.nd.t.l.a, .int .i64 p.nd.p.nd.t.l.b, .int .i64 p.nd.p.nd.t.l.n, .int .i64 p.nd.p.nd.t.r.k, .int .i64 p.nd.p.nd.t.r.a, .int .i64 p.nd.p.nd.t.r.b, .int .i64 p.nd.p.nd.t.r.n, .slice ca' nc' nc', .int .i64 p.nd.p.nd.a, .int .i64 p.nd.p.nd.b, .slice ka' nk' nk', .int .i64 p.nd.p.nd.g, .int .i64 p.nd.p.nd.c, .slice da' nd' nd'] 0 HO.out) hb
  replace HB : Hid (Below w.heap.size w w2) := bel_then (HBS.out) hb
  replace HS : Hid (w.heap.size + 1 + 1 < w2.heap.size) := Nat.lt_of_lt_of_le HS.out (by have := hb.size; rw [size_setCells] at this; exact this)
  replace HUP : Hid (Up (w.heap.size + 1 + 1 + 1) w2 (fun x => PlanU D x p.nd.p (.slice ca' nc' nc') (.slice ka' nk' nk') (.slice da' nd' nd'))) := Up.bel (Up.next HUP.out (ab_setCells _ _ _ _ (Nat.lt_succ_self _))) hb
  clear hb O2 HRL HBS HT1 HO1 hi1
  have HT2 : Hid (w2.there (w.heap.size + 1 + 1) 19 (#[.slice la' nl' lc'] : Array Value).size) := there_at HO.out 19 1 (by show _ ≤ 22; omega)
  have hi2 : (Try.prog.info? 48).map (·.size) = some (#[.slice la' nl' lc'] : Array Value).size := by kernel_rfl
  have HO2 : Hid ((#[.slice la' nl' lc'] : Array Value).all (·.oneCell') = true) := by show _ = _; simp [Value.oneCell']
  have HBS : Hid (Below w.heap.size w (w2.setCells (w.heap.size + 1 + 1) 19 [.slice la' nl' lc'])) := bel_setCells _ _ _ _ HB.out (by omega)
  have HRR : Hid ((w2.setCells (w.heap.size + 1 + 1) 19 [.slice la' nl' lc']).rangeAt (w.heap.size) 20 [.slice ra nr rc]) := one_range (ff_blk (blk_others (by omega) [.slice la' nl' lc'] 19 HA.out)).2.2.1
  go_wp2_with (first | (refine wpList_store_mid rfl 48 _ _ rfl (w.heap.size + 1 + 1) 19 #[.slice la' nl' lc'] rfl rfl ?_ hi2 HO2.out ?_) | (refine wpList_load_mid rfl 33 _ rfl (w.heap.size) 20 rfl [.slice ra nr rc] _ ?_ Try.underlying33 rfl hsr ?_))
  · exact HT2.out
  · exact HRR.out
  refine (toSpine_any _ p.nd.r _ (HR.out.below HBS.out) HZ.out.2.2.1).mono ?_
  rintro e w3 ⟨vr', rfl, O3, hb⟩
  obtain ⟨ra', nr', rc', rfl⟩ : ∃ a n c, vr' = Value.slice a n c := by obtain ⟨a, c, h⟩ := O3.shape; exact ⟨a, _, c, h⟩
  have HUR : Hid (Up (w.heap.size + 1 + 1 + 1) w3 (fun x => RawRuns x (.slice ra' nr' rc') p.nd.r)) := fun x hx => O3.up (hx.mono (by rw [size_setCells]; exact HS.out))
  replace HA : Hid (w3.heap[w.heap.size]? = some (.cells #[.int .i64 p.nd.p.nd.k, .int .i64 p.nd.p.nd.n, .int .i64 p.nd.p.nd.t.k, .bool p.nd.p.nd.t.no, .int .i64 p.nd.p.nd.t.l.k, .int .i64 p.nd.p.nd.t.l.a, .int .i64 p.nd.p.nd.t.l.b, .int .i64 p.nd.p.nd.t.l.n, .int .i64 p.nd.p.nd.t.r.k, .int .i64 p.nd.p.nd.t.r.a, .int .i64 p.nd.p.nd.t.r.b, .int .i64 p.nd.p.nd.t.r.n, .slice ca nc cc, .int .i64 p.nd.p.nd.a, .int .i64 p.nd.p.nd.b, .slice ka nk kc, .int .i64 p.nd.p.nd.g, .int .i64 p.nd.p.nd.c, .slice da nd dc, .slice la nl lc, .slice ra nr rc, .slice fa nf fc] 36)) := at_below (blk_others (by omega) [.slice la' nl' lc'] 19 HA.out) hb
  replace HV : Hid (w3.heap[w.heap.size + 1]? = some (.cells #[.int .i64 0, .int .i64 0, .int .i64 0, .bool false, .int .i64 0, .int .i64 0, .int .i64 0, .int .i64 0, .int .i64 0, .int .i64 0, .int .i64 0, .int .i64 0, .slice none 0 0, .int .i64 0, .int .i64 0, .slice none 0 0, .int .i64 0, .int .i64 0, .slice none 0 0, .slice none 0 0, .slice none 0 0, .slice none 0 0] 51)) := at_below (blk_others (by omega) [.slice la' nl' lc'] 19 HV.out) hb
  replace HO : Hid (w3.heap[w.heap.size + 1 + 1]? = some (.cells #[.int .i64 p.nd.p.nd.k, .int .i64 p.nd.p.nd.n, .int .i64 p.nd.p.nd.t.k, .bool p.nd.p.nd.t.no, .int .i64 p.nd.p.nd.t.l.k, .int .i64 p.nd.p.nd.t.l.a, .int .i64 p.nd.p.nd.t.l.b, .int .i64 p.nd.p.nd.t.l.n, .int .i64 p.nd.p.nd.t.r.k, .int .i64 p.nd.p.nd.t.r.a, .int .i64 p.nd.p.nd.t.r.b, .int .i64 p.nd.p.nd.t.r.n, .slice ca' nc' nc', .int .i64 p.nd.p.nd.a, .int .i64 p.nd.p.nd.b, .slice ka' nk' nk', .int .i64 p.nd.p.nd.g, .int .i64 p.nd.p.nd.c, .slice da' nd' nd', .slice la' nl' lc', .slice none 0 0, .slice none 0 0] 51)) := at_below (blk_sets [.slice la' nl' lc'] 19 HO.out) hb
  replace HB : Hid (Below w.heap.size w w3) := bel_then (HBS.out) hb
  replace HS : Hid (w.heap.size + 1 + 1 < w3.heap.size) := Nat.lt_of_lt_of_le HS.out (by have := hb.size; rw [size_setCells] at this; exact this)
  replace HUP : Hid (Up (w.heap.size + 1 + 1 + 1) w3 (fun x => PlanU D x p.nd.p (.slice ca' nc' nc') (.slice ka' nk' nk') (.slice da' nd' nd'))) := Up.bel (Up.next HUP.out (ab_setCells _ _ _ _ (Nat.lt_succ_self _))) hb
  replace HUL : Hid (Up (w.heap.size + 1 + 1 + 1) w3 (fun x => RawRuns x (.slice la' nl' lc') p.nd.l)) := Up.bel (Up.next HUL.out (ab_setCells _ _ _ _ (Nat.lt_succ_self _))) hb
  clear hb O3 HRR HBS HT2 HO2 hi2
  have HT3 : Hid (w3.there (w.heap.size + 1 + 1) 20 (#[.slice ra' nr' rc'] : Array Value).size) := there_at HO.out 20 1 (by show _ ≤ 22; omega)
  have hi3 : (Try.prog.info? 48).map (·.size) = some (#[.slice ra' nr' rc'] : Array Value).size := by kernel_rfl
  have HO3 : Hid ((#[.slice ra' nr' rc'] : Array Value).all (·.oneCell') = true) := by show _ = _; simp [Value.oneCell']
  have HBS : Hid (Below w.heap.size w (w3.setCells (w.heap.size + 1 + 1) 20 [.slice ra' nr' rc'])) := bel_setCells _ _ _ _ HB.out (by omega)
  have ck : (w3.setCells (w.heap.size + 1 + 1) 20 [.slice ra' nr' rc']).cell? ⟨w.heap.size, 21, none⟩ = some (.slice fa nf fc) := (ff_blk (blk_others (by omega) [.slice ra' nr' rc'] 20 HA.out)).2.2.2
  go_wp2_with (refine wpList_store_mid rfl 48 _ _ rfl (w.heap.size + 1 + 1) 20 #[.slice ra' nr' rc'] rfl rfl ?_ hi3 HO3.out ?_)
  · exact HT3.out
  refine (HIH.out p.kids _ _ (HK.out.below HBS.out fun b o u hu => FNodeAt.below n hu HBS.out) HZ.out.2.2.2).mono ?_
  rintro e w4 ⟨xfa, rfl, hup, hb⟩
  obtain ⟨fa', hfa⟩ : ∃ a, a = some xfa := ⟨_, rfl⟩
  obtain ⟨nf', hnf⟩ : ∃ a, a = p.kids.length := ⟨_, rfl⟩
  rw [← hfa, ← hnf] at hup ⊢
  have HUF : Hid (Up (w.heap.size + 1 + 1 + 1) w4 (fun x => FKidsV (FNodeAt n) x (.slice fa' nf' nf') p.kids ∧ FKidsU D n x (.slice fa' nf' nf'))) := hup.mono (by rw [size_setCells]; exact HS.out)
  replace HA : Hid (w4.heap[w.heap.size]? = some (.cells #[.int .i64 p.nd.p.nd.k, .int .i64 p.nd.p.nd.n, .int .i64 p.nd.p.nd.t.k, .bool p.nd.p.nd.t.no, .int .i64 p.nd.p.nd.t.l.k, .int .i64 p.nd.p.nd.t.l.a, .int .i64 p.nd.p.nd.t.l.b, .int .i64 p.nd.p.nd.t.l.n, .int .i64 p.nd.p.nd.t.r.k, .int .i64 p.nd.p.nd.t.r.a, .int .i64 p.nd.p.nd.t.r.b, .int .i64 p.nd.p.nd.t.r.n, .slice ca nc cc, .int .i64 p.nd.p.nd.a, .int .i64 p.nd.p.nd.b, .slice ka nk kc, .int .i64 p.nd.p.nd.g, .int .i64 p.nd.p.nd.c, .slice da nd dc, .slice la nl lc, .slice ra nr rc, .slice fa nf fc] 36)) := at_below (blk_others (by omega) [.slice ra' nr' rc'] 20 HA.out) hb
  replace HV : Hid (w4.heap[w.heap.size + 1]? = some (.cells #[.int .i64 0, .int .i64 0, .int .i64 0, .bool false, .int .i64 0, .int .i64 0, .int .i64 0, .int .i64 0, .int .i64 0, .int .i64 0, .int .i64 0, .int .i64 0, .slice none 0 0, .int .i64 0, .int .i64 0, .slice none 0 0, .int .i64 0, .int .i64 0, .slice none 0 0, .slice none 0 0, .slice none 0 0, .slice none 0 0] 51)) := at_below (blk_others (by omega) [.slice ra' nr' rc'] 20 HV.out) hb
  replace HO : Hid (w4.heap[w.heap.size + 1 + 1]? = some (.cells #[.int .i64 p.nd.p.nd.k, .int .i64 p.nd.p.nd.n, .int .i64 p.nd.p.nd.t.k, .bool p.nd.p.nd.t.no, .int .i64 p.nd.p.nd.t.l.k, .int .i64 p.nd.p.nd.t.l.a, .int .i64 p.nd.p.nd.t.l.b, .int .i64 p.nd.p.nd.t.l.n, .int .i64 p.nd.p.nd.t.r.k, .int .i64 p.nd.p.nd.t.r.a, .int .i64 p.nd.p.nd.t.r.b, .int .i64 p.nd.p.nd.t.r.n, .slice ca' nc' nc', .int .i64 p.nd.p.nd.a, .int .i64 p.nd.p.nd.b, .slice ka' nk' nk', .int .i64 p.nd.p.nd.g, .int .i64 p.nd.p.nd.c, .slice da' nd' nd', .slice la' nl' lc', .slice ra' nr' rc', .slice none 0 0] 51)) := at_below (blk_sets [.slice ra' nr' rc'] 20 HO.out) hb
  replace HB : Hid (Below w.heap.size w w4) := bel_then (HBS.out) hb
  replace HS : Hid (w.heap.size + 1 + 1 < w4.heap.size) := Nat.lt_of_lt_of_le HS.out (by have := hb.size; rw [size_setCells] at this; exact this)
  replace HUP : Hid (Up (w.heap.size + 1 + 1 + 1) w4 (fun x => PlanU D x p.nd.p (.slice ca' nc' nc') (.slice ka' nk' nk') (.slice da' nd' nd'))) := Up.bel (Up.next HUP.out (ab_setCells _ _ _ _ (Nat.lt_succ_self _))) hb
  replace HUL : Hid (Up (w.heap.size + 1 + 1 + 1) w4 (fun x => RawRuns x (.slice la' nl' lc') p.nd.l)) := Up.bel (Up.next HUL.out (ab_setCells _ _ _ _ (Nat.lt_succ_self _))) hb
  replace HUR : Hid (Up (w.heap.size + 1 + 1 + 1) w4 (fun x => RawRuns x (.slice ra' nr' rc') p.nd.r)) := Up.bel (Up.next HUR.out (ab_setCells _ _ _ _ (Nat.lt_succ_self _))) hb
  clear hb hup ck HBS HT3 HO3 hi3 hfa hnf
  have fz : ∀ j, w4.frozen? ⟨w.heap.size + 1 + 1, j, none⟩ = false := fun j => frozen_at HO.out j
  have o21 : w4.cell? ⟨w.heap.size + 1 + 1, 21, none⟩ = some (.slice none 0 0) := cell_at HO.out rfl
  have HR5 : Hid ((w4.setCell ⟨w.heap.size + 1 + 1, 21, none⟩ (.slice fa' nf' nf')).rangeAt (w.heap.size + 1 + 1) 0 ([.int .i64 p.nd.p.nd.k, .int .i64 p.nd.p.nd.n, .int .i64 p.nd.p.nd.t.k, .bool p.nd.p.nd.t.no, .int .i64 p.nd.p.nd.t.l.k, .int .i64 p.nd.p.nd.t.l.a, .int .i64 p.nd.p.nd.t.l.b, .int .i64 p.nd.p.nd.t.l.n, .int .i64 p.nd.p.nd.t.r.k, .int .i64 p.nd.p.nd.t.r.a, .int .i64 p.nd.p.nd.t.r.b, .int .i64 p.nd.p.nd.t.r.n, .slice ca' nc' nc', .int .i64 p.nd.p.nd.a, .int .i64 p.nd.p.nd.b, .slice ka' nk' nk', .int .i64 p.nd.p.nd.g, .int .i64 p.nd.p.nd.c, .slice da' nd' nd', .slice la' nl' lc', .slice ra' nr' rc', .slice fa' nf' nf'] : List Value)) := range_blk (vs := #[.int .i64 p.nd.p.nd.k, .int .i64 p.nd.p.nd.n, .int .i64 p.nd.p.nd.t.k, .bool p.nd.p.nd.t.no, .int .i64 p.nd.p.nd.t.l.k, .int .i64 p.nd.p.nd.t.l.a, .int .i64 p.nd.p.nd.t.l.b, .int .i64 p.nd.p.nd.t.l.n, .int .i64 p.nd.p.nd.t.r.k, .int .i64 p.nd.p.nd.t.r.a, .int .i64 p.nd.p.nd.t.r.b, .int .i64 p.nd.p.nd.t.r.n, .slice ca' nc' nc', .int .i64 p.nd.p.nd.a, .int .i64 p.nd.p.nd.b, .slice ka' nk' nk', .int .i64 p.nd.p.nd.g, .int .i64 p.nd.p.nd.c, .slice da' nd' nd', .slice la' nl' lc', .slice ra' nr' rc', .slice fa' nf' nf']) (blk_same HO.out)
  have HT5 : Hid ((w4.setCell ⟨w.heap.size + 1 + 1, 21, none⟩ (.slice fa' nf' nf')).there (w.heap.size + 1) 0 (#[.int .i64 p.nd.p.nd.k, .int .i64 p.nd.p.nd.n, .int .i64 p.nd.p.nd.t.k, .bool p.nd.p.nd.t.no, .int .i64 p.nd.p.nd.t.l.k, .int .i64 p.nd.p.nd.t.l.a, .int .i64 p.nd.p.nd.t.l.b, .int .i64 p.nd.p.nd.t.l.n, .int .i64 p.nd.p.nd.t.r.k, .int .i64 p.nd.p.nd.t.r.a, .int .i64 p.nd.p.nd.t.r.b, .int .i64 p.nd.p.nd.t.r.n, .slice ca' nc' nc', .int .i64 p.nd.p.nd.a, .int .i64 p.nd.p.nd.b, .slice ka' nk' nk', .int .i64 p.nd.p.nd.g, .int .i64 p.nd.p.nd.c, .slice da' nd' nd', .slice la' nl' lc', .slice ra' nr' rc', .slice fa' nf' nf'] : Array Value).size) := there_blk (vs := #[.int .i64 0, .int .i64 0, .int .i64 0, .bool false, .int .i64 0, .int .i64 0, .int .i64 0, .int .i64 0, .int .i64 0, .int .i64 0, .int .i64 0, .int .i64 0, .slice none 0 0, .int .i64 0, .int .i64 0, .slice none 0 0, .int .i64 0, .int .i64 0, .slice none 0 0, .slice none 0 0, .slice none 0 0, .slice none 0 0]) (blk_other HV.out (by omega))
  have hio : (Try.prog.info? 51).map (·.size) = some ([.int .i64 p.nd.p.nd.k, .int .i64 p.nd.p.nd.n, .int .i64 p.nd.p.nd.t.k, .bool p.nd.p.nd.t.no, .int .i64 p.nd.p.nd.t.l.k, .int .i64 p.nd.p.nd.t.l.a, .int .i64 p.nd.p.nd.t.l.b, .int .i64 p.nd.p.nd.t.l.n, .int .i64 p.nd.p.nd.t.r.k, .int .i64 p.nd.p.nd.t.r.a, .int .i64 p.nd.p.nd.t.r.b, .int .i64 p.nd.p.nd.t.r.n, .slice ca' nc' nc', .int .i64 p.nd.p.nd.a, .int .i64 p.nd.p.nd.b, .slice ka' nk' nk', .int .i64 p.nd.p.nd.g, .int .i64 p.nd.p.nd.c, .slice da' nd' nd', .slice la' nl' lc', .slice ra' nr' rc', .slice fa' nf' nf'] : List Value).length := by kernel_rfl
  have hia : (Try.prog.info? 51).map (·.size) = some (#[.int .i64 p.nd.p.nd.k, .int .i64 p.nd.p.nd.n, .int .i64 p.nd.p.nd.t.k, .bool p.nd.p.nd.t.no, .int .i64 p.nd.p.nd.t.l.k, .int .i64 p.nd.p.nd.t.l.a, .int .i64 p.nd.p.nd.t.l.b, .int .i64 p.nd.p.nd.t.l.n, .int .i64 p.nd.p.nd.t.r.k, .int .i64 p.nd.p.nd.t.r.a, .int .i64 p.nd.p.nd.t.r.b, .int .i64 p.nd.p.nd.t.r.n, .slice ca' nc' nc', .int .i64 p.nd.p.nd.a, .int .i64 p.nd.p.nd.b, .slice ka' nk' nk', .int .i64 p.nd.p.nd.g, .int .i64 p.nd.p.nd.c, .slice da' nd' nd', .slice la' nl' lc', .slice ra' nr' rc', .slice fa' nf' nf'] : Array Value).size := by kernel_rfl
  have H1 : Hid ((#[.int .i64 p.nd.p.nd.k, .int .i64 p.nd.p.nd.n, .int .i64 p.nd.p.nd.t.k, .bool p.nd.p.nd.t.no, .int .i64 p.nd.p.nd.t.l.k, .int .i64 p.nd.p.nd.t.l.a, .int .i64 p.nd.p.nd.t.l.b, .int .i64 p.nd.p.nd.t.l.n, .int .i64 p.nd.p.nd.t.r.k, .int .i64 p.nd.p.nd.t.r.a, .int .i64 p.nd.p.nd.t.r.b, .int .i64 p.nd.p.nd.t.r.n, .slice ca' nc' nc', .int .i64 p.nd.p.nd.a, .int .i64 p.nd.p.nd.b, .slice ka' nk' nk', .int .i64 p.nd.p.nd.g, .int .i64 p.nd.p.nd.c, .slice da' nd' nd', .slice la' nl' lc', .slice ra' nr' rc', .slice fa' nf' nf'] : Array Value).all (·.oneCell') = true) := one22 p.nd _ _ _ _ _ _ rfl rfl rfl rfl rfl rfl
  go_wp2_with (first | (refine wpList_load_mid rfl 51 _ rfl (w.heap.size + 1 + 1) 0 rfl _ _ HR5.out Try.underlying51 rfl hio ?_) | (refine wpList_store_mid rfl 51 _ _ rfl (w.heap.size + 1) 0 #[.int .i64 p.nd.p.nd.k, .int .i64 p.nd.p.nd.n, .int .i64 p.nd.p.nd.t.k, .bool p.nd.p.nd.t.no, .int .i64 p.nd.p.nd.t.l.k, .int .i64 p.nd.p.nd.t.l.a, .int .i64 p.nd.p.nd.t.l.b, .int .i64 p.nd.p.nd.t.l.n, .int .i64 p.nd.p.nd.t.r.k, .int .i64 p.nd.p.nd.t.r.a, .int .i64 p.nd.p.nd.t.r.b, .int .i64 p.nd.p.nd.t.r.n, .slice ca' nc' nc', .int .i64 p.nd.p.nd.a, .int .i64 p.nd.p.nd.b, .slice ka' nk' nk', .int .i64 p.nd.p.nd.g, .int .i64 p.nd.p.nd.c, .slice da' nd' nd', .slice la' nl' lc', .slice ra' nr' rc', .slice fa' nf' nf'] rfl rfl ?_ hia H1.out ?_))
  · exact HT5.out
  refine bodyPost_ret (v := .agg #[.int .i64 p.nd.p.nd.k, .int .i64 p.nd.p.nd.n, .int .i64 p.nd.p.nd.t.k, .bool p.nd.p.nd.t.no, .int .i64 p.nd.p.nd.t.l.k, .int .i64 p.nd.p.nd.t.l.a, .int .i64 p.nd.p.nd.t.l.b, .int .i64 p.nd.p.nd.t.l.n, .int .i64 p.nd.p.nd.t.r.k, .int .i64 p.nd.p.nd.t.r.a, .int .i64 p.nd.p.nd.t.r.b, .int .i64 p.nd.p.nd.t.r.n, .slice ca' nc' nc', .int .i64 p.nd.p.nd.a, .int .i64 p.nd.p.nd.b, .slice ka' nk' nk', .int .i64 p.nd.p.nd.g, .int .i64 p.nd.p.nd.c, .slice da' nd' nd', .slice la' nl' lc', .slice ra' nr' rc', .slice fa' nf' nf']) (results_cell (a := 2) (t := 51) (ad := ⟨w.heap.size + 1, 0, none⟩) Try.results7 (by simp [Act.put]) ?hload) (by simp [Act.put]) ⟨.slice ca' nc' nc', .slice ka' nk' nk', .slice da' nd' nd', .slice la' nl' lc', .slice ra' nr' rc', .slice fa' nf' nf', rfl, ⟨⟨_, _, _, rfl⟩, ⟨_, _, _, rfl⟩, ⟨_, _, _, rfl⟩, ⟨_, _, _, rfl⟩, ⟨_, _, _, rfl⟩, ⟨_, _, _, rfl⟩⟩, ?hup, ?hbelow⟩
  case hload => exact run_loadVar_mid (P := Try.prog) _ (w.heap.size + 1) 0 51 [.int .i64 p.nd.p.nd.k, .int .i64 p.nd.p.nd.n, .int .i64 p.nd.p.nd.t.k, .bool p.nd.p.nd.t.no, .int .i64 p.nd.p.nd.t.l.k, .int .i64 p.nd.p.nd.t.l.a, .int .i64 p.nd.p.nd.t.l.b, .int .i64 p.nd.p.nd.t.l.n, .int .i64 p.nd.p.nd.t.r.k, .int .i64 p.nd.p.nd.t.r.a, .int .i64 p.nd.p.nd.t.r.b, .int .i64 p.nd.p.nd.t.r.n, .slice ca' nc' nc', .int .i64 p.nd.p.nd.a, .int .i64 p.nd.p.nd.b, .slice ka' nk' nk', .int .i64 p.nd.p.nd.g, .int .i64 p.nd.p.nd.c, .slice da' nd' nd', .slice la' nl' lc', .slice ra' nr' rc', .slice fa' nf' nf'] _ (World.rangeAt_setCells_same _ _ _ _ HT5.out) Try.underlying51 rfl hio
  case hup =>
    intro x hx
    have hx2 : Ab (w.heap.size + 1 + 1 + 1) w4 x := Ab.trans (Ab.trans (ab_setCell (Ab.refl _ _) (Nat.lt_succ_self _)) (ab_setCells _ _ _ _ (by omega))) (hx.mono (by omega))
    exact ⟨⟨(HUP.out x hx2).1, HUL.out x hx2, HUR.out x hx2, (HUF.out x hx2).1⟩, (HUP.out x hx2).2, (HUF.out x hx2).2⟩
  case hbelow => exact bel_setCells _ _ _ _ (HB.out.setCell (Nat.le_succ_of_le (Nat.le_succ _)) _) (Nat.le_succ _)

theorem toFlow_any : ∀ n, CpF D n
  | 0 => toFlow_step 0 (toFlowS_of 0 fun m h => by omega)
  | n + 1 => toFlow_step (n + 1) (toFlowS_of (n + 1) fun m h => by obtain rfl : n = m := by omega
                                                                   exact toFlow_any n)

end Go.Proofs.Ytfmgohoddaobmaa.Fw
