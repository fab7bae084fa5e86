/-
  Slices of runs as values; the contracts of slices.Clone at runs, impl.copyRuns, impl.lastTwoMerged, impl.lastTwoMany.
-/
import Derived.Test.YtjaehoehfmklcaaRunOk
import Derived.Test.YtjaehoehfmklcaaCopy
import Derived.Deep.AppendLies
namespace Go.Proofs.Ytjaehoehfmklcaa
set_option maxRecDepth 100000
open Go.RowKit

/-- The value v is a slice whose elements, in the memory w, are the slices ps. -/
def ValsAt (w : World) (v : Value) (ps : List Value) : Prop :=
  ps.length ≤ 140737488355328 ∧ (∀ p ∈ ps, ∃ a n c, p = Value.slice a n c) ∧ ∃ (a : Option Addr) (cap : Nat), v = .slice a ps.length cap ∧ (a = none → cap = 0) ∧ ps.length ≤ cap ∧ cap ≤ 9223372036854775807 ∧
    (ps ≠ [] → ∃ b off, a = some ⟨b, off, none⟩ ∧ b < w.heap.size ∧ ∀ j, j < ps.length → w.cell? ⟨b, off + j, none⟩ = some (ps.getD j vn))
theorem ValsAt.below {w w' : World} {v : Value} {ps : List Value} (h : ValsAt w v ps) (hb : Below w.heap.size w w') : ValsAt w' v ps := by
  obtain ⟨hl, hs, a, cap, rfl, hn, hc1, hc2, hc⟩ := h
  refine ⟨hl, hs, a, cap, rfl, hn, hc1, hc2, fun hne => ?_⟩
  obtain ⟨b, off, rfl, hbl, hcell⟩ := hc hne
  exact ⟨b, off, rfl, Nat.lt_of_lt_of_le hbl hb.size, fun j hj => (hb.cell (p := ⟨b, off + j, none⟩) hbl).trans (hcell j hj)⟩
theorem RunsAt.vals {w : World} {v : Value} {zss : Rn} (h : RunsAt w v zss) : ∃ ps : List Value, ValsAt w v ps ∧ ps.length = zss.length ∧ ∀ j, j < zss.length → TailZ w (ps.getD j vn) (zss.getD j []) := by
  obtain ⟨hl, a, cap, rfl, hn, hc1, hc2, hc⟩ := h
  by_cases hx : zss = []
  · subst hx
    exact ⟨[], ⟨by simp, fun p hp => by simp at hp, a, cap, rfl, hn, hc1, hc2, fun h => absurd rfl h⟩, rfl, fun j hj => by simp at hj⟩
  · obtain ⟨b, off, rfl, hbl, hcell⟩ := hc hx
    have : ∃ f : Nat → Value, ∀ j, j < zss.length → w.cell? ⟨b, off + j, none⟩ = some (f j) ∧ TailZ w (f j) (zss.getD j []) := by
      classical
      refine ⟨fun j => if hj : j < zss.length then Classical.choose (hcell j hj) else vn, fun j hj => ?_⟩
      simp only [dif_pos hj]
      exact Classical.choose_spec (hcell j hj)
    obtain ⟨f, hf⟩ := this
    have hlen : ((List.range zss.length).map f).length = zss.length := by simp
    have hg : ∀ j, j < zss.length → ((List.range zss.length).map f).getD j vn = f j := fun j hj => by simp [List.getD, hj]
    refine ⟨(List.range zss.length).map f, ⟨by omega, fun p hp => ?_, some ⟨b, off, none⟩, cap, by rw [hlen], fun h => by simp at h, by omega, hc2, fun _ => ⟨b, off, rfl, hbl, fun j hj => ?_⟩⟩, hlen, fun j hj => ?_⟩
    · obtain ⟨j, hj, rfl⟩ := mem_getD (d := vn) hp
      rw [hlen] at hj
      rw [hg j hj]
      obtain ⟨a, c, e⟩ := (hf j hj).2.shape1
      exact ⟨a, _, c, e⟩
    · rw [hlen] at hj
      rw [hg j hj]
      exact (hf j hj).1
    · rw [hg j hj]
      exact (hf j hj).2
theorem ValsAt.take {w : World} {a : Option Addr} {n cap : Nat} {ps : List Value} (h : ValsAt w (.slice a n cap) ps) {k : Nat} (hk : k ≤ n) : ValsAt w (.slice a k cap) (ps.take k) := by
  obtain ⟨hl, hs, a', cap', he, hn, hc1, hc2, hc⟩ := h
  simp only [Value.slice.injEq] at he
  obtain ⟨rfl, rfl, rfl⟩ := he
  have hlt : (ps.take k).length = k := by rw [List.length_take]; omega
  refine ⟨by omega, fun p hp => hs p (List.mem_of_mem_take hp), a, cap, by rw [hlt], hn, by omega, hc2, fun hne => ?_⟩
  have hk0 : 0 < k := by
    rcases Nat.eq_zero_or_pos k with h | h
    · subst h; simp at hne
    · exact h
  obtain ⟨b, off, rfl, hb, hcell⟩ := hc (fun e => by subst e; simp at hk; omega)
  refine ⟨b, off, rfl, hb, fun j hj => ?_⟩
  rw [hlt] at hj
  have : (ps.take k).getD j vn = ps.getD j vn := by simp [List.getD, hj]
  rw [this]
  exact hcell j (by omega)
theorem ValsAt.news {w : World} {ad : Addr} {n cap : Nat} {ps : List Value} (h : ValsAt w (.slice (some ad) n cap) ps) : ∀ j u, ps[j]? = some u → w.cell? (ad.add j) = some u := by
  obtain ⟨hl, hs, a', cap', he, hn, hc1, hc2, hc⟩ := h
  simp only [Value.slice.injEq] at he
  obtain ⟨rfl, rfl, rfl⟩ := he
  intro j u hu
  have hj : j < ps.length := (List.getElem?_eq_some_iff.1 hu).1
  obtain ⟨b, off, e, hb, hcell⟩ := hc (fun e => by subst e; simp at hj)
  simp only [Option.some.injEq] at e
  subst e
  rw [Addr.add_lit, hcell j hj]
  simp only [List.getD, hu]
  rfl
theorem one_of {ps : List Value} (hs : ∀ p ∈ ps, ∃ a n c, p = Value.slice a n c) : ∀ u ∈ ps, u.oneCell' = true := fun u hu => by
  obtain ⟨a, n, c, rfl⟩ := hs u hu
  rfl

set_option maxHeartbeats 1000000 in
theorem cloneRuns_any (v : Value) (ps : List Value) (w : World) (h : ValsAt w v ps) (hlim : ps.length ≤ 1048576) :
    Calls Try.prog 64 #[v] w fun e w' => ∃ v', e = .returned v' ∧ w'.ownsRow w.heap.size 23 1 v' ps.length ps ∧ Below w.heap.size w w' := by
  obtain ⟨i0, hi, hz0, hz1, hz2⟩ := info_parts infoRun
  have hx1 : ValsAt (w.alloc (.cells #[] 23)) v ps := h.below (below_alloc _)
  have ho1 : (w.alloc (.cells #[] 23)).ownsRow w.heap.size 23 1 (.slice (some ⟨w.heap.size, 0, none⟩) 0 0) 0 [] := World.ownsRow_lit w #[] 0 (Nat.le_refl _) (by unfold maxLen; omega) rfl
  obtain ⟨_, hsl, a, cap, hv, hnone, hcap, hcm, hc⟩ := h
  have qn : ∀ (w : World) (a : Option Addr) (n c n' c' : Nat), (binOp .eql 36 (.slice a n c) (.slice none n' c')).run Try.prog w = .ok (.bool a.isNone) w := fun w a n c n' c' => Lib.run_eql_slice_nil w _ _ a n c n' c' Try.underlying36
  cases a with
  | none =>
    have hxs : ps = [] := by
      by_cases h0 : ps = []
      · exact h0
      · obtain ⟨b, off, hh, _⟩ := hc h0
        simp at hh
    subst hxs
    have hcap := hnone rfl
    subst hcap
    subst hv
    clear hx1 ho1 hc hnone hsl
    go_enter Try.func64, Try.ntmps64
    go_wp2
    go_ret
    exact ⟨_, rfl, World.ownsRow_nil _ _ _ _, Below.refl _ _⟩
  | some ad =>
    subst hv
    have hnews := hx1.news
    clear hc hnone hx1
    go_enter Try.func64, Try.ntmps64
    go_wp2_with (at_builtin; refine wpList_append_own _ rfl _ _ 36 rfl w.heap.size 23 i0 (.slice none 0 0) 1 24 Try.underlying36 hi hz0 hz1 hz2 rfl (by decide) (.slice (some ⟨w.heap.size, 0, none⟩) 0 0) 0 [] rfl ho1 ad ps.length cap ps rfl (by simp) hnews (one_of hsl) (by unfold maxLen; omega) (by omega) (by simp) ?_; intro v' w1 hown1 hgrow1 _)
    have hb1 : Below w.heap.size w w1 := ((Below.refl _ _).alloc (Nat.le_refl _) _).grown hgrow1 (by simp) (by simp [Value.ownBlock])
    have ho2 : w1.ownsRow w.heap.size 23 1 v' ps.length ps := by simpa using hown1
    clear hown1 hgrow1 ho1 hnews
    go_wp2
    go_ret
    exact ⟨_, rfl, ho2, hb1⟩

theorem take_vals {ps : List Value} {zss : Rn} {k j : Nat} {w : World} (h : ∀ j, j < zss.length → TailZ w (ps.getD j vn) (zss.getD j [])) (hj : j < (zss.take k).length) : TailZ w ((ps.take k).getD j vn) ((zss.take k).getD j []) := by
  have h1 : j < k ∧ j < zss.length := by rw [List.length_take] at hj; omega
  have e1 : (ps.take k).getD j vn = ps.getD j vn := by simp [List.getD, h1.1]
  have e2 : (zss.take k).getD j [] = zss.getD j [] := by simp [List.getD, h1.1]
  rw [e1, e2]
  exact h j h1.2

set_option maxHeartbeats 4000000 in
theorem copyRuns_any (v : Value) (zss : Rn) (w : World) (h : RunsAt w v zss) (hlim : zss.length ≤ 1048576) (hm : ∀ j, j < zss.length → Mild (zss.getD j [])) :
    Calls Try.prog 38 #[v] w fun e w' => ∃ v', e = .returned v' ∧ OwnR w' w.heap.size w'.heap.size v' zss ∧ Below w.heap.size w w' := by
  obtain ⟨ps, hv, hpl, hT⟩ := h.vals
  go_enter Try.func38, Try.ntmps38
  go_wp2_with fail
  refine (cloneRuns_any v ps _ hv (by omega)).mono ?_
  rintro e w1 ⟨v1, rfl, S1, hb1⟩
  by_cases hne : 0 < zss.length
  · obtain ⟨g, cap, rfl, hg1, hg2⟩ := S1.form (by omega)
    obtain ⟨n, hn⟩ : ∃ n, n = zss.length := ⟨_, rfl⟩
    have HN : Hid (n = zss.length) := hn
    rw [hpl, ← hn] at S1 ⊢
    rw [← hn] at hne hlim hm hT
    have HPL : Hid (ps.length = n) := by show _ = _; omega
    clear hn hpl h hv
    go_wp2
    go_loopw [9] (fun i wr => ∃ k : Nat, k ≤ n ∧ i = .int .i64 k ∧ Hid (∃ qs, wr.ownsRow w.heap.size 23 1 (.slice (some ⟨g, 0, none⟩) n cap) n (qs ++ ps.drop k) ∧ RunsIn wr (.slice (some ⟨g, 0, none⟩) n cap) w.heap.size wr.heap.size qs (zss.take k)) ∧ Hid (Below w.heap.size w wr ∧ g < wr.heap.size)) (fun i _ => n - (intOf i).toNat)
    case atStart => exact ⟨0, Nat.zero_le _, rfl, ⟨[], by simpa using S1, by rw [List.take_zero]; exact hb1.size⟩, hb1, hg2⟩
    case round =>
      obtain ⟨k, hk, rfl, HP, HW⟩ := hrel
      clear S1 hb1 hg2
      by_cases hlt : k < n
      · obtain ⟨qs, hr1, hr2⟩ := HP.out
        obtain ⟨HB, hgs⟩ := HW.out
        have hlt' : k < zss.length := by rw [← HN.out]; exact hlt
        have hql : qs.length = k := by rw [hr2.len, List.length_take, ← HN.out]; omega
        have hcell := ps_get hr1 hlt
        have hcv : (qs ++ ps.drop k).getD k vn = ps.getD k vn := by
          simp only [List.getD]
          rw [List.getElem?_append_right (by omega), hql, Nat.sub_self, List.getElem?_drop]
          simp
        rw [hcv] at hcell
        have hix := (hT k hlt).below HB
        have hmk := hm k hlt
        obtain ⟨pv, HPV⟩ : ∃ pv, Hid (pv = ps.getD k vn) := ⟨_, rfl⟩
        rw [← HPV.out] at hcell hix
        have hsh : ∃ a n c, pv = .slice a n c := by obtain ⟨a, c, e⟩ := hix.shape1; exact ⟨a, _, c, e⟩
        obtain ⟨pa, pn, pc, rfl⟩ := hsh
        clear hT hm hcv
        go_wp2_with fail
        refine (copyItems_any _ _ _ hix.items (by have := hmk.1; omega) hmk.2.1).mono ?_
        rintro e w2 ⟨v2, rfl, O2, hb2⟩
        have hr1' := ownsRow_only hr1 (below_only hb2) (fun b hb => by simp [Value.ownBlock] at hb; omega)
        have hr2' := hr2.keep hb2
        have hst := hr1'.stored k v2
        have hset : (qs ++ ps.drop k).set k v2 = (qs ++ [v2]) ++ ps.drop (k + 1) := by
          have hkp : k < ps.length := by rw [HPL.out]; exact hlt
          rw [List.set_append_right _ _ (by omega), hql, Nat.sub_self, List.drop_eq_getElem_cons hkp, List.set_cons_zero, List.append_assoc]
          rfl
        rw [hset] at hst
        have hon : Only g (g + 1) w2 (w2.setCell ⟨g, k, none⟩ v2) := (Only.refl g (g + 1) w2).setCell (p := ⟨g, k, none⟩) (Nat.le_refl _) (Nat.lt_succ_self _) _
        have R : Hid (∃ qs, (w2.setCell ⟨g, k, none⟩ v2).ownsRow w.heap.size 23 1 (.slice (some ⟨g, 0, none⟩) n cap) n (qs ++ ps.drop (k + 1)) ∧ RunsIn (w2.setCell ⟨g, k, none⟩ v2) (.slice (some ⟨g, 0, none⟩) n cap) w.heap.size w2.heap.size qs (zss.take (k + 1))) := by
          refine ⟨qs ++ [v2], hst.1, ?_⟩
          have hsn := RunsIn.snoc (v := .slice (some ⟨g, 0, none⟩) n cap) hb2.size O2 (fun b hb => by simp [Value.ownBlock] at hb; omega) hr2' (Nat.le_refl _)
          rw [take_getR hlt']
          exact hsn.onlyV rfl hon
        have hcu := ps_get hr1' hlt
        have hfz := hr1'.frozenAt k
        have HB2 : Hid (Below w.heap.size w (w2.setCell ⟨g, k, none⟩ v2) ∧ g < w2.heap.size) := ⟨(below_then HB hb2).setCell hg1 _, by have := hb2.size; omega⟩
        obtain ⟨ra2, rn2, rc2, rfl⟩ := O2.shapeN
        clear HB HP HW O2 hb2 hix hcell hr1 hr2 hr1' hr2' hst hon hset hgs hmk
        go_wp2
        go_roundw
        case rel => exact ⟨k + 1, by omega, by go_num, by show ∃ _, _; simpa using R.out, by show _ ∧ _; simpa using HB2.out⟩
        case measure => simp [intOf]; omega
      · have e : k = n := by omega
        subst e
        clear hT hm
        go_wp2
        go_ret
        obtain ⟨qs, hr1, hr2⟩ := HP.out
        rw [show zss.take k = zss by rw [HN.out, List.take_length]] at hr2
        have hl := HN.out
        have hpd : ps.drop k = [] := List.drop_eq_nil_iff.2 (by rw [HPL.out]; exact Nat.le_refl _)
        rw [hpd, List.append_nil] at hr1
        refine ⟨_, rfl, ⟨qs, by rw [← hl]; exact hr1, fun b hb => (hr1.lt b hb).2, by omega, Nat.le_refl _, hr2⟩, HW.out.1⟩
  · have hz : zss = [] := List.length_eq_zero_iff.1 (by omega)
    have hp : ps = [] := List.length_eq_zero_iff.1 (by omega)
    subst hz hp
    have R : OwnR w1 w.heap.size w1.heap.size v1 [] := ⟨[], S1, fun b hb => (S1.lt b hb).2, by simp, Nat.le_refl _, hb1.size⟩
    obtain ⟨a1, c1, hsh⟩ := R.shape
    simp only [List.length_nil] at hsh
    subst hsh
    clear S1 hT hm h hv
    go_wp2
    refine wp_loop_rounds 1 ?_
    rw [rounds_succ]
    go_wp2
    go_ret
    exact ⟨_, rfl, R, hb1⟩

end Go.Proofs.Ytjaehoehfmklcaa
