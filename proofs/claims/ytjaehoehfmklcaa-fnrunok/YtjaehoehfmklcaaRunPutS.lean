/-
  The contracts of spec.l7Tidy, spec.l7Put and spec.RunPut.
-/
import Derived.Test.YtjaehoehfmklcaaRunPutI
namespace Go.Proofs.Ytjaehoehfmklcaa
set_option maxRecDepth 100000
set_option linter.unusedVariables false
open Go.RowKit

set_option maxHeartbeats 4000000 in
theorem l7Tidy_some (b off cap : Nat) (zss : Rn) (w : World) (hpos : 0 < zss.length) (hlim : zss.length ≤ 140737488355328) (hbw : b < w.heap.size) (ht : tidyB zss = true)
    (hc : ∀ j, j < zss.length → ∃ rv, w.cell? ⟨b, off + j, none⟩ = some rv ∧ TailZ w rv (zss.getD j [])) :
    Calls Try.prog 81 #[.agg #[.slice (some ⟨b, off, none⟩) zss.length cap]] w fun e w' => e = .returned (.bool true) ∧ Below w.heap.size w w' := by
  obtain ⟨n, hn⟩ : ∃ n, n = zss.length := ⟨_, rfl⟩
  have HN : Hid (n = zss.length) := hn
  have HT : Hid (tidyB zss = true) := ht
  rw [← hn] at hpos hlim hc ⊢
  clear hn ht
  go_enter Try.func81, Try.ntmps81
  go_wp2
  go_loopw [3] (fun i wr => ∃ k : Nat, k ≤ n ∧ i = .int .i64 k ∧ Hid (Below (w.heap.size + 1) (w.alloc (.cells #[.slice (some ⟨b, off, none⟩) n cap] 38)) wr)) (fun i _ => n - (intOf i).toNat)
  case atStart => exact ⟨0, Nat.zero_le _, rfl, by
      show Below _ _ _
      simpa using Below.refl (w.heap.size + 1) (w.alloc (.cells #[.slice (some ⟨b, off, none⟩) n cap] 38))⟩
  case round =>
    obtain ⟨k, hk, rfl, HW⟩ := hrel
    have hbx : wr.cell? ⟨w.heap.size, 0, none⟩ = some (.slice (some ⟨b, off, none⟩) n cap) := cell_is HW.out (Nat.lt_succ_self _) (by simp [go_sem])
    by_cases hlt : k < n
    · have HB : Below w.heap.size w wr := below_then (below_alloc _) (by simpa using HW.out)
      have hsz : w.heap.size + 1 ≤ wr.heap.size := by have := HW.out.size; simpa using this
      have hlt' : k < zss.length := by rw [← HN.out]; exact hlt
      obtain ⟨rv, hrv0, hix0⟩ := hc k hlt
      have hrv := (HB.cell (p := ⟨b, off + k, none⟩) hbw).trans hrv0
      have hix := hix0.below HB
      clear hrv0 hix0 hc
      obtain ⟨x, HX⟩ : ∃ x, Hid (x = zss.getD k []) := ⟨_, rfl⟩
      rw [← HX.out] at hix
      have hxo : zOkB x = true := by rw [HX.out]; exact tidy_at HT.out hlt'
      have hsh : ∃ a n c, rv = .slice a n c := by obtain ⟨a, c, e⟩ := hix.shape1; exact ⟨a, _, c, e⟩
      obtain ⟨ra, rn, rc, rfl⟩ := hsh
      go_wp2_with fail
      refine (specZOk_any _ x _ hix.items).mono ?_
      rw [hxo]
      rintro e w2 ⟨rfl, hd2⟩
      have HK : Hid (Below (w.heap.size + 1) (w.alloc (.cells #[.slice (some ⟨b, off, none⟩) n cap] 38)) w2) := HW.out.trans (hd2.below.mono hsz)
      clear hix hrv HB HW hxo hd2 hbx hsz
      go_wp2
      go_roundw
      case rel => exact ⟨k + 1, by omega, by go_num, HK.out⟩
      case measure => simp [intOf]; omega
    · have e : k = n := by omega
      subst e
      clear hc
      go_wp2
      go_ret
      exact ⟨rfl, below_then (below_alloc _) (by simpa using HW.out)⟩
theorem l7Tidy_none (a : Option Addr) (cap : Nat) (w : World) :
    Calls Try.prog 81 #[.agg #[.slice a 0 cap]] w fun e w' => e = .returned (.bool true) ∧ Below w.heap.size w w' := by
  go_enter Try.func81, Try.ntmps81
  go_wp2
  refine wp_loop_rounds 1 ?_
  rw [rounds_succ]
  go_wp2
  go_ret
  exact ⟨rfl, below_alloc _⟩
theorem l7Tidy_any (v : Value) (zss : Rn) (w : World) (h : RunsAt w v zss) (ht : tidyB zss = true) :
    Calls Try.prog 81 #[.agg #[v]] w fun e w' => e = .returned (.bool true) ∧ Below w.heap.size w w' := by
  rcases h.cases with ⟨a, cap, rfl, rfl, _⟩ | ⟨b, off, cap, hpos, hlim, _, _, rfl, hbw, hc⟩
  · exact l7Tidy_none a cap w
  · exact l7Tidy_some b off cap zss w hpos hlim hbw ht hc

theorem snoc_ok {s : Rn} {z : List It} (hs : runOkB s = true) (hz : zOkB z = true) : ∀ j, j < (s ++ [z]).length → zOkB ((s ++ [z]).getD j []) = true := by
  intro j hj
  by_cases h : j < s.length
  · rw [show (s ++ [z]).getD j [] = s.getD j [] by simp only [List.getD]; rw [List.getElem?_append_left h]]
    exact each_ok hs h
  · have e : j = s.length := by simp at hj; omega
    subst e
    simpa [List.getD] using hz
theorem setc_size (w : World) (p : Addr) (u : Value) : (w.setCell p u).heap.size = w.heap.size := by simp [World.setCell]
/-- append of a slice of slices, whatever it is, to one that the call owns. -/
theorem wpList_append_vals {P : Program} {w : World} {ops : Array Oper} {rest : List Oper} {o : Oper} {a : Act} {Q : Exit → Act → World → Prop} (hgd : o.guard = none) (s x : Operand) (t : TypeId)
    (ho : o.op = .call { callee := .builtin .append, args := #[s, x], argTypes := #[t, t] })
    (base : Nat) (e : TypeId) (i : TypeInfo) (ht : P.underlying t = some (.slice e)) (hi : P.info? e = some i) (hz : i.zero = some (.slice none 0 0))
    (hsize : i.size = 1) (hby : i.bytes = 24)
    (v : Value) (ps : List Value) (hs : a.eval s = v) (hown : w.ownsRow base e 1 v ps.length ps)
    (vx : Value) (qs : List Value) (hx : a.eval x = vx) (hsrc : ValsAt w vx qs)
    (hbytes : (ps.length + qs.length) * 24 ≤ 140737488355328) (hbase : base ≤ w.heap.size)
    (h : ∀ v' w', w'.ownsRow base e 1 v' (ps ++ qs).length (ps ++ qs) → w.grownBy w' v.ownBlock → wpList P ops Q rest (a.put o.dst v') w') : wpList P ops Q (o :: rest) a w := by
  have hnews0 := hsrc
  obtain ⟨hl, hsl, ad, cap, rfl, hnone, hc1, hc2, hc⟩ := hsrc
  cases ad with
  | none =>
    have hq : qs = [] := by
      by_cases h0 : qs = []
      · exact h0
      · obtain ⟨b, off, hh, _⟩ := hc h0
        simp at hh
    subst hq
    have hcap := hnone rfl
    subst hcap
    refine wpList_append_own_none hgd s x t ho base e i 1 ht hi v ps.length ps hs hown hx ?_
    exact h v w (by simpa using hown) (grown_refl _ _)
  | some ad =>
    refine wpList_append_own w hgd s x t ho base e i (.slice none 0 0) 1 24 ht hi hz hsize hby rfl (by decide) v ps.length ps hs hown ad qs.length cap qs hx (by rw [Nat.mul_one]) hnews0.news (one_of hsl) (by unfold maxLen; omega) hbytes hbase ?_
    intro v' w' h1 h2 _
    exact h v' w' (by rw [List.length_append]; exact h1) h2
theorem OwnR.valsAt {w : World} {lo hi : Nat} {v : Value} {s : Rn} (h : OwnR w lo hi v s) : ∃ ps, ValsAt w v ps ∧ ps.length = s.length ∧ RunsIn w v lo hi ps s := by
  have hR := h.runs
  obtain ⟨ps, hown, hk, hll, hhi, hin⟩ := h
  have hpl := hin.len
  refine ⟨ps, ?_, hpl, hin⟩
  obtain ⟨ps', hv', hl', hT'⟩ := hR.vals
  have he : ps' = ps := by
    apply List.ext_getElem (by omega)
    intro j h1 h2
    obtain ⟨_, _, a', c', e', _, _, _, hc'⟩ := hv'
    obtain ⟨b', off', ha, _, hcell⟩ := hc' (fun e => by subst e; simp at h1)
    have q1 := hcell j h1
    rcases hown.2 with ⟨e3, _⟩ | ⟨g, cap', cur, e3, _⟩
    · rw [e3] at e'
      simp only [Value.slice.injEq] at e'
      rw [ha] at e'
      simp at e'
    · subst e3
      simp only [Value.slice.injEq] at e'
      rw [ha] at e'
      simp only [Option.some.injEq, Addr.mk.injEq] at e'
      obtain ⟨⟨rfl, rfl, _⟩, _, _⟩ := e'
      have q2 := ps_get hown (j := j) (by omega)
      rw [Nat.zero_add] at q1
      rw [q1] at q2
      simpa [List.getD, h1, h2] using q2
  rw [← he]
  exact hv'

set_option maxHeartbeats 8000000 in
theorem l7Put_any (v : Value) (s : Rn) (u : Value) (z : List It) (lo hi : Nat) (w : World) (h : OwnR w lo hi v s) (hlo : lo ≤ w.heap.size) (hz : TailZ w u z) (hok : runOkB s = true) (hzo : zOkB z = true) :
    Calls Try.prog 62 #[.agg #[v], u] w fun e w' => ∃ v', e = .returned (.tuple #[.agg #[v'], .bool (putOk s z)]) ∧ OwnR w' lo w'.heap.size v' (putRuns s z) ∧ Below w.heap.size w w' := by
  obtain ⟨i0, hi0, hz0, hz1, hz2⟩ := info_parts infoRun
  obtain ⟨a, n, cap, rfl⟩ := h.runs.shapeN
  obtain ⟨ua, uc, hshu⟩ := hz.shape1
  obtain ⟨un, HUN⟩ : ∃ un, Hid (un = z.length) := ⟨_, rfl⟩
  rw [← HUN.out] at hshu
  subst hshu
  obtain ⟨os, HO⟩ : ∃ os, Hid (os = putRuns s z) := ⟨_, rfl⟩
  obtain ⟨c, HC⟩ : ∃ c, Hid (c = putOk s z) := ⟨_, rfl⟩
  rw [← HO.out, ← HC.out]
  have HOK : Hid (runOkB s = true ∧ zOkB z = true) := ⟨hok, hzo⟩
  have hhi := h.hi_le
  have hs5 := runOk_le hok
  have hul : un ≤ 100 := by rw [HUN.out]; exact zOk_le hzo
  have hba : Below w.heap.size w ((w.alloc (.cells #[.slice a n cap] 38)).alloc (.cells #[.slice none 0 0] 38)) := below_then (below_alloc _) (below_alloc _)
  have x0 : BoxAt ((w.alloc (.cells #[.slice a n cap] 38)).alloc (.cells #[.slice none 0 0] 38)) w.heap.size (.slice a n cap) := (boxAt_new _ _).below (below_alloc _)
  have x1 : BoxAt ((w.alloc (.cells #[.slice a n cap] 38)).alloc (.cells #[.slice none 0 0] 38)) (w.heap.size + 1) (.slice none 0 0) := by
    have := boxAt_new (w.alloc (.cells #[.slice a n cap] 38)) (.slice none 0 0)
    rw [show (w.alloc (.cells #[.slice a n cap] 38)).heap.size = w.heap.size + 1 by simp] at this
    exact this
  have O0 := h.keep' hba
  have zW : ((w.alloc (.cells #[.slice a n cap] 38)).alloc (.cells #[.slice none 0 0] 38)).heap.size = w.heap.size + 2 := by simp
  have ZW : Hid (((w.alloc (.cells #[.slice a n cap] 38)).alloc (.cells #[.slice none 0 0] 38)).heap.size = w.heap.size + 2) := zW
  clear zW hok hzo
  by_cases hun : un = 0
  · have hz0' : z = [] := List.length_eq_zero_iff.1 (by rw [← HUN.out]; exact hun)
    have H1 : Hid (os = s ∧ c = true) := by
      show _ ∧ _
      rw [HO.out, HC.out]
      simp [putOk, putRuns, HOK.out.1, hz0', zOk_nil]
    have c0 := x0.cell
    have c1 := x1.cell
    have f1 := x1.frozen
    have HR : Hid (OwnR (((w.alloc (.cells #[.slice a n cap] 38)).alloc (.cells #[.slice none 0 0] 38)).setCell ⟨w.heap.size + 1, 0, none⟩ (.slice a n cap)) lo (((w.alloc (.cells #[.slice a n cap] 38)).alloc (.cells #[.slice none 0 0] 38)).setCell ⟨w.heap.size + 1, 0, none⟩ (.slice a n cap)).heap.size (.slice a n cap) s) := (O0.put x1).wide (Nat.le_refl _) (by rw [setc_size]; exact Nat.le_trans hhi hba.size) (Nat.le_refl _)
    have HK : Hid (Below w.heap.size w (((w.alloc (.cells #[.slice a n cap] 38)).alloc (.cells #[.slice none 0 0] 38)).setCell ⟨w.heap.size + 1, 0, none⟩ (.slice a n cap))) := hba.setCell (by simp) _
    have HRS := (x1.put (.slice a n cap)).cell
    have HE : Hid (((w.alloc (.cells #[.slice a n cap] 38)).alloc (.cells #[.slice none 0 0] 38)).setCell ⟨w.heap.size + 1, 0, none⟩ (.slice a n cap) = (w.alloc (.cells #[.slice a n cap] 38)).alloc (.cells #[.slice a n cap] 38)) := by
      show _ = _
      simp [go_sem]
    rw [HE.out] at HR HK HRS
    clear hz x0 x1 O0 hz0' hba h
    subst hun
    go_enter Try.func62, Try.ntmps62
    go_wp2
    refine bodyPost_ret (v := .tuple #[.agg #[.slice a n cap], .bool true]) (by simp [results, Try.results62, go_sem]) rfl ⟨_, ret_rb H1.out.2.symm, ?_, HK.out⟩
    rw [H1.out.1]
    exact HR.out
  · have hzn : Hid (z ≠ []) := fun e => hun (by rw [HUN.out, e]; rfl)
    have hune : ((un : Int) == 0) = false := by simp; omega
    have hune2 : ¬ (un : Int) = 0 := by omega
    obtain ⟨ps, hval, hpl, hin⟩ := h.valsAt
    have HT : Hid (RunsIn w (.slice a n cap) lo hi ps s) := hin
    have HPL : Hid (ps.length = s.length) := hpl
    have hvL : ValsAt (((w.alloc (.cells #[.slice a n cap] 38)).alloc (.cells #[.slice none 0 0] 38)).alloc (.cells #[] 23)) (.slice a n cap) ps := (hval.below hba).below (below_alloc _)
    have ho1 : (((w.alloc (.cells #[.slice a n cap] 38)).alloc (.cells #[.slice none 0 0] 38)).alloc (.cells #[] 23)).ownsRow (w.heap.size + 2) 23 1 (.slice (some ⟨w.heap.size + 1 + 1, 0, none⟩) 0 0) ([] : List Value).length [] := by
      have := World.ownsRow_lit (base := w.heap.size + 2) (e := 23) (size := 1) ((w.alloc (.cells #[.slice a n cap] 38)).alloc (.cells #[.slice none 0 0] 38)) #[] 0 (by rw [ZW.out]; exact Nat.le_refl _) (by unfold maxLen; omega) rfl
      rw [show ((w.alloc (.cells #[.slice a n cap] 38)).alloc (.cells #[.slice none 0 0] 38)).heap.size = w.heap.size + 1 + 1 from ZW.out] at this
      exact this
    have hbL : Below w.heap.size w (((w.alloc (.cells #[.slice a n cap] 38)).alloc (.cells #[.slice none 0 0] 38)).alloc (.cells #[] 23)) := below_then hba (below_alloc _)
    have xL0 := (x0.below (below_alloc (.cells #[] 23)))
    have xL1 := (x1.below (below_alloc (.cells #[] 23)))
    have hsL : w.heap.size + 2 ≤ (((w.alloc (.cells #[.slice a n cap] 38)).alloc (.cells #[.slice none 0 0] 38)).alloc (.cells #[] 23)).heap.size := by simp
    have hpl6 : ps.length ≤ 6 := by rw [HPL.out]; omega
    have cL0 := xL0.cell
    clear hval hpl hin hba x0 x1 O0
    go_enter Try.func62, Try.ntmps62
    go_wp2_with (at_builtin; refine wpList_append_vals rfl _ _ 36 rfl (w.heap.size + 2) 23 i0 Try.underlying36 hi0 hz0 hz1 hz2 (.slice (some ⟨w.heap.size + 1 + 1, 0, none⟩) 0 0) [] rfl ho1 _ ps rfl hvL (by simp; omega) hsL ?_; intro v3 w3 hown3 hgrow3)
    have hsh3 := own_shape hown3
    obtain ⟨ra, rn, rc, rfl⟩ := hsh3
    rw [List.nil_append] at hown3
    have hk3 : Below w.heap.size w w3 := hbL.grown hgrow3 (by omega) (fun k hk => by simp [Value.ownBlock] at hk; omega)
    have y30 := xL0.grown hgrow3 (fun e => by simp [Value.ownBlock] at e; omega)
    have y31 := xL1.grown hgrow3 (fun e => by simp [Value.ownBlock] at e)
    have z3 : w.heap.size + 3 ≤ w3.heap.size := by have := hgrow3.size; simp at this; omega
    have hz3 := hz.below hk3
    clear hgrow3 xL0 xL1 ho1 hvL hbL hsL cL0 hz
    refine (l2Copy_any _ z _ hz3.items (by rw [← HUN.out]; omega) (zOk_mild HOK.out.2).2.1).mono ?_
    rintro e w5 ⟨v5, rfl, Z5, hb5⟩
    obtain ⟨pa, pn, pc, rfl⟩ := Z5.shapeN
    have y50 := y30.below hb5
    have y51 := y31.below hb5
    have hk5 := below_then hk3 hb5
    have z5 := hb5.size
    have o5 := ownsRow_only hown3 (below_only hb5) (fun j hj => .inl (hown3.lt j hj).2)
    have hbl : ∀ j, (Value.slice ra rn rc).ownBlock = some j → w.heap.size + 2 ≤ j ∧ j < w3.heap.size := hown3.lt
    have hS := o5.alloc (.cells #[.slice pa pn pc] 23)
    have hnw := last_news w5 23 (.slice pa pn pc)
    have y50a := y50.below (below_alloc (.cells #[.slice pa pn pc] 23))
    have y51a := y51.below (below_alloc (.cells #[.slice pa pn pc] 23))
    have hlb : w.heap.size + 2 ≤ (w5.alloc (.cells #[.slice pa pn pc] 23)).heap.size := by simp; omega
    have hne0 : some w.heap.size ≠ (Value.slice ra rn rc).ownBlock := fun e => by have := hbl _ e.symm; omega
    have hne1 : some (w.heap.size + 1) ≠ (Value.slice ra rn rc).ownBlock := fun e => by have := hbl _ e.symm; omega
    have T5 : RunsIn w5 (.slice ra rn rc) lo hi ps s := (HT.out.keep (hk5.mono hhi)).newV (fun j hj => .inr (by have := hbl j hj; omega))
    have hzA := hz3.below hb5
    clear hown3 hk3 y30 y31 hz3 o5
    go_wp2_with (at_builtin; refine wpList_append_lies _ rfl _ _ 36 rfl (w.heap.size + 2) 23 i0 (.slice none 0 0) 1 24 Try.underlying36 hi0 hz0 hz1 hz2 rfl (by decide) (.slice ra rn rc) ps.length ps rfl hS ⟨w5.heap.size, 0, none⟩ 1 1 [.slice pa pn pc] rfl rfl hnw (one_of (fun p hp => by simp at hp; exact ⟨_, _, _, hp⟩)) (by omega) (by unfold maxLen; omega) (by omega) hlb _ rfl ?_; intro g6 cap6 w6 hown6 hgrow6 hat6 hlt6)
    have z6 : w5.heap.size + 1 ≤ w6.heap.size := by have := hgrow6.size; simp at this; omega
    have y60 := y50a.grown hgrow6 hne0
    have y61 := y51a.grown hgrow6 hne1
    have hk6 : Below w.heap.size w w6 := (below_then hk5 (below_alloc _)).grown hgrow6 (by simp; omega) (fun j hj => by have := hbl j hj; omega)
    obtain ⟨sl, HSL⟩ : ∃ sl, Hid (sl = s.length) := ⟨_, rfl⟩
    rw [HPL.out, ← HSL.out] at hown6 ⊢
    have O6 : OwnR w6 lo w6.heap.size (.slice (some ⟨g6, 0, none⟩) (sl + 1) cap6) (s ++ [z]) := by
      rw [HSL.out] at hown6 ⊢
      exact ownR_push T5 (by omega) z5 (Nat.le_refl _) Z5 (fun j hj => ⟨by have := hbl j hj; omega, (hbl j hj).2⟩) hgrow6 hat6 (ownsRow_wide hown6 (by omega)) (by omega)
    have B7 : BoxAt (w6.alloc (.cells #[(.slice (some ⟨g6, 0, none⟩) (sl + 1) cap6)] 38)) w6.heap.size (.slice (some ⟨g6, 0, none⟩) (sl + 1) cap6) := boxAt_new _ _
    have y70 := y60.below (below_alloc (.cells #[(.slice (some ⟨g6, 0, none⟩) (sl + 1) cap6)] 38))
    have y71 := y61.below (below_alloc (.cells #[(.slice (some ⟨g6, 0, none⟩) (sl + 1) cap6)] 38))
    have hk7 := below_then hk6 (below_alloc (.cells #[(.slice (some ⟨g6, 0, none⟩) (sl + 1) cap6)] 38))
    have O7 : OwnR (w6.alloc (.cells #[(.slice (some ⟨g6, 0, none⟩) (sl + 1) cap6)] 38)) lo (w6.alloc (.cells #[(.slice (some ⟨g6, 0, none⟩) (sl + 1) cap6)] 38)).heap.size (.slice (some ⟨g6, 0, none⟩) (sl + 1) cap6) (s ++ [z]) := (O6.keep' (below_alloc _)).wide (Nat.le_refl _) (below_alloc _).size (Nat.le_refl _)
    have HL7 : Hid (Lights 1 (s ++ [z])) := lights_snoc HOK.out.1 HOK.out.2
    have OS7 := (h.keep (hk7.mono hhi))
    have zz7 : w6.heap.size < (w6.alloc (.cells #[(.slice (some ⟨g6, 0, none⟩) (sl + 1) cap6)] 38)).heap.size := by simp
    clear hown6 hgrow6 hat6 hS hnw y50 y51 y50a y51a y60 y61 O6 Z5 T5 hb5 hk5 hk6 hlb hne0 hne1 hzA h
    refine (l7Sum_any _ (s ++ [z]) _ O7.runs (by simp; omega) (snoc_ok HOK.out.1 HOK.out.2)).mono ?_
    rintro e w8 ⟨v8, rfl, Z8, hb8⟩
    rw [sumR_snoc] at Z8
    obtain ⟨sa, sn, sc, rfl⟩ := Z8.shapeN
    have B8 := B7.below hb8
    have y80 := y70.below hb8
    have y81 := y71.below hb8
    have hk8 := below_then hk7 hb8
    have O8 := O7.keep' hb8
    have OS8 := OS7.keep' hb8
    have z8 := hb8.size
    clear B7 y70 y71 hk7 O7 OS7 hb8
    cases hao : zOkB (addZ (sumR s) z) with
    | false =>
      have H1 : Hid (os = s ∧ c = false) := by
        show _ ∧ _
        rw [HO.out, HC.out]
        simp [putOk, putRuns, HOK.out.1, HOK.out.2, hzn.out, hao]
      go_wp2_with fail
      refine (specZOk_any _ _ _ Z8.items).mono ?_
      rw [hao]
      rintro e w9 ⟨rfl, hd9⟩
      have hb9 := hd9.below
      have y90 := (y80.below hb9).cell
      have y91 := y81.below hb9
      have c9 := y91.cell
      have f9 := y91.frozen
      have z9 := hb9.size
      have HR : Hid (OwnR (w9.setCell ⟨w.heap.size + 1, 0, none⟩ (.slice a n cap)) lo (w9.setCell ⟨w.heap.size + 1, 0, none⟩ (.slice a n cap)).heap.size (.slice a n cap) s) := ((OS8.keep' hb9).put y91).wide (Nat.le_refl _) (by rw [setc_size]; have := hk8.size; omega) (Nat.le_refl _)
      have HK : Hid (Below w.heap.size w (w9.setCell ⟨w.heap.size + 1, 0, none⟩ (.slice a n cap))) := (below_then hk8 hb9).setCell (by simp) _
      clear B8 y80 y81 hk8 O8 OS8 hb9 y91 Z8 hao hd9
      go_wp2
      refine bodyPost_ret (v := .tuple #[.agg #[.slice a n cap], .bool false]) (by simp [results, Try.results62, go_sem, c9]) rfl ⟨_, ret_rb H1.out.2.symm, ?_, HK.out⟩
      rw [H1.out.1]
      exact HR.out
    | true =>
      have H1 : Hid (os = loopP (s.length + 1) (s ++ [z]) ∧ c = true) := by
        show _ ∧ _
        rw [HO.out, HC.out]
        simp [putOk, putRuns, HOK.out.1, HOK.out.2, hzn.out, hao]
      have HTD : Hid (tidyB (loopP (s.length + 1) (s ++ [z])) = true) := (loopP_tidy _ 1 _ (by simp) HL7.out (by rw [sumR_snoc]; exact hao)).1
      go_wp2_with fail
      refine (specZOk_any _ _ _ Z8.items).mono ?_
      rw [hao]
      rintro e w9 ⟨rfl, hd9⟩
      have hb9 := hd9.below
      have B9 := B8.below hb9
      have y9 := y81.below hb9
      have hk9 := below_then hk8 hb9
      have z9 := hb9.size
      have O9 : OwnR w9 lo w9.heap.size (.slice (some ⟨g6, 0, none⟩) (sl + 1) cap6) (s ++ [z]) := (O8.keep' hb9).wide (Nat.le_refl _) (by omega) (Nat.le_refl _)
      clear B8 y80 y81 hk8 O8 OS8 hb9 Z8 hao hd9
      go_wp2
      go_loopw [25] (fun _ wr => Hid (∃ (x : Rn) (vx : Value) (t K : Nat), BoxAt wr w6.heap.size vx ∧ OwnR wr lo wr.heap.size vx x ∧ BoxAt wr (w.heap.size + 1) (.slice none 0 0) ∧ Below w.heap.size w wr ∧ x.length ≤ t ∧ t ≤ 6 ∧ K * 2 ^ t ≤ 64 ∧ Lights K x ∧ loopP t x = loopP (s.length + 1) (s ++ [z]))) (fun _ wr => lenAt wr w6.heap.size)
      case atStart => exact ⟨s ++ [z], _, s.length + 1, 1, B9, O9, y9, hk9, by simp, by omega, by
        have : s.length + 1 ≤ 6 := by omega
        calc 1 * 2 ^ (s.length + 1) ≤ 1 * 2 ^ 6 := Nat.mul_le_mul_left _ (Nat.pow_le_pow_right (by omega) this)
          _ ≤ 64 := by decide, HL7.out, rfl⟩
      case round =>
        obtain ⟨x, vx, t, K, Bx, Ox, yr, hkr, hxt, ht6, hK, hLx, hlp⟩ := hrel
        have HX : Hid (x.length ≤ t ∧ t ≤ 6 ∧ K * 2 ^ t ≤ 64 ∧ Lights K x ∧ loopP t x = loopP (s.length + 1) (s ++ [z])) := ⟨hxt, ht6, hK, hLx, hlp⟩
        have hx6 : x.length ≤ 6 := by omega
        have hK64 : K ≤ 64 := by
          have h1 : K * 1 ≤ K * 2 ^ t := Nat.mul_le_mul_left _ (Nat.one_le_two_pow)
          omega
        clear hlp hxt ht6 hK
        obtain ⟨xa, xc, hsh⟩ := Ox.shape
        obtain ⟨m, HM⟩ : ∃ m, Hid (m = x.length) := ⟨_, rfl⟩
        rw [← HM.out] at hsh hx6
        subst hsh
        have cB := Bx.cell
        have fB := Bx.frozen
        have c1 := yr.cell
        have f1 := yr.frozen
        have z8 := hkr.size
        have zb := Bx.lt
        have HLEN : Hid (lenAt wr w6.heap.size = m) := lenAt_box Bx
        by_cases hbig : 5 < m
        · have hbi : (5 : Int) < m := by omega
          have hmu : mustP x = true := must_big (by rw [← HM.out]; exact hbig)
          have B8 := Bx
          have O8 := Ox
          have y8 := yr
          have hk8 := hkr
          clear Bx Ox yr hkr
          have hm2 : 2 ≤ x.length := must_two hmu
          have HMU : Hid (mustP x = true) := hmu
          have hxl : x.length ≤ 1048576 := by rw [← HM.out]; omega
          have hma := (hLx.at (j := x.length - 2) (by omega)).mono (show K ≤ 500 by omega)
          have hmb := (hLx.at (j := x.length - 1) (by omega)).mono (show K ≤ 500 by omega)
          go_wp2_with fail
          refine (l7Last_any _ x lo _ _ O8 (by omega) hm2 hxl hma hmb).mono ?_
          rintro e w9 ⟨v9, rfl, O9, hb9⟩
          obtain ⟨qa, qn, qc, rfl⟩ := O9.runs.shapeN
          have B9 := B8.below hb9
          have y9 := y8.below hb9
          have hk9 := below_then hk8 hb9
          have c9 := B9.cell
          have f9 := B9.frozen
          have z9 := hb9.size
          have hl9 : qn = (lastR x).length := by
            obtain ⟨a', c', e'⟩ := O9.shape
            simp only [Value.slice.injEq] at e'
            exact e'.2.1
          have R : Hid (∃ (x : Rn) (vx : Value) (t K : Nat), BoxAt (w9.setCell ⟨w6.heap.size, 0, none⟩ (.slice qa qn qc)) w6.heap.size vx ∧ OwnR (w9.setCell ⟨w6.heap.size, 0, none⟩ (.slice qa qn qc)) lo (w9.setCell ⟨w6.heap.size, 0, none⟩ (.slice qa qn qc)).heap.size vx x ∧ BoxAt (w9.setCell ⟨w6.heap.size, 0, none⟩ (.slice qa qn qc)) (w.heap.size + 1) (.slice none 0 0) ∧ Below w.heap.size w (w9.setCell ⟨w6.heap.size, 0, none⟩ (.slice qa qn qc)) ∧ x.length ≤ t ∧ t ≤ 6 ∧ K * 2 ^ t ≤ 64 ∧ Lights K x ∧ loopP t x = loopP (s.length + 1) (s ++ [z])) := by
            obtain ⟨g1, g2, g3, g4, g5⟩ := HX.out
            obtain ⟨t', rfl⟩ : ∃ t', t = t' + 1 := ⟨t - 1, by omega⟩
            refine ⟨lastR x, .slice qa qn qc, t', K + K, B9.put _, (O9.put B9).wide (Nat.le_refl _) (by simp) (Nat.le_refl _), y9.other _ (by omega), hk9.setCell (by simp; omega) _, ?_, by omega, ?_, g4.last hm2, ?_⟩
            · have := lastR_len hm2
              omega
            · rw [Nat.pow_succ, ← Nat.mul_assoc] at g3
              rw [Nat.add_mul]
              omega
            · rw [← g5, loopP_go _ HMU.out]
          have HL9 : Hid (qn < m) := by
            show _ < _
            rw [hl9, HM.out]
            exact lastR_len hm2
          have HLN : Hid (lenAt (w9.setCell ⟨w6.heap.size, 0, none⟩ (.slice qa qn qc)) w6.heap.size = qn) := lenAt_box (B9.put _)
          clear B9 y9 hk9 O9 hb9 hl9 HX hLx hma hmb HMU B8 O8 y8 hk8 cB fB c1 f1
          go_wp2
          go_roundw
          case rel => exact R.out
          case measure =>
            rw [HLN.out, HLEN.out]
            exact HL9.out
        · have hbi : ¬ (5 : Int) < m := by omega
          by_cases hsm : m ≤ 1
          · have hsi : ¬ (1 : Int) < m := by omega
            have hmu : mustP x = false := must_small (by rw [← HM.out]; exact hsm)
            have HE : Hid (x = loopP (s.length + 1) (s ++ [z])) := by
              show _ = _
              rw [← HX.out.2.2.2.2]
              exact (loopP_end _ hmu).symm
            go_wp2_with fail
            refine (l7Tidy_any _ x _ Ox.runs (by rw [HE.out]; exact HTD.out)).mono ?_
            rintro e w10 ⟨rfl, hb10⟩
            have y10 := yr.below hb10
            have c10 := y10.cell
            have f10 := y10.frozen
            have d10 := (Bx.below hb10).cell
            have z10 := hb10.size
            have HR : Hid (OwnR (w10.setCell ⟨w.heap.size + 1, 0, none⟩ (.slice xa m xc)) lo (w10.setCell ⟨w.heap.size + 1, 0, none⟩ (.slice xa m xc)).heap.size (.slice xa m xc) x) := ((Ox.keep' hb10).put y10).wide (Nat.le_refl _) (by rw [setc_size]; omega) (Nat.le_refl _)
            have HK : Hid (Below w.heap.size w (w10.setCell ⟨w.heap.size + 1, 0, none⟩ (.slice xa m xc))) := (below_then hkr hb10).setCell (by simp) _
            clear Bx Ox yr hkr HX hLx y10 hb10
            go_wp2
            refine bodyPost_ret (v := .tuple #[.agg #[.slice xa m xc], .bool true]) (by simp [results, Try.results62, go_sem, c10]) rfl ⟨_, ret_rb H1.out.2.symm, ?_, HK.out⟩
            rw [H1.out.1, ← HE.out]
            exact HR.out
          · have hsi : (1 : Int) < m := by omega
            have hmid := must_mid (x := x) (by rw [← HM.out]; omega) (by rw [← HM.out]; omega)
            cases hro : runOkB x with
            | false =>
              go_wp2_with fail
              refine (specRunOk_any _ x _ Ox.runs).mono ?_
              rw [hro]
              rintro e w8 ⟨rfl, hb8⟩
              have B8 := Bx.below hb8
              have O8 := Ox.keep' hb8
              have y8 := yr.below hb8
              have hk8 := below_then hkr hb8
              have c8 := B8.cell
              have f8 := B8.frozen
              have c18 := y8.cell
              have f18 := y8.frozen
              have z88 := hb8.size
              have hmu : mustP x = true := by rw [hmid, hro]; rfl
              clear Bx Ox yr hkr cB fB c1 f1 hmid hro hb8
              have O8 : OwnR w8 lo w8.heap.size (.slice xa m xc) x := O8.wide (Nat.le_refl _) z88 (Nat.le_refl _)
              have hm2 : 2 ≤ x.length := must_two hmu
              have HMU : Hid (mustP x = true) := hmu
              have hxl : x.length ≤ 1048576 := by rw [← HM.out]; omega
              have hma := (hLx.at (j := x.length - 2) (by omega)).mono (show K ≤ 500 by omega)
              have hmb := (hLx.at (j := x.length - 1) (by omega)).mono (show K ≤ 500 by omega)
              go_wp2_with fail
              refine (l7Last_any _ x lo _ _ O8 (by omega) hm2 hxl hma hmb).mono ?_
              rintro e w9 ⟨v9, rfl, O9, hb9⟩
              obtain ⟨qa, qn, qc, rfl⟩ := O9.runs.shapeN
              have B9 := B8.below hb9
              have y9 := y8.below hb9
              have hk9 := below_then hk8 hb9
              have c9 := B9.cell
              have f9 := B9.frozen
              have z9 := hb9.size
              have hl9 : qn = (lastR x).length := by
                obtain ⟨a', c', e'⟩ := O9.shape
                simp only [Value.slice.injEq] at e'
                exact e'.2.1
              have R : Hid (∃ (x : Rn) (vx : Value) (t K : Nat), BoxAt (w9.setCell ⟨w6.heap.size, 0, none⟩ (.slice qa qn qc)) w6.heap.size vx ∧ OwnR (w9.setCell ⟨w6.heap.size, 0, none⟩ (.slice qa qn qc)) lo (w9.setCell ⟨w6.heap.size, 0, none⟩ (.slice qa qn qc)).heap.size vx x ∧ BoxAt (w9.setCell ⟨w6.heap.size, 0, none⟩ (.slice qa qn qc)) (w.heap.size + 1) (.slice none 0 0) ∧ Below w.heap.size w (w9.setCell ⟨w6.heap.size, 0, none⟩ (.slice qa qn qc)) ∧ x.length ≤ t ∧ t ≤ 6 ∧ K * 2 ^ t ≤ 64 ∧ Lights K x ∧ loopP t x = loopP (s.length + 1) (s ++ [z])) := by
                obtain ⟨g1, g2, g3, g4, g5⟩ := HX.out
                obtain ⟨t', rfl⟩ : ∃ t', t = t' + 1 := ⟨t - 1, by omega⟩
                refine ⟨lastR x, .slice qa qn qc, t', K + K, B9.put _, (O9.put B9).wide (Nat.le_refl _) (by simp) (Nat.le_refl _), y9.other _ (by omega), hk9.setCell (by simp; omega) _, ?_, by omega, ?_, g4.last hm2, ?_⟩
                · have := lastR_len hm2
                  omega
                · rw [Nat.pow_succ, ← Nat.mul_assoc] at g3
                  rw [Nat.add_mul]
                  omega
                · rw [← g5, loopP_go _ HMU.out]
              have HL9 : Hid (qn < m) := by
                show _ < _
                rw [hl9, HM.out]
                exact lastR_len hm2
              have HLN : Hid (lenAt (w9.setCell ⟨w6.heap.size, 0, none⟩ (.slice qa qn qc)) w6.heap.size = qn) := lenAt_box (B9.put _)
              clear B9 y9 hk9 O9 hb9 hl9 HX hLx hma hmb HMU B8 O8 y8 hk8 c8 f8 c18 f18
              go_wp2
              go_roundw
              case rel => exact R.out
              case measure =>
                rw [HLN.out, HLEN.out]
                exact HL9.out
            | true =>
              go_wp2_with fail
              refine (specRunOk_any _ x _ Ox.runs).mono ?_
              rw [hro]
              rintro e w8 ⟨rfl, hb8⟩
              have B8 := Bx.below hb8
              have O8 := Ox.keep' hb8
              have y8 := yr.below hb8
              have hk8 := below_then hkr hb8
              have c8 := B8.cell
              have f8 := B8.frozen
              have c18 := y8.cell
              have f18 := y8.frozen
              have z88 := hb8.size
              have hmu : mustP x = false := by rw [hmid, hro]; rfl
              clear Bx Ox yr hkr cB fB c1 f1 hmid hro hb8
              have HE : Hid (x = loopP (s.length + 1) (s ++ [z])) := by
                show _ = _
                rw [← HX.out.2.2.2.2]
                exact (loopP_end _ hmu).symm
              go_wp2_with fail
              refine (l7Tidy_any _ x _ O8.runs (by rw [HE.out]; exact HTD.out)).mono ?_
              rintro e w10 ⟨rfl, hb10⟩
              have y10 := y8.below hb10
              have c10 := y10.cell
              have f10 := y10.frozen
              have d10 := (B8.below hb10).cell
              have z10 := hb10.size
              have HR : Hid (OwnR (w10.setCell ⟨w.heap.size + 1, 0, none⟩ (.slice xa m xc)) lo (w10.setCell ⟨w.heap.size + 1, 0, none⟩ (.slice xa m xc)).heap.size (.slice xa m xc) x) := ((O8.keep' hb10).put y10).wide (Nat.le_refl _) (by rw [setc_size]; omega) (Nat.le_refl _)
              have HK : Hid (Below w.heap.size w (w10.setCell ⟨w.heap.size + 1, 0, none⟩ (.slice xa m xc))) := (below_then hk8 hb10).setCell (by simp) _
              clear B8 O8 y8 hk8 HX hLx c8 f8 c18 f18 y10 hb10
              go_wp2
              refine bodyPost_ret (v := .tuple #[.agg #[.slice xa m xc], .bool true]) (by simp [results, Try.results62, go_sem, c10]) rfl ⟨_, ret_rb H1.out.2.symm, ?_, HK.out⟩
              rw [H1.out.1, ← HE.out]
              exact HR.out

end Go.Proofs.Ytjaehoehfmklcaa
