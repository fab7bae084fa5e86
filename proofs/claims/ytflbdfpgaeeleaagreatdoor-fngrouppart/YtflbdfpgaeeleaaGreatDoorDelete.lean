/-
  The contracts of slices.IndexFunc and slices.DeleteFunc at items and the closure that asks for a weight of 0: pairs of the call's own, without those.
-/
import Derived.Test.YtflbdfpgaeeleaaGreatDoorMerge
import Derived.Laws.IdiomCopy
namespace Go.Proofs.YtflbdfpgaeeleaaGreatDoor
set_option maxRecDepth 100000
open Go.RowKit
attribute [local go_sem ↓] Go.wp_at_zero Go.wp_at_succ

set_option maxHeartbeats 1000000 in
theorem isZero_any (a : Value) (y : Int) (w : World) (ha : ∃ x n c, a = .slice x n c) :
    Calls Tryz.prog 68 #[.agg #[a, .int .i64 y]] w fun e w' => e = .returned (.bool (y == 0)) ∧ Below w.heap.size w w' := by
  obtain ⟨xa, xn, xc, rfl⟩ := ha
  go_enter Tryz.func68, Tryz.ntmps68
  go_wp2
  go_ret
  exact ⟨rfl, below_alloc _⟩

/-- The first place with a weight of 0. -/
def zAt (ps : List (Value × Int)) : Option Nat := ps.findIdx? fun p => decide (p.2 = 0)

theorem shape_getD {ps : List (Value × Int)} (hs : ∀ p ∈ ps, ∃ a n c, p.1 = Value.slice a n c) {k : Nat} (hk : k < ps.length) : ∃ a n c, (ps.getD k (vn, 0)).1 = Value.slice a n c := hs _ (by simp [List.getD, hk])

set_option maxHeartbeats 4000000 in
theorem indexFunc_any (v : Value) (ps : List (Value × Int)) (w : World) (h : PairsAt w v ps) (hlim : ps.length ≤ 1099511627776) :
    Calls Tryz.prog 90 #[v, .func (.func 68) #[] #[]] w fun e w' => ∃ i : Int, e = .returned (.int .i64 i) ∧
      ((i = -1 ∧ ∀ j, j < ps.length → (ps.getD j (vn, 0)).2 ≠ 0) ∨ ∃ k : Nat, i = k ∧ k < ps.length ∧ (ps.getD k (vn, 0)).2 = 0 ∧ ∀ j, j < k → (ps.getD j (vn, 0)).2 ≠ 0) ∧ Below w.heap.size w w' := by
  obtain ⟨hl, hs, a, cap, rfl, hn, hc⟩ := h
  by_cases h0 : ps = []
  · subst h0
    clear hc hs
    go_enter Tryz.func90, Tryz.ntmps90
    go_wp2
    refine wp_loop_rounds 1 ?_
    rw [rounds_succ]
    go_wp2
    go_ret
    exact ⟨-1, rfl, .inl ⟨rfl, fun j hj => by simp at hj⟩, Below.refl _ _⟩
  · obtain ⟨b, off, rfl, hb, hcell⟩ := hc h0
    obtain ⟨n, hn'⟩ : ∃ n, n = ps.length := ⟨_, rfl⟩
    have HN : Hid (n = ps.length) := hn'
    rw [← hn'] at hl hcell hlim ⊢
    have HS : Hid (∀ k, k < n → ∃ a m c, (ps.getD k (vn, 0)).1 = Value.slice a m c) := fun k hk => shape_getD hs (by omega)
    clear hn' hc hs hn h0
    go_enter Tryz.func90, Tryz.ntmps90
    go_wp2
    go_loopw [8] (fun i wr => ∃ k : Nat, k ≤ n ∧ i = .int .i64 k ∧ Hid (∀ j, j < k → (ps.getD j (vn, 0)).2 ≠ 0) ∧ Hid (Below w.heap.size w wr)) (fun i _ => n - (intOf i).toNat)
    case atStart => exact ⟨0, Nat.zero_le _, rfl, fun j hj => by omega, Below.refl _ _⟩
    case round =>
      obtain ⟨k, hk, rfl, HZ, HW⟩ := hrel
      by_cases hlt : k < n
      · obtain ⟨c0, c1⟩ := hcell k hlt
        have g0 := (HW.out.cell (p := ⟨b, off + k * 2, none⟩) hb).trans c0
        have g1 := (HW.out.cell (p := ⟨b, off + k * 2 + 1, none⟩) hb).trans c1
        obtain ⟨xa, xn, xc, hxv⟩ := HS.out k hlt
        rw [hxv] at g0
        obtain ⟨y, HY⟩ : ∃ y, Hid (y = (ps.getD k (vn, 0)).2) := ⟨_, rfl⟩
        rw [← HY.out] at g1
        clear c0 c1 hxv hcell
        by_cases hy : y = 0
        · have hyb : (y == 0) = true := by simp [hy]
          have HY0 : Hid (y = 0) := hy
          clear hy
          go_wp2_with fail
          refine (isZero_any _ y _ ⟨_, _, _, rfl⟩).mono ?_
          rw [hyb]
          rintro e w2 ⟨rfl, hb2⟩
          have HK : Hid (Below w.heap.size w w2) := below_then HW.out hb2
          clear hb2 g0 g1 hyb
          go_wp2
          go_ret
          exact ⟨k, rfl, .inr ⟨k, rfl, hlt, by rw [← HY.out]; exact HY0.out, HZ.out⟩, HK.out⟩
        · have hyb : (y == 0) = false := by simp [hy]
          have HY0 : Hid (y ≠ 0) := hy
          clear hy
          go_wp2_with fail
          refine (isZero_any _ y _ ⟨_, _, _, rfl⟩).mono ?_
          rw [hyb]
          rintro e w2 ⟨rfl, hb2⟩
          have HK : Hid (Below w.heap.size w w2) := below_then HW.out hb2
          clear hb2 g0 g1 hyb
          go_wp2
          go_roundw
          case rel => exact ⟨k + 1, by omega, by go_num, fun j hj => by
            rcases Nat.lt_succ_iff_lt_or_eq.1 hj with h | h
            · exact HZ.out j h
            · rw [h, ← HY.out]; exact HY0.out, HK.out⟩
          case measure => simp [intOf]; omega
      · have e : k = n := by omega
        subst e
        clear hcell
        go_wp2
        go_ret
        exact ⟨-1, rfl, .inl ⟨rfl, HZ.out⟩, HW.out⟩

theorem run_clear_pairs (w : World) (ty : TypeId) (g a m c : Nat) (hm : 0 < m) (hc : ∀ j, j < m * 2 → (w.cell? ⟨g, a + j, none⟩).isSome = true) (hf : ∀ j, j < m * 2 → w.frozen? ⟨g, a + j, none⟩ = false) :
    (Builtin.clear_ #[23] ty #[.slice (some ⟨g, a, none⟩) m c]).run Tryz.prog w = .ok (.tuple #[]) (w.setCells g a (Builtin.zeroCells #[.slice none 0 0, .int .i64 0] m).toList) := by
  obtain ⟨i0, hi0, hz0, hz1, hz2⟩ := info_parts infoItem
  have hl : (Builtin.zeroCells #[Value.slice none 0 0, .int .i64 0] m).toList.length = m * 2 := by simp [Builtin.zeroCells]
  have h1 : ∀ u ∈ (Builtin.zeroCells #[Value.slice none 0 0, .int .i64 0] m).toList, u.oneCell' = true := by
    intro u hu
    simp [Builtin.zeroCells] at hu
    obtain ⟨j, _, rfl⟩ := hu
    rcases Nat.mod_two_eq_zero_or_one j with e | e <;> rw [e] <;> rfl
  have hst := run_storeCells_cells (P := Tryz.prog) g a (Builtin.zeroCells #[.slice none 0 0, .int .i64 0] m).toList 0 w (by rw [hl]; simpa using hc) (by rw [hl]; simpa using hf) h1
  simp only [Nat.add_zero] at hst
  have hv : ∀ w, (zeroValue 36).run Tryz.prog w = .ok (.agg #[.slice none 0 0, .int .i64 0]) w := fun w => by simp [zeroValue, typeInfo, hi0, hz0]
  obtain ⟨k, rfl⟩ : ∃ k, m = k + 1 := ⟨m - 1, by omega⟩
  simp [Builtin.clear_, run_underlying Tryz.underlying23, hv, hst, Value.cells]

theorem setCell_grown (w : World) (g o : Nat) (v : Value) : w.grownBy (w.setCell ⟨g, o, none⟩ v) (some g) :=
  ⟨rfl, rfl, rfl, by simp, fun k _ hk => Below.heap_setCell w ⟨g, o, none⟩ v k (fun e => hk (congrArg some e))⟩
theorem setCells_grown (g : Nat) : ∀ (vs : List Value) (o : Nat) (w : World), w.grownBy (w.setCells g o vs) (some g)
  | [], _, w => grown_refl _ _
  | v :: vs, o, w => by
    have h1 := setCell_grown w g o v
    have h2 := setCells_grown g vs (o + 1) (w.setCell ⟨g, o, none⟩ v)
    exact grown_trans h1 h2

theorem Spine.beyond {lo hi g n cap : Nat} {ps : List (Value × Int)} : ∀ (vs : List Value) {w : World} (o : Nat), Spine w lo hi (.slice (some ⟨g, 0, none⟩) n cap) ps → ps.length * 2 ≤ o → Spine (w.setCells g o vs) lo hi (.slice (some ⟨g, 0, none⟩) n cap) ps
  | [], _, _, h, _ => h
  | u :: vs, w, o, h, ho => by
    have hn : n = ps.length := by
      rcases h.1.2 with ⟨e, _⟩ | ⟨_, _, _, e, _⟩ <;> simp at e
      exact e.2.1
    subst hn
    have hst := h.1.stored o u
    rw [List.set_eq_of_length_le (by rw [cells2_length]; omega)] at hst
    exact Spine.beyond vs (o + 1) ⟨hst.1, h.2.1, h.2.2.1, Nat.le_trans h.2.2.2 hst.2.size⟩ (by omega)

def nzR (x : Rw) : Bool := decide (x.2.2 ≠ 0)
theorem nz_all {l : List Rw} (h : ∀ j, j < (prs l).length → ((prs l).getD j (vn, 0)).2 ≠ 0) : l.filter nzR = l := by
  rw [List.filter_eq_self]
  intro x hx
  obtain ⟨j, hj, rfl⟩ := List.getElem_of_mem hx
  have := h j (by rw [prs_length]; exact hj)
  simp [prs, List.getD, hj] at this
  simp [nzR, this]
theorem nz_start {l : List Rw} {k : Nat} (hk : k < l.length) (h0 : ((prs l).getD k (vn, 0)).2 = 0) (h : ∀ j, j < k → ((prs l).getD j (vn, 0)).2 ≠ 0) : (prs l).take k = prs ((l.take (k + 1)).filter nzR) := by
  have e1 : (l.take k).filter nzR = l.take k := by
    refine nz_all fun j hj => ?_
    rw [prs_length, List.length_take] at hj
    have := h j (by omega)
    rw [prs_take]
    simpa [List.getD, List.getElem?_take, show j < k by omega] using this
  have e2 : nzR l[k] = false := by
    simp [prs, List.getD, hk] at h0
    simp [nzR, h0]
  rw [List.take_succ_eq_append_getElem hk, List.filter_append, e1, ← prs_take]
  simp [prs, e2]
theorem nz_take {l : List Rw} {b : Nat} (hb : b < l.length) : (l.take (b + 1)).filter nzR = (l.take b).filter nzR ++ (if ((prs l).getD b (vn, 0)).2 = 0 then [] else [l[b]]) := by
  rw [List.take_succ_eq_append_getElem hb, List.filter_append]
  have e : ((prs l).getD b (vn, 0)).2 = l[b].2.2 := by simp [prs, List.getD, hb]
  rw [e]
  by_cases h : l[b].2.2 = 0 <;> simp [nzR, h]

theorem getD_drop {α : Type} {l m : List α} {b : Nat} {d : α} (h : l.drop b = m.drop b) : l.getD b d = m.getD b d := by
  have h1 : (l.drop b)[0]? = (m.drop b)[0]? := by rw [h]
  simp only [List.getElem?_drop, Nat.add_zero] at h1
  simp [List.getD, h1]
theorem drop_more {α : Type} {l m : List α} {b : Nat} (h : l.drop b = m.drop b) : l.drop (b + 1) = m.drop (b + 1) := by
  rw [← List.drop_drop, ← List.drop_drop, h]

set_option maxHeartbeats 16000000 in
theorem deleteFunc_some (g n cap lo hi : Nat) (l : List Rw) (w : World) (S : Spine w lo hi (.slice (some ⟨g, 0, none⟩) n cap) (prs l)) (hn : n = l.length) (hg1 : lo ≤ g) (hg2 : g < hi) (hcap : n ≤ cap) (_hcm : cap ≤ 9223372036854775807) (hsh : ∀ p ∈ prs l, ∃ a n c, p.1 = Value.slice a n c) (hlim : n ≤ 2097152) :
    Calls Tryz.prog 67 #[.slice (some ⟨g, 0, none⟩) n cap, .func (.func 68) #[] #[]] w fun e w' => ∃ v', e = .returned v' ∧ PairsAt w' v' (prs (l.filter nzR)) ∧ Spine w' lo hi v' (prs (l.filter nzR)) ∧ Only lo hi w w' := by
  have HN : Hid (n = l.length) := hn
  have HSH : Hid (∀ p ∈ prs l, ∃ a n c, p.1 = Value.slice a n c) := hsh
  have HS : Hid (Spine w lo hi (.slice (some ⟨g, 0, none⟩) n cap) (prs l)) := S
  have hp := S.pairs hsh
  have hlp : (prs l).length ≤ 1099511627776 := by rw [prs_length, ← hn]; omega
  have hghi := S.2.2.2
  clear S hsh hn
  go_enter Tryz.func67, Tryz.ntmps67
  go_wp2_with fail
  refine (indexFunc_any _ (prs l) _ hp hlp).mono ?_
  rintro e w1 ⟨i, rfl, hcase, hb1⟩
  have HK1 : Hid (Below w.heap.size w w1) := hb1
  clear hp hlp hb1
  rcases hcase with ⟨rfl, hall⟩ | ⟨k, rfl, hkl, hk0, hkj⟩
  · have HF : Hid (l.filter nzR = l) := nz_all hall
    clear hall
    go_wp2
    go_ret
    refine ⟨_, rfl, ?_, ?_, Only.of_below HK1.out⟩
    · rw [HF.out]
      exact (HS.out.keep' HK1.out).pairs HSH.out
    · rw [HF.out]
      exact HS.out.keep' HK1.out
  · rw [prs_length, ← HN.out] at hkl
    have HST : Hid ((prs l).take k = prs ((l.take (k + 1)).filter nzR)) := nz_start (by rw [← HN.out]; exact hkl) hk0 hkj
    clear hk0 hkj
    have hkne : ((k : Int) == -1) = false := by simp
    go_wp2
    go_loopw [5, 6] (fun i j wr => ∃ a b : Nat, a < b ∧ b ≤ n ∧ i = .int .i64 a ∧ j = .int .i64 b ∧ ∃ cur : List (Value × Int), Hid (Spine wr lo hi (.slice (some ⟨g, 0, none⟩) n cap) cur) ∧ Hid (cur.length = n) ∧ Hid (cur.take a = prs ((l.take b).filter nzR)) ∧ Hid (cur.drop b = (prs l).drop b) ∧ Hid (∀ p ∈ cur, ∃ a n c, p.1 = Value.slice a n c) ∧ Hid (Only lo hi w wr))
      (fun _ j _ => n - (intOf j).toNat)
    case atStart => exact ⟨k, k + 1, by omega, by omega, rfl, by go_num, prs l, HS.out.keep' HK1.out, by rw [Hid, prs_length, HN.out], HST.out, rfl, HSH.out, Only.of_below HK1.out⟩
    case round =>
      obtain ⟨a, b, hab, hbn, rfl, rfl, cur, HC, HCL, HCT, HCD, HCS, HO⟩ := hrel
      clear HK1 HST
      by_cases hlt : b < n
      · have hbl : b < cur.length := by rw [HCL.out]; exact hlt
        obtain ⟨xa, xn, xc, hxv⟩ := shape_getD HCS.out hbl
        have c0 := HC.out.cell0 hbl
        have c1 := HC.out.cell1 hbl
        rw [hxv] at c0
        obtain ⟨y, HY⟩ : ∃ y, Hid (y = (cur.getD b (vn, 0)).2) := ⟨_, rfl⟩
        have HXV : Hid ((cur.getD b (vn, 0)).1 = Value.slice xa xn xc) := hxv
        rw [← HY.out] at c1
        have hbl' : b < l.length := by rw [← HN.out]; exact hlt
        have HPL : Hid ((prs l).getD b (vn, 0) = (Value.slice xa xn xc, y)) := by
          show _ = _
          rw [← getD_drop HCD.out, ← HXV.out, HY.out]
        clear hxv
        by_cases hy : y = 0
        · have hyb : (y == 0) = true := by simp [hy]
          have HY0 : Hid (y = 0) := hy
          clear hy
          go_wp2_with fail
          refine (isZero_any _ y _ ⟨_, _, _, rfl⟩).mono ?_
          rw [hyb]
          rintro e w2 ⟨rfl, hb2⟩
          have hbA : Below wr.heap.size wr w2 := below_then (below_alloc _) hb2
          have HO2 : Hid (Only lo hi w w2) := HO.out.trans (Only.of_below hbA)
          have HC2 : Hid (Spine w2 lo hi (.slice (some ⟨g, 0, none⟩) n cap) cur) := HC.out.keep' hbA
          have HT2 : Hid (cur.take a = prs ((l.take (b + 1)).filter nzR)) := by
            show _ = _
            rw [nz_take hbl', HPL.out, if_pos HY0.out, List.append_nil, HCT.out]
          clear hb2 hbA c0 c1 hyb
          go_wp2
          go_roundw
          case rel => exact ⟨a, b + 1, by omega, by omega, rfl, by go_num, cur, HC2.out, HCL.out, HT2.out, drop_more HCD.out, HCS.out, HO2.out⟩
          case measure => simp [intOf]; omega
        · have hyb : (y == 0) = false := by simp [hy]
          have HY0 : Hid (y ≠ 0) := hy
          clear hy
          go_wp2_with fail
          refine (isZero_any _ y _ ⟨_, _, _, rfl⟩).mono ?_
          rw [hyb]
          rintro e w2 ⟨rfl, hb2⟩
          have t0 : w2.cell? ⟨wr.heap.size, 0, none⟩ = some (.slice xa xn xc) := cell_is hb2 (by simp) (by simp [go_sem])
          have t1 : w2.cell? ⟨wr.heap.size, 1, none⟩ = some (.int .i64 y) := cell_is hb2 (by simp) (by simp [go_sem])
          have hbA : Below wr.heap.size wr w2 := below_then (below_alloc _) hb2
          have HO2 : Only lo hi w w2 := HO.out.trans (Only.of_below hbA)
          have HC2 : Spine w2 lo hi (.slice (some ⟨g, 0, none⟩) n cap) cur := HC.out.keep' hbA
          have hal : a < cur.length := by rw [HCL.out]; omega
          have d0 := HC2.cell0 hal
          have d1 := HC2.cell1 hal
          have f0 := HC2.frozenAt (a * 2)
          have f1 := HC2.frozenAt (a * 2 + 1)
          have s1 := HC2.stored0 hal (.slice xa xn xc)
          have s2 := s1.1.stored1 (j := a) (by simpa using hal) y
          rw [List.set_set, getD_set_self hal] at s2
          have HC3 : Hid (Spine ((w2.setCell ⟨g, a * 2, none⟩ (.slice xa xn xc)).setCell ⟨g, a * 2 + 1, none⟩ (.int .i64 y)) lo hi (.slice (some ⟨g, 0, none⟩) n cap) (cur.set a (Value.slice xa xn xc, y))) := s2.1
          have HO3 : Hid (Only lo hi w ((w2.setCell ⟨g, a * 2, none⟩ (.slice xa xn xc)).setCell ⟨g, a * 2 + 1, none⟩ (.int .i64 y))) := (HO2.grown s1.2 (fun i e => by simp at e; omega)).grown s2.2 (fun i e => by simp at e; omega)
          have HT3 : Hid ((cur.set a (Value.slice xa xn xc, y)).take (a + 1) = prs ((l.take (b + 1)).filter nzR)) := by
            show _ = _
            have e1 : (l[b].1, l[b].2.2) = (Value.slice xa xn xc, y) := by rw [← HPL.out]; simp [prs, List.getD, hbl']
            have e2 : (cur.set a (Value.slice xa xn xc, y)).take (a + 1) = cur.take a ++ [(Value.slice xa xn xc, y)] := by
              rw [List.take_succ_eq_append_getElem (by simpa using hal), List.take_set_of_le (Nat.le_refl _)]
              simp
            rw [e2, nz_take hbl', HPL.out, if_neg HY0.out, prs_append, HCT.out, ← e1]
            rfl
          have HD3 : Hid ((cur.set a (Value.slice xa xn xc, y)).drop (b + 1) = (prs l).drop (b + 1)) := by
            show _ = _
            rw [List.drop_set_of_lt (by omega), drop_more HCD.out]
          have HS3 : Hid (∀ p ∈ cur.set a (Value.slice xa xn xc, y), ∃ a n c, p.1 = Value.slice a n c) := fun p hp => by
            rcases List.mem_or_eq_of_mem_set hp with h | h
            · exact HCS.out p h
            · rw [h]; exact ⟨_, _, _, rfl⟩
          have HL3 : Hid ((cur.set a (Value.slice xa xn xc, y)).length = n) := by rw [Hid, List.length_set, HCL.out]
          have hanI : a < n := by omega
          clear hb2 hbA c0 c1 hyb s1 s2 HC2 HO2 HC HO hal hbl hbl'
          go_wp2
          go_roundw
          case rel => exact ⟨a + 1, b + 1, by omega, by omega, by go_num, by go_num, cur.set a (Value.slice xa xn xc, y), HC3.out, HL3.out, HT3.out, HD3.out, HS3.out, HO3.out⟩
          case measure => simp [intOf]; omega
      · obtain rfl : b = n := by omega
        have hacap : ¬ cap = a := by omega
        have hcl : ∀ ty, (Builtin.clear_ #[23] ty #[.slice (some ⟨g, a * 2, none⟩) (b - a) (cap - a)]).run Tryz.prog wr = .ok (.tuple #[]) (wr.setCells g (a * 2) (Builtin.zeroCells #[.slice none 0 0, .int .i64 0] (b - a)).toList) := fun ty => by
          refine run_clear_pairs wr ty g (a * 2) (b - a) (cap - a) (by omega) (fun j hj => ?_) (fun j hj => HC.out.frozenAt _)
          obtain ⟨q, r, hq, hr⟩ : ∃ q r, a * 2 + j = q * 2 + r ∧ r < 2 := ⟨(a * 2 + j) / 2, (a * 2 + j) % 2, by omega, by omega⟩
          have hqc : q < cur.length := by rw [HCL.out]; omega
          rw [hq]
          rcases Nat.lt_succ_iff_lt_or_eq.1 hr with h | h
          · obtain rfl : r = 0 := by omega
            rw [Nat.add_zero, HC.out.cell0 hqc]; rfl
          · subst h
            rw [HC.out.cell1 hqc]; rfl
        obtain ⟨W, hW⟩ : ∃ W, W = wr.setCells g (a * 2) (Builtin.zeroCells #[.slice none 0 0, .int .i64 0] (b - a)).toList := ⟨_, rfl⟩
        rw [← hW] at hcl
        have hgW : wr.grownBy W (some g) := by rw [hW]; exact setCells_grown _ _ _ _
        have HOW : Hid (Only lo hi w W) := HO.out.grown hgW (fun i e => by simp at e; omega)
        have hal : a ≤ cur.length := by rw [HCL.out]; omega
        have HPW : Hid (PairsAt W (.slice (some ⟨g, 0, none⟩) a cap) (cur.take a)) := by
          have hT := HC.out.taken hal
          have hl : (cur.take a).length = a := by rw [List.length_take]; omega
          refine ⟨by rw [hl]; omega, fun p hp => HCS.out p (List.mem_of_mem_take hp), _, cap, by rw [hl], fun h => by simp at h, fun _ => ⟨g, 0, rfl, by have := hgW.size; have := HC.out.2.2.2; omega, fun j hj => ?_⟩⟩
          have h0 := hT.cell0 hj
          have h1 := hT.cell1 hj
          rw [hl] at hj
          rw [Nat.zero_add, hW]
          exact ⟨(World.cell?_setCells_out g _ _ _ _ (fun _ _ => .inl (by show j * 2 < a * 2; omega))).trans h0, (World.cell?_setCells_out g _ _ _ _ (fun _ _ => .inl (by show j * 2 + 1 < a * 2; omega))).trans h1⟩
        have HFL : Hid (cur.take a = prs (l.filter nzR)) := by
          show _ = _
          rw [HCT.out, HN.out, List.take_length]
        have HSW : Hid (Spine W lo hi (.slice (some ⟨g, 0, none⟩) a cap) (cur.take a)) := by
          show Spine _ _ _ _ _
          rw [hW]
          refine (HC.out.taken hal).beyond _ _ ?_
          have : (cur.take a).length = a := by rw [List.length_take]; omega
          omega
        clear hW hgW
        have han : a ≤ b := by omega
        have hac : a ≤ cap := by omega
        go_wp2
        go_ret
        refine ⟨_, rfl, ?_, ?_, HOW.out⟩
        · rw [← HFL.out]
          exact HPW.out
        · rw [← HFL.out]
          exact HSW.out

set_option maxHeartbeats 1000000 in
theorem deleteFunc_none (w : World) :
    Calls Tryz.prog 67 #[.slice none 0 0, .func (.func 68) #[] #[]] w fun e w' => e = .returned (.slice none 0 0) ∧ Below w.heap.size w w' := by
  have hp : PairsAt w (.slice none 0 0) [] := ⟨by simp, fun p hp => by simp at hp, none, 0, rfl, fun _ => rfl, fun h => absurd rfl h⟩
  go_enter Tryz.func67, Tryz.ntmps67
  go_wp2_with fail
  refine (indexFunc_any _ [] _ hp (by simp)).mono ?_
  rintro e w1 ⟨i, rfl, hcase, hb1⟩
  rcases hcase with ⟨rfl, hall⟩ | ⟨k, rfl, hkl, _⟩
  · have HK1 : Hid (Below w.heap.size w w1) := hb1
    clear hp hb1 hall
    go_wp2
    go_ret
    exact ⟨rfl, HK1.out⟩
  · simp at hkl

theorem deleteFunc_own (v : Value) (lo hi : Nat) (l : List Rw) (w : World) (S : Spine w lo hi v (prs l)) (hsh : ∀ p ∈ prs l, ∃ a n c, p.1 = Value.slice a n c) (hlim : l.length ≤ 2097152) :
    Calls Tryz.prog 67 #[v, .func (.func 68) #[] #[]] w fun e w' => ∃ v', e = .returned v' ∧ PairsAt w' v' (prs (l.filter nzR)) ∧ Spine w' lo hi v' (prs (l.filter nzR)) ∧ Only lo hi w w' := by
  rcases S.1.2 with ⟨rfl, h0⟩ | ⟨g, cap, cur, rfl, hg1, hg, hnc, hcm, _⟩
  · have hl : l = [] := List.length_eq_zero_iff.1 (by rw [← prs_length]; exact h0)
    subst hl
    refine (deleteFunc_none w).mono ?_
    rintro e w1 ⟨rfl, hb1⟩
    exact ⟨_, rfl, ⟨by simp [prs], fun p hp => by simp [prs] at hp, none, 0, rfl, fun _ => rfl, fun h => absurd rfl h⟩, S.keep' hb1, Only.of_below hb1⟩
  · rw [prs_length] at S hnc ⊢
    exact deleteFunc_some g l.length cap lo hi l w S rfl hg1 (S.2.1 g rfl) hnc (by have := hcm; simp only [maxLen] at this; omega) hsh hlim
theorem deleteFunc_any (v : Value) (lo hi : Nat) (l : List Rw) (w : World) (S : Spine w lo hi v (prs l)) (hsh : ∀ p ∈ prs l, ∃ a n c, p.1 = Value.slice a n c) (hlim : l.length ≤ 2097152) :
    Calls Tryz.prog 67 #[v, .func (.func 68) #[] #[]] w fun e w' => ∃ v', e = .returned v' ∧ PairsAt w' v' (prs (l.filter nzR)) ∧ Only lo hi w w' :=
  (deleteFunc_own v lo hi l w S hsh hlim).mono fun _ _ ⟨v', he, hp, _, ho⟩ => ⟨v', he, hp, ho⟩

end Go.Proofs.YtflbdfpgaeeleaaGreatDoor
