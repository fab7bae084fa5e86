/-
  A map from a text to a number, of the call's own: what is looked up, and what a store leaves; the contract of impl.groupTexts: how many rows there are of each group.
-/
import Derived.Test.YtjbfgfgldchfnaaDoorCellsAt
import Derived.Test.YtjbfgfgldchfnaaDoorPutWalk
import Derived.Maps.Own
import Derived.Maps.Views
import Derived.Maps.Keyed
import Derived.StringKeys
namespace Go.Proofs.YtjbfgfgldchfnaaDoor
set_option maxRecDepth 100000
open Go.RowKit Go.Maps
attribute [local go_sem ↓] Go.wp_at_zero Go.wp_at_succ

/-- An element is held as it is. -/
def heldT (v : Value) : Option (DataW Value × List MemPlace) := some (.held v, [])
def CMap (w : World) (t : TypeId) (mb n : Nat) (C : List UInt8 → Int) : Prop :=
  ∃ D : DataW Value, w.ownsMap Tryd.prog 9 heldT mb n D ∧ (∀ s, D.atKey (.string s) (.held (.int .i64 0)) = .held (.int .i64 (C s))) ∧ Tryd.prog.underlying t = some (.map 9 3)
theorem isMapT {w : World} {mb n : Nat} {D : DataW Value} (h : w.ownsMap Tryd.prog 9 heldT mb n D) : IsMap D := by
  obtain ⟨es, _, _, _, _, hD⟩ := h
  exact ⟨_, hD⟩
theorem cmap_made (w : World) (t : TypeId) (ht : Tryd.prog.underlying t = some (.map 9 3)) : CMap (w.alloc (.map #[] 0)) t w.heap.size 0 (fun _ => 0) :=
  ⟨.map [], World.ownsMap_made w _ _ _, fun _ => rfl, ht⟩
theorem CMap.grown {w w' : World} {t : TypeId} {mb n : Nat} {C : List UInt8 → Int} (h : CMap w t mb n C) (hb : Below w.heap.size w w') : CMap w' t mb n C := by
  obtain ⟨D, h1, h2, h3⟩ := h
  have hg : w.grownBy w' none := ⟨hb.os, hb.tape, hb.output, hb.size, fun k hk _ => hb.block k hk⟩
  exact ⟨D, h1.kept hg (by simp), h2, h3⟩
theorem CMap.look {w : World} {t : TypeId} {mb n : Nat} {C : List UInt8 → Int} (h : CMap w t mb n C) {s : ByteArray} (hs : s.size ≤ maxLen) (hn : n < maxLen) :
    (Instr.lookup t (.map (some mb)) (.string s) false).run Tryd.prog w = .ok (.int .i64 (C s.data.toList)) w ∧
      ∀ c : Int, ∃ w2, (Instr.mapUpdate t (.map (some mb)) (.string s) (.int .i64 c)).run Tryd.prog w = .ok () w2 ∧ CMap w2 t mb (n + 1) (fun q => if q = s.data.toList then c else C q) ∧ w.grownBy w2 (some mb) := by
  obtain ⟨D, h1, h2, h3⟩ := h
  have K : Keyed Tryd.prog 9 := string_keyed Tryd.underlying9
  have hk : keyOf Tryd.prog 9 (.string s) = some (.string s.data.toList) := Go.WideMaps.keyOf_string_mk Tryd.underlying9 hs
  refine ⟨?_, fun c => ?_⟩
  · obtain ⟨v, ps, hrun, hv⟩ := h1.lookup K h3 (z := .int .i64 0) (Tryd.zeroValue3 _) (zd := .held (.int .i64 0)) (zp := []) rfl hk
    have : v = .int .i64 (C s.data.toList) := by
      simp only [heldT, h2] at hv
      injection hv with hv
      injection hv with hv _
      injection hv
    rw [hrun, this]
  · obtain ⟨w2, hrun, hm2, hg2⟩ := h1.update K h3 hn hk (val := .int .i64 c) (d := .held (.int .i64 c)) (ps := []) rfl
    refine ⟨w2, hrun, ⟨_, hm2, fun q => ?_, h3⟩, hg2⟩
    by_cases hq : q = s.data.toList
    · subst hq
      simp only [if_true]
      exact atKey_put_same (isMapT h1) (by simp [WideAt.IsKeyLit]) _ _
    · simp only [if_neg hq]
      rw [← h2 q]
      exact atKey_put_other (fun e => hq (by simpa using e)) _ _

/-- How many rows of a list have this text at the keys. -/
def cntT (d : List It) (ks : List Int) (s : List UInt8) : Int := ((d.filter fun q => decide (rowTx (keyZ q.1 ks) = s)).length : Int)
theorem cnt_take {d : List It} {ks : List Int} {k : Nat} (hk : k < d.length) : cntT (d.take (k + 1)) ks = fun s => if s = rowTx (keyZ (d.getD k ([], 0)).1 ks) then cntT (d.take k) ks s + 1 else cntT (d.take k) ks s := by
  funext s
  unfold cntT
  have e : d.getD k ([], 0) = d[k] := by simp [List.getD, hk]
  rw [List.take_succ_eq_append_getElem hk, List.filter_append, List.length_append, e, List.filter_cons, List.filter_nil]
  by_cases h : rowTx (keyZ d[k].1 ks) = s
  · rw [if_pos (decide_eq_true h), if_pos h.symm]; rfl
  · rw [if_neg (by simpa using h), if_neg (fun e => h e.symm)]; rfl
theorem cnt_le (d : List It) (ks : List Int) (s : List UInt8) : 0 ≤ cntT d ks s ∧ cntT d ks s ≤ d.length := by
  unfold cntT
  have := List.length_filter_le (fun q : It => decide (rowTx (keyZ q.1 ks) = s)) d
  omega
/-- A row has a text that is counted just if it is near. -/
theorem cnt_near {d : List It} {ks : List Int} (hd : zOkB d = true) (hkd : haveAll d ks = true) {r : List Int} (hr : rowOkB r = true) (hkr : ∀ k ∈ ks, 0 ≤ k ∧ k < (r.length : Int)) : decide (0 < cntT d ks (rowTx (keyZ r ks))) = isNear d ks r := by
  cases hn : isNear d ks r with
  | true =>
    unfold isNear at hn
    rw [List.any_eq_true] at hn
    obtain ⟨q, hq, e⟩ := hn
    have hm : q ∈ d.filter fun q => decide (rowTx (keyZ q.1 ks) = rowTx (keyZ r ks)) := List.mem_filter.2 ⟨hq, by rw [of_decide_eq_true e]; simp⟩
    have := List.length_pos_of_mem hm
    unfold cntT
    exact decide_eq_true (by omega)
  | false =>
    unfold isNear at hn
    rw [List.any_eq_false] at hn
    have : (d.filter fun q => decide (rowTx (keyZ q.1 ks) = rowTx (keyZ r ks))) = [] := by
      rw [List.filter_eq_nil_iff]
      intro q hq h
      refine hn q hq (decide_eq_true ?_)
      have hqr : rowOkB q.1 = true := by
        obtain ⟨j, hj, e⟩ := mem_getD (d := ([], 0)) hq
        rw [← e]; exact (zOk_row hd hj).1
      exact rowTx_inj (keyZ_cells hqr fun k hk => have_iff.1 hkd k hk q hq) (keyZ_cells hr hkr) (by rw [keyZ_len, keyZ_len]) (of_decide_eq_true h)
    unfold cntT
    rw [this]; rfl
theorem tx_small {r ks : List Int} (hr : rowOkB r = true) (hk : ∀ k ∈ ks, 0 ≤ k ∧ k < (r.length : Int)) (hl : ks.length ≤ 6) {s : ByteArray} (hs : s.data.toList = rowTx (keyZ r ks)) : s.size ≤ maxLen := by
  have h1 := rowTx_le _ (cells_wf (keyZ_cells hr hk))
  rw [keyZ_len] at h1
  have h2 : s.size = s.data.toList.length := by rw [Array.length_toList]; rfl
  rw [h2, hs]
  unfold maxLen
  omega

set_option maxHeartbeats 8000000 in
theorem groupTexts_any (v u : Value) (d : List It) (ks : List Int) (w : World) (htab : Tab w) (h : ItemsAt w v d) (h2 : IntsAt w u ks) (hd : zOkB d = true) (hkd : haveAll d ks = true) (hl : ks.length ≤ 6) :
    Calls Tryd.prog 27 #[v, u] w fun e w' => ∃ mb n, e = .returned (.map (some mb)) ∧ CMap w' 48 mb n (cntT d ks) ∧ w.heap.size ≤ mb ∧ n < 1000 ∧ Below w.heap.size w w' := by
  have ht : Tryd.prog.underlying 48 = some (.map 9 3) := Tryd.underlying48
  have hrow : ∀ k, k < d.length → rowOkB (d.getD k ([], 0)).1 = true ∧ ∀ q ∈ ks, 0 ≤ q ∧ q < ((d.getD k ([], 0)).1.length : Int) := fun k hk => ⟨(zOk_row hd hk).1, fun q hq => have_iff.1 hkd q hq _ (by simp [List.getD, hk])⟩
  have hd100 := zOk_le hd
  have HC0 : Hid (CMap (w.alloc (.map #[] 0)) 48 w.heap.size 0 (cntT (d.take 0) ks)) := cmap_made w _ ht
  have HB0 : Hid (Below w.heap.size w (w.alloc (.map #[] 0))) := below_alloc _
  have HTAB : Hid (Tab w) := htab
  have HK2 : Hid (IntsAt w u ks) := h2
  obtain ⟨ua, un, uc, rfl⟩ := h2.shape
  clear htab h2 hd hkd
  have hmm := @run_makeMap Tryd.prog
  rcases h.cases with ⟨a, cap, rfl, rfl⟩ | ⟨b, off, cap, hpos, hlim, rfl, hbw, hc⟩
  · clear h hrow
    go_enter Tryd.func27, Tryd.ntmps27
    go_wp2
    clear hmm
    refine wp_loop_rounds 1 ?_
    rw [rounds_succ]
    go_wp2
    go_ret
    exact ⟨_, 0, rfl, HC0.out, Nat.le_refl _, by omega, HB0.out⟩
  · clear h
    obtain ⟨n, hn⟩ : ∃ n, n = d.length := ⟨_, rfl⟩
    have HN : Hid (n = d.length) := hn
    rw [← hn] at hpos hlim hc hrow hd100 ⊢
    clear hn
    go_enter Tryd.func27, Tryd.ntmps27
    go_wp2
    clear hmm
    go_loopw [11] (fun i wr => ∃ k : Nat, k ≤ n ∧ i = .int .i64 k ∧ Hid (CMap wr 48 w.heap.size k (cntT (d.take k) ks)) ∧ Hid (Below w.heap.size w wr)) (fun i _ => n - (intOf i).toNat)
    case atStart => exact ⟨0, Nat.zero_le _, rfl, HC0.out, HB0.out⟩
    case round =>
      obtain ⟨k, hk, rfl, HC, HW⟩ := hrel
      clear HC0 HB0
      by_cases hlt : k < n
      · have hlt' : k < d.length := by rw [← HN.out]; exact hlt
        have HB := HW.out
        obtain ⟨rv, hrv0, hwt0, hix0⟩ := hc k hlt
        have hrv := (HB.cell (p := ⟨b, off + k * 2, none⟩) hbw).trans hrv0
        have hwt := (HB.cell (p := ⟨b, off + k * 2 + 1, none⟩) hbw).trans hwt0
        have hix := hix0.below HB
        obtain ⟨hr1, hr2⟩ := hrow k hlt
        have HT : Hid (cntT (d.take (k + 1)) ks = _) := cnt_take (ks := ks) hlt'
        obtain ⟨x, HX⟩ : ∃ x, Hid (x = (d.getD k ([], 0)).1) := ⟨_, rfl⟩
        obtain ⟨y, HY⟩ : ∃ y, Hid (y = (d.getD k ([], 0)).2) := ⟨_, rfl⟩
        rw [← HX.out] at hix hr1 hr2 HT
        rw [← HY.out] at hwt
        obtain ⟨xa, xn, xc, rfl⟩ := hix.shape
        obtain ⟨wa, hwa⟩ : ∃ wa, wa = wr.alloc (.cells #[.slice xa xn xc, .int .i64 y] 43) := ⟨_, rfl⟩
        have hba : Below wr.heap.size wr wa := by rw [hwa]; exact below_alloc _
        have hka := below_then HB hba
        have hcnt := cnt_le (d.take k) ks (rowTx (keyZ x ks))
        have hcl : ((d.take k).length : Int) ≤ 100 := by rw [List.length_take]; omega
        have hixa := hix.below hba
        clear hc hrow hrv0 hwt0 hix0
        go_wp2_with fail
        rw [← hwa]
        refine (groupText_any _ _ x ks _ (HTAB.out.below hka) hixa (HK2.out.below hka) hr2 hl hr1).mono ?_
        rintro e w2 ⟨s, rfl, hs, hb2⟩
        have hk2 := below_then hka hb2
        have hw2 := hk2.size
        have hC2 := (HC.out.grown hba).grown hb2
        obtain ⟨hlook, hput⟩ := hC2.look (tx_small hr1 hr2 hl hs) (by unfold maxLen; omega)
        rw [hs] at hlook hput
        obtain ⟨c, hcc⟩ : ∃ c, c = cntT (d.take k) ks (rowTx (keyZ x ks)) := ⟨_, rfl⟩
        rw [← hcc] at hlook hcnt
        obtain ⟨w3, hrun, hC3, hg3⟩ := hput (c + 1)
        have HC3 : Hid (CMap w3 48 w.heap.size (k + 1) (cntT (d.take (k + 1)) ks)) := by
          show CMap _ _ _ _ _
          rw [HT.out]
          have e : (fun s => if s = rowTx (keyZ x ks) then cntT (d.take k) ks s + 1 else cntT (d.take k) ks s) = fun q => if q = rowTx (keyZ x ks) then c + 1 else cntT (d.take k) ks q := by
            funext q
            by_cases hq : q = rowTx (keyZ x ks)
            · rw [if_pos hq, if_pos hq, hq, hcc]
            · rw [if_neg hq, if_neg hq]
          rw [e]
          exact hC3
        have HK3 : Hid (Below w.heap.size w w3) := hk2.grown hg3 hw2 (fun i e => by simp at e; omega)
        have hwrap : IntKind.i64.wrap (c + 1) = c + 1 := by rw [IntKind.wrap_i64]; omega
        clear hrv hwt HB HW HC hba hka hb2 hk2 hC2 hput hC3 hg3 hs hcc hixa hix hr1 hr2 HT hwa
        go_wp2
        go_roundw
        case rel => exact ⟨k + 1, by omega, by go_num, HC3.out, HK3.out⟩
        case measure => simp [intOf]; omega
      · obtain rfl : k = n := by omega
        have hC := HC.out
        rw [HN.out, List.take_length, ← HN.out] at hC
        clear hc hrow
        go_wp2
        go_ret
        exact ⟨_, _, rfl, hC, Nat.le_refl _, by omega, HW.out⟩

end Go.Proofs.YtjbfgfgldchfnaaDoor
