/-
  Texts of this claim put behind one another: TextMap, Near, NearSpec, GroupMath, TotalsG, AggSpec, GroupFacts, GroupSpec, Groups, GroupRows, TotalOf, GroupImpl, GroupNear, DeltaGroup, OnceFacts, GrpBase, DgFacts, DgMore, GrpVals, DgVals, LawFnDeltaSplit.
-/
import Derived.Test.YtfgpdakkbhfiaaaGreatDoorCellsAt
import Derived.Test.YtfgpdakkbhfiaaaGreatDoorPutWalk
import Derived.Maps.Own
import Derived.Maps.Views
import Derived.Maps.Keyed
import Derived.StringKeys
import Derived.Test.YtfgpdakkbhfiaaaGreatDoorMerge
import Derived.Test.YtfgpdakkbhfiaaaGreatDoorCopy
import Derived.Test.YtfgpdakkbhfiaaaGreatDoorAddSpec
import Derived.Test.YtfgpdakkbhfiaaaGreatDoorKeysMath
import Derived.Test.YtfgpdakkbhfiaaaGreatDoorPutMath
import Derived.Test.YtfgpdakkbhfiaaaGreatDoorKeys
import Derived.Maps.RangeWalk
import Derived.Test.YtfgpdakkbhfiaaaGreatDoorGatherSort
import Derived.Test.YtfgpdakkbhfiaaaGreatDoorZFacts
import Derived.Test.YtfgpdakkbhfiaaaGreatDoorPosFacts
import Derived.Test.YtfgpdakkbhfiaaaGreatDoorDeltaOnce
import Derived.Test.YtfgpdakkbhfiaaaGreatDoorZVals
import Derived.Test.YtfgpdakkbhfiaaaGreatDoorLaidTab
import Derived.Test.YtfgpdakkbhfiaaaGreatDoorDrawTurn
import Derived.Deep.DeepCutAuto

/-
  A map from a text to a number, of the call's own: what is looked up, and what a store leaves; the contract of impl.groupTexts: how many rows there are of each group.
-/
namespace Go.Proofs.YtfgpdakkbhfiaaaGreatDoor
set_option maxRecDepth 100000
open Go.RowKit Go.Maps
attribute [local go_sem ↓] Go.wp_at_zero Go.wp_at_succ

/-- An element is held as it is. -/
def heldT (v : Value) : Option (DataW Value × List MemPlace) := some (.held v, [])
def CMap (w : World) (t : TypeId) (mb n : Nat) (C : List UInt8 → Int) : Prop :=
  ∃ D : DataW Value, w.ownsMap Tryz.prog 9 heldT mb n D ∧ (∀ s, D.atKey (.string s) (.held (.int .i64 0)) = .held (.int .i64 (C s))) ∧ Tryz.prog.underlying t = some (.map 9 3)
theorem isMapT {w : World} {mb n : Nat} {D : DataW Value} (h : w.ownsMap Tryz.prog 9 heldT mb n D) : IsMap D := by
  obtain ⟨es, _, _, _, _, hD⟩ := h
  exact ⟨_, hD⟩
theorem cmap_made (w : World) (t : TypeId) (ht : Tryz.prog.underlying t = some (.map 9 3)) : CMap (w.alloc (.map #[] 0)) t w.heap.size 0 (fun _ => 0) :=
  ⟨.map [], World.ownsMap_made w _ _ _, fun _ => rfl, ht⟩
theorem CMap.grown {w w' : World} {t : TypeId} {mb n : Nat} {C : List UInt8 → Int} (h : CMap w t mb n C) (hb : Below w.heap.size w w') : CMap w' t mb n C := by
  obtain ⟨D, h1, h2, h3⟩ := h
  have hg : w.grownBy w' none := ⟨hb.os, hb.tape, hb.output, hb.size, fun k hk _ => hb.block k hk⟩
  exact ⟨D, h1.kept hg (by simp), h2, h3⟩
theorem CMap.look {w : World} {t : TypeId} {mb n : Nat} {C : List UInt8 → Int} (h : CMap w t mb n C) {s : ByteArray} (hs : s.size ≤ maxLen) (hn : n < maxLen) :
    (Instr.lookup t (.map (some mb)) (.string s) false).run Tryz.prog w = .ok (.int .i64 (C s.data.toList)) w ∧
      ∀ c : Int, ∃ w2, (Instr.mapUpdate t (.map (some mb)) (.string s) (.int .i64 c)).run Tryz.prog w = .ok () w2 ∧ CMap w2 t mb (n + 1) (fun q => if q = s.data.toList then c else C q) ∧ w.grownBy w2 (some mb) := by
  obtain ⟨D, h1, h2, h3⟩ := h
  have K : Keyed Tryz.prog 9 := string_keyed Tryz.underlying9
  have hk : keyOf Tryz.prog 9 (.string s) = some (.string s.data.toList) := Go.WideMaps.keyOf_string_mk Tryz.underlying9 hs
  refine ⟨?_, fun c => ?_⟩
  · obtain ⟨v, ps, hrun, hv⟩ := h1.lookup K h3 (z := .int .i64 0) (Tryz.zeroValue3 _) (zd := .held (.int .i64 0)) (zp := []) rfl hk
    have : v = .int .i64 (C s.data.toList) := by
      simp only [heldT, h2] at hv
      injection hv with hv
      injection hv with hv _
      injection hv
    rw [hrun, this]
  · obtain ⟨w2, hrun, hm2, hg2⟩ := h1.update K h3 hn hk (val := .int .i64 c) (d := .held (.int .i64 c)) (ps := []) rfl
    refine ⟨w2, hrun, ⟨_, hm2, fun q => ?_, h3⟩, hg2⟩
    by_cases hq : q = s.data.toList
    · subst hq
      simp only [if_true]
      exact atKey_put_same (isMapT h1) (by simp [WideAt.IsKeyLit]) _ _
    · simp only [if_neg hq]
      rw [← h2 q]
      exact atKey_put_other (fun e => hq (by simpa using e)) _ _

/-- How many rows of a list have this text at the keys. -/
def cntT (d : List It) (ks : List Int) (s : List UInt8) : Int := ((d.filter fun q => decide (rowTx (keyZ q.1 ks) = s)).length : Int)
theorem cnt_take {d : List It} {ks : List Int} {k : Nat} (hk : k < d.length) : cntT (d.take (k + 1)) ks = fun s => if s = rowTx (keyZ (d.getD k ([], 0)).1 ks) then cntT (d.take k) ks s + 1 else cntT (d.take k) ks s := by
  funext s
  unfold cntT
  have e : d.getD k ([], 0) = d[k] := by simp [List.getD, hk]
  rw [List.take_succ_eq_append_getElem hk, List.filter_append, List.length_append, e, List.filter_cons, List.filter_nil]
  by_cases h : rowTx (keyZ d[k].1 ks) = s
  · rw [if_pos (decide_eq_true h), if_pos h.symm]; rfl
  · rw [if_neg (by simpa using h), if_neg (fun e => h e.symm)]; rfl
theorem cnt_le (d : List It) (ks : List Int) (s : List UInt8) : 0 ≤ cntT d ks s ∧ cntT d ks s ≤ d.length := by
  unfold cntT
  have := List.length_filter_le (fun q : It => decide (rowTx (keyZ q.1 ks) = s)) d
  omega
/-- A row has a text that is counted just if it is near. -/
theorem cnt_near {d : List It} {ks : List Int} (hd : zOkB d = true) (hkd : haveAll d ks = true) {r : List Int} (hr : rowOkB r = true) (hkr : ∀ k ∈ ks, 0 ≤ k ∧ k < (r.length : Int)) : decide (0 < cntT d ks (rowTx (keyZ r ks))) = isNear d ks r := by
  cases hn : isNear d ks r with
  | true =>
    unfold isNear at hn
    rw [List.any_eq_true] at hn
    obtain ⟨q, hq, e⟩ := hn
    have hm : q ∈ d.filter fun q => decide (rowTx (keyZ q.1 ks) = rowTx (keyZ r ks)) := List.mem_filter.2 ⟨hq, by rw [of_decide_eq_true e]; simp⟩
    have := List.length_pos_of_mem hm
    unfold cntT
    exact decide_eq_true (by omega)
  | false =>
    unfold isNear at hn
    rw [List.any_eq_false] at hn
    have : (d.filter fun q => decide (rowTx (keyZ q.1 ks) = rowTx (keyZ r ks))) = [] := by
      rw [List.filter_eq_nil_iff]
      intro q hq h
      refine hn q hq (decide_eq_true ?_)
      have hqr : rowOkB q.1 = true := by
        obtain ⟨j, hj, e⟩ := mem_getD (d := ([], 0)) hq
        rw [← e]; exact (zOk_row hd hj).1
      exact rowTx_inj (keyZ_cells hqr fun k hk => have_iff.1 hkd k hk q hq) (keyZ_cells hr hkr) (by rw [keyZ_len, keyZ_len]) (of_decide_eq_true h)
    unfold cntT
    rw [this]; rfl
theorem tx_small {r ks : List Int} (hr : rowOkB r = true) (hk : ∀ k ∈ ks, 0 ≤ k ∧ k < (r.length : Int)) (hl : ks.length ≤ 6) {s : ByteArray} (hs : s.data.toList = rowTx (keyZ r ks)) : s.size ≤ maxLen := by
  have h1 := rowTx_le _ (cells_wf (keyZ_cells hr hk))
  rw [keyZ_len] at h1
  have h2 : s.size = s.data.toList.length := by rw [Array.length_toList]; rfl
  rw [h2, hs]
  unfold maxLen
  omega

set_option maxHeartbeats 8000000 in
theorem groupTexts_any (v u : Value) (d : List It) (ks : List Int) (w : World) (htab : Tab w) (h : ItemsAt w v d) (h2 : IntsAt w u ks) (hd : zOkB d = true) (hkd : haveAll d ks = true) (hl : ks.length ≤ 6) :
    Calls Tryz.prog 27 #[v, u] w fun e w' => ∃ mb n, e = .returned (.map (some mb)) ∧ CMap w' 51 mb n (cntT d ks) ∧ w.heap.size ≤ mb ∧ n < 1000 ∧ Below w.heap.size w w' := by
  have ht : Tryz.prog.underlying 51 = some (.map 9 3) := Tryz.underlying51
  have hrow : ∀ k, k < d.length → rowOkB (d.getD k ([], 0)).1 = true ∧ ∀ q ∈ ks, 0 ≤ q ∧ q < ((d.getD k ([], 0)).1.length : Int) := fun k hk => ⟨(zOk_row hd hk).1, fun q hq => have_iff.1 hkd q hq _ (by simp [List.getD, hk])⟩
  have hd100 := zOk_le hd
  have HC0 : Hid (CMap (w.alloc (.map #[] 0)) 51 w.heap.size 0 (cntT (d.take 0) ks)) := cmap_made w _ ht
  have HB0 : Hid (Below w.heap.size w (w.alloc (.map #[] 0))) := below_alloc _
  have HTAB : Hid (Tab w) := htab
  have HK2 : Hid (IntsAt w u ks) := h2
  obtain ⟨ua, un, uc, rfl⟩ := h2.shape
  clear htab h2 hd hkd
  have hmm := @run_makeMap Tryz.prog
  rcases h.cases with ⟨a, cap, rfl, rfl⟩ | ⟨b, off, cap, hpos, hlim, rfl, hbw, hc⟩
  · clear h hrow
    go_enter Tryz.func27, Tryz.ntmps27
    go_wp2
    clear hmm
    refine wp_loop_rounds 1 ?_
    rw [rounds_succ]
    go_wp2
    go_ret
    exact ⟨_, 0, rfl, HC0.out, Nat.le_refl _, by omega, HB0.out⟩
  · clear h
    obtain ⟨n, hn⟩ : ∃ n, n = d.length := ⟨_, rfl⟩
    have HN : Hid (n = d.length) := hn
    rw [← hn] at hpos hlim hc hrow hd100 ⊢
    clear hn
    go_enter Tryz.func27, Tryz.ntmps27
    go_wp2
    clear hmm
    go_loopw [11] (fun i wr => ∃ k : Nat, k ≤ n ∧ i = .int .i64 k ∧ Hid (CMap wr 51 w.heap.size k (cntT (d.take k) ks)) ∧ Hid (Below w.heap.size w wr)) (fun i _ => n - (intOf i).toNat)
    case atStart => exact ⟨0, Nat.zero_le _, rfl, HC0.out, HB0.out⟩
    case round =>
      obtain ⟨k, hk, rfl, HC, HW⟩ := hrel
      clear HC0 HB0
      by_cases hlt : k < n
      · have hlt' : k < d.length := by rw [← HN.out]; exact hlt
        have HB := HW.out
        obtain ⟨rv, hrv0, hwt0, hix0⟩ := hc k hlt
        have hrv := (HB.cell (p := ⟨b, off + k * 2, none⟩) hbw).trans hrv0
        have hwt := (HB.cell (p := ⟨b, off + k * 2 + 1, none⟩) hbw).trans hwt0
        have hix := hix0.below HB
        obtain ⟨hr1, hr2⟩ := hrow k hlt
        have HT : Hid (cntT (d.take (k + 1)) ks = _) := cnt_take (ks := ks) hlt'
        obtain ⟨x, HX⟩ : ∃ x, Hid (x = (d.getD k ([], 0)).1) := ⟨_, rfl⟩
        obtain ⟨y, HY⟩ : ∃ y, Hid (y = (d.getD k ([], 0)).2) := ⟨_, rfl⟩
        rw [← HX.out] at hix hr1 hr2 HT
        rw [← HY.out] at hwt
        obtain ⟨xa, xn, xc, rfl⟩ := hix.shape
        obtain ⟨wa, hwa⟩ : ∃ wa, wa = wr.alloc (.cells #[.slice xa xn xc, .int .i64 y] 42) := ⟨_, rfl⟩
        have hba : Below wr.heap.size wr wa := by rw [hwa]; exact below_alloc _
        have hka := below_then HB hba
        have hcnt := cnt_le (d.take k) ks (rowTx (keyZ x ks))
        have hcl : ((d.take k).length : Int) ≤ 100 := by rw [List.length_take]; omega
        have hixa := hix.below hba
        clear hc hrow hrv0 hwt0 hix0
        go_wp2_with fail
        rw [← hwa]
        refine (groupText_any _ _ x ks _ (HTAB.out.below hka) hixa (HK2.out.below hka) hr2 hl hr1).mono ?_
        rintro e w2 ⟨s, rfl, hs, hb2⟩
        have hk2 := below_then hka hb2
        have hw2 := hk2.size
        have hC2 := (HC.out.grown hba).grown hb2
        obtain ⟨hlook, hput⟩ := hC2.look (tx_small hr1 hr2 hl hs) (by unfold maxLen; omega)
        rw [hs] at hlook hput
        obtain ⟨c, hcc⟩ : ∃ c, c = cntT (d.take k) ks (rowTx (keyZ x ks)) := ⟨_, rfl⟩
        rw [← hcc] at hlook hcnt
        obtain ⟨w3, hrun, hC3, hg3⟩ := hput (c + 1)
        have HC3 : Hid (CMap w3 51 w.heap.size (k + 1) (cntT (d.take (k + 1)) ks)) := by
          show CMap _ _ _ _ _
          rw [HT.out]
          have e : (fun s => if s = rowTx (keyZ x ks) then cntT (d.take k) ks s + 1 else cntT (d.take k) ks s) = fun q => if q = rowTx (keyZ x ks) then c + 1 else cntT (d.take k) ks q := by
            funext q
            by_cases hq : q = rowTx (keyZ x ks)
            · rw [if_pos hq, if_pos hq, hq, hcc]
            · rw [if_neg hq, if_neg hq]
          rw [e]
          exact hC3
        have HK3 : Hid (Below w.heap.size w w3) := hk2.grown hg3 hw2 (fun i e => by simp at e; omega)
        have hwrap : IntKind.i64.wrap (c + 1) = c + 1 := by rw [IntKind.wrap_i64]; omega
        clear hrv hwt HB HW HC hba hka hb2 hk2 hC2 hput hC3 hg3 hs hcc hixa hix hr1 hr2 HT hwa
        go_wp2
        go_roundw
        case rel => exact ⟨k + 1, by omega, by go_num, HC3.out, HK3.out⟩
        case measure => simp [intOf]; omega
      · obtain rfl : k = n := by omega
        have hC := HC.out
        rw [HN.out, List.take_length, ← HN.out] at hC
        clear hc hrow
        go_wp2
        go_ret
        exact ⟨_, _, rfl, hC, Nat.le_refl _, by omega, HW.out⟩

end Go.Proofs.YtfgpdakkbhfiaaaGreatDoor

/-
  The contracts of impl.near, impl.canBeNear, impl.DeltaNear, spec.l6In, spec.l6Near and spec.DeltaNear: the items of a list that are in a group of any of another list.
-/
namespace Go.Proofs.YtfgpdakkbhfiaaaGreatDoor
set_option maxRecDepth 100000
open Go.RowKit
attribute [local go_sem ↓] Go.wp_at_zero Go.wp_at_succ

theorem near_take {z d : List It} {ks : List Int} {k : Nat} (hk : k < z.length) : nearZ (z.take (k + 1)) d ks = nearZ (z.take k) d ks ++ (if isNear d ks (z.getD k ([], 0)).1 then [((z.getD k ([], 0)).1, (z.getD k ([], 0)).2)] else []) := by
  unfold nearZ
  have e : z.getD k ([], 0) = z[k] := by simp [List.getD, hk]
  rw [List.take_succ_eq_append_getElem hk, List.filter_append, e, List.filter_cons, List.filter_nil]
theorem spine_nilN (w : World) (lo : Nat) : Spine w lo w.heap.size (.slice none 0 0) (prs []) := ⟨⟨rfl, .inl ⟨rfl, rfl⟩⟩, fun k hk => by simp [Value.ownBlock] at hk, by simp [prs], Nat.le_refl _⟩
theorem nearZ_len (z d : List It) (ks : List Int) : (nearZ z d ks).length ≤ z.length := List.length_filter_le _ _
theorem nearZ_mem {z d : List It} {ks : List Int} {p : It} (h : p ∈ nearZ z d ks) : p ∈ z := (List.mem_filter.1 h).1

set_option maxHeartbeats 8000000 in
theorem near_any (v u : Value) (mb m : Nat) (z d : List It) (ks : List Int) (w : World) (htab : Tab w) (h : ItemsAt w v z) (hm : CMap w 51 mb m (cntT d ks)) (hmn : m < 1000) (h2 : IntsAt w u ks)
    (hz : zOkB z = true) (hd : zOkB d = true) (hkz : haveAll z ks = true) (hkd : haveAll d ks = true) (hl : ks.length ≤ 6) :
    Calls Tryz.prog 28 #[v, .map (some mb), u] w fun e w' => ∃ v', e = .returned v' ∧ ItemsAt w' v' (nearZ z d ks) ∧ Below w.heap.size w w' := by
  obtain ⟨i0, hi0, hz0, hz1, hz2⟩ := info_parts infoItem
  have hrow : ∀ k, k < z.length → rowOkB (z.getD k ([], 0)).1 = true ∧ (∀ q ∈ ks, 0 ≤ q ∧ q < ((z.getD k ([], 0)).1.length : Int)) := fun k hk => ⟨(zOk_row hz hk).1, fun q hq => have_iff.1 hkz q hq _ (by simp [List.getD, hk])⟩
  have hcn : ∀ k, k < z.length → decide (0 < cntT d ks (rowTx (keyZ (z.getD k ([], 0)).1 ks))) = isNear d ks (z.getD k ([], 0)).1 := fun k hk => cnt_near hd hkd (hrow k hk).1 (hrow k hk).2
  have hz100 := zOk_le hz
  have HTAB : Hid (Tab w) := htab
  have HK2 : Hid (IntsAt w u ks) := h2
  have HM : Hid (CMap w 51 mb m (cntT d ks)) := hm
  obtain ⟨ua, un, uc, rfl⟩ := h2.shape
  clear htab h2 hd hkd hz hkz hm
  rcases h.cases with ⟨a, cap, rfl, rfl⟩ | ⟨b, off, cap, hpos, hlim, rfl, hbw, hc⟩
  · clear h hrow hcn
    go_enter Tryz.func28, Tryz.ntmps28
    go_wp2
    refine wp_loop_rounds 1 ?_
    rw [rounds_succ]
    go_wp2
    go_ret
    exact ⟨_, rfl, (nil_ownZ w 0).items, Below.refl _ _⟩
  · clear h
    obtain ⟨n, hn⟩ : ∃ n, n = z.length := ⟨_, rfl⟩
    have HN : Hid (n = z.length) := hn
    rw [← hn] at hpos hlim hc hrow hz100 hcn ⊢
    clear hn
    go_enter Tryz.func28, Tryz.ntmps28
    go_wp2
    go_loopw [7, 12] (fun s i wr => ∃ (k : Nat) (l : List Rw), k ≤ n ∧ i = .int .i64 k ∧ Hid (its l = nearZ (z.take k) d ks) ∧ Hid (Spine wr w.heap.size wr.heap.size s (prs l)) ∧ Hid (RowsIn w l) ∧ Hid (Below w.heap.size w wr)) (fun _ i _ => n - (intOf i).toNat)
    case atStart => exact ⟨0, [], Nat.zero_le _, rfl, rfl, spine_nilN w _, fun x hx => by simp at hx, Below.refl _ _⟩
    case round =>
      obtain ⟨k, l, hk, rfl, HL, HS, HR, HW⟩ := hrel
      by_cases hlt : k < n
      · have hlt' : k < z.length := by rw [← HN.out]; exact hlt
        have HB := HW.out
        obtain ⟨rv, hrv0, hwt0, hix0⟩ := hc k hlt
        have hrv := (HB.cell (p := ⟨b, off + k * 2, none⟩) hbw).trans hrv0
        have hwt := (HB.cell (p := ⟨b, off + k * 2 + 1, none⟩) hbw).trans hwt0
        have hix := hix0.below HB
        obtain ⟨hr1, hr2⟩ := hrow k hlt
        have hcq := hcn k hlt
        have HT : Hid (nearZ (z.take (k + 1)) d ks = _) := near_take (d := d) (ks := ks) hlt'
        have hll : l.length ≤ 100 := by
          have h1 : (its l).length = (nearZ (z.take k) d ks).length := by rw [HL.out]
          have h2 := nearZ_len (z.take k) d ks
          rw [its_length] at h1
          rw [List.length_take] at h2
          omega
        obtain ⟨x, HX⟩ : ∃ x, Hid (x = (z.getD k ([], 0)).1) := ⟨_, rfl⟩
        obtain ⟨y, HY⟩ : ∃ y, Hid (y = (z.getD k ([], 0)).2) := ⟨_, rfl⟩
        rw [← HX.out] at hix hr1 hr2 HT hcq hix0
        rw [← HY.out] at hwt HT
        obtain ⟨xa, xn, xc, rfl⟩ := hix.shape
        have HIX : Hid (IntsAt w (.slice xa xn xc) x) := hix0
        obtain ⟨wa, hwa⟩ : ∃ wa, wa = wr.alloc (.cells #[.slice xa xn xc, .int .i64 y] 42) := ⟨_, rfl⟩
        have hba : Below wr.heap.size wr wa := by rw [hwa]; exact below_alloc _
        have hbl : wr.heap.size < wa.heap.size := by rw [hwa]; simp
        have t0 : wa.cell? ⟨wr.heap.size, 0, none⟩ = some (.slice xa xn xc) := by rw [hwa]; simp [go_sem]
        have t1 : wa.cell? ⟨wr.heap.size, 1, none⟩ = some (.int .i64 y) := by rw [hwa]; simp [go_sem]
        have hka := below_then HB hba
        have hsw := HB.size
        have hixa := hix.below hba
        clear hc hrow hrv0 hwt0 hix0 hcn
        go_wp2_with fail
        rw [← hwa]
        refine (groupText_any _ _ x ks _ (HTAB.out.below hka) hixa (HK2.out.below hka) hr2 hl hr1).mono ?_
        rintro e w2 ⟨s, rfl, hs, hb2⟩
        have hk2 := below_then hka hb2
        have hw2 := hk2.size
        have hka2 : Below wr.heap.size wr w2 := below_then hba hb2
        obtain ⟨hlook, -⟩ := ((HM.out.grown hk2)).look (tx_small hr1 hr2 hl hs) (by unfold maxLen; omega)
        rw [hs] at hlook
        obtain ⟨c, HC⟩ : ∃ c, Hid (c = cntT d ks (rowTx (keyZ x ks))) := ⟨_, rfl⟩
        rw [← HC.out] at hlook hcq
        have r0 := cell_is (p := ⟨wr.heap.size, 0, none⟩) hb2 hbl t0
        have r1 := cell_is (p := ⟨wr.heap.size, 1, none⟩) hb2 hbl t1
        have S2 : Spine w2 w.heap.size wr.heap.size u7 (prs l) := HS.out.keep' hka2
        have HK2' : Hid (Below w.heap.size w w2) := hk2
        clear hrv hwt HB HW HS hba hka hb2 hk2 hs hixa hix hr1 hr2 hwa t0 t1
        by_cases hpc : 0 < c
        · have hnr : isNear d ks x = true := by rw [← hcq]; exact decide_eq_true hpc
          have HTT : Hid (its (l ++ [(.slice xa xn xc, (x, y))]) = nearZ (z.take (k + 1)) d ks) := by
            show _ = _
            rw [HT.out, hnr, its_append, HL.out]; rfl
          have HR2 : Hid (RowsIn w (l ++ [(.slice xa xn xc, (x, y))])) := fun q hq => by
            rcases List.mem_append.1 hq with e | e
            · exact HR.out q e
            · simp at e; subst e; exact HIX.out
          obtain ⟨hspW, hprW, hfin⟩ := merge_ready (xv := .slice xa xn xc) y S2 ⟨_, _, _, rfl⟩ (by omega) (by omega)
          have hpl : (prs l).length ≤ 100 := by rw [prs_length]; exact hll
          clear hcq hnr HT HL HR S2
          go_wp2_with (at_builtin; (refine wpList_append_pairs rfl _ _ 23 rfl w.heap.size 42 i0 Tryz.underlying23 hi0 hz0 hz1 hz2 u7 (prs l) rfl hspW _ _ rfl hprW (by simp; omega) (by simp; omega) ?_; intro v3 w3 hown3 hg3 _))
          obtain ⟨S3, B3⟩ := hfin v3 w3 x hown3 hg3
          have HS3 : Hid (Spine w3 w.heap.size w3.heap.size v3 (prs (l ++ [(.slice xa xn xc, (x, y))]))) := S3
          have HK3 : Hid (Below w.heap.size w w3) := HK2'.out.trans B3
          clear hfin hown3 hg3 hspW hprW B3 S3 r0 r1 hlook
          go_wp2
          go_roundw
          case rel => exact ⟨k + 1, _, by omega, by go_num, HTT.out, HS3.out, HR2.out, HK3.out⟩
          case measure => simp [intOf]; omega
        · have hnr : isNear d ks x = false := by rw [← hcq]; exact decide_eq_false hpc
          have HTT : Hid (its l = nearZ (z.take (k + 1)) d ks) := by
            show _ = _
            rw [HT.out, hnr, HL.out]; simp
          have HS3 : Hid (Spine w2 w.heap.size w2.heap.size u7 (prs l)) := S2.wide (Nat.le_refl _) hka2.size (Nat.le_refl _)
          clear hcq hnr HT HL S2 r0 r1
          go_wp2
          go_roundw
          case rel => exact ⟨k + 1, _, by omega, by go_num, HTT.out, HS3.out, HR.out, HK2'.out⟩
          case measure => simp [intOf]; omega
      · obtain rfl : k = n := by omega
        have hI : ItemsAt wr u7 (its l) := (HS.out.pairs HR.out.shape).itemsOf (HR.out.below HW.out)
        rw [HL.out, HN.out, List.take_length] at hI
        clear hc hrow hcn
        go_wp2
        go_ret
        exact ⟨_, rfl, hI, HW.out⟩

set_option maxHeartbeats 1000000 in
theorem canBeNear_any (v u kv : Value) (z d : List It) (ks : List Int) (w : World) (h : ItemsAt w v z) (h2 : ItemsAt w u d) (h3 : TailI w kv ks) :
    Calls Tryz.prog 25 #[v, u, kv] w fun e w' => e = .returned (.bool (nearCan z d ks)) ∧ Below w.heap.size w w' := by
  obtain ⟨c, HC⟩ : ∃ c, Hid (c = nearCan z d ks) := ⟨_, rfl⟩
  rw [← HC.out]
  go_enter Tryz.func25, Tryz.ntmps25
  go_wp2_with fail
  refine (areKeys_any kv ks 6 _ h3).mono ?_
  rintro e w1 ⟨rfl, rfl⟩
  cases h4 : keysB ks 6 with
  | false =>
    obtain rfl : c = false := by rw [HC.out]; unfold nearCan; rw [h4]; rfl
    clear h h2 h3
    go_wp2
    go_ret
    exact ⟨rfl, Below.refl _ _⟩
  | true =>
    go_wp2_with fail
    refine (allHaveKeys_any v kv z ks _ h h3.1).mono ?_
    rintro e w2 ⟨rfl, hb2⟩
    cases h5 : haveAll z ks with
    | false =>
      obtain rfl : c = false := by rw [HC.out]; unfold nearCan; rw [h4, h5]; rfl
      clear h h2 h3
      go_wp2
      go_ret
      exact ⟨rfl, hb2⟩
    | true =>
      have h6 : haveAll d ks = c := by rw [HC.out]; unfold nearCan; rw [h4, h5]; rfl
      go_wp2_with fail
      refine (allHaveKeys_any u kv d ks _ (h2.below hb2) (h3.1.below hb2)).mono ?_
      rw [h6]
      rintro e w3 ⟨rfl, hb3⟩
      have HK : Hid (Below w1.heap.size w1 w3) := below_then hb2 hb3
      clear h h2 h3 hb2 hb3 h6
      go_wp2
      go_ret
      exact ⟨rfl, HK.out⟩
theorem near_not {z d : List It} {ks : List Int} (h : nearOk z d ks = false) : nearOut z d ks = [] := by unfold nearOut; rw [h]; rfl
theorem near_parts {z d : List It} {ks : List Int} (h : nearCan z d ks = true) : keysB ks 6 = true ∧ haveAll z ks = true ∧ haveAll d ks = true := by
  unfold nearCan at h
  simp only [Bool.and_eq_true] at h
  exact ⟨h.1.1, h.1.2, h.2⟩
theorem near_mild {z : List It} (d : List It) (ks : List Int) (hz : zOkB z = true) : (nearZ z d ks).length ≤ 100 ∧ ∀ j, j < (nearZ z d ks).length → ((nearZ z d ks).getD j ([], 0)).1.length ≤ 8796093022208 := by
  refine ⟨by have := nearZ_len z d ks; have := zOk_le hz; omega, fun j hj => ?_⟩
  have := zOk_mem hz (nearZ_mem (getZ_mem hj))
  omega

set_option maxHeartbeats 2000000 in
theorem implNear_any (v u kv : Value) (z d : List It) (ks : List Int) (w : World) (htab : Tab w) (h : ItemsAt w v z) (h2 : ItemsAt w u d) (h3 : TailI w kv ks) :
    Calls Tryz.prog 11 #[v, u, kv] w fun e w' => ∃ v', e = .returned v' ∧ OwnZ w' w.heap.size w'.heap.size v' (nearOut z d ks) ∧ Below w.heap.size w w' := by
  cases hz : zOkB z with
  | false =>
    rw [near_not (by unfold nearOk; rw [hz]; rfl)]
    go_enter Tryz.func11, Tryz.ntmps11
    go_wp2_with fail
    refine (implZOk_any v z _ h).mono ?_
    rw [hz]
    rintro e w1 ⟨rfl, hb1⟩
    clear h h2 h3 htab
    go_wp2
    go_ret
    exact ⟨_, rfl, nil_ownZ _ _, hb1⟩
  | true =>
    cases hd : zOkB d with
    | false =>
      rw [near_not (by unfold nearOk; rw [hz, hd]; rfl)]
      go_enter Tryz.func11, Tryz.ntmps11
      go_wp2_with fail
      refine (implZOk_any v z _ h).mono ?_
      rw [hz]
      rintro e w1 ⟨rfl, hb1⟩
      go_wp2_with fail
      refine (implZOk_any u d _ (h2.below hb1)).mono ?_
      rw [hd]
      rintro e w2 ⟨rfl, hb2⟩
      have HK : Hid (Below w.heap.size w w2) := below_then hb1 hb2
      clear h h2 h3 htab hb1 hb2
      go_wp2
      go_ret
      exact ⟨_, rfl, nil_ownZ _ _, HK.out⟩
    | true =>
      cases hc : nearCan z d ks with
      | false =>
        rw [near_not (by unfold nearOk; rw [hz, hd, hc]; rfl)]
        go_enter Tryz.func11, Tryz.ntmps11
        go_wp2_with fail
        refine (implZOk_any v z _ h).mono ?_
        rw [hz]
        rintro e w1 ⟨rfl, hb1⟩
        go_wp2_with fail
        refine (implZOk_any u d _ (h2.below hb1)).mono ?_
        rw [hd]
        rintro e w2 ⟨rfl, hb2⟩
        have hk2 := below_then hb1 hb2
        go_wp2_with fail
        refine (canBeNear_any v u kv z d ks _ (h.below hk2) (h2.below hk2) (h3.below hk2)).mono ?_
        rw [hc]
        rintro e w3 ⟨rfl, hb3⟩
        have HK : Hid (Below w.heap.size w w3) := below_then hk2 hb3
        clear h h2 h3 htab hb1 hb2 hb3 hk2
        go_wp2
        go_ret
        exact ⟨_, rfl, nil_ownZ _ _, HK.out⟩
      | true =>
        obtain ⟨hk6, hkz, hkd⟩ := near_parts hc
        have hl : ks.length ≤ 6 := by have := (keys_parts hk6).1; omega
        have hm := near_mild d ks hz
        have e0 : nearOut z d ks = nearZ z d ks := by unfold nearOut nearOk; rw [hz, hd, hc]; rfl
        rw [e0]
        go_enter Tryz.func11, Tryz.ntmps11
        go_wp2_with fail
        refine (implZOk_any v z _ h).mono ?_
        rw [hz]
        rintro e w1 ⟨rfl, hb1⟩
        go_wp2_with fail
        refine (implZOk_any u d _ (h2.below hb1)).mono ?_
        rw [hd]
        rintro e w2 ⟨rfl, hb2⟩
        have hk2 := below_then hb1 hb2
        go_wp2_with fail
        refine (canBeNear_any v u kv z d ks _ (h.below hk2) (h2.below hk2) (h3.below hk2)).mono ?_
        rw [hc]
        rintro e w3 ⟨rfl, hb3⟩
        have hk3 := below_then hk2 hb3
        clear hb1 hb2 hb3 hk2 e0
        go_wp2_with fail
        refine (groupTexts_any u kv d ks _ (htab.below hk3) (h2.below hk3) (h3.below hk3).1 hd hkd hl).mono ?_
        rintro e w4 ⟨mb, m, rfl, hC4, hmb, hm4, hb4⟩
        have hk4 := below_then hk3 hb4
        clear hb4 hk3
        go_wp2_with fail
        refine (near_any v kv mb m z d ks _ (htab.below hk4) (h.below hk4) hC4 hm4 (h3.below hk4).1 hz hd hkz hkd hl).mono ?_
        rintro e w5 ⟨v5, rfl, I5, hb5⟩
        have hk5 := below_then hk4 hb5
        have s5 := hk5.size
        clear hb5 hk4 hC4 h h2 h3 htab
        go_wp2_with fail
        refine (copyItems_any v5 (nearZ z d ks) _ I5 (by omega) hm.2).mono ?_
        rintro e w6 ⟨v6, rfl, Z6, hb6⟩
        have HK : Hid (Below w.heap.size w w6) := below_then hk5 hb6
        have R : Hid (OwnZ w6 w.heap.size w6.heap.size v6 (nearZ z d ks)) := Z6.wide s5 (Nat.le_refl _) (Nat.le_refl _)
        clear hk5 hb6 Z6 I5 hm
        go_wp2
        go_ret
        exact ⟨_, rfl, R.out, HK.out⟩

theorem near_hit {d : List It} {ks r : List Int} {k : Nat} (hk : k < d.length) (h : keyZ (d.getD k ([], 0)).1 ks = keyZ r ks) : isNear d ks r = true := by
  unfold isNear
  rw [List.any_eq_true]
  exact ⟨d.getD k ([], 0), by simp [List.getD, hk], decide_eq_true h⟩
theorem near_miss {d : List It} {ks r : List Int} (h : ∀ k, k < d.length → ¬ keyZ (d.getD k ([], 0)).1 ks = keyZ r ks) : isNear d ks r = false := by
  unfold isNear
  rw [List.any_eq_false]
  intro q hq
  obtain ⟨j, hj, e⟩ := mem_getD (d := ([], 0)) hq
  rw [← e]
  simpa using h j hj

set_option maxHeartbeats 4000000 in
theorem l6In_any (v u rv0 : Value) (d : List It) (ks r : List Int) (w : World) (h : ItemsAt w v d) (h2 : IntsAt w u ks) (h3 : IntsAt w rv0 r) (hkd : haveAll d ks = true) (hkr : ∀ k ∈ ks, 0 ≤ k ∧ k < (r.length : Int)) (hl : ks.length ≤ 6) :
    Calls Tryz.prog 72 #[v, u, rv0] w fun e w' => e = .returned (.bool (isNear d ks r)) ∧ Below w.heap.size w w' := by
  have hrow : ∀ k, k < d.length → ∀ q ∈ ks, 0 ≤ q ∧ q < ((d.getD k ([], 0)).1.length : Int) := fun k hk q hq => have_iff.1 hkd q hq _ (by simp [List.getD, hk])
  obtain ⟨c, HC⟩ : ∃ c, Hid (c = isNear d ks r) := ⟨_, rfl⟩
  rw [← HC.out]
  have HK2 : Hid (IntsAt w u ks) := h2
  have HR3 : Hid (IntsAt w rv0 r) := h3
  obtain ⟨ua, un, uc, rfl⟩ := h2.shape
  obtain ⟨qa, qn, qc, rfl⟩ := h3.shape
  clear h2 h3 hkd
  rcases h.cases with ⟨a, cap, rfl, rfl⟩ | ⟨b, off, cap, hpos, hlim, rfl, hbw, hc⟩
  · obtain rfl : c = false := by rw [HC.out]; rfl
    clear h hrow
    go_enter Tryz.func72, Tryz.ntmps72
    go_wp2
    refine wp_loop_rounds 1 ?_
    rw [rounds_succ]
    go_wp2
    go_ret
    exact ⟨rfl, Below.refl _ _⟩
  · clear h
    obtain ⟨n, hn⟩ : ∃ n, n = d.length := ⟨_, rfl⟩
    have HN : Hid (n = d.length) := hn
    rw [← hn] at hpos hlim hc hrow ⊢
    clear hn
    go_enter Tryz.func72, Tryz.ntmps72
    go_wp2
    go_loopw [7] (fun i wr => ∃ k : Nat, k ≤ n ∧ i = .int .i64 k ∧ Hid (∀ j, j < k → ¬ keyZ (d.getD j ([], 0)).1 ks = keyZ r ks) ∧ Hid (Below w.heap.size w wr)) (fun i _ => n - (intOf i).toNat)
    case atStart => exact ⟨0, Nat.zero_le _, rfl, fun j hj => by omega, Below.refl _ _⟩
    case round =>
      obtain ⟨k, hk, rfl, HA, HW⟩ := hrel
      by_cases hlt : k < n
      · have hlt' : k < d.length := by rw [← HN.out]; exact hlt
        have HB := HW.out
        obtain ⟨rv, hrv0, _, hix0⟩ := hc k hlt
        have hrv := (HB.cell (p := ⟨b, off + k * 2, none⟩) hbw).trans hrv0
        have hix := hix0.below HB
        have hr2 := hrow k hlt
        have hhit : keyZ (d.getD k ([], 0)).1 ks = keyZ r ks → c = true := fun h => by rw [HC.out]; exact near_hit hlt' h
        obtain ⟨x, HX⟩ : ∃ x, Hid (x = (d.getD k ([], 0)).1) := ⟨_, rfl⟩
        rw [← HX.out] at hix hr2 hhit
        obtain ⟨xa, xn, xc, rfl⟩ := hix.shape
        clear hc hrow hrv0 hix0
        go_wp2_with fail
        refine (l5Key_any _ _ x ks _ hix (HK2.out.below HB) hr2 hl).mono ?_
        rintro e w2 ⟨v2, rfl, O2, hb2⟩
        have hk2 := below_then HB hb2
        go_wp2_with fail
        refine (l5Key_any _ _ r ks _ (HR3.out.below hk2) (HK2.out.below hk2) hkr hl).mono ?_
        rintro e w3 ⟨v3, rfl, O3, hb3⟩
        have hk3 := below_then hk2 hb3
        have O2' := O2.keep' hb3
        clear O2 hb2 hb3 hk2 hrv hix
        go_wp2_with fail
        refine (specRowSame_any v2 v3 (keyZ x ks) (keyZ r ks) _ O2'.ints O3.ints).mono ?_
        rw [same_iff]
        rintro e w4 ⟨rfl, hb4⟩
        have HK4 : Hid (Below w.heap.size w w4) := below_then hk3 (by first | exact hb4 | exact hb4.below)
        clear O2' O3 hb4 hk3 HB HW
        by_cases hs : keyZ x ks = keyZ r ks
        · obtain rfl := hhit hs
          rw [decide_eq_true hs]
          clear hhit hr2
          go_wp2
          go_ret
          exact ⟨rfl, HK4.out⟩
        · rw [decide_eq_false hs]
          have HA2 : Hid (∀ j, j < k + 1 → ¬ keyZ (d.getD j ([], 0)).1 ks = keyZ r ks) := fun j hj => by
            rcases Nat.lt_succ_iff_lt_or_eq.1 hj with h | h
            · exact HA.out j h
            · rw [h, ← HX.out]; exact hs
          clear hhit hr2
          go_wp2
          go_roundw
          case rel => exact ⟨k + 1, by omega, by go_num, HA2.out, HK4.out⟩
          case measure => simp [intOf]; omega
      · obtain rfl : k = n := by omega
        obtain rfl : c = false := by rw [HC.out]; exact near_miss (fun j hj => HA.out j (by rw [HN.out]; exact hj))
        clear hc hrow
        go_wp2
        go_ret
        exact ⟨rfl, HW.out⟩

set_option maxHeartbeats 8000000 in
theorem l6Near_any (v u kv : Value) (z d : List It) (ks : List Int) (w : World) (h : ItemsAt w v z) (h2 : ItemsAt w u d) (h3 : IntsAt w kv ks) (hz : zOkB z = true) (hkz : haveAll z ks = true) (hkd : haveAll d ks = true) (hl : ks.length ≤ 6) :
    Calls Tryz.prog 34 #[v, u, kv] w fun e w' => ∃ v', e = .returned v' ∧ OwnZ w' w.heap.size w'.heap.size v' (nearZ z d ks) ∧ Below w.heap.size w w' := by
  obtain ⟨i0, hi, hz0, hz1, hz2⟩ := info_parts infoItem
  have hrow : ∀ k, k < z.length → ∀ q ∈ ks, 0 ≤ q ∧ q < ((z.getD k ([], 0)).1.length : Int) := fun k hk q hq => have_iff.1 hkz q hq _ (by simp [List.getD, hk])
  have hrl6 : ∀ k, k < z.length → (z.getD k ([], 0)).1.length ≤ 8796093022208 := (zOk_mild hz).2.1
  have hz100 := zOk_le hz
  have HKD : Hid (haveAll d ks = true) := hkd
  have HD2 : Hid (ItemsAt w u d) := h2
  have HK3 : Hid (IntsAt w kv ks) := h3
  obtain ⟨ka, kn, kc, rfl⟩ := h3.shape
  obtain ⟨da, dc, rfl⟩ : ∃ da dc, u = .slice da d.length dc := by obtain ⟨_, da, dc, hv, _⟩ := h2; exact ⟨da, dc, hv⟩
  clear h2 h3 hkd hz hkz
  rcases h.cases with ⟨a, cap, rfl, rfl⟩ | ⟨b, off, cap, hpos, hlim', rfl, hbw, hc⟩
  · clear h hrow hrl6
    go_enter Tryz.func34, Tryz.ntmps34
    go_wp2
    refine wp_loop_rounds 1 ?_
    rw [rounds_succ]
    go_wp2
    go_ret
    exact ⟨_, rfl, lit_ownZ w, below_alloc _⟩
  · clear h hlim'
    obtain ⟨n, hn⟩ : ∃ n, n = z.length := ⟨_, rfl⟩
    have HN : Hid (n = z.length) := hn
    rw [← hn] at hpos hc hrow hrl6 hz100 ⊢
    clear hn
    go_enter Tryz.func34, Tryz.ntmps34
    go_wp2
    go_loopw [7, 8] (fun s i wr => ∃ (k : Nat), k ≤ n ∧ i = .int .i64 k ∧ Hid (OwnZ wr w.heap.size wr.heap.size s (nearZ (z.take k) d ks)) ∧ Hid (Below w.heap.size w wr)) (fun _ i _ => n - (intOf i).toNat)
    case atStart => exact ⟨0, Nat.zero_le _, rfl, lit_ownZ w, below_alloc _⟩
    case round =>
      obtain ⟨k, hk, rfl, HZ, HW⟩ := hrel
      by_cases hlt : k < n
      · have hlt' : k < z.length := by rw [← HN.out]; exact hlt
        have HB := HW.out
        obtain ⟨rv, hrv0, hwt0, hix0⟩ := hc k hlt
        have hrv := (HB.cell (p := ⟨b, off + k * 2, none⟩) hbw).trans hrv0
        have hix := hix0.below HB
        have hbr : b < wr.heap.size := Nat.lt_of_lt_of_le hbw HB.size
        have hxl := hrl6 k hlt
        have hr2 := hrow k hlt
        have hpl : (nearZ (z.take k) d ks).length ≤ 100 := by have := nearZ_len (z.take k) d ks; rw [List.length_take] at this; omega
        have HT : Hid (nearZ (z.take (k + 1)) d ks = _) := near_take (d := d) (ks := ks) hlt'
        obtain ⟨x, HX⟩ : ∃ x, Hid (x = (z.getD k ([], 0)).1) := ⟨_, rfl⟩
        obtain ⟨y, HY⟩ : ∃ y, Hid (y = (z.getD k ([], 0)).2) := ⟨_, rfl⟩
        rw [← HX.out] at hix hr2 HT hxl hix0
        rw [← HY.out] at hwt0 HT
        obtain ⟨ra, rn, rc, rfl⟩ := hix.shape
        obtain ⟨c, HC⟩ : ∃ c, Hid (c = isNear d ks x) := ⟨_, rfl⟩
        rw [← HC.out] at HT
        clear hc hrow hrl6
        go_wp2_with fail
        refine (l6In_any _ _ _ d ks x _ (HD2.out.below HB) (HK3.out.below HB) hix HKD.out hr2 hl).mono ?_
        rw [← HC.out]
        rintro e w1 ⟨rfl, hb1⟩
        have hk1 := below_then HB hb1
        have Z1 : OwnZ w1 w.heap.size w1.heap.size u7 (nearZ (z.take k) d ks) := (HZ.out.keep' hb1).wide (Nat.le_refl _) hb1.size (Nat.le_refl _)
        have hs1 := hk1.size
        have hrv1 := (hk1.cell (p := ⟨b, off + k * 2, none⟩) hbw).trans hrv0
        have hwt1 := (hk1.cell (p := ⟨b, off + k * 2 + 1, none⟩) hbw).trans hwt0
        have hix1 := hix0.below hk1
        have hbr1 : b < w1.heap.size := Nat.lt_of_lt_of_le hbw hk1.size
        clear hrv hix hb1 HB HW HZ hrv0 hwt0 hix0 hr2
        cases hcc : c with
        | false =>
          have HTT : Hid (nearZ (z.take (k + 1)) d ks = nearZ (z.take k) d ks) := by show _ = _; rw [HT.out, hcc]; simp
          have HZ1 : Hid (OwnZ w1 w.heap.size w1.heap.size u7 (nearZ (z.take k) d ks)) := Z1
          have HK1 : Hid (Below w.heap.size w w1) := hk1
          subst hcc
          clear Z1 hk1 HT hrv1 hwt1 hix1
          go_wp2
          go_roundw
          case rel => exact ⟨k + 1, by omega, by go_num, by show OwnZ _ _ _ _ _; rw [HTT.out]; exact HZ1.out, HK1.out⟩
          case measure => simp [intOf]; omega
        | true =>
          have HTT : Hid (nearZ (z.take (k + 1)) d ks = nearZ (z.take k) d ks ++ [(x, y)]) := by show _ = _; rw [HT.out, hcc]; simp
          subst hcc
          have Z5d : OwnZ w1.drew w.heap.size w1.drew.heap.size u7 (nearZ (z.take k) d ks) := Z1.keep' (Below.drew (Below.refl _ _))
          have hixd : IntsAt w1.drew (.slice ra rn rc) x := hix1.below (Below.drew (Below.refl _ _))
          have hwtd : w1.drew.cell? ⟨b, off + k * 2 + 1, none⟩ = some (.int .i64 y) := hwt1
          have hszw : w.heap.size ≤ w1.drew.heap.size := hs1
          have HBd : Below w.heap.size w w1.drew := hk1.drew
          clear Z1 hk1 HT hix1
          go_wp2
          go_region_law (first
            | (go_simp; go_at_call 73; (refine (l1Copy_any _ x _ hixd hxl).mono ?_; rintro e w2 ⟨rv2, rfl, O2, hk2⟩; obtain ⟨ra2, rn2, rc2, rfl⟩ := O2.ints.shape; have hwt2 := cell_is (p := ⟨b, off + k * 2 + 1, none⟩) hk2 hbr1 hwtd; have hszk := hk2.size; obtain ⟨ps, hpsl, hspW, hprW, hfin⟩ := (Z5d.keep' hk2).ready y O2 (Nat.le_refl _) (by omega) (by omega) (by omega); have hpl2 : ps.length ≤ 100 := (by omega)))
            | ((refine step_append_pairs rfl (.tmp 24) (.tmp 37) 23 rfl w.heap.size 42 i0 Tryz.underlying23 hi hz0 hz1 hz2 u7 ps (by simp [Act.eval]) hspW ⟨w2.heap.size, 0, none⟩ 1 1 [(.slice ra2 rn2 rc2, y)] (by simp [Act.eval]) rfl (news_lit _ _ _ _) (fun p hp => by simp at hp; subst hp; exact ⟨_, _, _, rfl⟩) (by simp; omega) (by simp; omega) ?_; intro v3 w3 hown3 hg3)))
          all_goals
            obtain ⟨Z3, B3⟩ := hfin v3 w3 hown3 hg3
            have HK : Hid (Below w.heap.size w w3) := HBd.trans ((hk2.mono hszw).trans B3)
            clear hfin hown3 hg3 hspW hprW B3 hk2 HBd Z5d hixd O2
            go_wp2
            go_roundw
            case rel => exact ⟨k + 1, by omega, by go_num, by show OwnZ _ _ _ _ _; rw [HTT.out]; exact Z3, HK.out⟩
            case measure => simp [intOf]; omega
      · obtain rfl : k = n := by omega
        have hZ := HZ.out
        rw [HN.out, List.take_length] at hZ
        clear hc hrow hrl6
        go_wp2
        go_ret
        exact ⟨_, rfl, hZ, HW.out⟩

end Go.Proofs.YtfgpdakkbhfiaaaGreatDoor

/-
  The contract of spec.DeltaNear.
-/
namespace Go.Proofs.YtfgpdakkbhfiaaaGreatDoor
set_option maxRecDepth 100000
open Go.RowKit
attribute [local go_sem ↓] Go.wp_at_zero Go.wp_at_succ

set_option maxHeartbeats 4000000 in
theorem specNear_any (v u kv : Value) (z d : List It) (ks : List Int) (w : World) (h : ItemsAt w v z) (h2 : ItemsAt w u d) (h3 : IntsAt w kv ks) :
    Calls Tryz.prog 12 #[v, u, kv] w fun e w' => ∃ v', e = .returned v' ∧ OwnZ w' w.heap.size w'.heap.size v' (nearOut z d ks) ∧ Below w.heap.size w w' := by
  cases hz : zOkB z with
  | false =>
    rw [near_not (by unfold nearOk; rw [hz]; rfl)]
    go_enter Tryz.func12, Tryz.ntmps12
    go_wp2_with fail
    refine (specZOk_any v z _ h).mono ?_
    rw [hz]
    rintro e w1 ⟨rfl, b1⟩
    have k1 := b1.below
    clear b1
    have HK : Hid (Below w.heap.size w w1) := k1
    clear h h2 h3 k1
    go_wp2
    go_ret
    exact ⟨_, rfl, (lit_ownZ w1).wide HK.out.size (Nat.le_refl _) (Nat.le_refl _), below_then HK.out (below_alloc _)⟩
  | true =>
    cases hd : zOkB d with
    | false =>
      rw [near_not (by unfold nearOk; rw [hz, hd]; rfl)]
      go_enter Tryz.func12, Tryz.ntmps12
      go_wp2_with fail
      refine (specZOk_any v z _ h).mono ?_
      rw [hz]
      rintro e w1 ⟨rfl, b1⟩
      have k1 := b1.below
      clear b1
      go_wp2_with fail
      refine (specZOk_any u d _ (h2.below k1)).mono ?_
      rw [hd]
      rintro e w2 ⟨rfl, b2⟩
      have k2 := below_then k1 b2.below
      clear b2 k1
      have HK : Hid (Below w.heap.size w w2) := k2
      clear h h2 h3 k2
      go_wp2
      go_ret
      exact ⟨_, rfl, (lit_ownZ w2).wide HK.out.size (Nat.le_refl _) (Nat.le_refl _), below_then HK.out (below_alloc _)⟩
    | true =>
      cases hk : keysB ks 6 with
      | false =>
        rw [near_not (by unfold nearOk nearCan; rw [hz, hd, hk]; rfl)]
        go_enter Tryz.func12, Tryz.ntmps12
        go_wp2_with fail
        refine (specZOk_any v z _ h).mono ?_
        rw [hz]
        rintro e w1 ⟨rfl, b1⟩
        have k1 := b1.below
        clear b1
        go_wp2_with fail
        refine (specZOk_any u d _ (h2.below k1)).mono ?_
        rw [hd]
        rintro e w2 ⟨rfl, b2⟩
        have k2 := below_then k1 b2.below
        clear b2 k1
        go_wp2_with fail
        refine (l4Keys_any kv ks 6 _ (h3.below k2) (by omega)).mono ?_
        rw [hk]
        rintro e w3 ⟨rfl, b3⟩
        have k3 := below_then k2 b3
        clear b3 k2
        have HK : Hid (Below w.heap.size w w3) := k3
        clear h h2 h3 k3
        go_wp2
        go_ret
        exact ⟨_, rfl, (lit_ownZ w3).wide HK.out.size (Nat.le_refl _) (Nat.le_refl _), below_then HK.out (below_alloc _)⟩
      | true =>
        have hw1 : ∀ k, k < z.length → (z.getD k ([], 0)).1.length ≤ 6 := fun k hk => rowOk_le (zOk_row hz hk).1
        have hw2 : ∀ k, k < d.length → (d.getD k ([], 0)).1.length ≤ 6 := fun k hk => rowOk_le (zOk_row hd hk).1
        have hnc := near_can hz hd hk
        cases f1 : fitsB z ks 0 with
        | false =>
          rw [near_not (by unfold nearOk nearCan; rw [hz, hd, hk]; simp only [Bool.true_and]; rw [← hnc, f1]; rfl)]
          go_enter Tryz.func12, Tryz.ntmps12
          go_wp2_with fail
          refine (specZOk_any v z _ h).mono ?_
          rw [hz]
          rintro e w1 ⟨rfl, b1⟩
          have k1 := b1.below
          clear b1
          go_wp2_with fail
          refine (specZOk_any u d _ (h2.below k1)).mono ?_
          rw [hd]
          rintro e w2 ⟨rfl, b2⟩
          have k2 := below_then k1 b2.below
          clear b2 k1
          go_wp2_with fail
          refine (l4Keys_any kv ks 6 _ (h3.below k2) (by omega)).mono ?_
          rw [hk]
          rintro e w3 ⟨rfl, b3⟩
          have k3 := below_then k2 b3
          clear b3 k2
          go_wp2_with fail
          refine (l5Fits_any v kv z ks 0 _ (h.below k3) (h3.below k3) hw1).mono ?_
          rw [f1]
          rintro e w4 ⟨rfl, b4⟩
          have k4 := below_then k3 b4
          clear b4 k3
          have HK : Hid (Below w.heap.size w w4) := k4
          clear h h2 h3 k4
          go_wp2
          go_ret
          exact ⟨_, rfl, (lit_ownZ w4).wide HK.out.size (Nat.le_refl _) (Nat.le_refl _), below_then HK.out (below_alloc _)⟩
        | true =>
          cases f2 : fitsB d ks 0 with
          | false =>
            rw [near_not (by unfold nearOk nearCan; rw [hz, hd, hk]; simp only [Bool.true_and]; rw [← hnc, f1, f2]; rfl)]
            go_enter Tryz.func12, Tryz.ntmps12
            go_wp2_with fail
            refine (specZOk_any v z _ h).mono ?_
            rw [hz]
            rintro e w1 ⟨rfl, b1⟩
            have k1 := b1.below
            clear b1
            go_wp2_with fail
            refine (specZOk_any u d _ (h2.below k1)).mono ?_
            rw [hd]
            rintro e w2 ⟨rfl, b2⟩
            have k2 := below_then k1 b2.below
            clear b2 k1
            go_wp2_with fail
            refine (l4Keys_any kv ks 6 _ (h3.below k2) (by omega)).mono ?_
            rw [hk]
            rintro e w3 ⟨rfl, b3⟩
            have k3 := below_then k2 b3
            clear b3 k2
            go_wp2_with fail
            refine (l5Fits_any v kv z ks 0 _ (h.below k3) (h3.below k3) hw1).mono ?_
            rw [f1]
            rintro e w4 ⟨rfl, b4⟩
            have k4 := below_then k3 b4
            clear b4 k3
            go_wp2_with fail
            refine (l5Fits_any u kv d ks 0 _ (h2.below k4) (h3.below k4) hw2).mono ?_
            rw [f2]
            rintro e w5 ⟨rfl, b5⟩
            have k5 := below_then k4 b5
            clear b5 k4
            have HK : Hid (Below w.heap.size w w5) := k5
            clear h h2 h3 k5
            go_wp2
            go_ret
            exact ⟨_, rfl, (lit_ownZ w5).wide HK.out.size (Nat.le_refl _) (Nat.le_refl _), below_then HK.out (below_alloc _)⟩
          | true =>
            have hcan : nearCan z d ks = true := by unfold nearCan; rw [hk, Bool.true_and, ← hnc, f1, f2]; rfl
            obtain ⟨_, hkz, hkd⟩ := near_parts hcan
            have hl : ks.length ≤ 6 := by have := (keys_parts hk).1; omega
            have e0 : nearOut z d ks = nearZ z d ks := by unfold nearOut nearOk; rw [hz, hd, hcan]; rfl
            rw [e0]
            clear e0 hcan hnc
            go_enter Tryz.func12, Tryz.ntmps12
            go_wp2_with fail
            refine (specZOk_any v z _ h).mono ?_
            rw [hz]
            rintro e w1 ⟨rfl, b1⟩
            have k1 := b1.below
            clear b1
            go_wp2_with fail
            refine (specZOk_any u d _ (h2.below k1)).mono ?_
            rw [hd]
            rintro e w2 ⟨rfl, b2⟩
            have k2 := below_then k1 b2.below
            clear b2 k1
            go_wp2_with fail
            refine (l4Keys_any kv ks 6 _ (h3.below k2) (by omega)).mono ?_
            rw [hk]
            rintro e w3 ⟨rfl, b3⟩
            have k3 := below_then k2 b3
            clear b3 k2
            go_wp2_with fail
            refine (l5Fits_any v kv z ks 0 _ (h.below k3) (h3.below k3) hw1).mono ?_
            rw [f1]
            rintro e w4 ⟨rfl, b4⟩
            have k4 := below_then k3 b4
            clear b4 k3
            go_wp2_with fail
            refine (l5Fits_any u kv d ks 0 _ (h2.below k4) (h3.below k4) hw2).mono ?_
            rw [f2]
            rintro e w5 ⟨rfl, b5⟩
            have k5 := below_then k4 b5
            clear b5 k4
            have s5 := k5.size
            go_wp2_with fail
            refine (l6Near_any v u kv z d ks _ (h.below k5) (h2.below k5) (h3.below k5) hz hkz hkd hl).mono ?_
            rintro e w6 ⟨v6, rfl, Z6, b6⟩
            have HK : Hid (Below w.heap.size w w6) := below_then k5 b6
            have R : Hid (OwnZ w6 w.heap.size w6.heap.size v6 (nearZ z d ks)) := Z6.wide s5 (Nat.le_refl _) (Nat.le_refl _)
            clear k5 b6 Z6 h h2 h3
            go_wp2
            go_ret
            exact ⟨_, rfl, R.out, HK.out⟩
end Go.Proofs.YtfgpdakkbhfiaaaGreatDoor

/-
  Plain facts on groups: the items that are there whose cells at the keys are so, and what is reckoned of them.
-/
namespace Go.Proofs.YtfgpdakkbhfiaaaGreatDoor

def cntG : List It → Int
  | [] => 0
  | p :: g => p.2 + cntG g
def sumC (col : Nat) : List It → Int
  | [] => 0
  | p :: g => p.2 * p.1.getD col 0 + sumC col g
def leastC (col : Nat) : List It → Int
  | [] => 0
  | p :: g => g.foldl (fun n q => min n (q.1.getD col 0)) (p.1.getD col 0)
def mostC (col : Nat) : List It → Int
  | [] => 0
  | p :: g => g.foldl (fun n q => max n (q.1.getD col 0)) (p.1.getD col 0)
def aggB (agg : Int) : Bool := decide (0 ≤ agg ∧ agg ≤ 3)
def aggZ (agg : Int) (col : Nat) (g : List It) : Int := if agg = 0 then cntG g else if agg = 1 then sumC col g else if agg = 2 then leastC col g else mostC col g
theorem cntG_app : ∀ (a b : List It), cntG (a ++ b) = cntG a + cntG b
  | [], b => by simp [cntG]
  | p :: a, b => by rw [List.cons_append, cntG, cntG, cntG_app a]; omega
theorem sumC_app (col : Nat) : ∀ (a b : List It), sumC col (a ++ b) = sumC col a + sumC col b
  | [], b => by simp [sumC]
  | p :: a, b => by rw [List.cons_append, sumC, sumC, sumC_app col a]; omega
theorem take_one {g : List It} {k : Nat} (hk : k < g.length) : g.take (k + 1) = g.take k ++ [g.getD k ([], 0)] := by
  rw [List.take_succ_eq_append_getElem hk]
  simp [List.getD, hk]
theorem cnt_step {g : List It} {k : Nat} (hk : k < g.length) : cntG (g.take (k + 1)) = cntG (g.take k) + (g.getD k ([], 0)).2 := by
  rw [take_one hk, cntG_app]; simp [cntG]
theorem sum_step {col : Nat} {g : List It} {k : Nat} (hk : k < g.length) : sumC col (g.take (k + 1)) = sumC col (g.take k) + (g.getD k ([], 0)).2 * (g.getD k ([], 0)).1.getD col 0 := by
  rw [take_one hk, sumC_app]; simp [sumC]
theorem least_one {col : Nat} {g : List It} (hk : 0 < g.length) : leastC col (g.take 1) = (g.getD 0 ([], 0)).1.getD col 0 := by
  match g with
  | p :: g => simp [leastC]
theorem most_one {col : Nat} {g : List It} (hk : 0 < g.length) : mostC col (g.take 1) = (g.getD 0 ([], 0)).1.getD col 0 := by
  match g with
  | p :: g => simp [mostC]
theorem least_step {col : Nat} {g : List It} {k : Nat} (hk : k < g.length) (h0 : 0 < k) : leastC col (g.take (k + 1)) = min (leastC col (g.take k)) ((g.getD k ([], 0)).1.getD col 0) := by
  rw [take_one hk]
  match g, k with
  | p :: g, k + 1 => simp [leastC, List.foldl_append]
theorem most_step {col : Nat} {g : List It} {k : Nat} (hk : k < g.length) (h0 : 0 < k) : mostC col (g.take (k + 1)) = max (mostC col (g.take k)) ((g.getD k ([], 0)).1.getD col 0) := by
  rw [take_one hk]
  match g, k with
  | p :: g, k + 1 => simp [mostC, List.foldl_append]
/-- Items of a group: few, small, and each has the place. -/
def Fine (g : List It) (col : Nat) : Prop := g.length ≤ 100 ∧ ∀ p ∈ g, (-10000 ≤ p.2 ∧ p.2 ≤ 10000) ∧ col < p.1.length ∧ (-1000000000 ≤ p.1.getD col 0 ∧ p.1.getD col 0 ≤ 1000000000)
theorem Fine.at {g : List It} {col : Nat} (h : Fine g col) {k : Nat} (hk : k < g.length) : (-10000 ≤ (g.getD k ([], 0)).2 ∧ (g.getD k ([], 0)).2 ≤ 10000) ∧ col < (g.getD k ([], 0)).1.length ∧ (-1000000000 ≤ (g.getD k ([], 0)).1.getD col 0 ∧ (g.getD k ([], 0)).1.getD col 0 ≤ 1000000000) :=
  h.2 _ (by simp [List.getD, hk])
theorem cnt_in {g : List It} {col : Nat} (h : Fine g col) : ∀ k, k ≤ g.length → -(10000 * (k : Int)) ≤ cntG (g.take k) ∧ cntG (g.take k) ≤ 10000 * (k : Int)
  | 0, _ => by simp [cntG]
  | k + 1, hk => by
    have ih := cnt_in h k (by omega)
    have h1 := (h.at (show k < g.length by omega)).1
    rw [cnt_step (show k < g.length by omega)]
    omega
theorem sum_in {g : List It} {col : Nat} (h : Fine g col) : ∀ k, k ≤ g.length → -(10000000000000 * (k : Int)) ≤ sumC col (g.take k) ∧ sumC col (g.take k) ≤ 10000000000000 * (k : Int)
  | 0, _ => by simp [sumC]
  | k + 1, hk => by
    have ih := sum_in h k (by omega)
    have h1 := h.at (show k < g.length by omega)
    have h2 := mul_in (A := 10000) (B := 1000000000) h1.1 h1.2.2 (by omega) (by omega)
    rw [sum_step (show k < g.length by omega)]
    omega

end Go.Proofs.YtfgpdakkbhfiaaaGreatDoor

/-
  The contracts of the totals of a group (impl.countTotal, sumTotal, leastTotal, mostTotal), spec.l5Agg, impl.cellFits and spec.l1Cell.
-/
namespace Go.Proofs.YtfgpdakkbhfiaaaGreatDoor
set_option maxRecDepth 100000
open Go.RowKit
attribute [local go_sem ↓] Go.wp_at_zero Go.wp_at_succ

theorem reti {a b : Int} (h : a = b) : Ending.returned (.int .i64 a) = Ending.returned (.int .i64 b) := by rw [h]
theorem nil_of_len {g : List It} (h : ¬ 0 < g.length) : g = [] := List.length_eq_zero_iff.1 (by omega)
theorem upto_one {col : Nat} {g : List It} {k : Nat} (hk : k < g.length) : leastC col (g.take (max (k + 1) 1)) = min (leastC col (g.take (max k 1))) ((g.getD k ([], 0)).1.getD col 0) := by
  rcases Nat.eq_zero_or_pos k with h | h
  · subst h
    show leastC col (g.take 1) = min (leastC col (g.take 1)) _
    rw [least_one hk]; omega
  · rw [show max (k + 1) 1 = k + 1 by omega, show max k 1 = k by omega, least_step hk h]
theorem upto_oneM {col : Nat} {g : List It} {k : Nat} (hk : k < g.length) : mostC col (g.take (max (k + 1) 1)) = max (mostC col (g.take (max k 1))) ((g.getD k ([], 0)).1.getD col 0) := by
  rcases Nat.eq_zero_or_pos k with h | h
  · subst h
    show mostC col (g.take 1) = max (mostC col (g.take 1)) _
    rw [most_one hk]; omega
  · rw [show max (k + 1) 1 = k + 1 by omega, show max k 1 = k by omega, most_step hk h]
theorem ints_at {w : World} {rv : Value} {x : List Int} (h : IntsAt w rv x) {col : Nat} (hc : col < x.length) : ∃ b off cap, rv = .slice (some ⟨b, off, none⟩) x.length cap ∧ b < w.heap.size ∧ w.cell? ⟨b, off + col, none⟩ = some (.int .i64 (x.getD col 0)) := by
  rcases h.cases with ⟨a, cap, rfl, rfl⟩ | ⟨b, off, cap, _, _, rfl, hb, hcell⟩
  · simp at hc
  · exact ⟨b, off, cap, rfl, hb, hcell col hc⟩
set_option maxHeartbeats 4000000 in
theorem count_any (u rc : Value) (g : List It) (col : Nat) (w : World) (h : ItemsAt w u g) (hf : Fine g col) (hpos : 0 < g.length) (hrc : rc = .agg #[]) :
    Calls Tryz.prog 150 #[rc, u, .int .i64 col] w fun e w' => e = .returned (.int .i64 (cntG g)) ∧ Below w.heap.size w w' := by
  subst hrc
  rcases h.cases with ⟨a, cap, rfl, rfl⟩ | ⟨b, off, cap, _, hlim, rfl, hbw, hc⟩
  · simp at hpos
  · clear h
    obtain ⟨n, hn⟩ : ∃ n, n = g.length := ⟨_, rfl⟩
    have HN : Hid (n = g.length) := hn
    have hn100 : n ≤ 100 := by rw [hn]; exact hf.1
    rw [← hn] at hpos hlim hc ⊢
    have HF : Hid (Fine g col) := hf
    clear hn hf
    go_enter Tryz.func150, Tryz.ntmps150
    go_wp2
    go_loopw [7, 12] (fun s i wr => ∃ k : Nat, k ≤ n ∧ i = .int .i64 k ∧ s = .int .i64 (cntG (g.take k)) ∧ Hid (Below w.heap.size w wr)) (fun _ i _ => n - (intOf i).toNat)
    case atStart => exact ⟨0, Nat.zero_le _, rfl, by simp [cntG], below_alloc _⟩
    case round =>
      obtain ⟨k, hk, rfl, rfl, HW⟩ := hrel
      by_cases hlt : k < n
      · have hlt' : k < g.length := by rw [← HN.out]; exact hlt
        have HB := HW.out
        obtain ⟨rv, hrv0, hwt0, hix0⟩ := hc k hlt
        obtain ⟨b1, o1, cp1, rfl, hb1, hx0⟩ := ints_at hix0 (HF.out.at hlt').2.1
        have hrv := (HB.cell (p := ⟨b, off + k * 2, none⟩) hbw).trans hrv0
        have hwt := (HB.cell (p := ⟨b, off + k * 2 + 1, none⟩) hbw).trans hwt0
        have hx := (HB.cell (p := ⟨b1, o1 + col, none⟩) hb1).trans hx0
        have hb1r : b1 < wr.heap.size := Nat.lt_of_lt_of_le hb1 HB.size
        have hfk := HF.out.at hlt'
        have HS : Hid (cntG (g.take (k + 1)) = cntG (g.take k) + (g.getD k ([], 0)).2) := cnt_step hlt'
        have hin := cnt_in HF.out k (by omega)
        obtain ⟨m, HM⟩ : ∃ m, Hid (m = (g.getD k ([], 0)).1.length) := ⟨_, rfl⟩
        obtain ⟨y, HY⟩ : ∃ y, Hid (y = (g.getD k ([], 0)).2) := ⟨_, rfl⟩
        obtain ⟨z, HZ⟩ : ∃ z, Hid (z = (g.getD k ([], 0)).1.getD col 0) := ⟨_, rfl⟩
        obtain ⟨s0, HS0⟩ : ∃ s, Hid (s = cntG (g.take k)) := ⟨_, rfl⟩
        rw [← HM.out] at hrv hfk
        rw [← HY.out] at hwt hfk HS
        rw [← HZ.out] at hx hfk
        rw [← HS0.out] at HS hin ⊢
        clear hrv0 hwt0 hix0 hx0 hc
        have hwrap : IntKind.i64.wrap (s0 + y) = s0 + y := by rw [IntKind.wrap_i64]; omega
        go_wp2
        go_roundw
        case rel => exact ⟨k + 1, by omega, by go_num, by rw [HS.out], below_then HW.out (below_alloc _)⟩
        case measure => simp [intOf]; omega
      · obtain rfl : k = n := by omega
        have HE : Hid (cntG (g.take k) = cntG g) := by
          show _ = _
          rw [HN.out, List.take_length]
        obtain ⟨s0, HS0⟩ : ∃ s, Hid (s = cntG (g.take k)) := ⟨_, rfl⟩
        rw [← HS0.out] at HE ⊢
        clear hc
        go_wp2
        go_ret
        exact ⟨reti HE.out, HW.out⟩
set_option maxHeartbeats 4000000 in
theorem sum_any (u rc : Value) (g : List It) (col : Nat) (w : World) (h : ItemsAt w u g) (hf : Fine g col) (hpos : 0 < g.length) (hrc : rc = .agg #[]) :
    Calls Tryz.prog 151 #[rc, u, .int .i64 col] w fun e w' => e = .returned (.int .i64 (sumC col g)) ∧ Below w.heap.size w w' := by
  subst hrc
  rcases h.cases with ⟨a, cap, rfl, rfl⟩ | ⟨b, off, cap, _, hlim, rfl, hbw, hc⟩
  · simp at hpos
  · clear h
    obtain ⟨n, hn⟩ : ∃ n, n = g.length := ⟨_, rfl⟩
    have HN : Hid (n = g.length) := hn
    have hn100 : n ≤ 100 := by rw [hn]; exact hf.1
    rw [← hn] at hpos hlim hc ⊢
    have HF : Hid (Fine g col) := hf
    clear hn hf
    go_enter Tryz.func151, Tryz.ntmps151
    go_wp2
    go_loopw [7, 12] (fun s i wr => ∃ k : Nat, k ≤ n ∧ i = .int .i64 k ∧ s = .int .i64 (sumC col (g.take k)) ∧ Hid (Below w.heap.size w wr)) (fun _ i _ => n - (intOf i).toNat)
    case atStart => exact ⟨0, Nat.zero_le _, rfl, by simp [sumC], below_alloc _⟩
    case round =>
      obtain ⟨k, hk, rfl, rfl, HW⟩ := hrel
      by_cases hlt : k < n
      · have hlt' : k < g.length := by rw [← HN.out]; exact hlt
        have HB := HW.out
        obtain ⟨rv, hrv0, hwt0, hix0⟩ := hc k hlt
        obtain ⟨b1, o1, cp1, rfl, hb1, hx0⟩ := ints_at hix0 (HF.out.at hlt').2.1
        have hrv := (HB.cell (p := ⟨b, off + k * 2, none⟩) hbw).trans hrv0
        have hwt := (HB.cell (p := ⟨b, off + k * 2 + 1, none⟩) hbw).trans hwt0
        have hx := (HB.cell (p := ⟨b1, o1 + col, none⟩) hb1).trans hx0
        have hb1r : b1 < wr.heap.size := Nat.lt_of_lt_of_le hb1 HB.size
        have hfk := HF.out.at hlt'
        have HS : Hid (sumC col (g.take (k + 1)) = sumC col (g.take k) + (g.getD k ([], 0)).2 * (g.getD k ([], 0)).1.getD col 0) := sum_step hlt'
        have hin := sum_in HF.out k (by omega)
        obtain ⟨m, HM⟩ : ∃ m, Hid (m = (g.getD k ([], 0)).1.length) := ⟨_, rfl⟩
        obtain ⟨y, HY⟩ : ∃ y, Hid (y = (g.getD k ([], 0)).2) := ⟨_, rfl⟩
        obtain ⟨z, HZ⟩ : ∃ z, Hid (z = (g.getD k ([], 0)).1.getD col 0) := ⟨_, rfl⟩
        obtain ⟨s0, HS0⟩ : ∃ s, Hid (s = sumC col (g.take k)) := ⟨_, rfl⟩
        rw [← HM.out] at hrv hfk
        rw [← HY.out] at hwt hfk HS
        rw [← HZ.out] at hx hfk HS
        rw [← HS0.out] at HS hin ⊢
        clear hrv0 hwt0 hix0 hx0 hc
        have hml := mul_in (A := 1000000000) (B := 10000) hfk.2.2 hfk.1 (by omega) (by omega)
        have hcm : z * y = y * z := Int.mul_comm _ _
        have hwrap1 : IntKind.i64.wrap (z * y) = z * y := by rw [IntKind.wrap_i64]; omega
        have hwrap : IntKind.i64.wrap (s0 + z * y) = s0 + z * y := by rw [IntKind.wrap_i64]; omega
        rw [← hcm] at HS
        have hcl : col < m := hfk.2.1
        clear hcm hml
        go_wp2
        go_quiet (fail)
        go_wp2
        go_roundw
        case rel => exact ⟨k + 1, by omega, by go_num, by rw [HS.out], below_drewN (below_then HW.out (below_alloc _)) _⟩
        case measure => simp [intOf]; omega
      · obtain rfl : k = n := by omega
        have HE : Hid (sumC col (g.take k) = sumC col g) := by
          show _ = _
          rw [HN.out, List.take_length]
        obtain ⟨s0, HS0⟩ : ∃ s, Hid (s = sumC col (g.take k)) := ⟨_, rfl⟩
        rw [← HS0.out] at HE ⊢
        clear hc
        go_wp2
        go_ret
        exact ⟨reti HE.out, HW.out⟩
set_option maxHeartbeats 4000000 in
theorem least_any (u rc : Value) (g : List It) (col : Nat) (w : World) (h : ItemsAt w u g) (hf : Fine g col) (hpos : 0 < g.length) (hrc : rc = .agg #[]) :
    Calls Tryz.prog 152 #[rc, u, .int .i64 col] w fun e w' => e = .returned (.int .i64 (leastC col g)) ∧ Below w.heap.size w w' := by
  subst hrc
  rcases h.cases with ⟨a, cap, rfl, rfl⟩ | ⟨b, off, cap, _, hlim, rfl, hbw, hc⟩
  · simp at hpos
  · clear h
    obtain ⟨n, hn⟩ : ∃ n, n = g.length := ⟨_, rfl⟩
    have HN : Hid (n = g.length) := hn
    have hn100 : n ≤ 100 := by rw [hn]; exact hf.1
    rw [← hn] at hpos hlim hc ⊢
    have HF : Hid (Fine g col) := hf
    clear hn hf
    obtain ⟨rv0, d0, _, dix⟩ := hc 0 hpos
    have hp0 : 0 < g.length := by rw [← HN.out]; exact hpos
    obtain ⟨b0, o0, cp0, rfl, hb0, d1⟩ := ints_at dix (HF.out.at hp0).2.1
    have HV0 : Hid (leastC col (g.take (max 0 1)) = (g.getD 0 ([], 0)).1.getD col 0) := least_one hp0
    obtain ⟨m0, HM0⟩ : ∃ m, Hid (m = (g.getD 0 ([], 0)).1.length) := ⟨_, rfl⟩
    have hcm0 : col < m0 := by rw [HM0.out]; exact (HF.out.at hp0).2.1
    obtain ⟨v0, HV⟩ : ∃ v, Hid (v = (g.getD 0 ([], 0)).1.getD col 0) := ⟨_, rfl⟩
    rw [← HM0.out] at d0
    rw [← HV.out] at d1 HV0
    simp only [Nat.zero_mul, Nat.add_zero] at d0
    have hnI : (0 : Int) < (n : Int) := by omega
    have hbx : Below w.heap.size w (w.alloc (.cells #[] 99)) := below_alloc _
    go_enter Tryz.func152, Tryz.ntmps152
    go_wp2
    go_loopw [7, 19] (fun s i wr => ∃ k : Nat, k ≤ n ∧ i = .int .i64 k ∧ s = .int .i64 (leastC col (g.take (max k 1))) ∧ Hid (Below w.heap.size w wr)) (fun _ i _ => n - (intOf i).toNat)
    case atStart => exact ⟨0, Nat.zero_le _, rfl, by rw [HV0.out], below_alloc _⟩
    case round =>
      obtain ⟨k, hk, rfl, rfl, HW⟩ := hrel
      by_cases hlt : k < n
      · have hlt' : k < g.length := by rw [← HN.out]; exact hlt
        have HB := HW.out
        obtain ⟨rv, hrv0, hwt0, hix0⟩ := hc k hlt
        obtain ⟨b1, o1, cp1, rfl, hb1, hx0⟩ := ints_at hix0 (HF.out.at hlt').2.1
        have hrv := (HB.cell (p := ⟨b, off + k * 2, none⟩) hbw).trans hrv0
        have hwt := (HB.cell (p := ⟨b, off + k * 2 + 1, none⟩) hbw).trans hwt0
        have hx := (HB.cell (p := ⟨b1, o1 + col, none⟩) hb1).trans hx0
        have hb1r : b1 < wr.heap.size := Nat.lt_of_lt_of_le hb1 HB.size
        have hfk := HF.out.at hlt'
        have HS : Hid (leastC col (g.take (max (k + 1) 1)) = min (leastC col (g.take (max k 1))) ((g.getD k ([], 0)).1.getD col 0)) := upto_one hlt'
        have hin := hfk
        obtain ⟨m, HM⟩ : ∃ m, Hid (m = (g.getD k ([], 0)).1.length) := ⟨_, rfl⟩
        obtain ⟨y, HY⟩ : ∃ y, Hid (y = (g.getD k ([], 0)).2) := ⟨_, rfl⟩
        obtain ⟨z, HZ⟩ : ∃ z, Hid (z = (g.getD k ([], 0)).1.getD col 0) := ⟨_, rfl⟩
        obtain ⟨s0, HS0⟩ : ∃ s, Hid (s = leastC col (g.take (max k 1))) := ⟨_, rfl⟩
        rw [← HM.out] at hrv hfk
        rw [← HY.out] at hwt hfk
        rw [← HZ.out] at hx hfk HS
        rw [← HS0.out] at HS ⊢
        clear hrv0 hwt0 hix0 hx0 hc
        have hcl : col < m := hfk.2.1
        go_wp2
        go_roundw
        case rel => exact ⟨k + 1, by omega, by go_num, by rw [HS.out]; first | rfl | (simp; omega) | skip, below_then HW.out (below_alloc _)⟩
        case measure => simp [intOf]; omega
      · obtain rfl : k = n := by omega
        have HE : Hid (leastC col (g.take (max k 1)) = leastC col g) := by
          show _ = _
          rw [show max k 1 = k by omega, HN.out, List.take_length]
        obtain ⟨s0, HS0⟩ : ∃ s, Hid (s = leastC col (g.take (max k 1))) := ⟨_, rfl⟩
        rw [← HS0.out] at HE ⊢
        clear hc
        go_wp2
        go_ret
        exact ⟨reti HE.out, HW.out⟩
set_option maxHeartbeats 4000000 in
theorem most_any (u rc : Value) (g : List It) (col : Nat) (w : World) (h : ItemsAt w u g) (hf : Fine g col) (hpos : 0 < g.length) (hrc : rc = .agg #[]) :
    Calls Tryz.prog 153 #[rc, u, .int .i64 col] w fun e w' => e = .returned (.int .i64 (mostC col g)) ∧ Below w.heap.size w w' := by
  subst hrc
  rcases h.cases with ⟨a, cap, rfl, rfl⟩ | ⟨b, off, cap, _, hlim, rfl, hbw, hc⟩
  · simp at hpos
  · clear h
    obtain ⟨n, hn⟩ : ∃ n, n = g.length := ⟨_, rfl⟩
    have HN : Hid (n = g.length) := hn
    have hn100 : n ≤ 100 := by rw [hn]; exact hf.1
    rw [← hn] at hpos hlim hc ⊢
    have HF : Hid (Fine g col) := hf
    clear hn hf
    obtain ⟨rv0, d0, _, dix⟩ := hc 0 hpos
    have hp0 : 0 < g.length := by rw [← HN.out]; exact hpos
    obtain ⟨b0, o0, cp0, rfl, hb0, d1⟩ := ints_at dix (HF.out.at hp0).2.1
    have HV0 : Hid (mostC col (g.take (max 0 1)) = (g.getD 0 ([], 0)).1.getD col 0) := most_one hp0
    obtain ⟨m0, HM0⟩ : ∃ m, Hid (m = (g.getD 0 ([], 0)).1.length) := ⟨_, rfl⟩
    have hcm0 : col < m0 := by rw [HM0.out]; exact (HF.out.at hp0).2.1
    obtain ⟨v0, HV⟩ : ∃ v, Hid (v = (g.getD 0 ([], 0)).1.getD col 0) := ⟨_, rfl⟩
    rw [← HM0.out] at d0
    rw [← HV.out] at d1 HV0
    simp only [Nat.zero_mul, Nat.add_zero] at d0
    have hnI : (0 : Int) < (n : Int) := by omega
    have hbx : Below w.heap.size w (w.alloc (.cells #[] 100)) := below_alloc _
    go_enter Tryz.func153, Tryz.ntmps153
    go_wp2
    go_loopw [7, 19] (fun s i wr => ∃ k : Nat, k ≤ n ∧ i = .int .i64 k ∧ s = .int .i64 (mostC col (g.take (max k 1))) ∧ Hid (Below w.heap.size w wr)) (fun _ i _ => n - (intOf i).toNat)
    case atStart => exact ⟨0, Nat.zero_le _, rfl, by rw [HV0.out], below_alloc _⟩
    case round =>
      obtain ⟨k, hk, rfl, rfl, HW⟩ := hrel
      by_cases hlt : k < n
      · have hlt' : k < g.length := by rw [← HN.out]; exact hlt
        have HB := HW.out
        obtain ⟨rv, hrv0, hwt0, hix0⟩ := hc k hlt
        obtain ⟨b1, o1, cp1, rfl, hb1, hx0⟩ := ints_at hix0 (HF.out.at hlt').2.1
        have hrv := (HB.cell (p := ⟨b, off + k * 2, none⟩) hbw).trans hrv0
        have hwt := (HB.cell (p := ⟨b, off + k * 2 + 1, none⟩) hbw).trans hwt0
        have hx := (HB.cell (p := ⟨b1, o1 + col, none⟩) hb1).trans hx0
        have hb1r : b1 < wr.heap.size := Nat.lt_of_lt_of_le hb1 HB.size
        have hfk := HF.out.at hlt'
        have HS : Hid (mostC col (g.take (max (k + 1) 1)) = max (mostC col (g.take (max k 1))) ((g.getD k ([], 0)).1.getD col 0)) := upto_oneM hlt'
        have hin := hfk
        obtain ⟨m, HM⟩ : ∃ m, Hid (m = (g.getD k ([], 0)).1.length) := ⟨_, rfl⟩
        obtain ⟨y, HY⟩ : ∃ y, Hid (y = (g.getD k ([], 0)).2) := ⟨_, rfl⟩
        obtain ⟨z, HZ⟩ : ∃ z, Hid (z = (g.getD k ([], 0)).1.getD col 0) := ⟨_, rfl⟩
        obtain ⟨s0, HS0⟩ : ∃ s, Hid (s = mostC col (g.take (max k 1))) := ⟨_, rfl⟩
        rw [← HM.out] at hrv hfk
        rw [← HY.out] at hwt hfk
        rw [← HZ.out] at hx hfk HS
        rw [← HS0.out] at HS ⊢
        clear hrv0 hwt0 hix0 hx0 hc
        have hcl : col < m := hfk.2.1
        go_wp2
        go_roundw
        case rel => exact ⟨k + 1, by omega, by go_num, by rw [HS.out]; first | rfl | (simp; omega) | skip, below_then HW.out (below_alloc _)⟩
        case measure => simp [intOf]; omega
      · obtain rfl : k = n := by omega
        have HE : Hid (mostC col (g.take (max k 1)) = mostC col g) := by
          show _ = _
          rw [show max k 1 = k by omega, HN.out, List.take_length]
        obtain ⟨s0, HS0⟩ : ∃ s, Hid (s = mostC col (g.take (max k 1))) := ⟨_, rfl⟩
        rw [← HS0.out] at HE ⊢
        clear hc
        go_wp2
        go_ret
        exact ⟨reti HE.out, HW.out⟩
end Go.Proofs.YtfgpdakkbhfiaaaGreatDoor

/-
  The contracts of spec.l5Agg and spec.l5Of: what is reckoned of a group; the items of a group.
-/
namespace Go.Proofs.YtfgpdakkbhfiaaaGreatDoor
set_option maxRecDepth 100000
open Go.RowKit
attribute [local go_sem ↓] Go.wp_at_zero Go.wp_at_succ

/-- The items that are there whose cells at the keys are so. -/
def grpZ (z : List It) (ks key : List Int) : List It := z.filter fun p => decide (0 < p.2) && decide (keyZ p.1 ks = key)
theorem grp_take {z : List It} {ks key : List Int} {k : Nat} (hk : k < z.length) : grpZ (z.take (k + 1)) ks key = grpZ (z.take k) ks key ++ (if decide (0 < (z.getD k ([], 0)).2) && decide (keyZ (z.getD k ([], 0)).1 ks = key) then [((z.getD k ([], 0)).1, (z.getD k ([], 0)).2)] else []) := by
  unfold grpZ
  have e : z.getD k ([], 0) = z[k] := by simp [List.getD, hk]
  rw [List.take_succ_eq_append_getElem hk, List.filter_append, e, List.filter_cons, List.filter_nil]
theorem grpZ_len (z : List It) (ks key : List Int) : (grpZ z ks key).length ≤ z.length := List.length_filter_le _ _
set_option maxHeartbeats 4000000 in
theorem l5Agg_0 (u : Value) (g : List It) (col : Nat) (w : World) (h : ItemsAt w u g) (hf : Fine g col) (hpos : 0 < g.length) :
    Calls Tryz.prog 68 #[u, .int .i64 0, .int .i64 col] w fun e w' => e = .returned (.int .i64 (cntG g)) ∧ w' = w := by
  rcases h.cases with ⟨a, cap, rfl, rfl⟩ | ⟨b, off, cap, _, hlim, rfl, hbw, hc⟩
  · simp at hpos
  · clear h
    obtain ⟨n, hn⟩ : ∃ n, n = g.length := ⟨_, rfl⟩
    have HN : Hid (n = g.length) := hn
    have hn100 : n ≤ 100 := by rw [hn]; exact hf.1
    rw [← hn] at hpos hlim hc ⊢
    have HF : Hid (Fine g col) := hf
    clear hn hf
    go_enter Tryz.func68, Tryz.ntmps68
    go_wp2
    go_loopw [7, 8] (fun s i wr => ∃ k : Nat, k ≤ n ∧ i = .int .i64 k ∧ s = .int .i64 (cntG (g.take k)) ∧ wr = w) (fun _ i _ => n - (intOf i).toNat)
    case atStart => exact ⟨0, Nat.zero_le _, rfl, by simp [cntG], rfl⟩
    case round =>
      obtain ⟨k, hk, rfl, rfl, rfl⟩ := hrel
      by_cases hlt : k < n
      · have hlt' : k < g.length := by rw [← HN.out]; exact hlt
        obtain ⟨rv, hrv, hwt, hix⟩ := hc k hlt
        obtain ⟨b1, o1, cp1, rfl, hb1, hx⟩ := ints_at hix (HF.out.at hlt').2.1
        have hfk := HF.out.at hlt'
        have HS : Hid (cntG (g.take (k + 1)) = cntG (g.take k) + (g.getD k ([], 0)).2) := cnt_step hlt'
        have hin := cnt_in HF.out k (by omega)
        obtain ⟨m, HM⟩ : ∃ m, Hid (m = (g.getD k ([], 0)).1.length) := ⟨_, rfl⟩
        obtain ⟨y, HY⟩ : ∃ y, Hid (y = (g.getD k ([], 0)).2) := ⟨_, rfl⟩
        obtain ⟨z, HZ⟩ : ∃ z, Hid (z = (g.getD k ([], 0)).1.getD col 0) := ⟨_, rfl⟩
        obtain ⟨s0, HS0⟩ : ∃ s, Hid (s = cntG (g.take k)) := ⟨_, rfl⟩
        rw [← HM.out] at hrv hfk
        rw [← HY.out] at hwt hfk HS
        rw [← HZ.out] at hx hfk
        rw [← HS0.out] at HS hin ⊢
        have hcl : col < m := hfk.2.1
        clear hix hc
        have hwrap : IntKind.i64.wrap (s0 + y) = s0 + y := by rw [IntKind.wrap_i64]; omega
        go_wp2
        go_roundw
        case rel => exact ⟨k + 1, by omega, by go_num, by rw [HS.out], by first | rfl | trivial⟩
        case measure => simp [intOf]; omega
      · obtain rfl : k = n := by omega
        have HE : Hid (cntG (g.take k) = cntG g) := by
          show _ = _
          rw [HN.out, List.take_length]
        obtain ⟨s0, HS0⟩ : ∃ s, Hid (s = cntG (g.take k)) := ⟨_, rfl⟩
        rw [← HS0.out] at HE ⊢
        clear hc
        go_wp2
        go_ret
        exact ⟨reti HE.out, rfl⟩
set_option maxHeartbeats 4000000 in
theorem l5Agg_1 (u : Value) (g : List It) (col : Nat) (w : World) (h : ItemsAt w u g) (hf : Fine g col) (hpos : 0 < g.length) :
    Calls Tryz.prog 68 #[u, .int .i64 1, .int .i64 col] w fun e w' => e = .returned (.int .i64 (sumC col g)) ∧ w' = w := by
  rcases h.cases with ⟨a, cap, rfl, rfl⟩ | ⟨b, off, cap, _, hlim, rfl, hbw, hc⟩
  · simp at hpos
  · clear h
    obtain ⟨n, hn⟩ : ∃ n, n = g.length := ⟨_, rfl⟩
    have HN : Hid (n = g.length) := hn
    have hn100 : n ≤ 100 := by rw [hn]; exact hf.1
    rw [← hn] at hpos hlim hc ⊢
    have HF : Hid (Fine g col) := hf
    clear hn hf
    go_enter Tryz.func68, Tryz.ntmps68
    go_wp2
    go_loopw [7, 8] (fun s i wr => ∃ k : Nat, k ≤ n ∧ i = .int .i64 k ∧ s = .int .i64 (sumC col (g.take k)) ∧ wr = w) (fun _ i _ => n - (intOf i).toNat)
    case atStart => exact ⟨0, Nat.zero_le _, rfl, by simp [sumC], rfl⟩
    case round =>
      obtain ⟨k, hk, rfl, rfl, rfl⟩ := hrel
      by_cases hlt : k < n
      · have hlt' : k < g.length := by rw [← HN.out]; exact hlt
        obtain ⟨rv, hrv, hwt, hix⟩ := hc k hlt
        obtain ⟨b1, o1, cp1, rfl, hb1, hx⟩ := ints_at hix (HF.out.at hlt').2.1
        have hfk := HF.out.at hlt'
        have HS : Hid (sumC col (g.take (k + 1)) = sumC col (g.take k) + (g.getD k ([], 0)).2 * (g.getD k ([], 0)).1.getD col 0) := sum_step hlt'
        have hin := sum_in HF.out k (by omega)
        obtain ⟨m, HM⟩ : ∃ m, Hid (m = (g.getD k ([], 0)).1.length) := ⟨_, rfl⟩
        obtain ⟨y, HY⟩ : ∃ y, Hid (y = (g.getD k ([], 0)).2) := ⟨_, rfl⟩
        obtain ⟨z, HZ⟩ : ∃ z, Hid (z = (g.getD k ([], 0)).1.getD col 0) := ⟨_, rfl⟩
        obtain ⟨s0, HS0⟩ : ∃ s, Hid (s = sumC col (g.take k)) := ⟨_, rfl⟩
        rw [← HM.out] at hrv hfk
        rw [← HY.out] at hwt hfk HS
        rw [← HZ.out] at hx hfk HS
        rw [← HS0.out] at HS hin ⊢
        have hcl : col < m := hfk.2.1
        clear hix hc
        have hml := mul_in (A := 10000) (B := 1000000000) hfk.1 hfk.2.2 (by omega) (by omega)
        have hwrap1 : IntKind.i64.wrap (y * z) = y * z := by rw [IntKind.wrap_i64]; omega
        have hwrap : IntKind.i64.wrap (s0 + y * z) = s0 + y * z := by rw [IntKind.wrap_i64]; omega
        clear hml
        go_wp2
        go_roundw
        case rel => exact ⟨k + 1, by omega, by go_num, by rw [HS.out], by first | rfl | trivial⟩
        case measure => simp [intOf]; omega
      · obtain rfl : k = n := by omega
        have HE : Hid (sumC col (g.take k) = sumC col g) := by
          show _ = _
          rw [HN.out, List.take_length]
        obtain ⟨s0, HS0⟩ : ∃ s, Hid (s = sumC col (g.take k)) := ⟨_, rfl⟩
        rw [← HS0.out] at HE ⊢
        clear hc
        go_wp2
        go_ret
        exact ⟨reti HE.out, rfl⟩
set_option maxHeartbeats 4000000 in
theorem l5Agg_2 (u : Value) (g : List It) (col : Nat) (w : World) (h : ItemsAt w u g) (hf : Fine g col) (hpos : 0 < g.length) :
    Calls Tryz.prog 68 #[u, .int .i64 2, .int .i64 col] w fun e w' => e = .returned (.int .i64 (leastC col g)) ∧ w' = w := by
  rcases h.cases with ⟨a, cap, rfl, rfl⟩ | ⟨b, off, cap, _, hlim, rfl, hbw, hc⟩
  · simp at hpos
  · clear h
    obtain ⟨n, hn⟩ : ∃ n, n = g.length := ⟨_, rfl⟩
    have HN : Hid (n = g.length) := hn
    have hn100 : n ≤ 100 := by rw [hn]; exact hf.1
    rw [← hn] at hpos hlim hc ⊢
    have HF : Hid (Fine g col) := hf
    clear hn hf
    go_enter Tryz.func68, Tryz.ntmps68
    go_wp2
    go_loopw [7, 8] (fun s i wr => ∃ k : Nat, k ≤ n ∧ i = .int .i64 k ∧ s = .int .i64 (leastC col (g.take k)) ∧ wr = w) (fun _ i _ => n - (intOf i).toNat)
    case atStart => exact ⟨0, Nat.zero_le _, rfl, by simp [leastC], rfl⟩
    case round =>
      obtain ⟨k, hk, rfl, rfl, rfl⟩ := hrel
      by_cases hlt : k < n
      · have hlt' : k < g.length := by rw [← HN.out]; exact hlt
        obtain ⟨rv, hrv, hwt, hix⟩ := hc k hlt
        obtain ⟨b1, o1, cp1, rfl, hb1, hx⟩ := ints_at hix (HF.out.at hlt').2.1
        have hfk := HF.out.at hlt'
        have HS : Hid (0 < k → leastC col (g.take (k + 1)) = min (leastC col (g.take k)) ((g.getD k ([], 0)).1.getD col 0)) := fun h0 => least_step hlt' h0
        have HS1 : Hid (k = 0 → leastC col (g.take (k + 1)) = (g.getD k ([], 0)).1.getD col 0) := fun h0 => by subst h0; exact least_one hlt'
        obtain ⟨m, HM⟩ : ∃ m, Hid (m = (g.getD k ([], 0)).1.length) := ⟨_, rfl⟩
        obtain ⟨y, HY⟩ : ∃ y, Hid (y = (g.getD k ([], 0)).2) := ⟨_, rfl⟩
        obtain ⟨z, HZ⟩ : ∃ z, Hid (z = (g.getD k ([], 0)).1.getD col 0) := ⟨_, rfl⟩
        obtain ⟨s0, HS0⟩ : ∃ s, Hid (s = leastC col (g.take k)) := ⟨_, rfl⟩
        rw [← HM.out] at hrv hfk
        rw [← HY.out] at hwt hfk
        rw [← HZ.out] at hx hfk HS HS1
        rw [← HS0.out] at HS ⊢
        have hcl : col < m := hfk.2.1
        clear hix hc
        by_cases hk0 : k = 0
        · have HE : Hid _ := HS1.out hk0
          have hkt : ((k : Int) == 0) = true := by simp [hk0]
          clear hk0
          go_wp2
          go_roundw
          case rel => exact ⟨k + 1, by omega, by go_num, by rw [HE.out], by first | rfl | trivial⟩
          case measure => simp [intOf]; omega
        · have HE : Hid _ := HS.out (by omega)
          have hkf : ((k : Int) == 0) = false := by simp; omega
          by_cases hv : z < s0
          · have HE2 : Hid (_ = z) := HE.out.trans (Int.min_eq_right (by omega))
            go_wp2
            go_roundw
            case rel => exact ⟨k + 1, by omega, by go_num, by rw [HE2.out], by first | rfl | trivial⟩
            case measure => simp [intOf]; omega
          · have HE2 : Hid (_ = s0) := HE.out.trans (Int.min_eq_left (by omega))
            go_wp2
            go_roundw
            case rel => exact ⟨k + 1, by omega, by go_num, by rw [HE2.out], by first | rfl | trivial⟩
            case measure => simp [intOf]; omega
      · obtain rfl : k = n := by omega
        have HE : Hid (leastC col (g.take k) = leastC col g) := by
          show _ = _
          rw [HN.out, List.take_length]
        obtain ⟨s0, HS0⟩ : ∃ s, Hid (s = leastC col (g.take k)) := ⟨_, rfl⟩
        rw [← HS0.out] at HE ⊢
        clear hc
        go_wp2
        go_ret
        exact ⟨reti HE.out, rfl⟩
set_option maxHeartbeats 4000000 in
theorem l5Agg_3 (u : Value) (g : List It) (col : Nat) (w : World) (h : ItemsAt w u g) (hf : Fine g col) (hpos : 0 < g.length) :
    Calls Tryz.prog 68 #[u, .int .i64 3, .int .i64 col] w fun e w' => e = .returned (.int .i64 (mostC col g)) ∧ w' = w := by
  rcases h.cases with ⟨a, cap, rfl, rfl⟩ | ⟨b, off, cap, _, hlim, rfl, hbw, hc⟩
  · simp at hpos
  · clear h
    obtain ⟨n, hn⟩ : ∃ n, n = g.length := ⟨_, rfl⟩
    have HN : Hid (n = g.length) := hn
    have hn100 : n ≤ 100 := by rw [hn]; exact hf.1
    rw [← hn] at hpos hlim hc ⊢
    have HF : Hid (Fine g col) := hf
    clear hn hf
    go_enter Tryz.func68, Tryz.ntmps68
    go_wp2
    go_loopw [7, 8] (fun s i wr => ∃ k : Nat, k ≤ n ∧ i = .int .i64 k ∧ s = .int .i64 (mostC col (g.take k)) ∧ wr = w) (fun _ i _ => n - (intOf i).toNat)
    case atStart => exact ⟨0, Nat.zero_le _, rfl, by simp [mostC], rfl⟩
    case round =>
      obtain ⟨k, hk, rfl, rfl, rfl⟩ := hrel
      by_cases hlt : k < n
      · have hlt' : k < g.length := by rw [← HN.out]; exact hlt
        obtain ⟨rv, hrv, hwt, hix⟩ := hc k hlt
        obtain ⟨b1, o1, cp1, rfl, hb1, hx⟩ := ints_at hix (HF.out.at hlt').2.1
        have hfk := HF.out.at hlt'
        have HS : Hid (0 < k → mostC col (g.take (k + 1)) = max (mostC col (g.take k)) ((g.getD k ([], 0)).1.getD col 0)) := fun h0 => most_step hlt' h0
        have HS1 : Hid (k = 0 → mostC col (g.take (k + 1)) = (g.getD k ([], 0)).1.getD col 0) := fun h0 => by subst h0; exact most_one hlt'
        obtain ⟨m, HM⟩ : ∃ m, Hid (m = (g.getD k ([], 0)).1.length) := ⟨_, rfl⟩
        obtain ⟨y, HY⟩ : ∃ y, Hid (y = (g.getD k ([], 0)).2) := ⟨_, rfl⟩
        obtain ⟨z, HZ⟩ : ∃ z, Hid (z = (g.getD k ([], 0)).1.getD col 0) := ⟨_, rfl⟩
        obtain ⟨s0, HS0⟩ : ∃ s, Hid (s = mostC col (g.take k)) := ⟨_, rfl⟩
        rw [← HM.out] at hrv hfk
        rw [← HY.out] at hwt hfk
        rw [← HZ.out] at hx hfk HS HS1
        rw [← HS0.out] at HS ⊢
        have hcl : col < m := hfk.2.1
        clear hix hc
        by_cases hk0 : k = 0
        · have HE : Hid _ := HS1.out hk0
          have hkt : ((k : Int) == 0) = true := by simp [hk0]
          clear hk0
          go_wp2
          go_roundw
          case rel => exact ⟨k + 1, by omega, by go_num, by rw [HE.out], by first | rfl | trivial⟩
          case measure => simp [intOf]; omega
        · have HE : Hid _ := HS.out (by omega)
          have hkf : ((k : Int) == 0) = false := by simp; omega
          by_cases hv : s0 < z
          · have HE2 : Hid (_ = z) := HE.out.trans (Int.max_eq_right (by omega))
            go_wp2
            go_roundw
            case rel => exact ⟨k + 1, by omega, by go_num, by rw [HE2.out], by first | rfl | trivial⟩
            case measure => simp [intOf]; omega
          · have HE2 : Hid (_ = s0) := HE.out.trans (Int.max_eq_left (by omega))
            go_wp2
            go_roundw
            case rel => exact ⟨k + 1, by omega, by go_num, by rw [HE2.out], by first | rfl | trivial⟩
            case measure => simp [intOf]; omega
      · obtain rfl : k = n := by omega
        have HE : Hid (mostC col (g.take k) = mostC col g) := by
          show _ = _
          rw [HN.out, List.take_length]
        obtain ⟨s0, HS0⟩ : ∃ s, Hid (s = mostC col (g.take k)) := ⟨_, rfl⟩
        rw [← HS0.out] at HE ⊢
        clear hc
        go_wp2
        go_ret
        exact ⟨reti HE.out, rfl⟩
theorem l5Agg_any (u : Value) (g : List It) (agg : Int) (col : Nat) (w : World) (h : ItemsAt w u g) (hf : Fine g col) (hpos : 0 < g.length) (ha : aggB agg = true) :
    Calls Tryz.prog 68 #[u, .int .i64 agg, .int .i64 col] w fun e w' => e = .returned (.int .i64 (aggZ agg col g)) ∧ w' = w := by
  have h1 := of_decide_eq_true ha
  rcases (by omega : agg = 0 ∨ agg = 1 ∨ agg = 2 ∨ agg = 3) with rfl | rfl | rfl | rfl
  · exact l5Agg_0 u g col w h hf hpos
  · exact l5Agg_1 u g col w h hf hpos
  · exact l5Agg_2 u g col w h hf hpos
  · exact l5Agg_3 u g col w h hf hpos
set_option maxHeartbeats 8000000 in
theorem l5Of_any (v u kv : Value) (z : List It) (ks key : List Int) (w : World) (h : ItemsAt w v z) (h2 : IntsAt w u ks) (h3 : IntsAt w kv key) (hz : zOkB z = true) (hkz : haveAll z ks = true) (hl : ks.length ≤ 6) :
    Calls Tryz.prog 69 #[v, u, kv] w fun e w' => ∃ v', e = .returned v' ∧ ItemsAt w' v' (grpZ z ks key) ∧ Below w.heap.size w w' := by
  obtain ⟨i0, hi0, hz0, hz1, hz2⟩ := info_parts infoItem
  have hrow : ∀ k, k < z.length → ∀ q ∈ ks, 0 ≤ q ∧ q < ((z.getD k ([], 0)).1.length : Int) := fun k hk q hq => have_iff.1 hkz q hq _ (by simp [List.getD, hk])
  have hz100 := zOk_le hz
  have HK2 : Hid (IntsAt w u ks) := h2
  have HK3 : Hid (IntsAt w kv key) := h3
  obtain ⟨ua, un, uc, rfl⟩ := h2.shape
  obtain ⟨ka, kn, kc, rfl⟩ := h3.shape
  clear h2 h3 hz hkz
  rcases h.cases with ⟨a, cap, rfl, rfl⟩ | ⟨b, off, cap, hpos, hlim, rfl, hbw, hc⟩
  · clear h hrow
    go_enter Tryz.func69, Tryz.ntmps69
    go_wp2
    refine wp_loop_rounds 1 ?_
    rw [rounds_succ]
    go_wp2
    go_ret
    exact ⟨_, rfl, (lit_ownZ w).items, below_alloc _⟩
  · clear h
    obtain ⟨n, hn⟩ : ∃ n, n = z.length := ⟨_, rfl⟩
    have HN : Hid (n = z.length) := hn
    rw [← hn] at hpos hlim hc hrow hz100 ⊢
    clear hn
    have hS0 : Spine (w.alloc (.cells #[] 42)) w.heap.size (w.alloc (.cells #[] 42)).heap.size (.slice (some ⟨w.heap.size, 0, none⟩) 0 0) (prs []) := by
      obtain ⟨l, hl2, S, _, _⟩ := (lit_ownZ w).opened
      have : l = [] := List.length_eq_zero_iff.1 (by rw [← its_length, ← hl2]; rfl)
      subst this
      exact S
    have HS0 : Hid _ := hS0
    clear hS0
    go_enter Tryz.func69, Tryz.ntmps69
    go_wp2
    go_loopw [7, 8] (fun s i wr => ∃ (k : Nat) (l : List Rw), k ≤ n ∧ i = .int .i64 k ∧ Hid (its l = grpZ (z.take k) ks key) ∧ Hid (Spine wr w.heap.size wr.heap.size s (prs l)) ∧ Hid (RowsIn w l) ∧ Hid (Below w.heap.size w wr)) (fun _ i _ => n - (intOf i).toNat)
    case atStart => exact ⟨0, [], Nat.zero_le _, rfl, rfl, HS0.out, fun x hx => by simp at hx, below_alloc _⟩
    case round =>
      obtain ⟨k, l, hk, rfl, HL, HS, HR, HW⟩ := hrel
      clear HS0
      by_cases hlt : k < n
      · have hlt' : k < z.length := by rw [← HN.out]; exact hlt
        have HB := HW.out
        obtain ⟨rv, hrv0, hwt0, hix0⟩ := hc k hlt
        have hrv := (HB.cell (p := ⟨b, off + k * 2, none⟩) hbw).trans hrv0
        have hwt := (HB.cell (p := ⟨b, off + k * 2 + 1, none⟩) hbw).trans hwt0
        have hix := hix0.below HB
        have hr2 := hrow k hlt
        have HT : Hid (grpZ (z.take (k + 1)) ks key = _) := grp_take (ks := ks) (key := key) hlt'
        have hll : l.length ≤ 100 := by
          have h1 : (its l).length = (grpZ (z.take k) ks key).length := by rw [HL.out]
          have h2 := grpZ_len (z.take k) ks key
          rw [its_length] at h1
          rw [List.length_take] at h2
          omega
        obtain ⟨x, HX⟩ : ∃ x, Hid (x = (z.getD k ([], 0)).1) := ⟨_, rfl⟩
        obtain ⟨y, HY⟩ : ∃ y, Hid (y = (z.getD k ([], 0)).2) := ⟨_, rfl⟩
        rw [← HX.out] at hix hr2 HT hix0
        rw [← HY.out] at hwt HT
        obtain ⟨xa, xn, xc, rfl⟩ := hix.shape
        have HIX : Hid (IntsAt w (.slice xa xn xc) x) := hix0
        have hbr : b < wr.heap.size := Nat.lt_of_lt_of_le hbw HB.size
        have hsw := HB.size
        clear hc hrow hrv0 hwt0 hix0
        by_cases hy : 0 < y
        · go_wp2_with fail
          refine (l5Key_any _ _ x ks _ hix (HK2.out.below HB) hr2 hl).mono ?_
          rintro e w2 ⟨v2, rfl, O2, hb2⟩
          have hk2 := below_then HB hb2
          go_wp2_with fail
          refine (specRowSame_any v2 _ (keyZ x ks) key _ O2.ints (HK3.out.below hk2)).mono ?_
          rw [same_iff]
          rintro e w3 ⟨rfl, hb3⟩
          have hk3 := below_then hk2 hb3
          have hw3 : Below wr.heap.size wr w3 := below_then hb2 hb3
          have hs3 := hk3.size
          have hrv3 := cell_is (p := ⟨b, off + k * 2, none⟩) hw3 hbr hrv
          have hwt3 := cell_is (p := ⟨b, off + k * 2 + 1, none⟩) hw3 hbr hwt
          have S3 : Spine w3 w.heap.size wr.heap.size u7 (prs l) := HS.out.keep' hw3
          have HKB3 : Hid (Below w.heap.size w w3) := hk3
          clear hrv hwt hix hb2 hb3 hk2 hk3 O2 HB HW HS hr2
          by_cases hs : keyZ x ks = key
          · rw [decide_eq_true hs]
            have HTT : Hid (its (l ++ [(.slice xa xn xc, (x, y))]) = grpZ (z.take (k + 1)) ks key) := by
              show _ = _
              rw [HT.out, decide_eq_true hy, decide_eq_true hs, its_append, HL.out]; rfl
            have HR2 : Hid (RowsIn w (l ++ [(.slice xa xn xc, (x, y))])) := fun q hq => by
              rcases List.mem_append.1 hq with e | e
              · exact HR.out q e
              · simp at e; subst e; exact HIX.out
            obtain ⟨hspW, hprW, hfin⟩ := merge_ready (xv := .slice xa xn xc) y S3 ⟨_, _, _, rfl⟩ (by omega) (by omega)
            have hpl : (prs l).length ≤ 100 := by rw [prs_length]; exact hll
            clear HT HL HR S3 hs
            go_wp2_with (at_builtin; (refine wpList_append_pairs rfl _ _ 23 rfl w.heap.size 42 i0 Tryz.underlying23 hi0 hz0 hz1 hz2 u7 (prs l) rfl hspW _ _ rfl hprW (by simp; omega) (by simp; omega) ?_; intro v4 w4 hown4 hg4 _))
            obtain ⟨S4, B4⟩ := hfin v4 w4 x hown4 hg4
            have HS4 : Hid (Spine w4 w.heap.size w4.heap.size v4 (prs (l ++ [(.slice xa xn xc, (x, y))]))) := S4
            have HK4 : Hid (Below w.heap.size w w4) := HKB3.out.trans B4
            clear hfin hown4 hg4 hspW hprW B4 S4 hrv3 hwt3 hw3
            go_wp2
            go_roundw
            case rel => exact ⟨k + 1, _, by omega, by go_num, HTT.out, HS4.out, HR2.out, HK4.out⟩
            case measure => simp [intOf]; omega
          · rw [decide_eq_false hs]
            have HTT : Hid (its l = grpZ (z.take (k + 1)) ks key) := by
              show _ = _
              rw [HT.out, decide_eq_false hs, Bool.and_false, HL.out]; simp
            have HS4 : Hid (Spine w3 w.heap.size w3.heap.size u7 (prs l)) := S3.wide (Nat.le_refl _) hw3.size (Nat.le_refl _)
            clear HT HL S3 hs hrv3 hwt3 hw3
            go_wp2
            go_roundw
            case rel => exact ⟨k + 1, _, by omega, by go_num, HTT.out, HS4.out, HR.out, HKB3.out⟩
            case measure => simp [intOf]; omega
        · have HTT : Hid (its l = grpZ (z.take (k + 1)) ks key) := by
            show _ = _
            rw [HT.out, decide_eq_false hy, Bool.false_and, HL.out]; simp
          clear HT HL hr2 hix
          go_wp2
          go_roundw
          case rel => exact ⟨k + 1, _, by omega, by go_num, HTT.out, HS.out, HR.out, HW.out⟩
          case measure => simp [intOf]; omega
      · obtain rfl : k = n := by omega
        have hI : ItemsAt wr u7 (its l) := (HS.out.pairs HR.out.shape).itemsOf (HR.out.below HW.out)
        rw [HL.out, HN.out, List.take_length] at hI
        clear hc hrow
        go_wp2
        go_ret
        exact ⟨_, rfl, hI, HW.out⟩

end Go.Proofs.YtfgpdakkbhfiaaaGreatDoor

/-
  Plain facts on the rows that are told of groups: each once, in order.
-/
namespace Go.Proofs.YtfgpdakkbhfiaaaGreatDoor

def rowG (z : List It) (ks : List Int) (agg : Int) (col : Nat) (p : It) : List Int := keyZ p.1 ks ++ [aggZ agg col (grpZ z ks (keyZ p.1 ks))]
def oneG (R : It → List Int) (out : List It) (p : It) : List It := if p.2 < 0 then out else if getZ out (R p) = 0 then putZ out (R p) 1 else out
def grpTo (R : It → List Int) (zs : List It) : List It := zs.foldl (oneG R) []
def hasG (R : It → List Int) (zs : List It) (q : List Int) : Bool := zs.any fun p => !decide (p.2 < 0) && decide (R p = q)
def grpCan (z : List It) (ks : List Int) (agg col : Int) : Bool := zOkB z && aggB agg && keysB ks 6 && (haveAll z ks && hasAt col z)
def toldG (z : List It) (ks : List Int) (agg : Int) (col : Nat) (p : It) : Bool := decide (p.2 < 0) || cellB (aggZ agg col (grpZ z ks (keyZ p.1 ks)))
def grpTold (z : List It) (ks : List Int) (agg : Int) (col : Nat) : Bool := z.all (toldG z ks agg col)
def grpOk (z : List It) (ks : List Int) (agg col : Int) : Bool := grpCan z ks agg col && grpTold z ks agg col.toNat
def grpOut (z : List It) (ks : List Int) (agg col : Int) : List It := if grpOk z ks agg col then grpTo (rowG z ks agg col.toNat) z else []

theorem grpTo_snoc (R : It → List Int) (zs : List It) (p : It) : grpTo R (zs ++ [p]) = oneG R (grpTo R zs) p := by simp [grpTo, List.foldl_append]
theorem hasG_snoc (R : It → List Int) (zs : List It) (p : It) (q : List Int) : hasG R (zs ++ [p]) q = (hasG R zs q || (!decide (p.2 < 0) && decide (R p = q))) := by simp [hasG, List.any_append]
/-- What is told: in order, each once. -/
def IsG (out : List It) (H : List Int → Bool) : Prop := Srt out ∧ Nz out ∧ ∀ q, getZ out q = if H q then 1 else 0
theorem isG_nil : IsG [] (fun _ => false) := ⟨Srt.nil, fun p hp => by simp at hp, fun q => by simp [getZ_nil]⟩
theorem isG_one {R : It → List Int} {out : List It} {H : List Int → Bool} (h : IsG out H) (p : It) : IsG (oneG R out p) (fun q => H q || (!decide (p.2 < 0) && decide (R p = q))) := by
  unfold oneG
  by_cases hp : p.2 < 0
  · rw [if_pos hp]
    simpa [hp] using h
  · rw [if_neg hp]
    by_cases h0 : getZ out (R p) = 0
    · rw [if_pos h0]
      refine ⟨srt_put h.1, nz_put h.2.1, fun q => ?_⟩
      rw [getZ_put h.1]
      by_cases e : R p = q
      · rw [if_pos e, ← e, h0]; simp [hp]
      · rw [if_neg e, h.2.2 q]; simp [e]
    · rw [if_neg h0]
      refine ⟨h.1, h.2.1, fun q => ?_⟩
      have h1 := h.2.2 (R p)
      have h2 : H (R p) = true := by
        cases hh : H (R p) with
        | true => rfl
        | false => rw [hh] at h1; exact absurd h1 h0
      rw [h.2.2 q]
      by_cases e : R p = q
      · subst e; simp [h2]
      · simp [e]
theorem isG_to (R : It → List Int) (zs : List It) : IsG (grpTo R zs) (hasG R zs) := by
  have key : ∀ (zs out : List It) (H : List Int → Bool), IsG out H → IsG (zs.foldl (oneG R) out) (fun q => H q || hasG R zs q) := by
    intro zs
    induction zs with
    | nil => intro out H h; simpa [hasG] using h
    | cons p zs ih =>
      intro out H h
      have := ih _ _ (isG_one (R := R) h p)
      rw [List.foldl_cons]
      have e : (fun q => H q || hasG R (p :: zs) q) = fun q => (H q || (!decide (p.2 < 0) && decide (R p = q))) || hasG R zs q := by
        funext q
        simp [hasG, List.any_cons, Bool.or_assoc]
      rw [e]
      exact this
  have := key zs [] _ isG_nil
  simpa [grpTo] using this
theorem getZ_ownG : ∀ {zs : List It}, Srt zs → ∀ p ∈ zs, getZ zs p.1 = p.2
  | q :: zs, h, p, hp => by
    rw [getZ_cons]
    rcases List.mem_cons.1 hp with rfl | hp
    · rw [if_pos rfl]
    · rw [if_neg (ordL_ne ((Srt.cons.1 h).1 p hp))]
      exact getZ_ownG (Srt.cons.1 h).2 p hp
theorem IsG.mem {out : List It} {H : List Int → Bool} (h : IsG out H) {q : It} (hq : q ∈ out) : q.2 = 1 ∧ H q.1 = true := by
  have h1 := getZ_ownG h.1 q hq
  have h2 := h.2.1 q hq
  rw [h.2.2] at h1
  cases hh : H q.1 with
  | true => rw [hh] at h1; exact ⟨h1.symm, rfl⟩
  | false => rw [hh] at h1; exact absurd h1.symm h2
theorem one_len (R : It → List Int) (out : List It) (p : It) : (oneG R out p).length ≤ out.length + 1 := by
  unfold oneG
  by_cases hp : p.2 < 0
  · rw [if_pos hp]; omega
  · rw [if_neg hp]
    by_cases h0 : getZ out (R p) = 0
    · rw [if_pos h0]; exact put_len _ _ _
    · rw [if_neg h0]; omega
theorem grpTo_len (R : It → List Int) (zs : List It) : (grpTo R zs).length ≤ zs.length := by
  have key : ∀ (zs out : List It), (zs.foldl (oneG R) out).length ≤ out.length + zs.length := by
    intro zs
    induction zs with
    | nil => intro out; simp
    | cons p zs ih =>
      intro out
      have h1 := ih (oneG R out p)
      have h2 := one_len R out p
      rw [List.foldl_cons, List.length_cons]; omega
  have := key zs []
  simpa [grpTo] using this
theorem zOk_mkG {zs : List It} (hl : zs.length ≤ 100) (hp : ∀ p ∈ zs, rowOkB p.1 = true ∧ wB p.2 = true) (hs : Srt zs) : zOkB zs = true := by
  refine zOk_all hl fun j hj => ?_
  have h1 := hp _ (getZ_mem hj)
  unfold stepB
  rw [h1.1, h1.2]
  rcases Nat.eq_zero_or_pos j with e | e
  · simp [e]
  · have hj1 : j - 1 < zs.length := by omega
    have h2 := (List.pairwise_iff_getElem.1 hs) (j - 1) j hj1 hj (by omega)
    have h3 : rowLessB (zs.getD (j - 1) ([], 0)).1 (zs.getD j ([], 0)).1 = true := less_of (by simpa [List.getD, hj, hj1] using h2)
    rw [h3]; simp
theorem hasG_mem {R : It → List Int} {zs : List It} {q : List Int} (h : hasG R zs q = true) : ∃ p ∈ zs, ¬ p.2 < 0 ∧ R p = q := by
  unfold hasG at h
  rw [List.any_eq_true] at h
  obtain ⟨p, hp, h2⟩ := h
  rw [Bool.and_eq_true] at h2
  exact ⟨p, hp, by simpa using h2.1, of_decide_eq_true h2.2⟩
theorem zOk_item {z : List It} (hz : zOkB z = true) {p : It} (hp : p ∈ z) : rowOkB p.1 = true ∧ wB p.2 = true := by
  obtain ⟨j, hj, e⟩ := mem_getD (d := ([], 0)) hp
  rw [← e]; exact zOk_row hz hj
theorem rowG_ok {z : List It} {ks : List Int} {agg : Int} {col : Nat} (hz : zOkB z = true) (hk6 : keysB ks 6 = true) (hkz : haveAll z ks = true) {p : It} (hp : p ∈ z) (hc : cellB (aggZ agg col (grpZ z ks (keyZ p.1 ks))) = true) : rowOkB (rowG z ks agg col p) = true := by
  have h1 := keyZ_cells (zOk_item hz hp).1 (fun k hk => have_iff.1 hkz k hk p hp)
  have h2 := (keys_parts hk6).1
  unfold rowG rowOkB
  rw [List.length_append, keyZ_len, List.all_append, h1]
  simp [hc]
  omega
theorem grpTo_ok {z : List It} {ks : List Int} {agg : Int} {col : Nat} (hz : zOkB z = true) (hk6 : keysB ks 6 = true) (hkz : haveAll z ks = true) {zs : List It} (hsub : ∀ p ∈ zs, p ∈ z) (hl : zs.length ≤ 100) (ht : ∀ p ∈ zs, toldG z ks agg col p = true) : zOkB (grpTo (rowG z ks agg col) zs) = true := by
  have hG := isG_to (rowG z ks agg col) zs
  refine zOk_mkG (by have := grpTo_len (rowG z ks agg col) zs; omega) (fun q hq => ?_) hG.1
  obtain ⟨h1, h2⟩ := hG.mem hq
  obtain ⟨p, hp, h3, h4⟩ := hasG_mem h2
  rw [h1, ← h4]
  have h5 := ht p hp
  unfold toldG at h5
  rw [decide_eq_false h3, Bool.false_or] at h5
  exact ⟨rowG_ok hz hk6 hkz (hsub p hp) h5, by decide⟩
theorem grp_fine {z : List It} {col : Nat} (hz : zOkB z = true) (hc : hasAt col z = true) (ks key : List Int) : Fine (grpZ z ks key) col := by
  refine ⟨by have := grpZ_len z ks key; have := zOk_le hz; omega, fun p hp => ?_⟩
  have hpz : p ∈ z := (List.mem_filter.1 hp).1
  obtain ⟨h1, h2⟩ := zOk_item hz hpz
  have h3 := has_iff.1 hc p hpz
  have hlt : col < p.1.length := by omega
  refine ⟨(wB_in h2).2, hlt, ?_⟩
  simp only [rowOkB, Bool.and_eq_true, List.all_eq_true] at h1
  have h4 := h1.2 p.1[col] (List.getElem_mem hlt)
  simp [cellB] at h4
  simpa [List.getD, hlt] using h4
theorem grp_some {z : List It} {p : It} (hp : p ∈ z) (hw : 0 < p.2) (ks : List Int) : 0 < (grpZ z ks (keyZ p.1 ks)).length :=
  List.length_pos_of_mem (List.mem_filter.2 ⟨hp, by simp [hw]⟩)
theorem grp_not {z : List It} {ks : List Int} {agg col : Int} (h : grpOk z ks agg col = false) : grpOut z ks agg col = [] := by unfold grpOut; rw [h]; rfl

end Go.Proofs.YtfgpdakkbhfiaaaGreatDoor

/-
  The contract of spec.GroupOf.
-/
namespace Go.Proofs.YtfgpdakkbhfiaaaGreatDoor
set_option maxRecDepth 100000
open Go.RowKit
attribute [local go_sem ↓] Go.wp_at_zero Go.wp_at_succ

theorem told_no {z : List It} {ks : List Int} {agg : Int} {col k : Nat} (hk : k < z.length) (h : toldG z ks agg col (z.getD k ([], 0)) = false) : grpTold z ks agg col = false := by
  unfold grpTold
  rw [List.all_eq_false]
  exact ⟨z.getD k ([], 0), by simp [List.getD, hk], by rw [h]; exact Bool.false_ne_true⟩
theorem told_all {z : List It} {ks : List Int} {agg : Int} {col : Nat} (h : ∀ k, k < z.length → toldG z ks agg col (z.getD k ([], 0)) = true) : grpTold z ks agg col = true := by
  unfold grpTold
  rw [List.all_eq_true]
  intro p hp
  obtain ⟨j, hj, e⟩ := mem_getD (d := ([], 0)) hp
  rw [← e]; exact h j hj
theorem to_take (R : It → List Int) {z : List It} {k : Nat} (hk : k < z.length) : grpTo R (z.take (k + 1)) = oneG R (grpTo R (z.take k)) (z.getD k ([], 0)) := by
  rw [take_one hk, grpTo_snoc]

set_option maxHeartbeats 16000000 in
theorem specGroup_any (v u : Value) (z : List It) (ks : List Int) (agg col : Int) (w : World) (h : ItemsAt w v z) (h2 : IntsAt w u ks) :
    Calls Tryz.prog 33 #[v, u, .int .i64 agg, .int .i64 col] w fun e w' => ∃ v', e = .returned (.tuple #[v', .bool (grpOk z ks agg col)]) ∧ OwnZ w' w.heap.size w'.heap.size v' (grpOut z ks agg col) ∧ Below w.heap.size w w' := by
  cases hz : zOkB z with
  | false =>
    have e0 : grpOk z ks agg col = false := by unfold grpOk grpCan; rw [hz]; rfl
    rw [e0, grp_not e0]
    clear e0
    go_enter Tryz.func33, Tryz.ntmps33
    go_wp2_with fail
    refine (specZOk_any v z _ h).mono ?_
    rw [hz]
    rintro e w1 ⟨rfl, b1⟩
    have k1 := b1.below
    clear b1
    have HK : Hid (Below w.heap.size w w1) := k1
    clear h h2 k1
    go_wp2
    go_ret2
    exact ⟨_, rfl, (lit_ownZ w1).wide HK.out.size (Nat.le_refl _) (Nat.le_refl _), below_then HK.out (below_alloc _)⟩
  | true =>
    by_cases ha1 : agg < 0
    · skip
      have e0 : grpOk z ks agg col = false := by unfold grpOk grpCan aggB; rw [decide_eq_false (by omega)]; simp
      rw [e0, grp_not e0]
      clear e0
      go_enter Tryz.func33, Tryz.ntmps33
      go_wp2_with fail
      refine (specZOk_any v z _ h).mono ?_
      rw [hz]
      rintro e w1 ⟨rfl, b1⟩
      have k1 := b1.below
      clear b1
      have HK : Hid (Below w.heap.size w w1) := k1
      clear h h2 k1
      go_wp2
      go_ret2
      exact ⟨_, rfl, (lit_ownZ w1).wide HK.out.size (Nat.le_refl _) (Nat.le_refl _), below_then HK.out (below_alloc _)⟩
    by_cases ha2 : 3 < agg
    · skip
      have e0 : grpOk z ks agg col = false := by unfold grpOk grpCan aggB; rw [decide_eq_false (by omega)]; simp
      rw [e0, grp_not e0]
      clear e0
      go_enter Tryz.func33, Tryz.ntmps33
      go_wp2_with fail
      refine (specZOk_any v z _ h).mono ?_
      rw [hz]
      rintro e w1 ⟨rfl, b1⟩
      have k1 := b1.below
      clear b1
      have HK : Hid (Below w.heap.size w w1) := k1
      clear h h2 k1
      go_wp2
      go_ret2
      exact ⟨_, rfl, (lit_ownZ w1).wide HK.out.size (Nat.le_refl _) (Nat.le_refl _), below_then HK.out (below_alloc _)⟩
    have hag : aggB agg = true := decide_eq_true (by omega)
    cases hk : keysB ks 6 with
    | false =>
      have e0 : grpOk z ks agg col = false := by unfold grpOk grpCan; rw [hk]; simp
      rw [e0, grp_not e0]
      clear e0
      go_enter Tryz.func33, Tryz.ntmps33
      go_wp2_with fail
      refine (specZOk_any v z _ h).mono ?_
      rw [hz]
      rintro e w1 ⟨rfl, b1⟩
      have k1 := b1.below
      clear b1
      go_wp2_with fail
      refine (l4Keys_any u ks 6 _ (h2.below k1) (by omega)).mono ?_
      rw [hk]
      rintro e w2 ⟨rfl, b2⟩
      have k2 := below_then k1 b2
      clear b2 k1
      have HK : Hid (Below w.heap.size w w2) := k2
      clear h h2 k2
      go_wp2
      go_ret2
      exact ⟨_, rfl, (lit_ownZ w2).wide HK.out.size (Nat.le_refl _) (Nat.le_refl _), below_then HK.out (below_alloc _)⟩
    | true =>
      have hw1 : ∀ k, k < z.length → (z.getD k ([], 0)).1.length ≤ 6 := fun k hk => rowOk_le (zOk_row hz hk).1
      have hfh := fits_have (zs := z) hk col
      cases f1 : fitsB z ks col with
      | false =>
        have e0 : grpOk z ks agg col = false := by unfold grpOk grpCan; rw [← hfh, f1]; simp
        rw [e0, grp_not e0]
        clear e0
        go_enter Tryz.func33, Tryz.ntmps33
        go_wp2_with fail
        refine (specZOk_any v z _ h).mono ?_
        rw [hz]
        rintro e w1 ⟨rfl, b1⟩
        have k1 := b1.below
        clear b1
        go_wp2_with fail
        refine (l4Keys_any u ks 6 _ (h2.below k1) (by omega)).mono ?_
        rw [hk]
        rintro e w2 ⟨rfl, b2⟩
        have k2 := below_then k1 b2
        clear b2 k1
        go_wp2_with fail
        refine (l5Fits_any v u z ks col _ (h.below k2) (h2.below k2) hw1).mono ?_
        rw [f1]
        rintro e w3 ⟨rfl, b3⟩
        have k3 := below_then k2 b3
        clear b3 k2
        have HK : Hid (Below w.heap.size w w3) := k3
        clear h h2 k3
        go_wp2
        go_ret2
        exact ⟨_, rfl, (lit_ownZ w3).wide HK.out.size (Nat.le_refl _) (Nat.le_refl _), below_then HK.out (below_alloc _)⟩
      | true =>
        rw [f1] at hfh
        obtain ⟨hkz, hcz⟩ : haveAll z ks = true ∧ hasAt col z = true := by have := hfh.symm; rw [Bool.and_eq_true] at this; exact this
        have hcan : grpCan z ks agg col = true := by unfold grpCan; rw [hz, hag, hk, hkz, hcz]; rfl
        have hl : ks.length ≤ 6 := by have := (keys_parts hk).1; omega
        obtain ⟨os, HO⟩ : ∃ os, Hid (os = grpOut z ks agg col) := ⟨_, rfl⟩
        obtain ⟨c, HC⟩ : ∃ c, Hid (c = grpOk z ks agg col) := ⟨_, rfl⟩
        have HCC : Hid (c = grpTold z ks agg col.toNat) := by show _ = _; rw [HC.out]; unfold grpOk; rw [hcan]; rfl
        have HOO : Hid (os = if c then grpTo (rowG z ks agg col.toNat) z else []) := by show _ = _; rw [HO.out, HC.out]; rfl
        rw [← HO.out, ← HC.out]
        clear hfh hcan
        have hi := info_parts infoInt
        obtain ⟨i0, hi1, hj0, hj1, hj2⟩ := hi
        go_enter Tryz.func33, Tryz.ntmps33
        go_wp2_with fail
        refine (specZOk_any v z _ h).mono ?_
        rw [hz]
        rintro e w1 ⟨rfl, b1⟩
        have k1 := b1.below
        clear b1
        go_wp2_with fail
        refine (l4Keys_any u ks 6 _ (h2.below k1) (by omega)).mono ?_
        rw [hk]
        rintro e w2 ⟨rfl, b2⟩
        have k2 := below_then k1 b2
        clear b2 k1
        go_wp2_with fail
        refine (l5Fits_any v u z ks col _ (h.below k2) (h2.below k2) hw1).mono ?_
        rw [f1]
        rintro e w3 ⟨rfl, b3⟩
        have k3 := below_then k2 b3
        clear b3 k2
        have s3 := k3.size
        have HK3 : Hid (Below w.heap.size w w3) := k3
        rcases h.cases with ⟨a, cap, rfl, rfl⟩ | ⟨b, off, cap, hpos, hlim, rfl, hbw, hc⟩
        · obtain rfl : c = true := by rw [HCC.out]; rfl
          obtain rfl : os = [] := by rw [HOO.out]; rfl
          clear h h2 k3
          go_wp2
          refine wp_loop_rounds 1 ?_
          rw [rounds_succ]
          go_wp2_with fail
          refine (l2Told_any _ [] w3.heap.size (w3.alloc (.cells #[] 42)).heap.size _ (lit_ownZ w3) (by simp)).mono ?_
          rintro e w5 ⟨v5, rfl, Z5, b5⟩
          have HK5 : Hid (Below w.heap.size w w5) := below_then (below_then HK3.out (below_alloc _)) b5
          have R : Hid (OwnZ w5 w.heap.size w5.heap.size v5 []) := by have := Z5.wide s3 (Nat.le_refl _) (Nat.le_refl _); show OwnZ _ _ _ _ _; simpa [zOkB] using this
          clear Z5 b5
          go_wp2
          go_ret2
          exact ⟨_, rfl, R.out, HK5.out⟩
        · obtain ⟨cn, rfl⟩ : ∃ cn : Nat, col = (cn : Int) := by
            have := has_iff.1 hcz (z.getD 0 ([], 0)) (by simp [List.getD, hpos])
            exact ⟨col.toNat, by omega⟩
          simp only [Int.toNat_natCast] at HCC HOO
          have HI : Hid (ItemsAt w (.slice (some ⟨b, off, none⟩) z.length cap) z) := h
          have HI2 : Hid (IntsAt w u ks) := h2
          obtain ⟨ua, un, uc, rfl⟩ := h2.shape
          have hz100 := zOk_le hz
          have hrow : ∀ k, k < z.length → rowOkB (z.getD k ([], 0)).1 = true ∧ wB (z.getD k ([], 0)).2 = true ∧ z.getD k ([], 0) ∈ z ∧ ∀ q ∈ ks, 0 ≤ q ∧ q < ((z.getD k ([], 0)).1.length : Int) := fun k hk2 => ⟨(zOk_row hz hk2).1, (zOk_row hz hk2).2, getZ_mem hk2, fun q hq => have_iff.1 hkz q hq _ (getZ_mem hk2)⟩
          have HZ : Hid (zOkB z = true) := hz
          have HKZ : Hid (haveAll z ks = true) := hkz
          have HKK : Hid (keysB ks 6 = true) := hk
          have HCZ : Hid (hasAt (cn : Int) z = true) := hcz
          have HTA : Hid (∀ k, k ≤ z.length → (∀ j, j < k → toldG z ks agg cn (z.getD j ([], 0)) = true) → zOkB (grpTo (rowG z ks agg cn) (z.take k)) = true) := fun k hk2 ht => grpTo_ok hz hk hkz (fun p hp => List.mem_of_mem_take hp) (by rw [List.length_take]; omega) (fun p hp => by
            obtain ⟨j, hj, e⟩ := List.mem_take_iff_getElem.1 hp
            have := ht j (by omega)
            rw [← e]
            simpa [List.getD, show j < z.length by omega] using this)
          have HTN : Hid (∀ k, k < z.length → toldG z ks agg cn (z.getD k ([], 0)) = false → c = false) := fun k hk2 hn => by rw [HCC.out]; exact told_no hk2 hn
          have HTY : Hid ((∀ k, k < z.length → toldG z ks agg cn (z.getD k ([], 0)) = true) → c = true) := fun ht => by rw [HCC.out]; exact told_all ht
          obtain ⟨n, hn⟩ : ∃ n, n = z.length := ⟨_, rfl⟩
          have HN : Hid (n = z.length) := hn
          rw [← hn] at hpos hlim hc hrow hz100 HTA HTN HTY ⊢
          rw [← hn] at HI
          clear hn h h2 hz hkz hk hcz hw1 k3
          go_wp2
          go_loopw [10, 11] (fun s i wr => ∃ k : Nat, k ≤ n ∧ i = .int .i64 k ∧ Hid (OwnZ wr w.heap.size wr.heap.size s (grpTo (rowG z ks agg cn) (z.take k))) ∧ Hid (∀ j, j < k → toldG z ks agg cn (z.getD j ([], 0)) = true) ∧ Hid (Below w.heap.size w wr)) (fun _ i _ => n - (intOf i).toNat)
          case atStart => exact ⟨0, Nat.zero_le _, rfl, (lit_ownZ w3).wide s3 (Nat.le_refl _) (Nat.le_refl _), fun j hj => by omega, below_then HK3.out (below_alloc _)⟩
          case round =>
            obtain ⟨k, hk, rfl, HS, HA, HW⟩ := hrel
            clear HK3
            by_cases hlt : k < n
            · have hlt' : k < z.length := by rw [← HN.out]; exact hlt
              have HB := HW.out
              obtain ⟨rv, hrv0, hwt0, hix0⟩ := hc k hlt
              have hrv := (HB.cell (p := ⟨b, off + k * 2, none⟩) hbw).trans hrv0
              have hwt := (HB.cell (p := ⟨b, off + k * 2 + 1, none⟩) hbw).trans hwt0
              have hix := hix0.below HB
              obtain ⟨hr1, hr2, hr3, hr4⟩ := hrow k hlt
              have HT : Hid (grpTo (rowG z ks agg cn) (z.take (k + 1)) = oneG (rowG z ks agg cn) (grpTo (rowG z ks agg cn) (z.take k)) (z.getD k ([], 0))) := to_take _ hlt'
              have htn := HTN.out k hlt
              have hzok := HTA.out k (by omega) HA.out
              have HAS : Hid (toldG z ks agg cn (z.getD k ([], 0)) = true → ∀ j, j < k + 1 → toldG z ks agg cn (z.getD j ([], 0)) = true) := fun ht j hj => by
                rcases Nat.lt_succ_iff_lt_or_eq.1 hj with h | h
                · exact HA.out j h
                · rw [h]; exact ht
              obtain ⟨p, hp⟩ : ∃ p, p = z.getD k ([], 0) := ⟨_, rfl⟩
              rw [← hp] at hwt hix hr1 hr2 hr3 hr4 HT htn HAS
              clear hp
              obtain ⟨x, y⟩ := p
              simp only at hwt hix hr1 hr2 hr4
              have hy0 := (wB_in hr2).1
              obtain ⟨xa, xn, xc, rfl⟩ := hix.shape
              have hsw := HB.size
              clear hrv0 hwt0 hix0
              by_cases hy : y < 0
              · have HTT : Hid (grpTo (rowG z ks agg cn) (z.take (k + 1)) = grpTo (rowG z ks agg cn) (z.take k)) := by show _ = _; rw [HT.out]; unfold oneG; rw [if_pos hy]
                have HA2 := HAS.out (by unfold toldG; rw [decide_eq_true hy]; rfl)
                have HA3 : Hid _ := HA2
                clear HT htn hzok HAS HA2 hr1 hr2 hr3 hr4 hc hrow hix
                go_wp2
                go_roundw
                case rel => exact ⟨k + 1, by omega, by go_num, by show OwnZ _ _ _ _ _; rw [HTT.out]; exact HS.out, HA3.out, HW.out⟩
                case measure => simp [intOf]; omega
              · have hyp : 0 < y := by omega
                have hsome := grp_some hr3 hyp ks
                have hfine := grp_fine HZ.out HCZ.out ks (keyZ x ks)
                simp only at hsome
                have htold : toldG z ks agg cn (x, y) = cellB (aggZ agg cn (grpZ z ks (keyZ x ks))) := by unfold toldG; rw [decide_eq_false hy]; rfl
                rw [htold] at htn HAS
                have HRG : Hid (rowG z ks agg cn (x, y) = keyZ x ks ++ [aggZ agg cn (grpZ z ks (keyZ x ks))]) := rfl
                clear hc hrow htold
                go_wp2_with fail
                refine (l5Key_any _ _ x ks _ hix (HI2.out.below HB) hr4 hl).mono ?_
                rintro e w4 ⟨v4, rfl, O4, b4⟩
                have k4 := below_then HB b4
                go_wp2_with fail
                refine (l5Of_any _ _ v4 z ks (keyZ x ks) _ (HI.out.below k4) (HI2.out.below k4) O4.ints HZ.out HKZ.out hl).mono ?_
                rintro e w5 ⟨v5, rfl, I5, b5⟩
                have k5 := below_then k4 b5
                have O5 := O4.keep' b5
                have s4 := b4.size
                have s5 := b5.size
                have S5 := (HS.out.keep' b4).keep' b5
                clear hrv hwt hix b4 b5 k4 O4 HB HW HS
                go_wp2_with fail
                refine (l5Agg_any v5 (grpZ z ks (keyZ x ks)) agg cn _ I5 hfine hsome hag).mono ?_
                obtain ⟨m, HM⟩ : ∃ m, Hid (m = aggZ agg cn (grpZ z ks (keyZ x ks))) := ⟨_, rfl⟩
                rw [← HM.out]
                rw [← HM.out] at htn HAS HRG
                rintro e w6 ⟨rfl, rfl⟩
                clear I5 hfine hsome
                go_wp2_with fail
                refine (l1Cell_any m _).mono ?_
                rintro e w6 ⟨rfl, rfl⟩
                cases hcm : cellB m with
                | false =>
                  obtain rfl : c = false := htn hcm
                  obtain rfl : os = [] := by rw [HOO.out]; rfl
                  have HK6 : Hid (Below w.heap.size w w6) := k5
                  clear htn HAS HT hzok S5 O5 k5 hr4
                  go_wp2
                  go_ret2
                  exact ⟨_, rfl, (lit_ownZ w6).wide HK6.out.size (Nat.le_refl _) (Nat.le_refl _), below_then HK6.out (below_alloc _)⟩
                | true =>
                  have HA3 : Hid _ := HAS.out hcm
                  have hkl : (keyZ x ks).length ≤ 6 := by rw [keyZ_len]; exact hl
                  have hal : Below w6.heap.size w6 (w6.alloc (.cells #[.int .i64 m] 3)) := below_alloc _
                  have O6 := O5.keep' hal
                  have S6 := S5.keep' hal
                  have k6 := below_then k5 hal
                  have s6 := k5.size
                  have s6a := hal.size
                  clear htn HAS O5 S5 hr4 hcm
                  go_wp2_with (at_builtin; refine wpList_append_ints rfl _ _ 24 rfl wr.heap.size 3 i0 Tryz.underlying24 hi1 hj0 hj1 hj2 v4 _ _ rfl O6.1 _ [m] rfl (int_litK w6 m) (by simp; omega) (by simp; omega) ?_; intro v7 w7 hown7 hg7 _)
                  have O7 : Own w7 wr.heap.size w7.heap.size v7 (keyZ x ks ++ [m]) := own_new (xs := keyZ x ks ++ [m]) (by simpa using hown7) (by simp; omega)
                  have hlow : ∀ i, v4.ownBlock = some i → wr.heap.size ≤ i ∧ i < w4.heap.size := fun i e => ⟨(O6.1.lt i e).1, O6.2.1 i e⟩
                  have B7 : Below wr.heap.size (w6.alloc (.cells #[.int .i64 m] 3)) w7 := (Below.refl _ _).grown hg7 (by have := hal.size; omega) (fun i e => (hlow i e).1)
                  have S7 := S6.only (Only.of_grown hg7 hlow) (.inl (Nat.le_refl _))
                  have k7 : Below w.heap.size w w7 := k6.trans (B7.mono hsw)
                  have s7 := hg7.size
                  rw [← HRG.out] at O7
                  clear hown7 hg7 O6 S6 hal k6 k5 hlow B7
                  obtain ⟨r, HRR⟩ : ∃ r, Hid (r = rowG z ks agg cn (x, y)) := ⟨_, rfl⟩
                  have hrl : r.length ≤ 7 := by rw [HRR.out, HRG.out]; simp; omega
                  rw [← HRR.out] at O7
                  obtain ⟨G, HG⟩ : ∃ G, Hid (G = grpTo (rowG z ks agg cn) (z.take k)) := ⟨_, rfl⟩
                  rw [← HG.out] at S7 hzok HT
                  have hGl : G.length ≤ 100 := zOk_le hzok
                  have HTT : Hid (grpTo (rowG z ks agg cn) (z.take (k + 1)) = if getZ G r = 0 then putZ G r 1 else G) := by show _ = _; rw [HT.out, HRR.out]; unfold oneG; rw [if_neg (by show ¬ y < 0; omega)]
                  have hG1 : ∀ j, j < G.length → -4611686018427387904 ≤ (G.getD j ([], 0)).2 ∧ (G.getD j ([], 0)).2 ≤ 4611686018427387903 := fun j hj => by
                    have := (wB_in (zOk_row hzok hj).2).2
                    omega
                  clear HT
                  go_wp2_with fail
                  refine (specZGet_any _ G v7 r _ S7.items O7.ints).mono ?_
                  rw [hzok]
                  simp only [if_true]
                  rintro e w8 ⟨rfl, b8⟩
                  have k8 := below_then k7 b8
                  have S8 := S7.keep' b8
                  have O8 := O7.keep' b8
                  have s8 := b8.size
                  clear S7 O7 b8 k7
                  by_cases hg0 : getZ G r = 0
                  · rw [hg0]
                    go_wp2_with fail
                    refine (l2Put_any _ w.heap.size wr.heap.size G _ r 1 _ S8 hsw O8.ints (by omega) (by omega) hG1 (by omega)).mono ?_
                    rintro e w9 ⟨v9, rfl, Z9, O9⟩
                    have HK9 : Hid (Below w.heap.size w w9) := O9.below k8 (Nat.le_refl _) k8.size
                    have HZ9 : Hid (OwnZ w9 w.heap.size w9.heap.size v9 (grpTo (rowG z ks agg cn) (z.take (k + 1)))) := by show OwnZ _ _ _ _ _; rw [HTT.out, if_pos hg0]; exact Z9
                    clear Z9 O9 k8 S8 O8 hG1
                    go_wp2
                    go_roundw
                    case rel => exact ⟨k + 1, by omega, by go_num, HZ9.out, HA3.out, HK9.out⟩
                    case measure => simp [intOf]; omega
                  · have hgf : (getZ G r == 0) = false := by simp [hg0]
                    have HZ9 : Hid (OwnZ w8 w.heap.size w8.heap.size u10 (grpTo (rowG z ks agg cn) (z.take (k + 1)))) := by show OwnZ _ _ _ _ _; rw [HTT.out, if_neg hg0]; exact S8.wide (Nat.le_refl _) (by omega) (Nat.le_refl _)
                    have HK9 : Hid (Below w.heap.size w w8) := k8
                    clear k8 S8 O8 hG1
                    go_wp2
                    go_roundw
                    case rel => exact ⟨k + 1, by omega, by go_num, HZ9.out, HA3.out, HK9.out⟩
                    case measure => simp [intOf]; omega
            · obtain rfl : k = n := by omega
              obtain rfl : c = true := HTY.out HA.out
              have hzok := HTA.out k (Nat.le_refl _) HA.out
              have hS := HS.out
              rw [HN.out, List.take_length] at hS hzok
              have hos : os = grpTo (rowG z ks agg cn) z := by rw [HOO.out]; rfl
              rw [← hos] at hS hzok
              have hsw := HW.out.size
              clear hc hrow
              go_wp2_with fail
              refine (l2Told_any _ os _ _ _ hS hsw).mono ?_
              rw [hzok]
              simp only [if_true]
              rintro e w5 ⟨v5, rfl, Z5, b5⟩
              have HK5 : Hid (Below w.heap.size w w5) := below_then HW.out b5
              have R : Hid (OwnZ w5 w.heap.size w5.heap.size v5 os) := Z5
              clear Z5 b5 hS
              go_wp2
              go_ret2
              exact ⟨_, rfl, R.out, HK5.out⟩
end Go.Proofs.YtfgpdakkbhfiaaaGreatDoor

/-
  A map from a text to items of the call's own: for each text the triples that lie in its slice; no two texts' slices lie in one block; the contract of impl.groups.
-/
namespace Go.Proofs.YtfgpdakkbhfiaaaGreatDoor
set_option maxRecDepth 100000
open Go.RowKit Go.Maps
attribute [local go_sem ↓] Go.wp_at_zero Go.wp_at_succ

/-- append of pairs, and where the new slice lies. -/
theorem wpList_append_at {P : Program} {w : World} {ops : Array Oper} {rest : List Oper} {o : Oper} {a : Act} {Q : Exit → Act → World → Prop}
    (hg : o.guard = none) (s x : Operand) (t : TypeId) (hop : o.op = Op.call { callee := Callee.builtin Builtin.append, args := #[s, x], argTypes := #[t, t] })
    (base : Nat) (e : TypeId) (i : TypeInfo) (ht : P.underlying t = some (.slice e)) (hi : P.info? e = some i) (hz : i.zero = some (.agg #[.slice none 0 0, .int .i64 0]))
    (hsize : i.size = 2) (hby : i.bytes = 32)
    (v : Value) (ps : List (Value × Int)) (hs : a.eval s = v) (hown : w.ownsRow base e 2 v ps.length (cells2 ps))
    (ad : Addr) (m c : Nat) (qs : List (Value × Int)) (hx : a.eval x = .slice (some ad) m c) (hp : PairsAt w (.slice (some ad) m c) qs)
    (hbytes : (ps.length + qs.length) * 32 ≤ 140737488355328) (hbase : base ≤ w.heap.size)
    (hK : ∀ v' w', w'.ownsRow base e 2 v' (ps ++ qs).length (cells2 (ps ++ qs)) → w.grownBy w' v.ownBlock → (v'.ownBlock = v.ownBlock ∨ v'.ownBlock = some w.heap.size) → wpList P ops Q rest (a.put o.dst v') w') :
    wpList P ops Q (o :: rest) a w := by
  obtain ⟨hm, hnews, hsl⟩ := hp.news
  refine wpList_plain hg fun K' hK' => ?_
  subst hm
  obtain ⟨v', w', hrun, r1, r2, _, r3⟩ := run_append_own_at (P := P) w base t o.type e i (.agg #[.slice none 0 0, .int .i64 0]) 2 32 ht hi hz hsize hby rfl (by decide) v ps.length (cells2 ps) hown ad qs.length c (cells2 qs) (by rw [cells2_length]) hnews (cells2_one hsl) (by unfold maxLen; omega) hbytes hbase
  unfold Oper.wp
  simp [execOp, hop, resolve, invoke, builtin, hs, hx, hrun, Result.andThen]
  rw [← cells2_append] at r1
  exact hK' _ _ (hK v' w' (by rw [List.length_append]; exact r1) r2 r3)

def SMap (w : World) (t : TypeId) (mb lo n : Nat) (G : List UInt8 → List Rw) : Prop :=
  ∃ (D : DataW Value) (V : List UInt8 → Value), w.ownsMap Tryz.prog 9 heldT mb n D ∧ (∀ c, D.atKey (.string c) (.held vn) = .held (V c)) ∧ (∀ c, Spine w lo w.heap.size (V c) (prs (G c))) ∧
    (∀ c d, c ≠ d → (V c).ownBlock = none ∨ (V c).ownBlock ≠ (V d).ownBlock) ∧ mb < lo ∧ Tryz.prog.underlying t = some (.map 9 23) ∧ ∀ c, has D (.string c) = !(G c).isEmpty
theorem spine_nilS (w : World) (lo : Nat) : Spine w lo w.heap.size vn (prs []) := ⟨⟨rfl, .inl ⟨rfl, rfl⟩⟩, fun k hk => by simp [vn, Value.ownBlock] at hk, by simp [prs], Nat.le_refl _⟩
theorem smap_made (w : World) (t : TypeId) (ht : Tryz.prog.underlying t = some (.map 9 23)) : SMap (w.alloc (.map #[] 0)) t w.heap.size (w.heap.size + 1) 0 (fun _ => []) :=
  ⟨.map [], fun _ => vn, World.ownsMap_made w _ _ _, fun _ => rfl, fun _ => spine_nilS _ _, fun _ _ _ => .inl rfl, Nat.lt_succ_self _, ht, fun _ => rfl⟩
theorem SMap.grown {w w' : World} {t : TypeId} {mb lo n : Nat} {G : List UInt8 → List Rw} (h : SMap w t mb lo n G) (hb : Below w.heap.size w w') : SMap w' t mb lo n G := by
  obtain ⟨D, V, h1, h2, h3, h4, h5, h6, h7⟩ := h
  have hg : w.grownBy w' none := ⟨hb.os, hb.tape, hb.output, hb.size, fun k hk _ => hb.block k hk⟩
  exact ⟨D, V, h1.kept hg (by simp), h2, fun c => ((h3 c).keep' hb).wide (Nat.le_refl _) hb.size (Nat.le_refl _), h4, h5, h6, h7⟩
/-- What is looked up at a key, and the way back behind an append. -/
theorem SMap.look {w : World} {t : TypeId} {mb lo n : Nat} {G : List UInt8 → List Rw} (h : SMap w t mb lo n G) {s : ByteArray} (hs0 : s.size ≤ maxLen) (hn : n < maxLen) :
    ∃ v, (∀ w', w.grownBy w' none → (Instr.lookup t (.map (some mb)) (.string s) false).run Tryz.prog w' = .ok v w') ∧ Spine w lo w.heap.size v (prs (G s.data.toList)) ∧
      ∀ (w1 : World) (v' : Value) (L : List Rw), L ≠ [] → w.grownBy w1 v.ownBlock → Spine w1 lo w1.heap.size v' (prs L) → (v'.ownBlock = v.ownBlock ∨ ∃ g, v'.ownBlock = some g ∧ w.heap.size ≤ g) →
        ∃ w2, (Instr.mapUpdate t (.map (some mb)) (.string s) v').run Tryz.prog w1 = .ok () w2 ∧ SMap w2 t mb lo (n + 1) (fun d => if d = s.data.toList then L else G d) ∧ w1.grownBy w2 (some mb) := by
  obtain ⟨D, V, h1, h2, h3, h4, h5, h6, h7⟩ := h
  obtain ⟨c, hcs⟩ : ∃ c, c = s.data.toList := ⟨_, rfl⟩
  rw [← hcs]
  have K : Keyed Tryz.prog 9 := string_keyed Tryz.underlying9
  have hk : keyOf Tryz.prog 9 (.string s) = some (.string c) := by rw [hcs]; exact Go.WideMaps.keyOf_string_mk Tryz.underlying9 hs0
  refine ⟨V c, fun w' hg => ?_, h3 c, fun w1 v' L hL hg hs hloc => ?_⟩
  · have h1' := h1.kept hg (by simp)
    obtain ⟨v, ps, hrun, hv⟩ := h1'.lookup K h6 (z := vn) (Tryz.zeroValue23 _) (zd := .held vn) (zp := []) rfl hk
    have : v = V c := by
      simp only [heldT, h2 c] at hv
      injection hv with hv
      injection hv with hv _
      injection hv
    rw [hrun, this]
  · have hne : some mb ≠ (V c).ownBlock := fun e => by
      have := ((h3 c).1.lt mb e.symm).1
      omega
    have h1' := h1.kept hg hne
    obtain ⟨w2, hrun, hm2, hg2⟩ := h1'.update K h6 hn hk (val := v') (d := .held v') (ps := []) rfl
    have own_lo : ∀ {u : Value} {ps : List (Value × Int)} {W : World}, Spine W lo W.heap.size u ps → u.ownBlock = none ∨ u.ownBlock ≠ some mb := fun {u ps W} ho => by
      cases hu : u.ownBlock with
      | none => exact .inl rfl
      | some g =>
        refine .inr (fun e => ?_)
        have := (ho.1.lt g hu).1
        simp at e
        omega
    have old_new : ∀ d, d ≠ c → (V d).ownBlock = none ∨ (V d).ownBlock ≠ v'.ownBlock := fun d hd => by
      rcases hloc with e | ⟨g, e, hgl⟩
      · rw [e]; exact h4 d c hd
      · cases hd' : (V d).ownBlock with
        | none => exact .inl rfl
        | some gd =>
          refine .inr (fun e1 => ?_)
          have := (h3 d).2.1 gd hd'
          rw [e] at e1
          simp at e1
          omega
    refine ⟨w2, hrun, ⟨D.put (Lit.string c) (.held v'), fun d => if d = c then v' else V d, hm2, fun d => ?_, fun d => ?_, fun d f hdf => ?_, h5, h6, fun d => ?_⟩, hg2⟩
    · show _ = DataW.held (if d = c then v' else V d)
      by_cases hd : d = c
      · subst hd
        rw [if_pos rfl]
        exact atKey_put_same (k := .string d) (isMapT h1) (by simp [WideAt.IsKeyLit]) _ _
      · rw [if_neg hd, ← h2 d]
        exact atKey_put_other (fun e => hd (by simpa using e)) _ _
    · by_cases hd : d = c
      · simp only [if_pos hd]
        exact (hs.kept hg2 (own_lo hs)).wide (Nat.le_refl _) hg2.size (Nat.le_refl _)
      · simp only [if_neg hd]
        have s1 : Spine w1 lo w1.heap.size (V d) (prs (G d)) := ((h3 d).kept hg (h4 d c hd)).wide (Nat.le_refl _) hg.size (Nat.le_refl _)
        exact (s1.kept hg2 (own_lo s1)).wide (Nat.le_refl _) hg2.size (Nat.le_refl _)
    · by_cases hd : d = c
      · by_cases hf : f = c
        · exact absurd (hd.trans hf.symm) hdf
        · simp only [if_pos hd, if_neg hf]
          rcases old_new f hf with e | e
          · cases hv : v'.ownBlock with
            | none => exact .inl rfl
            | some g => exact .inr (fun e2 => by rw [e] at e2; cases e2)
          · exact .inr (fun e2 => e e2.symm)
      · by_cases hf : f = c
        · simp only [if_neg hd, if_pos hf]
          exact old_new d hd
        · simp only [if_neg hd, if_neg hf]
          exact h4 d f hdf
    · show has (D.put (Lit.string c) (.held v')) (.string d) = !(if d = c then L else G d).isEmpty
      by_cases hd : d = c
      · subst hd
        rw [if_pos rfl, has_put_same (isMapT h1) (by simp [WideAt.IsKeyLit])]
        cases L with
        | nil => exact absurd rfl hL
        | cons _ _ => rfl
      · rw [if_neg hd, has_put_other (fun e => hd (by simpa using e)), h7 d]

/-- The items that are there whose text at the keys is so. -/
def grpT (z : List It) (ks : List Int) (s : List UInt8) : List It := z.filter fun p => decide (0 < p.2) && decide (rowTx (keyZ p.1 ks) = s)
theorem grpT_take {z : List It} {ks : List Int} {k : Nat} (hk : k < z.length) (s : List UInt8) : grpT (z.take (k + 1)) ks s = grpT (z.take k) ks s ++ (if decide (0 < (z.getD k ([], 0)).2) && decide (rowTx (keyZ (z.getD k ([], 0)).1 ks) = s) then [((z.getD k ([], 0)).1, (z.getD k ([], 0)).2)] else []) := by
  unfold grpT
  have e : z.getD k ([], 0) = z[k] := by simp [List.getD, hk]
  rw [List.take_succ_eq_append_getElem hk, List.filter_append, e, List.filter_cons, List.filter_nil]
theorem grpT_len (z : List It) (ks : List Int) (s : List UInt8) : (grpT z ks s).length ≤ z.length := List.length_filter_le _ _

set_option maxHeartbeats 8000000 in
theorem groups_any (v u : Value) (z : List It) (ks : List Int) (w : World) (htab : Tab w) (h : ItemsAt w v z) (h2 : IntsAt w u ks) (hz : zOkB z = true) (hkz : haveAll z ks = true) (hl : ks.length ≤ 6) :
    Calls Tryz.prog 47 #[v, u] w fun e w' => ∃ (n : Nat) (G : List UInt8 → List Rw), e = .returned (.map (some w.heap.size)) ∧ SMap w' 65 w.heap.size (w.heap.size + 1) n G ∧ (∀ s, its (G s) = grpT z ks s) ∧ (∀ s, RowsIn w (G s)) ∧ n ≤ 100 ∧ Below w.heap.size w w' := by
  have ht : Tryz.prog.underlying 65 = some (.map 9 23) := Tryz.underlying65
  obtain ⟨i0, hi0, hz0, hz1, hz2⟩ := info_parts infoItem
  have hrow : ∀ k, k < z.length → rowOkB (z.getD k ([], 0)).1 = true ∧ (∀ q ∈ ks, 0 ≤ q ∧ q < ((z.getD k ([], 0)).1.length : Int)) := fun k hk => ⟨(zOk_row hz hk).1, fun q hq => have_iff.1 hkz q hq _ (by simp [List.getD, hk])⟩
  have hz100 := zOk_le hz
  have HC0 : Hid (SMap (w.alloc (.map #[] 0)) 65 w.heap.size (w.heap.size + 1) 0 (fun _ => [])) := smap_made w _ ht
  have HB0 : Hid (Below w.heap.size w (w.alloc (.map #[] 0))) := below_alloc _
  have HTAB : Hid (Tab w) := htab
  have HK2 : Hid (IntsAt w u ks) := h2
  obtain ⟨ua, un, uc, rfl⟩ := h2.shape
  clear htab h2 hz hkz
  have hmm := @run_makeMap Tryz.prog
  rcases h.cases with ⟨a, cap, rfl, rfl⟩ | ⟨b, off, cap, hpos, hlim, rfl, hbw, hc⟩
  · clear h hrow
    go_enter Tryz.func47, Tryz.ntmps47
    go_wp2
    clear hmm
    refine wp_loop_rounds 1 ?_
    rw [rounds_succ]
    go_wp2
    go_ret
    exact ⟨0, _, rfl, HC0.out, fun _ => rfl, fun s x hx => by simp at hx, by omega, HB0.out⟩
  · clear h
    obtain ⟨n, hn⟩ : ∃ n, n = z.length := ⟨_, rfl⟩
    have HN : Hid (n = z.length) := hn
    rw [← hn] at hpos hlim hc hrow hz100 ⊢
    clear hn
    go_enter Tryz.func47, Tryz.ntmps47
    go_wp2
    clear hmm
    go_loopw [12] (fun i wr => ∃ (k m : Nat) (G : List UInt8 → List Rw), k ≤ n ∧ m ≤ k ∧ i = .int .i64 k ∧ Hid (SMap wr 65 w.heap.size (w.heap.size + 1) m G) ∧ Hid (∀ s, its (G s) = grpT (z.take k) ks s) ∧ Hid (∀ s, RowsIn w (G s)) ∧ Hid (Below w.heap.size w wr)) (fun i _ => n - (intOf i).toNat)
    case atStart => exact ⟨0, 0, _, Nat.zero_le _, Nat.le_refl _, rfl, HC0.out, fun _ => rfl, fun s x hx => by simp at hx, HB0.out⟩
    case round =>
      obtain ⟨k, m, G, hk, hmk, rfl, HC, HG, HR, HW⟩ := hrel
      clear HC0 HB0
      by_cases hlt : k < n
      · have hlt' : k < z.length := by rw [← HN.out]; exact hlt
        have HB := HW.out
        obtain ⟨rv, hrv0, hwt0, hix0⟩ := hc k hlt
        have hrv := (HB.cell (p := ⟨b, off + k * 2, none⟩) hbw).trans hrv0
        have hwt := (HB.cell (p := ⟨b, off + k * 2 + 1, none⟩) hbw).trans hwt0
        have hix := hix0.below HB
        obtain ⟨hr1, hr2⟩ := hrow k hlt
        have HT : Hid (∀ s, grpT (z.take (k + 1)) ks s = _) := fun s => grpT_take (ks := ks) hlt' s
        have hGl : ∀ s, (G s).length ≤ 100 := fun s => by
          have h1 : (its (G s)).length = (grpT (z.take k) ks s).length := by rw [HG.out]
          have h2 := grpT_len (z.take k) ks s
          rw [its_length] at h1
          rw [List.length_take] at h2
          omega
        obtain ⟨x, HX⟩ : ∃ x, Hid (x = (z.getD k ([], 0)).1) := ⟨_, rfl⟩
        obtain ⟨y, HY⟩ : ∃ y, Hid (y = (z.getD k ([], 0)).2) := ⟨_, rfl⟩
        rw [← HX.out] at hix hr1 hr2 HT hix0
        rw [← HY.out] at hwt HT
        obtain ⟨xa, xn, xc, rfl⟩ := hix.shape
        have HIX : Hid (IntsAt w (.slice xa xn xc) x) := hix0
        obtain ⟨wa, hwa⟩ : ∃ wa, wa = wr.alloc (.cells #[.slice xa xn xc, .int .i64 y] 42) := ⟨_, rfl⟩
        have hba : Below wr.heap.size wr wa := by rw [hwa]; exact below_alloc _
        have hbl : wr.heap.size < wa.heap.size := by rw [hwa]; simp
        have t0 : wa.cell? ⟨wr.heap.size, 0, none⟩ = some (.slice xa xn xc) := by rw [hwa]; simp [go_sem]
        have t1 : wa.cell? ⟨wr.heap.size, 1, none⟩ = some (.int .i64 y) := by rw [hwa]; simp [go_sem]
        have hka := below_then HB hba
        have hsw := HB.size
        have hixa := hix.below hba
        have hCa := HC.out.grown hba
        clear hc hrow hrv0 hwt0 hix0
        by_cases hy : 0 < y
        · go_wp2_with fail
          rw [← hwa]
          refine (groupText_any _ _ x ks _ (HTAB.out.below hka) hixa (HK2.out.below hka) hr2 hl hr1).mono ?_
          rintro e w2 ⟨s, rfl, hs, hb2⟩
          have hk2 := below_then hka hb2
          have hw2 := hk2.size
          obtain ⟨sv, hlook, S2, hput⟩ := (hCa.grown hb2).look (tx_small hr1 hr2 hl hs) (by unfold maxLen; omega)
          rw [hs] at S2 hput
          have hlook2 := hlook w2 (grown_refl _ _)
          have r0 := cell_is (p := ⟨wr.heap.size, 0, none⟩) hb2 hbl t0
          have r1 := cell_is (p := ⟨wr.heap.size, 1, none⟩) hb2 hbl t1
          obtain ⟨tx, HTX⟩ : ∃ tx, Hid (tx = rowTx (keyZ x ks)) := ⟨_, rfl⟩
          rw [← HTX.out] at S2 hput HT
          have hls : w.heap.size + 1 ≤ w2.heap.size := by have := hb2.size; omega
          obtain ⟨hspW, hprW, hfin⟩ := merge_ready (xv := .slice xa xn xc) y S2 ⟨_, _, _, rfl⟩ hls (by have := hGl tx; omega)
          have hpl : (prs (G tx)).length ≤ 100 := by rw [prs_length]; exact hGl tx
          have HK2' : Hid (Below w.heap.size w w2) := hk2
          clear hrv hwt HB HW HC hba hka hb2 hk2 hs hixa hix hr1 hr2 hwa t0 t1 hCa hlook
          go_wp2_with (at_builtin; (refine wpList_append_at rfl _ _ 23 rfl (w.heap.size + 1) 42 i0 Tryz.underlying23 hi0 hz0 hz1 hz2 sv (prs (G tx)) rfl hspW _ _ _ [(.slice xa xn xc, y)] rfl hprW (by simp; omega) (by simp; omega) ?_; intro v3 w3 hown3 hg3 hat3; obtain ⟨S3, B3⟩ := hfin v3 w3 x hown3 hg3; obtain ⟨w4, hrun4, hC4, hg4⟩ := hput w3 v3 (G tx ++ [(.slice xa xn xc, (x, y))]) (by simp) (grown_trans (World.grownBy_alloc w2 _ _) hg3) S3 (hat3.elim Or.inl (fun e => Or.inr ⟨_, e, by simp⟩))))
          have HC4 : Hid (SMap w4 65 w.heap.size (w.heap.size + 1) (m + 1) (fun d => if d = tx then G tx ++ [(.slice xa xn xc, (x, y))] else G d)) := hC4
          have k3 : Below w.heap.size w w3 := HK2'.out.trans (B3.mono (by omega))
          have HK4 : Hid (Below w.heap.size w w4) := k3.grown hg4 k3.size (fun i e => by simp at e; omega)
          have HG4 : Hid (∀ d, its (if d = tx then G tx ++ [(.slice xa xn xc, (x, y))] else G d) = grpT (z.take (k + 1)) ks d) := fun d => by
            rw [HT.out d, decide_eq_true hy, Bool.true_and]
            by_cases hd : d = tx
            · subst hd
              rw [if_pos rfl, if_pos (decide_eq_true rfl), its_append, HG.out]; rfl
            · rw [if_neg hd, if_neg (by simpa using fun e => hd e.symm), HG.out, List.append_nil]
          have HR4 : Hid (∀ d, RowsIn w (if d = tx then G tx ++ [(.slice xa xn xc, (x, y))] else G d)) := fun d => by
            by_cases hd : d = tx
            · rw [if_pos hd]
              intro q hq
              rcases List.mem_append.1 hq with e | e
              · exact HR.out tx q e
              · simp at e; subst e; exact HIX.out
            · rw [if_neg hd]; exact HR.out d
          clear hC4 k3 hg4 hfin hown3 hg3 hat3 hspW hprW B3 S3 S2 hput r0 r1 hlook2 HT HG HR
          go_wp2
          go_roundw
          case rel => exact ⟨k + 1, m + 1, _, by omega, by omega, by go_num, HC4.out, HG4.out, HR4.out, HK4.out⟩
          case measure => simp [intOf]; omega
        · have HG4 : Hid (∀ d, its (G d) = grpT (z.take (k + 1)) ks d) := fun d => by
            rw [HT.out d, decide_eq_false hy, Bool.false_and, HG.out]; simp
          have HC4 : Hid (SMap wa 65 w.heap.size (w.heap.size + 1) m G) := hCa
          have HK4 : Hid (Below w.heap.size w wa) := hka
          clear hCa hka HT HG HB HW HC hba hix hixa hr1 hr2
          go_wp2
          rw [← hwa]
          go_roundw
          case rel => exact ⟨k + 1, m, _, by omega, by omega, by go_num, HC4.out, HG4.out, HR.out, HK4.out⟩
          case measure => simp [intOf]; omega
      · obtain rfl : k = n := by omega
        have hG := HG.out
        rw [HN.out, List.take_length] at hG
        have HG9 : Hid _ := hG
        clear hc hrow hG
        go_wp2
        go_ret
        exact ⟨m, G, rfl, HC.out, HG9.out, HR.out, by omega, HW.out⟩

end Go.Proofs.YtfgpdakkbhfiaaaGreatDoor

/-
  Plain facts on the groups by their texts: each text's row; the texts of all groups, once each, and their rows in order are what is told.
-/
namespace Go.Proofs.YtfgpdakkbhfiaaaGreatDoor
open Go.RowKit

/-- The row that is told of a text's group. -/
def rowT (z : List It) (ks : List Int) (agg : Int) (col : Nat) (s : List UInt8) : List Int := keyZ ((grpT z ks s).getD 0 ([], 0)).1 ks ++ [aggZ agg col (grpT z ks s)]
theorem grpT_mem {z : List It} {ks : List Int} {s : List UInt8} {p : It} : p ∈ grpT z ks s ↔ p ∈ z ∧ 0 < p.2 ∧ rowTx (keyZ p.1 ks) = s := by
  unfold grpT
  rw [List.mem_filter]
  simp
theorem key_inj {z : List It} {ks : List Int} (hz : zOkB z = true) (hkz : haveAll z ks = true) {p q : It} (hp : p ∈ z) (hq : q ∈ z) (h : rowTx (keyZ p.1 ks) = rowTx (keyZ q.1 ks)) : keyZ p.1 ks = keyZ q.1 ks :=
  rowTx_inj (keyZ_cells (zOk_item hz hp).1 fun k hk => have_iff.1 hkz k hk p hp) (keyZ_cells (zOk_item hz hq).1 fun k hk => have_iff.1 hkz k hk q hq) (by rw [keyZ_len, keyZ_len]) h
theorem grpT_is {z : List It} {ks : List Int} (hz : zOkB z = true) (hkz : haveAll z ks = true) {p : It} (hp : p ∈ z) : grpT z ks (rowTx (keyZ p.1 ks)) = grpZ z ks (keyZ p.1 ks) := by
  unfold grpT grpZ
  refine List.filter_congr fun q hq => ?_
  congr 1
  by_cases e : keyZ q.1 ks = keyZ p.1 ks
  · rw [e]; simp
  · rw [decide_eq_false e, decide_eq_false fun h => e (key_inj hz hkz hq hp h)]
theorem first_mem {z : List It} {ks : List Int} {s : List UInt8} (h : grpT z ks s ≠ []) : (grpT z ks s).getD 0 ([], 0) ∈ grpT z ks s := by
  cases e : grpT z ks s with
  | nil => exact absurd e h
  | cons p l => simp
/-- The text of the group of the row that is told of it. -/
theorem first_is {z : List It} {ks : List Int} {s : List UInt8} (h : grpT z ks s ≠ []) : rowTx (keyZ ((grpT z ks s).getD 0 ([], 0)).1 ks) = s := (grpT_mem.1 (first_mem h)).2.2
theorem rowT_is {z : List It} {ks : List Int} (agg : Int) (col : Nat) (hz : zOkB z = true) (hkz : haveAll z ks = true) {p : It} (hp : p ∈ z) (hw : 0 < p.2) : rowT z ks agg col (rowTx (keyZ p.1 ks)) = rowG z ks agg col p := by
  have hm : p ∈ grpT z ks (rowTx (keyZ p.1 ks)) := grpT_mem.2 ⟨hp, hw, rfl⟩
  have hne : grpT z ks (rowTx (keyZ p.1 ks)) ≠ [] := fun e => by rw [e] at hm; simp at hm
  have h0 := grpT_mem.1 (first_mem hne)
  unfold rowT rowG
  rw [key_inj hz hkz h0.1 hp h0.2.2, grpT_is hz hkz hp]
theorem rowT_first {z : List It} {ks : List Int} {agg : Int} {col : Nat} (hz : zOkB z = true) (hkz : haveAll z ks = true) {s : List UInt8} (h : grpT z ks s ≠ []) : ∃ p ∈ z, 0 < p.2 ∧ rowTx (keyZ p.1 ks) = s ∧ rowT z ks agg col s = rowG z ks agg col p ∧ grpT z ks s = grpZ z ks (keyZ p.1 ks) := by
  have h0 := grpT_mem.1 (first_mem h)
  have h1 := rowT_is agg col hz hkz h0.1 h0.2.1
  have h2 := grpT_is hz hkz h0.1
  rw [h0.2.2] at h1 h2
  exact ⟨_, h0.1, h0.2.1, h0.2.2, h1, h2⟩
theorem rowT_inj {z : List It} {ks : List Int} {agg : Int} {col : Nat} {s t : List UInt8} (hs : grpT z ks s ≠ []) (ht : grpT z ks t ≠ []) (h : rowT z ks agg col s = rowT z ks agg col t) : s = t := by
  unfold rowT at h
  have := (List.append_inj' h rfl).1
  rw [← first_is hs, ← first_is ht, this]
theorem texts_no {z : List It} {ks : List Int} {agg : Int} {col : Nat} (hz : zOkB z = true) (hkz : haveAll z ks = true) {s : List UInt8} (h : grpT z ks s ≠ []) (hc : cellB (aggZ agg col (grpT z ks s)) = false) : grpTold z ks agg col = false := by
  obtain ⟨p, hp, hw, _, _, e⟩ := rowT_first (agg := agg) (col := col) hz hkz h
  unfold grpTold
  rw [List.all_eq_false]
  refine ⟨p, hp, ?_⟩
  unfold toldG
  rw [← e, hc, decide_eq_false (by omega)]; decide
theorem texts_yes {z : List It} {ks : List Int} {agg : Int} {col : Nat} (hz : zOkB z = true) (hkz : haveAll z ks = true) {D : List (List UInt8)} (hD : ∀ s, grpT z ks s ≠ [] → s ∈ D) (hc : ∀ s ∈ D, cellB (aggZ agg col (grpT z ks s)) = true) : grpTold z ks agg col = true := by
  unfold grpTold
  rw [List.all_eq_true]
  intro p hp
  unfold toldG
  by_cases hw : p.2 < 0
  · rw [decide_eq_true hw]; rfl
  · have hnz := zOk_nz hz p hp
    have hm : p ∈ grpT z ks (rowTx (keyZ p.1 ks)) := grpT_mem.2 ⟨hp, by omega, rfl⟩
    have h1 := hc _ (hD (rowTx (keyZ p.1 ks)) (fun e => by rw [e] at hm; simp at hm))
    rw [grpT_is hz hkz hp] at h1
    rw [h1]; simp
/-- The rows of all texts, each once, in order, are what is told. -/
theorem rows_told {z : List It} {ks : List Int} {agg : Int} {col : Nat} (hz : zOkB z = true) (hkz : haveAll z ks = true) {D : List (List UInt8)} (hnd : D.Nodup) (hD : ∀ s, s ∈ D ↔ grpT z ks s ≠ []) {m : List It} (hp : (D.map fun s => (rowT z ks agg col s, (1 : Int))).Perm m) (ha : Asc m) : m = grpTo (rowG z ks agg col) z := by
  have hG := isG_to (rowG z ks agg col) z
  have hrows : (D.map fun s => (rowT z ks agg col s, (1 : Int))).Pairwise fun p q => p.1 ≠ q.1 := by
    rw [List.pairwise_map]
    refine List.Pairwise.imp_of_mem ?_ hnd
    intro s t hs ht hne e
    exact hne (rowT_inj ((hD s).1 hs) ((hD t).1 ht) e)
  have hrm : m.Pairwise fun p q => p.1 ≠ q.1 := (hp.pairwise_iff (fun h e => h e.symm)).1 hrows
  have hsrt : Srt m := by
    refine (List.pairwise_and_iff.2 ⟨ha, hrm⟩).imp ?_
    intro p q h
    exact ordL_flip h.1 (fun e => h.2 e.symm)
  have hone : ∀ p ∈ m, p.2 = 1 := fun p hpm => by
    obtain ⟨s, _, rfl⟩ := List.mem_map.1 (hp.symm.subset hpm)
    rfl
  refine canon hsrt (fun p hpm => by rw [hone p hpm]; decide) hG.1 hG.2.1 fun q => ?_
  rw [hG.2.2]
  by_cases hq : ∃ p ∈ m, p.1 = q
  · obtain ⟨p, hpm, rfl⟩ := hq
    rw [getZ_ownG hsrt p hpm, hone p hpm]
    obtain ⟨s, hs, rfl⟩ := List.mem_map.1 (hp.symm.subset hpm)
    obtain ⟨x, hx, hw, _, e, _⟩ := rowT_first (agg := agg) (col := col) hz hkz ((hD s).1 hs)
    have : hasG (rowG z ks agg col) z (rowT z ks agg col s) = true := by
      unfold hasG
      rw [List.any_eq_true]
      exact ⟨x, hx, by rw [e]; simp; omega⟩
    rw [if_pos this]
  · have : hasG (rowG z ks agg col) z q = false := by
      cases hh : hasG (rowG z ks agg col) z q with
      | false => rfl
      | true =>
        obtain ⟨p, hpz, h1, h2⟩ := hasG_mem hh
        have hnz := zOk_nz hz p hpz
        have hw : 0 < p.2 := by omega
        have hm : p ∈ grpT z ks (rowTx (keyZ p.1 ks)) := grpT_mem.2 ⟨hpz, hw, rfl⟩
        have hd := (hD (rowTx (keyZ p.1 ks))).2 (fun e => by rw [e] at hm; simp at hm)
        refine absurd ⟨(rowT z ks agg col (rowTx (keyZ p.1 ks)), 1), hp.subset (List.mem_map.2 ⟨_, hd, rfl⟩), ?_⟩ hq
        rw [← h2]
        exact rowT_is agg col hz hkz hpz hw
    rw [this, getZ_zero fun p hpm e => hq ⟨p, hpm, e⟩]; rfl

end Go.Proofs.YtfgpdakkbhfiaaaGreatDoor

/-
  The contracts of impl.totalOf and of what it answers, and of impl.canGroup.
-/
namespace Go.Proofs.YtfgpdakkbhfiaaaGreatDoor
set_option maxRecDepth 100000
open Go.RowKit
attribute [local go_sem ↓] Go.wp_at_zero Go.wp_at_succ

theorem invOf_count (v : Value) (w : World) : (Go.method 268 97 v "loop.example/milldam/impl.of").run Tryz.prog w = .ok (150, v) w := by kernel_rfl
theorem invOf_sum (v : Value) (w : World) : (Go.method 268 98 v "loop.example/milldam/impl.of").run Tryz.prog w = .ok (151, v) w := by kernel_rfl
theorem invOf_least (v : Value) (w : World) : (Go.method 268 99 v "loop.example/milldam/impl.of").run Tryz.prog w = .ok (152, v) w := by kernel_rfl
theorem invOf_most (v : Value) (w : World) : (Go.method 268 100 v "loop.example/milldam/impl.of").run Tryz.prog w = .ok (153, v) w := by kernel_rfl

/-- A type and a function that reckon so of a group. -/
def IsTotal (agg : Int) (tid : TypeId) (fn : Nat) : Prop :=
  (∀ (v : Value) (w : World), (Go.method 268 tid v "loop.example/milldam/impl.of").run Tryz.prog w = .ok (fn, v) w) ∧ (∀ args w, (callFunc fn args).run Tryz.prog w = .ok (.enter fn args) w) ∧
    ∀ (u : Value) (g : List It) (col : Nat) (w : World), ItemsAt w u g → Fine g col → 0 < g.length → Calls Tryz.prog fn #[.agg #[], u, .int .i64 col] w fun e w' => e = .returned (.int .i64 (aggZ agg col g)) ∧ Below w.heap.size w w'
theorem totalOf_yes (agg : Int) (h : aggB agg = true) : ∃ tid fn, IsTotal agg tid fn ∧ ∀ w : World, Calls Tryz.prog 44 #[.int .i64 agg] w fun e w' => e = .returned (.tuple #[.iface tid (.agg #[]), .bool true]) ∧ w = w' := by
  have h0 := of_decide_eq_true h
  have hc : agg = 0 ∨ agg = 1 ∨ agg = 2 ∨ agg = 3 := by omega
  clear h h0
  rcases hc with rfl | rfl | rfl | rfl
  · refine ⟨97, 150, ⟨invOf_count, enters_of Tryz.func150 (by kernel_rfl) rfl, fun u g col w h hf hp => count_any u _ g col w h hf hp rfl⟩, fun w => ?_⟩
    go_enter Tryz.func44, Tryz.ntmps44
    go_wp2
    go_ret2
    exact ⟨rfl, rfl⟩
  · refine ⟨98, 151, ⟨invOf_sum, enters_of Tryz.func151 (by kernel_rfl) rfl, fun u g col w h hf hp => sum_any u _ g col w h hf hp rfl⟩, fun w => ?_⟩
    go_enter Tryz.func44, Tryz.ntmps44
    go_wp2
    go_ret2
    exact ⟨rfl, rfl⟩
  · refine ⟨99, 152, ⟨invOf_least, enters_of Tryz.func152 (by kernel_rfl) rfl, fun u g col w h hf hp => least_any u _ g col w h hf hp rfl⟩, fun w => ?_⟩
    go_enter Tryz.func44, Tryz.ntmps44
    go_wp2
    go_ret2
    exact ⟨rfl, rfl⟩
  · refine ⟨100, 153, ⟨invOf_most, enters_of Tryz.func153 (by kernel_rfl) rfl, fun u g col w h hf hp => most_any u _ g col w h hf hp rfl⟩, fun w => ?_⟩
    go_enter Tryz.func44, Tryz.ntmps44
    go_wp2
    go_ret2
    exact ⟨rfl, rfl⟩
theorem totalOf_no (agg : Int) (w : World) (h : aggB agg = false) : Calls Tryz.prog 44 #[.int .i64 agg] w fun e w' => e = .returned (.tuple #[.nilIface, .bool false]) ∧ w = w' := by
  have h0 := of_decide_eq_false h
  have h1 : (agg == 0) = false := by simp; omega
  have h2 : (agg == 1) = false := by simp; omega
  have h3 : (agg == 2) = false := by simp; omega
  have h4 : (agg == 3) = false := by simp; omega
  clear h h0
  go_enter Tryz.func44, Tryz.ntmps44
  go_wp2
  go_ret2
  exact ⟨rfl, rfl⟩
theorem canGroup_any (v u : Value) (z : List It) (ks : List Int) (col : Int) (w : World) (h : ItemsAt w v z) (h2 : IntsAt w u ks) :
    Calls Tryz.prog 46 #[v, u, .int .i64 col] w fun e w' => e = .returned (.bool (haveAll z ks && hasAt col z)) ∧ Below w.heap.size w w' := by
  obtain ⟨c, HC⟩ : ∃ c, Hid (c = haveAll z ks) := ⟨_, rfl⟩
  obtain ⟨d, HD⟩ : ∃ d, Hid (d = hasAt col z) := ⟨_, rfl⟩
  rw [← HC.out, ← HD.out]
  have HZ : Hid (ItemsAt w v z) := h
  go_enter Tryz.func46, Tryz.ntmps46
  go_wp2_with fail
  refine (allHaveKeys_any v u z ks _ h h2).mono ?_
  rw [← HC.out]
  rintro e w1 ⟨rfl, hb1⟩
  have HB1 : Hid (Below w.heap.size w w1) := hb1
  clear h h2 hb1
  cases c with
  | false =>
    go_wp2
    go_ret
    exact ⟨rfl, HB1.out⟩
  | true =>
    go_wp2_with fail
    refine (allHave_any v z col _ (HZ.out.below HB1.out)).mono ?_
    rw [← HD.out]
    rintro e w2 ⟨rfl, hb2⟩
    have HB2 : Hid (Below w.heap.size w w2) := below_then HB1.out hb2
    clear hb2 HB1
    go_wp2
    go_ret
    exact ⟨rfl, HB2.out⟩

end Go.Proofs.YtfgpdakkbhfiaaaGreatDoor

/-
  The contract of impl.GroupOf: the map of groups is read out in an order that nobody knows, each group once; what is told of it is put in order at the end.
-/
namespace Go.Proofs.YtfgpdakkbhfiaaaGreatDoor
set_option maxRecDepth 100000
open Go.RowKit Go.Maps
attribute [local go_sem ↓] Go.wp_at_zero Go.wp_at_succ

/-- The texts that have come: each once; what is left is what the map has besides. -/
def Got (D : DataW Value) (left : Lit → Bool) (ss : List (List UInt8)) : Prop := ss.Nodup ∧ (∀ s, left (.string s) = (has D (.string s) && !decide (s ∈ ss))) ∧ ∀ s ∈ ss, has D (.string s) = true
theorem got_start (D : DataW Value) : Got D (has D) [] := ⟨List.nodup_nil, fun s => by simp, fun s hs => by simp at hs⟩
theorem Got.step {D : DataW Value} {left : Lit → Bool} {ss : List (List UInt8)} (h : Got D left ss) {x : List UInt8} (hx : left (.string x) = true) : Got D (fun z => left z && !z.sameKey (.string x)) (ss ++ [x]) := by
  have h0 := h.2.1 x
  rw [hx] at h0
  have h1 : has D (.string x) = true ∧ x ∉ ss := by
    have := h0.symm
    rw [Bool.and_eq_true] at this
    exact ⟨this.1, by simpa using this.2⟩
  refine ⟨List.nodup_append.2 ⟨h.1, by simp, fun a ha b hb e => ?_⟩, fun s => ?_, fun s hs => ?_⟩
  · simp at hb
    subst hb
    exact h1.2 (by rw [← e]; exact ha)
  · show (left (.string s) && !(Lit.string s).sameKey (.string x)) = _
    rw [h.2.1 s]
    by_cases e : s = x
    · subst e; simp [Lit.sameKey]
    · simp [Lit.sameKey, e]
  · rcases List.mem_append.1 hs with e | e
    · exact h.2.2 s e
    · simp at e; rw [e]; exact h1.1
theorem Got.all {D : DataW Value} {left : Lit → Bool} {ss : List (List UInt8)} (h : Got D left ss) (hl : ∀ kl, left kl = false) (s : List UInt8) : s ∈ ss ↔ has D (.string s) = true := by
  refine ⟨h.2.2 s, fun hs => ?_⟩
  have h0 := h.2.1 s
  rw [hl, hs] at h0
  simpa using h0
theorem ranges_at {H : Type} {P : Program} {k : TypeId} {R : Value → Option (DataW H × List MemPlace)} {w w' : World} {b r n : Nat} {D : DataW H} {left : Lit → Bool} {cnt : Nat} (h : w.ranges P k R b r n D left cnt) (hb : w'.heap[b]? = w.heap[b]?) (hr : w'.heap[r]? = w.heap[r]?) : w'.ranges P k R b r n D left cnt := by
  obtain ⟨es, clock, since, seen, c0, h1, F, hs, hD, h2, rest⟩ := h
  exact ⟨es, clock, since, seen, c0, hb.trans h1, F, hs, hD, hr.trans h2, rest⟩
theorem grown_thenB {a b c : World} {r : Option Nat} (h : a.grownBy b r) (hb : Below a.heap.size b c) : a.grownBy c r :=
  ⟨hb.os.trans h.os, hb.tape.trans h.tape, hb.output.trans h.output, Nat.le_trans h.size hb.size, fun k hk hne => (hb.block k hk).trans (h.block k hk hne)⟩
theorem spine_items {w : World} {lo hi : Nat} {v : Value} {l : List Rw} (S : Spine w lo hi v (prs l)) (hr : RowsIn w l) : ItemsAt w v (its l) := by
  refine items_of_spine (by simp [prs, its]) S fun j hj => ?_
  rw [prs_length] at hj
  have := hr l[j] (List.getElem_mem hj)
  simpa [prs, its, List.getD, hj] using this

set_option maxHeartbeats 16000000 in
theorem implGroup_any (v u : Value) (z : List It) (ks : List Int) (agg col : Int) (w : World) (htab : Tab w) (h : ItemsAt w v z) (h2 : TailI w u ks) :
    Calls Tryz.prog 14 #[v, u, .int .i64 agg, .int .i64 col] w fun e w' => ∃ v', e = .returned (.tuple #[v', .bool (grpOk z ks agg col)]) ∧ OwnZ w' w.heap.size w'.heap.size v' (grpOut z ks agg col) ∧ Below w.heap.size w w' := by
  obtain ⟨i0, hi0, hz0, hz1, hz2⟩ := info_parts infoItem
  obtain ⟨i1, hi1, hj0, hj1, hj2⟩ := info_parts infoInt
  have hnot : grpCan z ks agg col = false → grpOk z ks agg col = false ∧ grpOut z ks agg col = [] := fun e => by
    have : grpOk z ks agg col = false := by unfold grpOk; rw [e]; rfl
    exact ⟨this, grp_not this⟩
  obtain ⟨ua, un, uc, rfl⟩ := h2.1.shape
  cases ha : aggB agg with
  | false =>
    obtain ⟨e0, e1⟩ := hnot (by unfold grpCan; rw [ha]; simp)
    rw [e0, e1]
    clear hnot e0 e1 h2 htab
    go_enter Tryz.func14, Tryz.ntmps14
    go_wp2_with fail
    refine (totalOf_no agg _ ha).mono ?_
    rintro e w0 ⟨rfl, rfl⟩
    go_wp2_with fail
    refine (implZOk_any v z _ h).mono ?_
    rintro e w1 ⟨rfl, hb1⟩
    clear h
    cases zOkB z with
    | false =>
      go_wp2
      go_ret2
      exact ⟨_, rfl, nil_ownZ _ _, hb1⟩
    | true =>
      go_wp2
      go_ret2
      exact ⟨_, rfl, nil_ownZ _ _, hb1⟩
  | true =>
  obtain ⟨tid, fn, htot, htof⟩ := totalOf_yes agg ha
  cases hz : zOkB z with
  | false =>
    obtain ⟨e0, e1⟩ := hnot (by unfold grpCan; rw [hz]; simp)
    rw [e0, e1]
    clear hnot e0 e1 h2 htab htot
    go_enter Tryz.func14, Tryz.ntmps14
    go_wp2_with fail
    refine (htof _).mono ?_
    rintro e w0 ⟨rfl, rfl⟩
    clear htof
    go_wp2_with fail
    refine (implZOk_any v z _ h).mono ?_
    rw [hz]
    rintro e w1 ⟨rfl, hb1⟩
    clear h
    go_wp2
    go_ret2
    exact ⟨_, rfl, nil_ownZ _ _, hb1⟩
  | true =>
  cases hk6 : keysB ks 6 with
  | false =>
    obtain ⟨e0, e1⟩ := hnot (by unfold grpCan; rw [hk6]; simp)
    rw [e0, e1]
    clear hnot e0 e1 htab htot
    go_enter Tryz.func14, Tryz.ntmps14
    go_wp2_with fail
    refine (htof _).mono ?_
    rintro e w0 ⟨rfl, rfl⟩
    clear htof
    go_wp2_with fail
    refine (implZOk_any v z _ h).mono ?_
    rw [hz]
    rintro e w1 ⟨rfl, hb1⟩
    go_wp2_with fail
    refine (areKeys_any _ ks 6 _ (h2.below hb1)).mono ?_
    rw [hk6]
    rintro e w2 ⟨rfl, rfl⟩
    clear h h2
    go_wp2
    go_ret2
    exact ⟨_, rfl, nil_ownZ _ _, hb1⟩
  | true =>
  cases hcg : (haveAll z ks && hasAt col z) with
  | false =>
    obtain ⟨e0, e1⟩ := hnot (by unfold grpCan; rw [hcg]; simp)
    rw [e0, e1]
    clear hnot e0 e1 htab htot
    go_enter Tryz.func14, Tryz.ntmps14
    go_wp2_with fail
    refine (htof _).mono ?_
    rintro e w0 ⟨rfl, rfl⟩
    clear htof
    go_wp2_with fail
    refine (implZOk_any v z _ h).mono ?_
    rw [hz]
    rintro e w1 ⟨rfl, hb1⟩
    go_wp2_with fail
    refine (areKeys_any _ ks 6 _ (h2.below hb1)).mono ?_
    rw [hk6]
    rintro e w2 ⟨rfl, rfl⟩
    go_wp2_with fail
    refine (canGroup_any v _ z ks col _ (h.below hb1) (h2.below hb1).1).mono ?_
    rw [hcg]
    rintro e w2 ⟨rfl, hb2⟩
    have HK : Hid (Below w.heap.size w w2) := below_then hb1 hb2
    clear h h2 hb1 hb2
    go_wp2
    go_ret2
    exact ⟨_, rfl, nil_ownZ _ _, HK.out⟩
  | true =>
  have hcan : grpCan z ks agg col = true := by unfold grpCan; rw [hz, ha, hk6, hcg]; rfl
  have hkz : haveAll z ks = true := (Bool.and_eq_true _ _ ▸ hcg).1
  have hcz : hasAt col z = true := (Bool.and_eq_true _ _ ▸ hcg).2
  have hk5 := (keys_parts hk6).1
  obtain ⟨cn, HCN⟩ : ∃ cn, Hid (cn = col.toNat) := ⟨_, rfl⟩
  obtain ⟨os, HO⟩ : ∃ os, Hid (os = grpOut z ks agg col) := ⟨_, rfl⟩
  obtain ⟨d, HD⟩ : ∃ d, Hid (d = grpOk z ks agg col) := ⟨_, rfl⟩
  have HYES : Hid (grpTold z ks agg cn = true → d = true ∧ os = grpTo (rowG z ks agg cn) z) := fun e => by
    rw [HCN.out] at e ⊢
    have e0 : grpOk z ks agg col = true := by unfold grpOk; rw [hcan, e]; rfl
    exact ⟨HD.out.trans e0, by rw [HO.out]; unfold grpOut; rw [e0]; rfl⟩
  have HNO : Hid (grpTold z ks agg cn = false → d = false ∧ os = []) := fun e => by
    rw [HCN.out] at e
    have e0 : grpOk z ks agg col = false := by unfold grpOk; rw [e, Bool.and_false]
    exact ⟨HD.out.trans e0, HO.out.trans (grp_not e0)⟩
  rw [← HO.out, ← HD.out]
  clear hnot hcan
  go_enter Tryz.func14, Tryz.ntmps14
  go_wp2_with fail
  refine (htof _).mono ?_
  rintro e w0 ⟨rfl, rfl⟩
  clear htof
  go_wp2_with fail
  refine (implZOk_any v z _ h).mono ?_
  rw [hz]
  rintro e w1 ⟨rfl, hb1⟩
  go_wp2_with fail
  refine (areKeys_any _ ks 6 _ (h2.below hb1)).mono ?_
  rw [hk6]
  rintro e w1' ⟨rfl, hw1⟩
  obtain rfl := hw1.symm
  go_wp2_with fail
  refine (canGroup_any v _ z ks col _ (h.below hb1) (h2.below hb1).1).mono ?_
  rw [hcg]
  rintro e w2 ⟨rfl, hb2⟩
  have hk2 := below_then hb1 hb2
  go_wp2_with fail
  refine (groups_any v _ z ks _ (htab.below hk2) (h.below hk2) (h2.below hk2).1 hz hkz (by omega)).mono ?_
  rintro e w3 ⟨n, G, rfl, ⟨D, V, hm1, hm2, hm3, hm4, hm5, hm6, hm7⟩, hG, hR, hn100, hb3⟩
  have hk3 := below_then hk2 hb3
  have HK2 : Hid (IntsAt w (.slice ua un uc) ks) := h2.1
  have HR : Hid (∀ s, RowsIn w2 (G s)) := hR
  have HG : Hid (∀ s, its (G s) = grpT z ks s) := hG
  have HV : Hid (∀ c, D.atKey (.string c) (.held vn) = .held (V c)) := hm2
  have HH : Hid (∀ c, has D (.string c) = !(G c).isEmpty) := hm7
  have HS3 : Hid (∀ c, Spine w3 (w2.heap.size + 1) w3.heap.size (V c) (prs (G c))) := hm3
  have HB3 : Hid (Below w2.heap.size w2 w3) := hb3
  have HB2 : Hid (Below w.heap.size w w2) := hk2
  have HZ : Hid (zOkB z = true) := hz
  have HKZ : Hid (haveAll z ks = true) := hkz
  have HCZ : Hid (hasAt col z = true) := hcz
  have HTOT : Hid (IsTotal agg tid fn) := htot
  have hmt := htot.1
  have hen0 := htot.2.1
  have hszD := hm1.size_le
  have hmb : w2.heap.size < w3.heap.size := by have := hm1.lt; exact this
  have hs32 := hb3.size
  have hs2w := hk2.size
  have K : Keyed Tryz.prog 9 := string_keyed Tryz.underlying9
  clear h h2 hb1 hb2 hk2 htab hG hR hm2 hm3 hm4 hm7 hz hkz hcz hcg hk6 hb3 hk3 htot ha
  go_wp2_with (first
    | (at_range; go_loud (refine wpList_range_own _ rfl _ 65 rfl 9 23 K hm6 _ w2.heap.size n D rfl hm1 ?_; intro w0 hrg0 hg0 hs0))
    | go_in)
  go_frame
  have HB0 : Hid (Below w2.heap.size w2 w0) := HB3.out.grown hg0 hs32 (fun j hj => by cases hj)
  have HS0 : Hid (∀ c, Spine w0 (w2.heap.size + 1) w3.heap.size (V c) (prs (G c))) := fun c => (HS3.out c).kept hg0 (by cases (V c).ownBlock <;> simp)
  have HRG0 : Hid (w0.ranges Tryz.prog 9 heldT w2.heap.size w3.heap.size n D (has D) (Maps.size D)) := hrg0
  have HM1 : Hid (w3.ownsMap Tryz.prog 9 heldT w2.heap.size n D) := hm1
  have HW0 : Hid (Below w.heap.size w w0) := HB2.out.trans (HB0.out.mono hs2w)
  clear hrg0 hg0 HB3 HS3 hm1 hm6 hm5
  go_loopw [12] (fun s wr => ∃ (left : Lit → Bool) (cnt : Nat) (ss : List (List UInt8)), Hid (wr.ranges Tryz.prog 9 heldT w2.heap.size w3.heap.size n D left cnt) ∧ Hid (Got D left ss) ∧ ss.length + cnt ≤ 100 ∧ Hid (OwnZ wr w0.heap.size wr.heap.size s (ss.map fun s => (rowT z ks agg cn s, (1 : Int)))) ∧ Hid (w0.grownBy wr (some w3.heap.size)) ∧ Hid (∀ s ∈ ss, cellB (aggZ agg cn (grpT z ks s)) = true))
    (fun _ wr => wr.rangeLeft w2.heap.size w3.heap.size)
  case atStart => exact ⟨_, _, [], HRG0.out, got_start D, by simp; omega, nil_ownZ _ _, grown_refl _ _, fun s hs => by simp at hs⟩
  case round =>
    obtain ⟨left, cnt, ss, HRG, HGOT, hlen, HT, HGR, HCE⟩ := hrel
    clear HRG0
    have hrg := HRG.out
    go_wp2_with (first
      | (at_next; go_loud (refine wpList_next_ranges _ rfl _ rfl 9 K heldT Value.string id (fun key kl hk => by obtain ⟨x, hx, _⟩ := Go.WideMaps.string_of_keyOf Tryz.underlying9 hk; exact ⟨x, hx⟩) (fun v y _ => ⟨v, rfl⟩) w2.heap.size w3.heap.size n D left cnt rfl hrg ?_ ?_))
      | go_in)
    · intro hc0 hl0
      have hD : ∀ s, s ∈ ss ↔ grpT z ks s ≠ [] := fun s => by
        rw [HGOT.out.all hl0 s, HH.out s, ← HG.out s]
        cases G s with
        | nil => simp [its]
        | cons a l => simp [its]
      have htold := texts_yes HZ.out HKZ.out (fun s hs => (hD s).2 hs) HCE.out
      obtain ⟨hd, hos⟩ := HYES.out htold
      obtain ⟨l, hl, S, R, AP⟩ := HT.out.opened
      have hll : l.length ≤ 100 := by
        have := congrArg List.length hl
        rw [its_length, List.length_map] at this
        omega
      have HEND : Hid (∀ l' : List Rw, l.Perm l' → Asc (its l') → its l' = os) := fun l' hp ha => by
        rw [hos]
        exact rows_told HZ.out HKZ.out HGOT.out.1 hD (by rw [hl]; exact hp.map _) ha
      have hszr := HGR.out.size
      have HBR : Hid (Below w.heap.size w wr) := HW0.out.grown HGR.out (by omega) (fun k hk => by simp at hk; omega)
      subst hd
      clear hrg hos htold hD hl0 hc0 hl HRG
      go_wp2_with fail
      refine (sort_any u12 w0.heap.size wr.heap.size l _ S R (by omega)).mono ?_
      rintro e w4 ⟨rfl, l', hp, hasc, S1, R1, O1⟩
      have HZ4 : Hid (OwnZ w4 w.heap.size w4.heap.size u12 os) := by
        rw [Hid, ← HEND.out l' hp hasc]
        exact (OwnZ.closed S1 R1 (apart_perm AP hp)).wide (by omega) O1.size (Nat.le_refl _)
      have HB4 : Hid (Below w.heap.size w w4) := O1.below HBR.out (by omega) (by omega)
      clear S R AP S1 R1 O1 hp hasc HEND
      go_wp2
      go_ret2
      exact ⟨_, rfl, HZ4.out, HB4.out⟩
    · intro x c kl y yb w4 cnt1 hkey hleft hRc hat hrg4 hlt hg4 hs4 hen
      obtain ⟨x', hx', hkl, hxs⟩ := Go.WideMaps.string_of_keyOf Tryz.underlying9 hkey
      obtain ⟨s, hsx⟩ : ∃ s, s = x.data.toList := ⟨_, rfl⟩
      have ex : x' = x := by injection hx' with e; exact e.symm
      rw [ex, ← hsx] at hkl
      have hcV : c = V s := by
        have h1 := hat (.held vn)
        rw [hkl, HV.out s] at h1
        unfold heldT at hRc
        injection hRc with h2
        injection h2 with h2 _
        rw [← h2] at h1
        injection h1 with h1
        exact h1.symm
      subst hkl
      have hgot := HGOT.out.2.1 s
      rw [hleft] at hgot
      have hhas : has D (.string s) = true := by
        have := hgot.symm
        rw [Bool.and_eq_true] at this
        exact this.1
      have hTne : grpT z ks s ≠ [] := fun e => by
        have h1 := HH.out s
        have h2 := HG.out s
        rw [e] at h2
        rw [hhas] at h1
        cases hg : G s with
        | nil => rw [hg] at h1; simp at h1
        | cons a l => rw [hg] at h2; simp [its] at h2
      have HGOT2 : Hid (Got D (fun z => left z && !z.sameKey (.string s)) (ss ++ [s])) := HGOT.out.step hleft
      obtain ⟨p, hp, hw, _, hrt, hgz⟩ := rowT_first (agg := agg) (col := cn) HZ.out HKZ.out hTne
      have hc0 : 0 ≤ col := (has_iff.1 HCZ.out p hp).1
      have hcc : ((cn : Nat) : Int) = col := by rw [HCN.out]; omega
      have hfine : Fine (grpT z ks s) cn := by rw [hgz]; exact grp_fine HZ.out (by rw [hcc]; exact HCZ.out) ks _
      have hszr := HGR.out.size
      have hgr4 : w0.grownBy w4 (some w3.heap.size) := grown_trans HGR.out hg4
      have hw4 : Below w.heap.size w w4 := HW0.out.grown hgr4 (by omega) (fun k hk => by simp at hk; omega)
      have hw42 : Below w2.heap.size w2 w4 := HB0.out.grown hgr4 (by omega) (fun k hk => by simp at hk; omega)
      have S4 : Spine w4 (w2.heap.size + 1) w3.heap.size (V s) (prs (G s)) := (HS0.out s).kept hgr4 (by
        cases ho : (V s).ownBlock with
        | none => exact .inl rfl
        | some k =>
          have := (HS0.out s).2.1 k ho
          exact .inr (fun e => by simp at e; omega))
      have IA : ItemsAt w4 c (grpT z ks s) := by rw [← HG.out s, hcV]; exact spine_items S4 ((HR.out s).below hw42)
      have hfirst := first_mem hTne
      have hfz := (grpT_mem.1 hfirst).1
      have hkk : ∀ k ∈ ks, 0 ≤ k ∧ k < ((((grpT z ks s).getD 0 ([], 0)).1.length : Nat) : Int) := fun k hk => have_iff.1 HKZ.out k hk _ hfz
      have htno := texts_no (agg := agg) (col := cn) HZ.out HKZ.out hTne
      have HROW : Hid (rowT z ks agg cn s = keyZ ((grpT z ks s).getD 0 ([], 0)).1 ks ++ [aggZ agg cn (grpT z ks s)]) := rfl
      have HRG4 : Hid (w4.ranges Tryz.prog 9 heldT w2.heap.size w3.heap.size n D (fun z => left z && !z.sameKey (.string s)) cnt1) := hrg4
      have HG4 : Hid (w0.grownBy w4 (some w3.heap.size)) := hgr4
      have HW4 : Hid (Below w.heap.size w w4) := hw4
      have HT4 : Hid (OwnZ w4 w0.heap.size wr.heap.size u12 (ss.map fun s => (rowT z ks agg cn s, (1 : Int)))) := HT.out.only (lo := w3.heap.size) (hi := w3.heap.size + 1) (Only.of_grown hg4 (fun k hk => by simp at hk; omega)) (.inr (by omega))
      have HLT : Hid (cnt1 < cnt) := hlt
      clear hat hRc hkey hx' hcV hgot hhas hfirst hfz hgz hrt hp hw S4 hw42 hgr4 hrg4 hg4 hsx ex hxs HT hleft
      have HCE2 : Hid (cellB (aggZ agg cn (grpT z ks s)) = true → ∀ t ∈ ss ++ [s], cellB (aggZ agg cn (grpT z ks t)) = true) := fun e t ht => by
        rcases List.mem_append.1 ht with h1 | h1
        · exact HCE.out t h1
        · simp at h1; rw [h1]; exact e
      obtain ⟨gt, HGT⟩ : ∃ gt, Hid (gt = grpT z ks s) := ⟨_, rfl⟩
      rw [← HGT.out] at IA hfine hkk htno HROW HCE2 hTne
      rcases IA.cases with ⟨a, cap, rfl, hnil⟩ | ⟨b, off, cap, hpos, hlim, rfl, hbw, hcell⟩
      · exact absurd rfl hTne
      clear hTne
      have hcall := HTOT.out.2.2 _ gt cn w4 IA hfine hpos
      rw [hcc] at hcall
      obtain ⟨rv, c0, _, hix0⟩ := hcell 0 hpos
      obtain ⟨nv, HNV⟩ : ∃ nv, Hid (nv = aggZ agg cn gt) := ⟨_, rfl⟩
      rw [← HNV.out] at hcall htno HROW HCE2
      obtain ⟨x0, HX0⟩ : ∃ x0, Hid (x0 = (gt.getD 0 ([], 0)).1) := ⟨_, rfl⟩
      rw [← HX0.out] at hix0 hkk HROW
      clear IA hfine hcell
      go_wp2_with fail
      refine hcall.mono ?_
      rintro e w5 ⟨rfl, hb5⟩
      have hk5w := below_then HW4.out hb5
      have c05 := (hb5.cell (p := ⟨b, off + 0 * 2, none⟩) hbw).trans c0
      rw [Nat.zero_mul, Nat.add_zero] at c05
      have hix5 := hix0.below hb5
      have HT5 : Hid (OwnZ w5 w0.heap.size wr.heap.size u12 (ss.map fun s => (rowT z ks agg cn s, (1 : Int)))) := HT4.out.keep' hb5
      have HB5 : Hid (Below w4.heap.size w4 w5) := hb5
      have hs5 := hb5.size
      have hbw5 : b < w5.heap.size := by omega
      have hposi : (0 : Int) < (gt.length : Int) := by omega
      obtain ⟨m, HM⟩ : ∃ m, Hid (m = gt.length) := ⟨_, rfl⟩
      rw [← HM.out] at hpos hlim hposi ⊢
      clear hcall c0 hix0 hb5 hmt hen0 hen hrg
      go_wp2_with fail
      refine (cellFits_any nv _).mono ?_
      rintro e w5' ⟨rfl, hw5⟩
      obtain rfl := hw5.symm
      cases hcb : cellB nv with
      | false =>
        obtain ⟨hd, hos⟩ := HNO.out (htno hcb)
        have HK : Hid (Below w.heap.size w w5) := hk5w
        subst hd hos
        clear hcb htno hix5 c05 hk5w
        go_wp2
        go_ret2
        exact ⟨_, rfl, nil_ownZ _ _, HK.out⟩
      | true =>
        have HCE3 := HCE2.out hcb
        have HCE4 : Hid (∀ t ∈ ss ++ [s], cellB (aggZ agg cn (grpT z ks t)) = true) := HCE3
        obtain ⟨ra, rn, rc, rfl⟩ := hix5.shape
        have hku := HK2.out.below hk5w
        clear htno HCE3 HCE2 hk5w
        go_wp2_with fail
        refine (cellsAt_any _ _ x0 ks _ hix5 hku hkk (by omega)).mono ?_
        rintro e w6 ⟨v6, rfl, O6, hb6⟩
        have hs6 := hb6.size
        have hO6 := O6.keep' (below_alloc (w := w6) (.cells #[.int .i64 nv] 3))
        have hkl6 : (keyZ x0 ks).length ≤ 6 := by rw [keyZ_len]; omega
        have HB6 : Hid (Below w5.heap.size w5 w6) := hb6
        clear hix5 hku c05 hb6 O6 hkk hcb
        have hb67 : Below w5.heap.size w5 (w6.alloc (.cells #[.int .i64 nv] 3)) := HB6.out.trans ((below_alloc (w := w6) (.cells #[.int .i64 nv] 3)).mono hs6)
        have hs67 : w5.heap.size ≤ (w6.alloc (.cells #[.int .i64 nv] 3)).heap.size := by simp; omega
        have key7 : ∀ v7 w7, w7.ownsRow w5.heap.size 3 1 v7 (keyZ x0 ks ++ [nv]).length ((keyZ x0 ks ++ [nv]).map (Value.int .i64)) → (w6.alloc (.cells #[.int .i64 nv] 3)).grownBy w7 v6.ownBlock → Own w7 w5.heap.size w7.heap.size v7 (rowT z ks agg cn s) ∧ Below w5.heap.size w5 w7 := fun v7 w7 hown7 hg7 => by
          rw [HROW.out]
          exact ⟨own_new (xs := keyZ x0 ks ++ [nv]) (by simpa using hown7) (by simp; omega), hb67.grown hg7 hs67 (fun i hi' => (hO6.1.lt i hi').1)⟩
        have HK7 : Hid _ := key7
        clear hb67 key7
        go_wp2_with (first
          | (at_builtin; refine wpList_append_ints rfl _ _ 24 rfl w5.heap.size 3 i1 Tryz.underlying24 hi1 hj0 hj1 hj2 v6 _ _ rfl hO6.1 _ [nv] rfl (int_litK w6 nv) (by simp; omega) (by simp; omega) ?_; intro v7 w7 hown7 hg7 _; obtain ⟨O7, hb7⟩ := HK7.out v7 w7 (by simpa using hown7) hg7; have hs7 := hb7.size; obtain ⟨ra7, rn7, rc7, rfl⟩ := O7.ints.shape; obtain ⟨ps, hpsl, hspW, hprW, hfin⟩ := (HT5.out.keep' hb7).ready 1 O7 (by omega) (by omega) (by omega) (by simp; omega); have hpl2 : ps.length ≤ 100 := by (rw [hpsl, List.length_map]; omega))
          | (at_builtin; go_loud (refine wpList_append_pairs rfl _ _ 23 rfl w0.heap.size 42 i0 Tryz.underlying23 hi0 hz0 hz1 hz2 u12 ps rfl hspW _ _ rfl hprW (by simp; omega) (by simp; omega) ?_; intro v8 w8 hown8 hg8 _)))
        obtain ⟨Z8, B8⟩ := hfin v8 w8 hown8 hg8
        have HZ8 : Hid (OwnZ w8 w0.heap.size w8.heap.size v8 ((ss ++ [s]).map fun s => (rowT z ks agg cn s, (1 : Int)))) := by rw [Hid, List.map_append]; exact Z8
        have hB48 : Below w0.heap.size w4 w8 := (HB5.out.mono (by omega)).trans ((hb7.mono (by omega)).trans B8)
        have HG8 : Hid (w0.grownBy w8 (some w3.heap.size)) := grown_thenB HG4.out hB48
        have HRG8 : Hid (w8.ranges Tryz.prog 9 heldT w2.heap.size w3.heap.size n D (fun z => left z && !z.sameKey (.string s)) cnt1) := ranges_at HRG4.out (hB48.block _ (by omega)) (hB48.block _ (by omega))
        clear hfin hown8 hg8 hspW hprW Z8 B8 hB48 O7 hb7 hO6 hown7 hg7 HK7
        go_wp2
        go_roundw
        case rel => exact ⟨_, cnt1, ss ++ [s], HRG8.out, HGOT2.out, by have := HLT.out; simp; omega, HZ8.out, HG8.out, HCE4.out⟩
        case measure => rw [HRG8.out.left_eq, HRG.out.left_eq]; exact HLT.out

end Go.Proofs.YtfgpdakkbhfiaaaGreatDoor

/-
  Plain facts on groups: of what is gone there are none; what is near something is grouped alone as among all; by how much groups are turned.
-/
namespace Go.Proofs.YtfgpdakkbhfiaaaGreatDoor
open Go.RowKit

theorem grp_parts {z : List It} {ks : List Int} {agg col : Int} (h : grpOk z ks agg col = true) : zOkB z = true ∧ aggB agg = true ∧ keysB ks 6 = true ∧ haveAll z ks = true ∧ hasAt col z = true ∧ (∀ p ∈ z, toldG z ks agg col.toNat p = true) ∧ grpOut z ks agg col = grpTo (rowG z ks agg col.toNat) z := by
  have h0 := h
  unfold grpOk grpCan grpTold at h0
  simp only [Bool.and_eq_true] at h0
  obtain ⟨⟨⟨⟨hz, ha⟩, hk6⟩, hkz, hcz⟩, ht⟩ := h0
  rw [List.all_eq_true] at ht
  exact ⟨hz, ha, hk6, hkz, hcz, ht, by unfold grpOut; rw [h]; rfl⟩
theorem grp_mk {z : List It} {ks : List Int} {agg col : Int} (hz : zOkB z = true) (ha : aggB agg = true) (hk6 : keysB ks 6 = true) (hkz : haveAll z ks = true) (hcz : hasAt col z = true) (ht : ∀ p ∈ z, toldG z ks agg col.toNat p = true) : grpOk z ks agg col = true := by
  unfold grpOk grpCan grpTold
  rw [hz, ha, hk6, hkz, hcz, List.all_eq_true.2 ht]; rfl
/-- Of what is all gone there is no group. -/
theorem grpTo_gone {R : It → List Int} : ∀ {z : List It}, (∀ p ∈ z, p.2 < 0) → grpTo R z = []
  | [], _ => rfl
  | p :: z, h => by
    have ih : z.foldl (oneG R) [] = [] := grpTo_gone (R := R) (z := z) (fun q hq => h q (by simp [hq]))
    unfold grpTo
    rw [List.foldl_cons]
    have : oneG R [] p = [] := by unfold oneG; rw [if_pos (h p (by simp))]
    rw [this]; exact ih
theorem grp_gone {z y : List It} {ks : List Int} {agg col : Int} (h : grpOk z ks agg col = true) (hy : zOkB y = true) (hneg : ∀ p ∈ y, p.2 < 0) (hrow : ∀ p ∈ y, ∃ q ∈ z, q.1 = p.1) : grpOk y ks agg col = true ∧ grpOut y ks agg col = [] := by
  obtain ⟨hz, ha, hk6, hkz, hcz, _, _⟩ := grp_parts h
  have hok : grpOk y ks agg col = true := grp_mk hy ha hk6 (have_iff.2 fun k hk p hp => by
    obtain ⟨q, hq, e⟩ := hrow p hp
    rw [← e]; exact have_iff.1 hkz k hk q hq) (has_iff.2 fun p hp => by
    obtain ⟨q, hq, e⟩ := hrow p hp
    rw [← e]; exact has_iff.1 hcz q hq) (fun p hp => by unfold toldG; rw [decide_eq_true (hneg p hp)]; rfl)
  exact ⟨hok, by rw [(grp_parts hok).2.2.2.2.2.2]; exact grpTo_gone hneg⟩
/-- With all that is there taken away no group is there. -/
theorem grp_back {z : List It} {ks : List Int} {agg col : Int} (h : grpOk z ks agg col = true) : grpOk (negZ (posZ z)) ks agg col = true ∧ grpOut (negZ (posZ z)) ks agg col = [] := by
  have hz := (grp_parts h).1
  have hmem : ∀ p ∈ negZ (posZ z), p.2 < 0 ∧ ∃ q ∈ z, q.1 = p.1 := fun p hp => by
    unfold negZ posZ at hp
    obtain ⟨q, hq, rfl⟩ := List.mem_map.1 hp
    obtain ⟨x, hx, rfl⟩ := List.mem_map.1 hq
    exact ⟨by show (-1 : Int) < 0; decide, x, (List.mem_filter.1 hx).1, rfl⟩
  exact grp_gone h (by rw [zOk_neg]; exact zOk_posD hz) (fun p hp => (hmem p hp).1) (fun p hp => (hmem p hp).2)
theorem grp_none {z : List It} {ks : List Int} {agg col : Int} (h : grpOk z ks agg col = true) : grpOk [] ks agg col = true ∧ grpOut [] ks agg col = [] :=
  grp_gone h rfl (fun p hp => by simp at hp) (fun p hp => by simp at hp)
theorem zOk_lost {z : List It} (h : zOkB z = true) : zOkB (z.filter fun p => decide (p.2 < 0)) = true :=
  zOk_mkG (by have := zOk_le h; have := List.length_filter_le (fun p : It => decide (p.2 < 0)) z; omega) (fun p hp => zOk_item h (List.mem_filter.1 hp).1) ((zOk_srt h).sublist List.filter_sublist)
theorem grp_lost {z : List It} {ks : List Int} {agg col : Int} (h : grpOk z ks agg col = true) : grpOk (z.filter fun p => decide (p.2 < 0)) ks agg col = true ∧ grpOut (z.filter fun p => decide (p.2 < 0)) ks agg col = [] :=
  grp_gone h (zOk_lost (grp_parts h).1) (fun p hp => by simpa using (List.mem_filter.1 hp).2) (fun p hp => ⟨p, (List.mem_filter.1 hp).1, rfl⟩)

/-- What is kept by its row. -/
theorem getZ_keep (f : List Int → Bool) (q : List Int) : ∀ zs : List It, getZ (zs.filter fun p => f p.1) q = if f q then getZ zs q else 0
  | [] => by simp [getZ_nil]
  | p :: zs => by
    have ih := getZ_keep f q zs
    rw [List.filter_cons]
    by_cases hp : f p.1 = true
    · rw [if_pos hp, getZ_cons, getZ_cons, ih]
      by_cases e : p.1 = q
      · rw [if_pos e, if_pos e, if_pos (by rw [← e]; exact hp)]
      · rw [if_neg e, if_neg e]
    · rw [if_neg hp, ih, getZ_cons]
      by_cases e : p.1 = q
      · rw [if_pos e, if_neg (by rw [← e]; exact hp), if_neg (by rw [← e]; exact hp)]
      · rw [if_neg e]
def keyNear (d : List It) (ks key : List Int) : Bool := d.any fun q => decide (keyZ q.1 ks = key)
theorem isNear_key (d : List It) (ks r : List Int) : isNear d ks r = keyNear d ks (keyZ r ks) := rfl
/-- A group that is near is in what is near as among all; others are not. -/
theorem grp_near (z d : List It) (ks key : List Int) : grpZ (nearZ z d ks) ks key = if keyNear d ks key then grpZ z ks key else [] := by
  unfold grpZ nearZ
  rw [List.filter_filter]
  by_cases h : keyNear d ks key = true
  · rw [if_pos h]
    refine List.filter_congr fun p _ => ?_
    by_cases e : keyZ p.1 ks = key
    · rw [isNear_key, e, h]; simp
    · rw [decide_eq_false e]; simp
  · rw [if_neg h, List.filter_eq_nil_iff]
    intro p _ hc
    simp only [Bool.and_eq_true, decide_eq_true_eq] at hc
    rw [isNear_key, hc.1.2] at hc
    exact h hc.2
/-- What is turned elsewhere leaves a group as it was. -/
theorem grp_far {z d : List It} {ks key : List Int} (hz : zOkB z = true) (hd : zOkB d = true) (h : keyNear d ks key = false) : grpZ (addZ z d) ks key = grpZ z ks key := by
  have split : ∀ y : List It, grpZ y ks key = (y.filter fun p => decide (keyZ p.1 ks = key)).filter fun p => decide (0 < p.2) := fun y => by
    unfold grpZ; rw [List.filter_filter]
  rw [split, split]
  congr 1
  have sz := zOk_srt hz
  have nz := zOk_nz hz
  refine canon ((srt_add sz).sublist List.filter_sublist) (fun p hp => nz_add nz p (List.mem_filter.1 hp).1) (sz.sublist List.filter_sublist) (fun p hp => nz p (List.mem_filter.1 hp).1) fun q => ?_
  rw [getZ_keep (fun r => decide (keyZ r ks = key)), getZ_keep (fun r => decide (keyZ r ks = key)), getZ_add sz (zOk_srt hd)]
  by_cases e : keyZ q ks = key
  · rw [if_pos (decide_eq_true e), if_pos (decide_eq_true e)]
    have : getZ d q = 0 := getZ_zero fun p hp e2 => by
      unfold keyNear at h
      rw [List.any_eq_false] at h
      exact h p hp (by rw [e2]; exact decide_eq_true e)
    omega
  · rw [if_neg (by simpa using e), if_neg (by simpa using e)]

end Go.Proofs.YtfgpdakkbhfiaaaGreatDoor

/-
  The contracts of impl.DeltaGroup and spec.DeltaGroup: by how much groups are turned, in memory of its own; none, and false, if that can not be told.
-/
namespace Go.Proofs.YtfgpdakkbhfiaaaGreatDoor
set_option maxRecDepth 100000
open Go.RowKit

def dgCan (z d : List It) (ks : List Int) (col : Int) : Bool := addOk z d && nearCan z d ks && hasAt col z && hasAt col d
def dgNow (z d : List It) (ks : List Int) (agg col : Int) : List It := grpOut (nearZ (addZ z d) d ks) ks agg col
def dgWas (z d : List It) (ks : List Int) (agg col : Int) : List It := grpOut (nearZ z d ks) ks agg col
def dgTold (z d : List It) (ks : List Int) (agg col : Int) : Bool := grpOk (nearZ (addZ z d) d ks) ks agg col && grpOk (nearZ z d ks) ks agg col
def dgOk (z d : List It) (ks : List Int) (agg col : Int) : Bool := (dgCan z d ks col && dgTold z d ks agg col) && zOkB (minusZ (dgNow z d ks agg col) (dgWas z d ks agg col))
def dgOut (z d : List It) (ks : List Int) (agg col : Int) : List It := if dgOk z d ks agg col then minusZ (dgNow z d ks agg col) (dgWas z d ks agg col) else []
theorem dg_not {z d : List It} {ks : List Int} {agg col : Int} (h : (dgCan z d ks col && dgTold z d ks agg col) = false) : dgOk z d ks agg col = false ∧ dgOut z d ks agg col = [] := by
  have : dgOk z d ks agg col = false := by unfold dgOk; rw [h]; rfl
  exact ⟨this, by unfold dgOut; rw [this]; rfl⟩
theorem dg_can {z d : List It} {ks : List Int} {agg col : Int} (h : dgCan z d ks col = false) : dgOk z d ks agg col = false ∧ dgOut z d ks agg col = [] := dg_not (by rw [h]; rfl)
theorem dg_yes {z d : List It} {ks : List Int} {agg col : Int} (h : (dgCan z d ks col && dgTold z d ks agg col) = true) : dgOk z d ks agg col = zOkB (minusZ (dgNow z d ks agg col) (dgWas z d ks agg col)) ∧ dgOut z d ks agg col = if zOkB (minusZ (dgNow z d ks agg col) (dgWas z d ks agg col)) then minusZ (dgNow z d ks agg col) (dgWas z d ks agg col) else [] := by
  have e : dgOk z d ks agg col = zOkB (minusZ (dgNow z d ks agg col) (dgWas z d ks agg col)) := by unfold dgOk; rw [h, Bool.true_and]
  exact ⟨e, by unfold dgOut; rw [e]⟩
theorem grpOut_zokD (z : List It) (ks : List Int) (agg col : Int) : zOkB (grpOut z ks agg col) = true := by
  unfold grpOut
  cases hok : grpOk z ks agg col with
  | false => rfl
  | true =>
    have h0 := hok
    unfold grpOk grpCan grpTold at h0
    simp only [Bool.and_eq_true] at h0
    obtain ⟨⟨⟨⟨hz, ha⟩, hk6⟩, hkz, hcz⟩, ht⟩ := h0
    rw [List.all_eq_true] at ht
    exact grpTo_ok hz hk6 hkz (fun p hp => hp) (zOk_le hz) ht
theorem have_add {z d : List It} {ks : List Int} (h1 : haveAll z ks = true) (h2 : haveAll d ks = true) : haveAll (addZ z d) ks = true := by
  rw [have_iff] at *
  intro k hk p hp
  rcases add_rows hp with ⟨q, hq, e⟩ | ⟨q, hq, e⟩
  · rw [e]; exact h1 k hk q hq
  · rw [e]; exact h2 k hk q hq
theorem rows_six {z : List It} (hz : zOkB z = true) : ∀ k, k < z.length → (z.getD k ([], 0)).1.length ≤ 6 := fun k hk => zOk_mem hz (by simp [List.getD, hk])

set_option maxHeartbeats 8000000 in
theorem implDG_any (v u kv : Value) (z d : List It) (ks : List Int) (agg col : Int) (w : World) (htab : Tab w) (h : TailZ w v z) (h2 : TailZ w u d) (h3 : TailI w kv ks) :
    Calls Tryz.prog 8 #[v, u, kv, .int .i64 agg, .int .i64 col] w fun e w' => ∃ v', e = .returned (.tuple #[v', .bool (dgOk z d ks agg col)]) ∧ OwnZ w' w.heap.size w'.heap.size v' (dgOut z d ks agg col) ∧ Below w.heap.size w w' := by
  have dgNot := @dg_can z d ks agg col
  cases c1 : addOk z d with
  | false =>
    obtain ⟨e0, e1⟩ := dgNot (by unfold dgCan; rw [c1]; simp)
    rw [e0, e1]
    clear e0 e1 dgNot
    go_enter Tryz.func8, Tryz.ntmps8
    go_wp2_with fail
    refine (implZAdd_any v u z d _ h h2).mono ?_
    rw [c1]
    rintro e w1 ⟨v1, rfl, Z1, hb1⟩
    have hk1 := hb1
    have HK : Hid (Below w.heap.size w w1) := hk1
    clear htab h h2 h3 Z1 hb1 hk1
    go_wp2
    go_ret2
    exact ⟨_, rfl, nil_ownZ _ _, HK.out⟩
  | true =>
  cases c2 : nearCan z d ks with
  | false =>
    obtain ⟨e0, e1⟩ := dgNot (by unfold dgCan; rw [c1, c2]; simp)
    rw [e0, e1]
    clear e0 e1 dgNot
    go_enter Tryz.func8, Tryz.ntmps8
    go_wp2_with fail
    refine (implZAdd_any v u z d _ h h2).mono ?_
    rw [c1]
    rintro e w1 ⟨v1, rfl, Z1, hb1⟩
    have hk1 := hb1
    go_wp2_with fail
    refine (canBeNear_any v u kv z d ks _ (h.items.below hk1) (h2.items.below hk1) (h3.below hk1)).mono ?_
    rw [c2]
    rintro e w2 ⟨rfl, hb2⟩
    have hk2 := below_then hk1 hb2
    have HK : Hid (Below w.heap.size w w2) := hk2
    clear htab h h2 h3 Z1 hb1 hk1 hb2 hk2
    go_wp2
    go_ret2
    exact ⟨_, rfl, nil_ownZ _ _, HK.out⟩
  | true =>
  cases c3 : hasAt col z with
  | false =>
    obtain ⟨e0, e1⟩ := dgNot (by unfold dgCan; rw [c1, c2, c3]; simp)
    rw [e0, e1]
    clear e0 e1 dgNot
    go_enter Tryz.func8, Tryz.ntmps8
    go_wp2_with fail
    refine (implZAdd_any v u z d _ h h2).mono ?_
    rw [c1]
    rintro e w1 ⟨v1, rfl, Z1, hb1⟩
    have hk1 := hb1
    go_wp2_with fail
    refine (canBeNear_any v u kv z d ks _ (h.items.below hk1) (h2.items.below hk1) (h3.below hk1)).mono ?_
    rw [c2]
    rintro e w2 ⟨rfl, hb2⟩
    have hk2 := below_then hk1 hb2
    go_wp2_with fail
    refine (allHave_any v z col _ (h.items.below hk2)).mono ?_
    rw [c3]
    rintro e w3 ⟨rfl, hb3⟩
    have hk3 := below_then hk2 hb3
    have HK : Hid (Below w.heap.size w w3) := hk3
    clear htab h h2 h3 Z1 hb1 hk1 hb2 hk2 hb3 hk3
    go_wp2
    go_ret2
    exact ⟨_, rfl, nil_ownZ _ _, HK.out⟩
  | true =>
  cases c4 : hasAt col d with
  | false =>
    obtain ⟨e0, e1⟩ := dgNot (by unfold dgCan; rw [c1, c2, c3, c4]; simp)
    rw [e0, e1]
    clear e0 e1 dgNot
    go_enter Tryz.func8, Tryz.ntmps8
    go_wp2_with fail
    refine (implZAdd_any v u z d _ h h2).mono ?_
    rw [c1]
    rintro e w1 ⟨v1, rfl, Z1, hb1⟩
    have hk1 := hb1
    go_wp2_with fail
    refine (canBeNear_any v u kv z d ks _ (h.items.below hk1) (h2.items.below hk1) (h3.below hk1)).mono ?_
    rw [c2]
    rintro e w2 ⟨rfl, hb2⟩
    have hk2 := below_then hk1 hb2
    go_wp2_with fail
    refine (allHave_any v z col _ (h.items.below hk2)).mono ?_
    rw [c3]
    rintro e w3 ⟨rfl, hb3⟩
    have hk3 := below_then hk2 hb3
    go_wp2_with fail
    refine (allHave_any u d col _ (h2.items.below hk3)).mono ?_
    rw [c4]
    rintro e w4 ⟨rfl, hb4⟩
    have hk4 := below_then hk3 hb4
    have HK : Hid (Below w.heap.size w w4) := hk4
    clear htab h h2 h3 Z1 hb1 hk1 hb2 hk2 hb3 hk3 hb4 hk4
    go_wp2
    go_ret2
    exact ⟨_, rfl, nil_ownZ _ _, HK.out⟩
  | true =>
  clear dgNot
  have hcan : dgCan z d ks col = true := by unfold dgCan; rw [c1, c2, c3, c4]; rfl
  obtain ⟨hz, hd, ha, hout⟩ := add_tells c1
  obtain ⟨hk6, hkz, hkd⟩ := near_parts c2
  have hl : ks.length ≤ 6 := by have := (keys_parts hk6).1; omega
  have hka := have_add hkz hkd
  obtain ⟨d1, HD1⟩ : ∃ d1, Hid (d1 = grpOk (nearZ (addZ z d) d ks) ks agg col) := ⟨_, rfl⟩
  obtain ⟨d0, HD0⟩ : ∃ d0, Hid (d0 = grpOk (nearZ z d ks) ks agg col) := ⟨_, rfl⟩
  obtain ⟨g1, HG1⟩ : ∃ g1, Hid (g1 = grpOut (nearZ (addZ z d) d ks) ks agg col) := ⟨_, rfl⟩
  obtain ⟨g0, HG0⟩ : ∃ g0, Hid (g0 = grpOut (nearZ z d ks) ks agg col) := ⟨_, rfl⟩
  have hz1 : zOkB g1 = true := by rw [HG1.out]; exact grpOut_zokD _ _ _ _
  have hz0 : zOkB g0 = true := by rw [HG0.out]; exact grpOut_zokD _ _ _ _
  have HNO : Hid ((d1 && d0) = false → dgOk z d ks agg col = false ∧ dgOut z d ks agg col = []) := fun h => dg_not (by rw [hcan, Bool.true_and]; unfold dgTold; rw [← HD1.out, ← HD0.out]; exact h)
  have HYES : Hid ((d1 && d0) = true → dgOk z d ks agg col = zOkB (minusZ g1 g0) ∧ dgOut z d ks agg col = if zOkB (minusZ g1 g0) then minusZ g1 g0 else []) := fun h => by
    have := dg_yes (z := z) (d := d) (ks := ks) (agg := agg) (col := col) (by rw [hcan, Bool.true_and]; unfold dgTold; rw [← HD1.out, ← HD0.out]; exact h)
    unfold dgNow dgWas at this
    rw [← HG1.out, ← HG0.out] at this
    exact this
  obtain ⟨os, HO⟩ : ∃ os, Hid (os = dgOut z d ks agg col) := ⟨_, rfl⟩
  obtain ⟨c, HC⟩ : ∃ c, Hid (c = dgOk z d ks agg col) := ⟨_, rfl⟩
  rw [← HO.out, ← HC.out]
  clear hcan
  go_enter Tryz.func8, Tryz.ntmps8
  go_wp2_with fail
  refine (implZAdd_any v u z d _ h h2).mono ?_
  rw [c1]
  rintro e w1 ⟨v1, rfl, Z1, hb1⟩
  have hk1 := hb1
  go_wp2_with fail
  refine (canBeNear_any v u kv z d ks _ (h.items.below hk1) (h2.items.below hk1) (h3.below hk1)).mono ?_
  rw [c2]
  rintro e w2 ⟨rfl, hb2⟩
  have hk2 := below_then hk1 hb2
  go_wp2_with fail
  refine (allHave_any v z col _ (h.items.below hk2)).mono ?_
  rw [c3]
  rintro e w3 ⟨rfl, hb3⟩
  have hk3 := below_then hk2 hb3
  go_wp2_with fail
  refine (allHave_any u d col _ (h2.items.below hk3)).mono ?_
  rw [c4]
  rintro e w4 ⟨rfl, hb4⟩
  have hk4 := below_then hk3 hb4
  rw [hout] at Z1
  have hb14 := (hb2.trans ((hb3.trans (hb4.mono hb3.size)).mono hb2.size))
  have Z4 := Z1.keep' hb14
  go_wp2_with fail
  refine (groupTexts_any u kv d ks _ (htab.below hk4) (h2.items.below hk4) (h3.below hk4).1 hd hkd hl).mono ?_
  rintro e w5 ⟨mb, m, rfl, hC5, hmb, hm5, hb5⟩
  have hk5 := below_then hk4 hb5
  have Z5 := Z4.keep' hb5
  clear hb1 hb2 hb3 hb4 hb14 Z1 Z4 hk1 hk2 hk3 hk4 hb5
  go_wp2_with fail
  refine (near_any v1 kv mb m (addZ z d) d ks _ (htab.below hk5) Z5.items hC5 hm5 (h3.below hk5).1 ha hd hka hkd hl).mono ?_
  rintro e w6 ⟨v6, rfl, I6, hb6⟩
  have hk6' := below_then hk5 hb6
  have hC6 := hC5.grown hb6
  clear hC5 Z5 hk5 hb6
  go_wp2_with fail
  refine (implGroup_any v6 kv (nearZ (addZ z d) d ks) ks agg col _ (htab.below hk6') I6 (h3.below hk6')).mono ?_
  rw [← HG1.out, ← HD1.out]
  rintro e w7 ⟨v7, rfl, Z7, hb7⟩
  have hk7 := below_then hk6' hb7
  have hC7 := hC6.grown hb7
  have s6 := hk6'.size
  clear hC6 I6 hk6' hb7
  go_wp2_with fail
  refine (near_any v kv mb m z d ks _ (htab.below hk7) (h.items.below hk7) hC7 hm5 (h3.below hk7).1 hz hd hkz hkd hl).mono ?_
  rintro e w8 ⟨v8, rfl, I8, hb8⟩
  have hk8 := below_then hk7 hb8
  have Z8 := Z7.keep' hb8
  clear hC7 Z7 hk7 hb8
  go_wp2_with fail
  refine (implGroup_any v8 kv (nearZ z d ks) ks agg col _ (htab.below hk8) I8 (h3.below hk8)).mono ?_
  rw [← HG0.out, ← HD0.out]
  rintro e w9 ⟨v9, rfl, Z9, hb9⟩
  have hk9 := below_then hk8 hb9
  have Y9 := Z8.keep' hb9
  have s9 := hk9.size
  clear Z8 hk8 hb9 I8 htab h h2 h3
  by_cases hdd : (d1 && d0) = true
  · obtain ⟨rfl, rfl⟩ : d1 = true ∧ d0 = true := by simpa using hdd
    obtain ⟨y0, y1⟩ := HYES.out rfl
    rw [← HC.out] at y0
    rw [← HO.out] at y1
    go_wp2_with fail
    refine (without_any v7 v9 g1 g0 _ Y9.tail Z9.items hz1 hz0).mono ?_
    rw [← y1, ← y0]
    rintro e w10 ⟨v10, rfl, Z10, hb10⟩
    have HK : Hid (Below w.heap.size w w10) := below_then hk9 hb10
    have R : Hid (OwnZ w10 w.heap.size w10.heap.size v10 os) := Z10.wide s9 (Nat.le_refl _) (Nat.le_refl _)
    clear Y9 Z9 Z10 hb10 hk9 y0 y1
    go_wp2
    go_ret2
    exact ⟨_, rfl, R.out, HK.out⟩
  · have hdf : (d1 && d0) = false := by simpa using hdd
    obtain ⟨y0, y1⟩ := HNO.out hdf
    rw [← HC.out] at y0
    rw [← HO.out] at y1
    subst y0 y1
    have HK : Hid (Below w.heap.size w w9) := hk9
    clear Y9 Z9 hk9 hdd
    cases d1 with
    | false =>
      go_wp2
      go_ret2
      exact ⟨_, rfl, nil_ownZ _ _, HK.out⟩
    | true =>
      cases d0 with
      | true => simp at hdf
      | false =>
        go_wp2
        go_ret2
        exact ⟨_, rfl, nil_ownZ _ _, HK.out⟩
set_option maxHeartbeats 8000000 in
theorem specDG_any (v u kv : Value) (z d : List It) (ks : List Int) (agg col : Int) (w : World) (h : ItemsAt w v z) (h2 : ItemsAt w u d) (h3 : IntsAt w kv ks) :
    Calls Tryz.prog 9 #[v, u, kv, .int .i64 agg, .int .i64 col] w fun e w' => ∃ v', e = .returned (.tuple #[v', .bool (dgOk z d ks agg col)]) ∧ OwnZ w' w.heap.size w'.heap.size v' (dgOut z d ks agg col) ∧ Below w.heap.size w w' := by
  have dgNot := @dg_can z d ks agg col
  cases c1 : addOk z d with
  | false =>
    obtain ⟨e0, e1⟩ := dgNot (by unfold dgCan; rw [c1]; simp)
    rw [e0, e1]
    clear e0 e1 dgNot
    go_enter Tryz.func9, Tryz.ntmps9
    go_wp2_with fail
    refine (specZAdd_any v u z d _ h h2).mono ?_
    rw [c1]
    rintro e w1 ⟨v1, rfl, Z1, hb1⟩
    have hk1 := hb1
    have HK : Hid (Below w.heap.size w w1) := hk1
    clear h h2 h3 Z1 hb1 hk1
    go_wp2
    go_ret2
    exact ⟨_, rfl, (lit_ownZ w1).wide HK.out.size (Nat.le_refl _) (Nat.le_refl _), below_then HK.out (below_alloc _)⟩
  | true =>
  cases c2 : keysB ks 6 with
  | false =>
    obtain ⟨e0, e1⟩ := dgNot (by unfold dgCan nearCan; rw [c2]; simp)
    rw [e0, e1]
    clear e0 e1 dgNot
    obtain ⟨hz, hd, _, _⟩ := add_tells c1
    have r6z := rows_six hz
    have r6d := rows_six hd
    go_enter Tryz.func9, Tryz.ntmps9
    go_wp2_with fail
    refine (specZAdd_any v u z d _ h h2).mono ?_
    rw [c1]
    rintro e w1 ⟨v1, rfl, Z1, hb1⟩
    have hk1 := hb1
    go_wp2_with fail
    refine (l4Keys_any kv ks 6 _ (h3.below hk1) (by omega)).mono ?_
    rw [c2]
    rintro e w2 ⟨rfl, hb2⟩
    have hk2 := below_then hk1 hb2
    have HK : Hid (Below w.heap.size w w2) := hk2
    clear h h2 h3 Z1 hb1 hk1 hb2 hk2
    clear r6z r6d
    go_wp2
    go_ret2
    exact ⟨_, rfl, (lit_ownZ w2).wide HK.out.size (Nat.le_refl _) (Nat.le_refl _), below_then HK.out (below_alloc _)⟩
  | true =>
  cases c3 : fitsB z ks col with
  | false =>
    obtain ⟨e0, e1⟩ := dgNot (by rw [fits_have c2] at c3; unfold dgCan nearCan; cases k1 : haveAll z ks <;> simp_all)
    rw [e0, e1]
    clear e0 e1 dgNot
    obtain ⟨hz, hd, _, _⟩ := add_tells c1
    have r6z := rows_six hz
    have r6d := rows_six hd
    go_enter Tryz.func9, Tryz.ntmps9
    go_wp2_with fail
    refine (specZAdd_any v u z d _ h h2).mono ?_
    rw [c1]
    rintro e w1 ⟨v1, rfl, Z1, hb1⟩
    have hk1 := hb1
    go_wp2_with fail
    refine (l4Keys_any kv ks 6 _ (h3.below hk1) (by omega)).mono ?_
    rw [c2]
    rintro e w2 ⟨rfl, hb2⟩
    have hk2 := below_then hk1 hb2
    go_wp2_with fail
    refine (l5Fits_any v kv z ks col _ (h.below hk2) (h3.below hk2) r6z).mono ?_
    rw [c3]
    rintro e w3 ⟨rfl, hb3⟩
    have hk3 := below_then hk2 hb3
    have HK : Hid (Below w.heap.size w w3) := hk3
    clear h h2 h3 Z1 hb1 hk1 hb2 hk2 hb3 hk3
    clear r6z r6d
    go_wp2
    go_ret2
    exact ⟨_, rfl, (lit_ownZ w3).wide HK.out.size (Nat.le_refl _) (Nat.le_refl _), below_then HK.out (below_alloc _)⟩
  | true =>
  cases c4 : fitsB d ks col with
  | false =>
    obtain ⟨e0, e1⟩ := dgNot (by rw [fits_have c2] at c4; unfold dgCan nearCan; cases k1 : haveAll d ks <;> simp_all)
    rw [e0, e1]
    clear e0 e1 dgNot
    obtain ⟨hz, hd, _, _⟩ := add_tells c1
    have r6z := rows_six hz
    have r6d := rows_six hd
    go_enter Tryz.func9, Tryz.ntmps9
    go_wp2_with fail
    refine (specZAdd_any v u z d _ h h2).mono ?_
    rw [c1]
    rintro e w1 ⟨v1, rfl, Z1, hb1⟩
    have hk1 := hb1
    go_wp2_with fail
    refine (l4Keys_any kv ks 6 _ (h3.below hk1) (by omega)).mono ?_
    rw [c2]
    rintro e w2 ⟨rfl, hb2⟩
    have hk2 := below_then hk1 hb2
    go_wp2_with fail
    refine (l5Fits_any v kv z ks col _ (h.below hk2) (h3.below hk2) r6z).mono ?_
    rw [c3]
    rintro e w3 ⟨rfl, hb3⟩
    have hk3 := below_then hk2 hb3
    go_wp2_with fail
    refine (l5Fits_any u kv d ks col _ (h2.below hk3) (h3.below hk3) r6d).mono ?_
    rw [c4]
    rintro e w4 ⟨rfl, hb4⟩
    have hk4 := below_then hk3 hb4
    have HK : Hid (Below w.heap.size w w4) := hk4
    clear h h2 h3 Z1 hb1 hk1 hb2 hk2 hb3 hk3 hb4 hk4
    clear r6z r6d
    go_wp2
    go_ret2
    exact ⟨_, rfl, (lit_ownZ w4).wide HK.out.size (Nat.le_refl _) (Nat.le_refl _), below_then HK.out (below_alloc _)⟩
  | true =>
  have f3 := c3
  have f4 := c4
  rw [fits_have c2, Bool.and_eq_true] at f3 f4
  have hcN : nearCan z d ks = true := by unfold nearCan; rw [c2, f3.1, f4.1]; rfl
  clear dgNot
  have hcan : dgCan z d ks col = true := by unfold dgCan; rw [c1, hcN, f3.2, f4.2]; rfl
  obtain ⟨hz, hd, ha, hout⟩ := add_tells c1
  obtain ⟨hk6, hkz, hkd⟩ := near_parts hcN
  have hl : ks.length ≤ 6 := by have := (keys_parts hk6).1; omega
  have hka := have_add hkz hkd
  obtain ⟨d1, HD1⟩ : ∃ d1, Hid (d1 = grpOk (nearZ (addZ z d) d ks) ks agg col) := ⟨_, rfl⟩
  obtain ⟨d0, HD0⟩ : ∃ d0, Hid (d0 = grpOk (nearZ z d ks) ks agg col) := ⟨_, rfl⟩
  obtain ⟨g1, HG1⟩ : ∃ g1, Hid (g1 = grpOut (nearZ (addZ z d) d ks) ks agg col) := ⟨_, rfl⟩
  obtain ⟨g0, HG0⟩ : ∃ g0, Hid (g0 = grpOut (nearZ z d ks) ks agg col) := ⟨_, rfl⟩
  have hz1 : zOkB g1 = true := by rw [HG1.out]; exact grpOut_zokD _ _ _ _
  have hz0 : zOkB g0 = true := by rw [HG0.out]; exact grpOut_zokD _ _ _ _
  have HNO : Hid ((d1 && d0) = false → dgOk z d ks agg col = false ∧ dgOut z d ks agg col = []) := fun h => dg_not (by rw [hcan, Bool.true_and]; unfold dgTold; rw [← HD1.out, ← HD0.out]; exact h)
  have HYES : Hid ((d1 && d0) = true → dgOk z d ks agg col = zOkB (minusZ g1 g0) ∧ dgOut z d ks agg col = if zOkB (minusZ g1 g0) then minusZ g1 g0 else []) := fun h => by
    have := dg_yes (z := z) (d := d) (ks := ks) (agg := agg) (col := col) (by rw [hcan, Bool.true_and]; unfold dgTold; rw [← HD1.out, ← HD0.out]; exact h)
    unfold dgNow dgWas at this
    rw [← HG1.out, ← HG0.out] at this
    exact this
  obtain ⟨os, HO⟩ : ∃ os, Hid (os = dgOut z d ks agg col) := ⟨_, rfl⟩
  obtain ⟨c, HC⟩ : ∃ c, Hid (c = dgOk z d ks agg col) := ⟨_, rfl⟩
  rw [← HO.out, ← HC.out]
  clear hcan
  have r6z := rows_six hz
  have r6d := rows_six hd
  clear f3 f4
  go_enter Tryz.func9, Tryz.ntmps9
  go_wp2_with fail
  refine (specZAdd_any v u z d _ h h2).mono ?_
  rw [c1]
  rintro e w1 ⟨v1, rfl, Z1, hb1⟩
  have hk1 := hb1
  go_wp2_with fail
  refine (l4Keys_any kv ks 6 _ (h3.below hk1) (by omega)).mono ?_
  rw [c2]
  rintro e w2 ⟨rfl, hb2⟩
  have hk2 := below_then hk1 hb2
  go_wp2_with fail
  refine (l5Fits_any v kv z ks col _ (h.below hk2) (h3.below hk2) r6z).mono ?_
  rw [c3]
  rintro e w3 ⟨rfl, hb3⟩
  have hk3 := below_then hk2 hb3
  go_wp2_with fail
  refine (l5Fits_any u kv d ks col _ (h2.below hk3) (h3.below hk3) r6d).mono ?_
  rw [c4]
  rintro e w4 ⟨rfl, hb4⟩
  have hk4 := below_then hk3 hb4
  rw [hout] at Z1
  have hb14 := (hb2.trans ((hb3.trans (hb4.mono hb3.size)).mono hb2.size))
  have Z4 := Z1.keep' hb14
  clear hb1 hb2 hb3 hb4 hb14 Z1 hk1 hk2 hk3 r6z r6d
  go_wp2_with fail
  refine (l6Near_any v u kv z d ks _ (h.below hk4) (h2.below hk4) (h3.below hk4) hz hkz hkd hl).mono ?_
  rintro e w5 ⟨v5, rfl, Z5n, hb5⟩
  have hk5 := below_then hk4 hb5
  have Z5 := Z4.keep' hb5
  clear Z4 hk4 hb5
  go_wp2_with fail
  refine (specGroup_any v5 kv (nearZ z d ks) ks agg col _ Z5n.items (h3.below hk5)).mono ?_
  rw [← HG0.out, ← HD0.out]
  rintro e w6 ⟨v6, rfl, Z6g, hb6⟩
  have hk6' := below_then hk5 hb6
  have Z6 := Z5.keep' hb6
  clear Z5 Z5n hk5 hb6
  go_wp2_with fail
  refine (l6Near_any v1 u kv (addZ z d) d ks _ Z6.items (h2.below hk6') (h3.below hk6') ha hka hkd hl).mono ?_
  rintro e w7 ⟨v7, rfl, Z7n, hb7⟩
  have hk7 := below_then hk6' hb7
  have Z7g := Z6g.keep' hb7
  clear Z6 Z6g hk6' hb7
  go_wp2_with fail
  refine (specGroup_any v7 kv (nearZ (addZ z d) d ks) ks agg col _ Z7n.items (h3.below hk7)).mono ?_
  rw [← HG1.out, ← HD1.out]
  rintro e w8 ⟨v8, rfl, Z8, hb8⟩
  have hk8 := below_then hk7 hb8
  have Z8g := Z7g.keep' hb8
  have s8 := hk8.size
  clear Z7g Z7n hk7 hb8 h h2 h3
  by_cases hdd : (d1 && d0) = true
  · obtain ⟨rfl, rfl⟩ : d1 = true ∧ d0 = true := by simpa using hdd
    obtain ⟨y0, y1⟩ := HYES.out rfl
    rw [← HC.out] at y0
    rw [← HO.out] at y1
    unfold minusZ at y0 y1
    go_wp2_with fail
    refine (l6Minus_any v8 v6 g1 g0 _ Z8.items Z8g.items (zOk_mild hz1) (zOk_mild hz0)).mono ?_
    rintro e w9 ⟨v9, rfl, Z9, hb9⟩
    have hk9 := below_then hk8 hb9
    have s9 := hk9.size
    clear Z8 Z8g hk8
    go_wp2_with fail
    refine (l2Told_any v9 (addZ g1 (negZ g0)) _ _ _ Z9 hb9.size).mono ?_
    rw [← y1, ← y0]
    rintro e w10 ⟨v10, rfl, Z10, hb10⟩
    have HK : Hid (Below w.heap.size w w10) := below_then hk9 hb10
    have R : Hid (OwnZ w10 w.heap.size w10.heap.size v10 os) := Z10.wide s8 (Nat.le_refl _) (Nat.le_refl _)
    clear Z9 Z10 hb9 hb10 hk9 y0 y1
    go_wp2
    go_ret2
    exact ⟨_, rfl, R.out, HK.out⟩
  · have hdf : (d1 && d0) = false := by simpa using hdd
    obtain ⟨y0, y1⟩ := HNO.out hdf
    rw [← HC.out] at y0
    rw [← HO.out] at y1
    subst y0 y1
    have HK : Hid (Below w.heap.size w w8) := hk8
    clear Z8 Z8g hk8 hdd
    cases d0 with
    | false =>
      go_wp2
      go_ret2
      exact ⟨_, rfl, (lit_ownZ w8).wide HK.out.size (Nat.le_refl _) (Nat.le_refl _), below_then HK.out (below_alloc _)⟩
    | true =>
      cases d1 with
      | true => simp at hdf
      | false =>
        go_wp2
        go_ret2
        exact ⟨_, rfl, (lit_ownZ w8).wide HK.out.size (Nat.le_refl _) (Nat.le_refl _), below_then HK.out (below_alloc _)⟩

end Go.Proofs.YtfgpdakkbhfiaaaGreatDoor

/-
  Plain facts on by how much what is there once is turned; the contracts at a told answer.
-/
namespace Go.Proofs.YtfgpdakkbhfiaaaGreatDoor
open Go.RowKit
set_option linter.unusedVariables false

theorem once_true {z d : List It} (h : onceOk z d = true) : addOk z d = true ∧ zOkB (onceZ z d) = true ∧ onceOut z d = onceZ z d := by
  have h0 := h
  unfold onceOk at h0
  rw [Bool.and_eq_true] at h0
  exact ⟨h0.1, h0.2, by unfold onceOut; rw [h]; rfl⟩
theorem once_false {z d : List It} (h : onceOk z d = false) : onceOut z d = [] := by unfold onceOut; rw [h]; rfl
theorem srt_minus {a b : List It} (ha : Srt a) : Srt (minusZ a b) := srt_add ha
theorem getZ_minus {a b : List It} (ha : Srt a) (hb : Srt b) (q : List Int) : getZ (minusZ a b) q = getZ a q - getZ b q := by
  unfold minusZ
  rw [getZ_add ha (srt_neg hb), getZ_neg]; omega
/-- What was, and by how much it is turned, is what is then. -/
theorem add_minus {a b : List It} (ha : Srt a) (hna : Nz a) (hb : Srt b) (hnb : Nz b) : addZ b (minusZ a b) = a := by
  refine canon (srt_add hb) (nz_add hnb) ha hna fun q => ?_
  rw [getZ_add hb (srt_minus ha), getZ_minus ha hb]; omega
theorem getZ_once {z d : List It} (hz : Srt z) (hd : Srt d) (q : List Int) : getZ (onceZ z d) q = (if 0 < getZ z q + getZ d q then 1 else 0) - (if 0 < getZ z q then 1 else 0) := by
  unfold onceZ
  rw [getZ_minus (srt_posD (srt_add hz)) (srt_posD hz), getZ_posD (srt_add hz), getZ_posD hz, getZ_add hz hd]
theorem once_row {z d : List It} (hz : Srt z) (hd : Srt d) {p : It} (hp : p ∈ onceZ z d) : (p.2 = 1 ∨ p.2 = -1) ∧ getZ d p.1 ≠ 0 := by
  have hs : Srt (onceZ z d) := srt_minus (srt_posD (srt_add hz))
  have hn : Nz (onceZ z d) := nz_add (nz_posD _)
  have h1 := getZ_once hz hd p.1
  rw [getZ_selfD hs p hp] at h1
  have h2 := hn p hp
  by_cases c1 : 0 < getZ z p.1 + getZ d p.1
  · rw [if_pos c1] at h1
    by_cases c2 : 0 < getZ z p.1
    · rw [if_pos c2] at h1; omega
    · rw [if_neg c2] at h1; omega
  · rw [if_neg c1] at h1
    by_cases c2 : 0 < getZ z p.1
    · rw [if_pos c2] at h1; omega
    · rw [if_neg c2] at h1; omega
theorem once_len {z d : List It} (hz : Srt z) (hd : Srt d) : (onceZ z d).length ≤ d.length :=
  len_subD (srt_minus (srt_posD (srt_add hz))) fun p hp => getZ_hereD (once_row hz hd hp).2
theorem once_sum {z d : List It} (hz : Srt z) (hd : Srt d) : addZ (posZ z) (onceZ z d) = posZ (addZ z d) :=
  add_minus (srt_posD (srt_add hz)) (nz_posD _) (srt_posD hz) (nz_posD _)
/-- From nothing on it is turned by all that is there once. -/
theorem once_none {d : List It} (hd : Srt d) (hn : Nz d) : onceZ [] d = posZ d := by
  refine canon (srt_minus (srt_posD (srt_add Srt.nil))) (nz_add (nz_posD _)) (srt_posD hd) (nz_posD _) fun q => ?_
  rw [getZ_once Srt.nil hd, getZ_posD hd, getZ_nil]
  simp

theorem once_val {v v2 : Value} {a b os : List It} {c : Bool} {w : World} (hc : onceOk a b = c) (ho : onceOut a b = os) (h : TailZ w v a) (h2 : TailZ w v2 b) :
    Calls Tryz.prog 16 #[v, v2] w fun e w' => ∃ v', e = .returned (.tuple #[v', .bool c]) ∧ TailZ w' v' os ∧ Below w.heap.size w w' := by
  subst hc ho
  refine (implOnce_any v v2 a b w h h2).mono ?_
  rintro e w' ⟨v', he, hz, hb⟩
  exact ⟨v', he, hz.tail, hb⟩
theorem specOnce_val {v v2 : Value} {a b os : List It} {c : Bool} {w : World} (hc : onceOk a b = c) (ho : onceOut a b = os) (h : TailZ w v a) (h2 : TailZ w v2 b) :
    Calls Tryz.prog 17 #[v, v2] w fun e w' => ∃ v', e = .returned (.tuple #[v', .bool c]) ∧ TailZ w' v' os ∧ Below w.heap.size w w' := by
  subst hc ho
  refine (specOnce_any v v2 a b w h.items h2.items).mono ?_
  rintro e w' ⟨v', he, hz, hb⟩
  exact ⟨v', he, hz.tail, hb⟩

end Go.Proofs.YtfgpdakkbhfiaaaGreatDoor

/-
  Plain facts on groups: which rows they have, a row a key.
-/
namespace Go.Proofs.YtfgpdakkbhfiaaaGreatDoor
open Go.RowKit
set_option linter.unusedVariables false

def b2i (b : Bool) : Int := if b then 1 else 0
theorem hasG_iff {R : It → List Int} {zs : List It} {q : List Int} : hasG R zs q = true ↔ ∃ p ∈ zs, ¬ p.2 < 0 ∧ R p = q := by
  constructor
  · exact hasG_mem
  · rintro ⟨p, hp, h1, h2⟩
    unfold hasG
    rw [List.any_eq_true]
    exact ⟨p, hp, by simp [h2]; omega⟩
theorem hasG_eq {R S : It → List Int} {zs ys : List It} {q : List Int} (h1 : ∀ p ∈ zs, ¬ p.2 < 0 → R p = q → ∃ r ∈ ys, ¬ r.2 < 0 ∧ S r = q) (h2 : ∀ p ∈ ys, ¬ p.2 < 0 → S p = q → ∃ r ∈ zs, ¬ r.2 < 0 ∧ R r = q) : hasG R zs q = hasG S ys q := by
  rw [Bool.eq_iff_iff, hasG_iff, hasG_iff]
  constructor
  · rintro ⟨p, hp, a, b⟩
    exact h1 p hp a b
  · rintro ⟨p, hp, a, b⟩
    exact h2 p hp a b
/-- Whether the groups of z have this row. -/
def hG (z : List It) (ks : List Int) (agg : Int) (col : Nat) (q : List Int) : Bool := hasG (rowG z ks agg col) z q
theorem rowG_key {z : List It} {ks : List Int} {agg : Int} {col : Nat} {p : It} {q : List Int} (h : rowG z ks agg col p = q) : q.take ks.length = keyZ p.1 ks := by
  rw [← h]
  unfold rowG
  rw [List.take_append_of_le_length (by rw [keyZ_len]; exact Nat.le_refl _), List.take_of_length_le (by rw [keyZ_len]; exact Nat.le_refl _)]
theorem mem_getZ {r : List Int} {y : Int} (hy : y ≠ 0) : ∀ {z : List It}, getZ z r = y → (r, y) ∈ z
  | [], h => by rw [getZ_nil] at h; exact absurd h.symm hy
  | p :: z, h => by
    rw [getZ_cons] at h
    by_cases e : p.1 = r
    · rw [if_pos e] at h
      rw [← e, ← h]
      exact List.mem_cons_self ..
    · rw [if_neg e] at h
      exact List.mem_cons_of_mem _ (mem_getZ hy h)
theorem isG_out {z : List It} {ks : List Int} {agg col : Int} (h : grpOk z ks agg col = true) : Srt (grpOut z ks agg col) ∧ ∀ q, getZ (grpOut z ks agg col) q = b2i (hasG (rowG z ks agg col.toNat) z q) := by
  obtain ⟨_, _, _, _, _, _, e⟩ := grp_parts h
  rw [e]
  have := isG_to (rowG z ks agg col.toNat) z
  exact ⟨this.1, fun q => by rw [this.2.2 q]; rfl⟩
/-- As many as there are keys. -/
theorem len_by {f g : It → List Int} : ∀ {a b : List It}, a.Pairwise (fun x y => f x ≠ f y) → (∀ p ∈ a, ∃ q ∈ b, g q = f p) → a.length ≤ b.length
  | [], _, _, _ => Nat.zero_le _
  | p :: a, b, hp, h => by
    obtain ⟨h1, h2⟩ := List.pairwise_cons.1 hp
    have hlt : (b.filter fun q => decide (g q ≠ f p)).length < b.length := by
      rw [List.length_filter_lt_length_iff_exists]
      obtain ⟨q, hq, e⟩ := h p (List.mem_cons_self ..)
      exact ⟨q, hq, by simp [e]⟩
    have := len_by (a := a) (b := b.filter fun q => decide (g q ≠ f p)) h2 fun x hx => by
      obtain ⟨q, hq, e⟩ := h x (List.mem_cons_of_mem _ hx)
      exact ⟨q, List.mem_filter.2 ⟨hq, by rw [e]; exact decide_eq_true (fun e2 => h1 x hx e2.symm)⟩, e⟩
    simp only [List.length_cons]
    omega
theorem grp_zok {z : List It} {ks : List Int} {agg col : Int} (h : grpOk z ks agg col = true) : zOkB (grpOut z ks agg col) = true := by
  obtain ⟨hz, _, hk6, hkz, _, ht, e⟩ := grp_parts h
  rw [e]
  exact grpTo_ok hz hk6 hkz (fun p hp => hp) (zOk_le hz) ht
theorem grp_zokA (z : List It) (ks : List Int) (agg col : Int) : zOkB (grpOut z ks agg col) = true := by
  cases h : grpOk z ks agg col with
  | false => rw [grp_not h]; exact zOk_nil
  | true => exact grp_zok h
theorem grp_row {z : List It} {ks : List Int} {agg col : Int} (h : grpOk z ks agg col = true) {x : It} (hx : x ∈ grpOut z ks agg col) : x.2 = 1 ∧ ∃ p ∈ z, ¬ p.2 < 0 ∧ rowG z ks agg col.toNat p = x.1 := by
  rw [(grp_parts h).2.2.2.2.2.2] at hx
  have := (isG_to (rowG z ks agg col.toNat) z).mem hx
  exact ⟨this.1, hasG_mem this.2⟩
theorem rowG_same {z : List It} {ks : List Int} {agg : Int} {col : Nat} {p q : It} (h : keyZ p.1 ks = keyZ q.1 ks) : rowG z ks agg col p = rowG z ks agg col q := by
  unfold rowG; rw [h]
theorem grp_keys {z : List It} {ks : List Int} {agg col : Int} (h : grpOk z ks agg col = true) : (grpOut z ks agg col).Pairwise fun x y => x.1.take ks.length ≠ y.1.take ks.length := by
  have S : Srt (grpOut z ks agg col) := zOk_srt (grp_zok h)
  refine List.Pairwise.imp_of_mem (fun {x y} hx hy hlt e => ?_) S
  obtain ⟨_, p, _, _, hp⟩ := grp_row h hx
  obtain ⟨_, q, _, _, hq⟩ := grp_row h hy
  refine ordL_ne hlt ?_
  rw [rowG_key hp, rowG_key hq] at e
  rw [← hp, ← hq, rowG_same e]
theorem neg_mem {d : List It} {p : It} (h : p ∈ negZ d) : ∃ q ∈ d, q.1 = p.1 := by
  unfold negZ at h
  obtain ⟨q, hq, rfl⟩ := List.mem_map.1 h
  exact ⟨q, hq, rfl⟩
theorem has_of {x : Int} {y z : List It} (h : hasAt x z = true) (hr : ∀ p ∈ y, ∃ q ∈ z, q.1 = p.1) : hasAt x y = true := has_iff.2 fun p hp => by
  obtain ⟨q, hq, e⟩ := hr p hp
  rw [← e]; exact has_iff.1 h q hq
theorem have_of {ks : List Int} {y z : List It} (h : haveAll z ks = true) (hr : ∀ p ∈ y, ∃ q ∈ z, q.1 = p.1) : haveAll y ks = true := have_iff.2 fun k hk p hp => by
  obtain ⟨q, hq, e⟩ := hr p hp
  rw [← e]; exact have_iff.1 h k hk q hq

end Go.Proofs.YtfgpdakkbhfiaaaGreatDoor

/-
  By how much groups are turned, told row by row: what they are then, without what they were.
-/
namespace Go.Proofs.YtfgpdakkbhfiaaaGreatDoor

theorem rowG_near {z d : List It} {ks : List Int} {agg : Int} {col : Nat} {p : It} (h : keyNear d ks (keyZ p.1 ks) = true) : rowG (nearZ z d ks) ks agg col p = rowG z ks agg col p := by
  unfold rowG
  rw [grp_near, if_pos h]
theorem near_has (z d : List It) (ks : List Int) (agg : Int) (col : Nat) (q : List Int) : hasG (rowG (nearZ z d ks) ks agg col) (nearZ z d ks) q = (keyNear d ks (q.take ks.length) && hG z ks agg col q) := by
  rw [Bool.eq_iff_iff, Bool.and_eq_true, hasG_iff]
  unfold hG
  rw [hasG_iff]
  constructor
  · rintro ⟨p, hp, h1, h2⟩
    unfold nearZ at hp
    rw [List.mem_filter] at hp
    have hk : keyNear d ks (keyZ p.1 ks) = true := by rw [← isNear_key]; exact hp.2
    rw [rowG_near hk] at h2
    exact ⟨by rw [rowG_key h2]; exact hk, p, hp.1, h1, h2⟩
  · rintro ⟨hk, p, hp, h1, h2⟩
    rw [rowG_key h2] at hk
    refine ⟨p, ?_, h1, by rw [rowG_near hk]; exact h2⟩
    unfold nearZ
    rw [List.mem_filter]
    exact ⟨hp, by rw [isNear_key]; exact hk⟩
theorem far_zero {d : List It} {ks r : List Int} (h : keyNear d ks (keyZ r ks) = false) : getZ d r = 0 := getZ_zero fun p hp e => by
  unfold keyNear at h
  rw [List.any_eq_false] at h
  exact h p hp (by simp [e])
theorem far_has {z d : List It} {ks : List Int} (agg : Int) (col : Nat) {q : List Int} (hz : zOkB z = true) (hd : zOkB d = true) (h : keyNear d ks (q.take ks.length) = false) : hG (addZ z d) ks agg col q = hG z ks agg col q := by
  have hsz := zOk_srt hz
  have hsd := zOk_srt hd
  have hrow : ∀ p : It, keyNear d ks (keyZ p.1 ks) = false → rowG (addZ z d) ks agg col p = rowG z ks agg col p := fun p hk => by
    unfold rowG
    rw [grp_far hz hd hk]
  refine hasG_eq (fun p hp h1 h2 => ?_) (fun p hp h1 h2 => ?_)
  · have hk : keyNear d ks (keyZ p.1 ks) = false := by rw [← rowG_key h2]; exact h
    have hw := getZ_ownG (srt_add hsz) p hp
    rw [getZ_add hsz hsd, far_zero hk, Int.add_zero] at hw
    have hm := mem_getZ (nz_add (zOk_nz hz) p hp) hw
    exact ⟨p, by simpa using hm, h1, by rw [← hrow p hk]; exact h2⟩
  · have hk : keyNear d ks (keyZ p.1 ks) = false := by rw [← rowG_key h2]; exact h
    have hw := getZ_ownG hsz p hp
    have hw2 : getZ (addZ z d) p.1 = p.2 := by rw [getZ_add hsz hsd, far_zero hk, hw, Int.add_zero]
    have hm := mem_getZ (zOk_nz hz p hp) hw2
    exact ⟨p, by simpa using hm, h1, by rw [hrow p hk]; exact h2⟩
theorem dg_parts {z d : List It} {ks : List Int} {agg col : Int} (h : dgOk z d ks agg col = true) :
    addOk z d = true ∧ nearCan z d ks = true ∧ hasAt col z = true ∧ hasAt col d = true ∧ grpOk (nearZ (addZ z d) d ks) ks agg col = true ∧ grpOk (nearZ z d ks) ks agg col = true ∧ zOkB (minusZ (dgNow z d ks agg col) (dgWas z d ks agg col)) = true ∧ dgOut z d ks agg col = minusZ (dgNow z d ks agg col) (dgWas z d ks agg col) := by
  have h0 := h
  unfold dgOk dgCan dgTold at h
  simp only [Bool.and_eq_true] at h
  obtain ⟨⟨⟨⟨⟨a, b⟩, c⟩, d'⟩, e, f⟩, g⟩ := h
  exact ⟨a, b, c, d', e, f, g, by unfold dgOut; rw [h0]; rfl⟩
theorem dg_get {z d : List It} {ks : List Int} {agg col : Int} (h : dgOk z d ks agg col = true) (q : List Int) :
    getZ (dgOut z d ks agg col) q = b2i (hG (addZ z d) ks agg col.toNat q) - b2i (hG z ks agg col.toNat q) := by
  obtain ⟨ha, _, _, _, h1, h2, _, e⟩ := dg_parts h
  obtain ⟨hz, hd, _, _⟩ := addOk_true ha
  obtain ⟨s1, g1⟩ := isG_out h1
  obtain ⟨s2, g2⟩ := isG_out h2
  rw [e]
  unfold minusZ dgNow dgWas
  rw [getZ_add s1 (srt_neg s2), getZ_neg, g1, g2, near_has, near_has]
  cases hk : keyNear d ks (q.take ks.length) with
  | true => simp only [Bool.true_and]; omega
  | false =>
    rw [far_has agg col.toNat hz hd hk]
    simp only [Bool.false_and, b2i]
    omega
theorem dg_srt {z d : List It} {ks : List Int} {agg col : Int} (h : dgOk z d ks agg col = true) : zOkB (dgOut z d ks agg col) = true := by
  obtain ⟨_, _, _, _, _, _, g, e⟩ := dg_parts h
  rw [e]
  exact g

end Go.Proofs.YtfgpdakkbhfiaaaGreatDoor

/-
  Plain facts on by how much groups are turned: in two steps, back again, put to what was, how many rows; what is near.
-/
namespace Go.Proofs.YtfgpdakkbhfiaaaGreatDoor
open Go.RowKit
set_option linter.unusedVariables false

theorem near_len {z d : List It} {ks : List Int} {agg col : Int} (h : grpOk (nearZ z d ks) ks agg col = true) : (grpOut (nearZ z d ks) ks agg col).length ≤ d.length :=
  len_by (f := fun x => x.1.take ks.length) (g := fun q => keyZ q.1 ks) (grp_keys h) fun x hx => by
    obtain ⟨_, p, hp, _, e⟩ := grp_row h hx
    have hn := (List.mem_filter.1 hp).2
    unfold isNear at hn
    rw [List.any_eq_true] at hn
    obtain ⟨q, hq, e2⟩ := hn
    exact ⟨q, hq, by rw [rowG_key e]; simpa using e2⟩
theorem dg_len {z d : List It} {ks : List Int} {agg col : Int} (h : dgOk z d ks agg col = true) : (dgOut z d ks agg col).length ≤ 2 * d.length := by
  obtain ⟨_, _, _, _, h1, h2, _, e⟩ := dg_parts h
  rw [e]
  unfold minusZ dgNow dgWas
  have a := near_len h1
  have b := near_len h2
  have c := add_len (negZ (grpOut (nearZ z d ks) ks agg col)) (grpOut (nearZ (addZ z d) d ks) ks agg col)
  have e2 : (negZ (grpOut (nearZ z d ks) ks agg col)).length = (grpOut (nearZ z d ks) ks agg col).length := by unfold negZ; rw [List.length_map]
  omega
theorem dg_false {z d : List It} {ks : List Int} {agg col : Int} (h : dgOk z d ks agg col = false) : dgOut z d ks agg col = [] := by unfold dgOut; rw [h]; rfl
/-- What was, and by how much it is turned. -/
theorem dg_sum {z d : List It} {ks : List Int} {agg col : Int} (h : dgOk z d ks agg col = true) (h1 : grpOk z ks agg col = true) (h2 : grpOk (addOut z d) ks agg col = true) :
    addOk (grpOut z ks agg col) (dgOut z d ks agg col) = true ∧ addOut (grpOut z ks agg col) (dgOut z d ks agg col) = grpOut (addOut z d) ks agg col := by
  have ha := (dg_parts h).1
  rw [(addOk_true ha).2.2.2] at h2 ⊢
  have zo := grp_zok h1
  have zd := dg_srt h
  have zn := grp_zok h2
  refine add_yes zo zd (canon (srt_add (zOk_srt zo)) (nz_add (zOk_nz zo)) (zOk_srt zn) (zOk_nz zn) fun q => ?_) zn
  rw [getZ_add (zOk_srt zo) (zOk_srt zd), dg_get h, (isG_out h1).2, (isG_out h2).2]
  unfold hG
  omega
/-- In two steps, or at once. -/
theorem dg_split {z d e : List It} {ks : List Int} {agg col : Int} (h1 : dgOk z d ks agg col = true) (h2 : dgOk (addOut z d) e ks agg col = true) (h3 : addOk d e = true) (h4 : dgOk z (addOut d e) ks agg col = true) (h5 : addOk (dgOut z d ks agg col) (dgOut (addOut z d) e ks agg col) = true) :
    addOut (dgOut z d ks agg col) (dgOut (addOut z d) e ks agg col) = dgOut z (addOut d e) ks agg col := by
  have ha := (dg_parts h1).1
  obtain ⟨hz, hd, hzd, e1⟩ := addOk_true ha
  obtain ⟨_, he, hde, e2⟩ := addOk_true h3
  rw [(addOk_true h5).2.2.2]
  have zb := dg_srt h4
  have za := dg_srt h1
  refine canon (srt_add (zOk_srt za)) (nz_add (zOk_nz za)) (zOk_srt zb) (zOk_nz zb) fun q => ?_
  rw [getZ_add (zOk_srt za) (zOk_srt (dg_srt h2)), dg_get h1, dg_get h2, dg_get h4, e1, e2, add_assoc (zOk_srt hz) (zOk_nz hz) (zOk_srt hd) (zOk_srt he)]
  omega
theorem once_split {z d e : List It} (h1 : onceOk z d = true) (h2 : onceOk (addOut z d) e = true) (h3 : addOk d e = true) (h4 : onceOk z (addOut d e) = true) (h5 : addOk (onceOut z d) (onceOut (addOut z d) e) = true) :
    addOut (onceOut z d) (onceOut (addOut z d) e) = onceOut z (addOut d e) := by
  obtain ⟨a1, z1, e1⟩ := once_true h1
  obtain ⟨a2, z2, e2⟩ := once_true h2
  obtain ⟨a4, z4, e4⟩ := once_true h4
  obtain ⟨hz, hd, hzd, f1⟩ := addOk_true a1
  obtain ⟨_, he, hde, f3⟩ := addOk_true h3
  rw [(addOk_true h5).2.2.2]
  rw [e1, e2, e4]
  rw [f1] at z2 ⊢
  rw [f3] at z4 ⊢
  have sz := zOk_srt hz
  have sd := zOk_srt hd
  have se := zOk_srt he
  refine canon (srt_add (zOk_srt z1)) (nz_add (zOk_nz z1)) (zOk_srt z4) (zOk_nz z4) fun q => ?_
  rw [getZ_add (zOk_srt z1) (zOk_srt z2), getZ_once sz sd, getZ_once (srt_add sz) se, getZ_once sz (srt_add sd), getZ_add sz sd, getZ_add sd se, Int.add_assoc]
  omega
theorem near_neg (z d : List It) (ks : List Int) : nearZ z (negZ d) ks = nearZ z d ks := by
  unfold nearZ
  refine List.filter_congr fun p _ => ?_
  unfold isNear negZ
  rw [List.any_map]
  rfl
theorem has_add {x : Int} {z d : List It} (h1 : hasAt x z = true) (h2 : hasAt x d = true) : hasAt x (addZ z d) = true := has_iff.2 fun p hp => by
  rcases add_rows hp with ⟨q, hq, e⟩ | ⟨q, hq, e⟩
  · rw [e]; exact has_iff.1 h1 q hq
  · rw [e]; exact has_iff.1 h2 q hq
theorem haveAll_add {ks : List Int} {z d : List It} (h1 : haveAll z ks = true) (h2 : haveAll d ks = true) : haveAll (addZ z d) ks = true := have_iff.2 fun k hk p hp => by
  rcases add_rows hp with ⟨q, hq, e⟩ | ⟨q, hq, e⟩
  · rw [e]; exact have_iff.1 h1 k hk q hq
  · rw [e]; exact have_iff.1 h2 k hk q hq
theorem minus_flip {a b : List It} (ha : Srt a) (hna : Nz a) (hb : Srt b) (hnb : Nz b) : minusZ b a = negZ (minusZ a b) :=
  canon (srt_minus hb) (nz_add hnb) (srt_neg (srt_minus ha)) (nz_neg (nz_add hna)) fun q => by
    rw [getZ_neg, getZ_minus hb ha, getZ_minus ha hb]; omega
/-- Turned back again. -/
theorem dg_back {z d : List It} {ks : List Int} {agg col : Int} (h : dgOk z d ks agg col = true) :
    dgOk (addOut z d) (negZ d) ks agg col = true ∧ dgOut (addOut z d) (negZ d) ks agg col = negZ (dgOut z d ks agg col) := by
  obtain ⟨ha, hc, hcz, hcd, h1, h2, hm, e⟩ := dg_parts h
  obtain ⟨hz, hd, hzd, e1⟩ := addOk_true ha
  have hcan := hc
  unfold nearCan at hcan
  rw [Bool.and_eq_true, Bool.and_eq_true] at hcan
  obtain ⟨⟨hk6, hkz⟩, hkd⟩ := hcan
  have hb : addZ (addZ z d) (negZ d) = z := add_back (zOk_srt hz) (zOk_nz hz) (zOk_srt hd)
  rw [e1]
  have hao : addOk (addZ z d) (negZ d) = true := (add_yes hzd (by rw [zOk_neg]; exact hd) hb hz).1
  have nr : nearCan (addZ z d) (negZ d) ks = true := by
    unfold nearCan
    rw [hk6, haveAll_add hkz hkd, have_of hkd (fun p hp => neg_mem hp)]; rfl
  have zn := grp_zokA (nearZ (addZ z d) d ks) ks agg col
  have zw := grp_zokA (nearZ z d ks) ks agg col
  have en : dgNow (addZ z d) (negZ d) ks agg col = dgWas z d ks agg col := by
    unfold dgNow dgWas; rw [near_neg, hb]
  have ew : dgWas (addZ z d) (negZ d) ks agg col = dgNow z d ks agg col := by
    unfold dgNow dgWas; rw [near_neg]
  have hfl : minusZ (dgWas z d ks agg col) (dgNow z d ks agg col) = negZ (minusZ (dgNow z d ks agg col) (dgWas z d ks agg col)) :=
    minus_flip (zOk_srt zn) (zOk_nz zn) (zOk_srt zw) (zOk_nz zw)
  have hok : dgOk (addZ z d) (negZ d) ks agg col = true := by
    unfold dgOk dgCan dgTold
    rw [hao, nr, has_add hcz hcd, has_of hcd (fun p hp => neg_mem hp), near_neg, near_neg, hb, h1, h2, en, ew, hfl, zOk_neg, hm]; rfl
  refine ⟨hok, ?_⟩
  rw [(dg_parts hok).2.2.2.2.2.2.2, en, ew, hfl, e]
theorem add_self_neg {a : List It} (h : zOkB a = true) : addOk a (negZ a) = true ∧ addOut a (negZ a) = [] :=
  add_yes h (by rw [zOk_neg]; exact h) (add_neg (zOk_srt h) (zOk_nz h)) zOk_nil
theorem once_back {z d : List It} (h : addOk z d = true) (h1 : onceOk z d = true) (h2 : onceOk (addOut z d) (negZ d) = true) :
    addOk (onceOut z d) (onceOut (addOut z d) (negZ d)) = true ∧ addOut (onceOut z d) (onceOut (addOut z d) (negZ d)) = [] := by
  obtain ⟨_, z1, e1⟩ := once_true h1
  obtain ⟨_, z2, e2⟩ := once_true h2
  obtain ⟨hz, hd, hzd, f1⟩ := addOk_true h
  rw [e1, e2]
  rw [f1] at z2 ⊢
  have sz := zOk_srt hz
  have sd := zOk_srt hd
  refine add_yes z1 z2 (canon (srt_add (zOk_srt z1)) (nz_add (zOk_nz z1)) Srt.nil nz_nil fun q => ?_) zOk_nil
  rw [getZ_add (zOk_srt z1) (zOk_srt z2), getZ_once sz sd, getZ_once (srt_add sz) (srt_neg sd), getZ_add sz sd, getZ_neg, getZ_nil, Int.add_neg_cancel_right]
  omega
/-- What is near. -/
theorem near_sub {z d : List It} {ks : List Int} {p : It} (h : p ∈ nearOut z d ks) : nearOk z d ks = true ∧ p ∈ z ∧ isNear d ks p.1 = true := by
  unfold nearOut at h
  cases hn : nearOk z d ks with
  | false => rw [hn] at h; simp at h
  | true =>
    rw [hn, if_pos rfl] at h
    unfold nearZ at h
    exact ⟨rfl, (List.mem_filter.1 h).1, by simpa using (List.mem_filter.1 h).2⟩
theorem nearOk_z {z d : List It} {ks : List Int} (h : nearOk z d ks = true) : zOkB z = true := by
  unfold nearOk at h
  rw [Bool.and_eq_true, Bool.and_eq_true] at h
  exact h.1.1
theorem near_get {z d : List It} {ks : List Int} {p : It} (h : p ∈ nearOut z d ks) : (if zOkB z then getZ z p.1 else 0) = p.2 := by
  obtain ⟨hn, hp, _⟩ := near_sub h
  have hz := nearOk_z hn
  rw [hz, if_pos rfl]
  exact getZ_selfD (zOk_srt hz) p hp
theorem near_le (z d : List It) (ks : List Int) : (nearOut z d ks).length ≤ z.length := by
  unfold nearOut
  split
  · unfold nearZ; exact List.length_filter_le _ _
  · simp
theorem near_nil (z : List It) (ks : List Int) : nearOut z [] ks = [] := by
  unfold nearOut
  split
  · unfold nearZ
    rw [List.filter_eq_nil_iff]
    intro p _
    simp [isNear]
  · rfl
theorem zOk_near {z d : List It} {ks : List Int} (h : zOkB z = true) : zOkB (nearZ z d ks) = true :=
  zOk_mkG (by have := zOk_le h; have := List.length_filter_le (fun p : It => isNear d ks p.1) z; unfold nearZ; omega) (fun p hp => zOk_item h (List.mem_filter.1 hp).1) ((zOk_srt h).sublist List.filter_sublist)
theorem near_twice (z d : List It) (ks : List Int) : nearOut (nearOut z d ks) d ks = nearOut z d ks := by
  cases hn : nearOk z d ks with
  | false =>
    have : nearOut z d ks = [] := by unfold nearOut; rw [hn]; rfl
    rw [this]
    exact List.length_eq_zero_iff.1 (by have := near_le [] d ks; simpa using this)
  | true =>
    have e : nearOut z d ks = nearZ z d ks := by unfold nearOut; rw [hn]; rfl
    rw [e]
    have hz := nearOk_z hn
    have hn2 : nearOk (nearZ z d ks) d ks = true := by
      unfold nearOk nearCan at hn ⊢
      simp only [Bool.and_eq_true] at hn ⊢
      obtain ⟨⟨_, hd⟩, ⟨hk, hkz⟩, hkd⟩ := hn
      exact ⟨⟨zOk_near hz, hd⟩, ⟨hk, have_of hkz fun p hp => ⟨p, (List.mem_filter.1 hp).1, rfl⟩⟩, hkd⟩
    unfold nearOut
    rw [hn2, if_pos rfl]
    unfold nearZ
    rw [List.filter_filter]
    refine List.filter_congr fun p _ => ?_
    simp
/-- A group of what is near is a group of all. -/
theorem near_group {z d : List It} {ks : List Int} {agg col : Int} (h1 : grpOk z ks agg col = true) (h2 : grpOk (nearOut z d ks) ks agg col = true) {x : It} (hx : x ∈ grpOut (nearOut z d ks) ks agg col) : (if zOkB (grpOut z ks agg col) then getZ (grpOut z ks agg col) x.1 else 0) = 1 := by
  rw [grp_zok h1, if_pos rfl, (isG_out h1).2]
  cases hn : nearOk z d ks with
  | false =>
    have e : nearOut z d ks = [] := by unfold nearOut; rw [hn]; rfl
    rw [e] at hx h2
    obtain ⟨_, p, hp, _⟩ := grp_row h2 hx
    simp at hp
  | true =>
    have e : nearOut z d ks = nearZ z d ks := by unfold nearOut; rw [hn]; rfl
    rw [e] at hx h2
    have hh : hasG (rowG (nearZ z d ks) ks agg col.toNat) (nearZ z d ks) x.1 = true := by
      rw [(grp_parts h2).2.2.2.2.2.2] at hx
      exact ((isG_to (rowG (nearZ z d ks) ks agg col.toNat) (nearZ z d ks)).mem hx).2
    rw [near_has, Bool.and_eq_true] at hh
    unfold hG at hh
    rw [hh.2]
    rfl

end Go.Proofs.YtfgpdakkbhfiaaaGreatDoor

/-
  The contracts of groups at a told answer.
-/
namespace Go.Proofs.YtfgpdakkbhfiaaaGreatDoor
open Go.RowKit
set_option linter.unusedVariables false

theorem grpV {v kv : Value} {z os : List It} {ks : List Int} {agg col : Int} {c : Bool} {w : World} (hc : grpOk z ks agg col = c) (ho : grpOut z ks agg col = os) (ht : Tab w) (h : ItemsAt w v z) (hk : TailI w kv ks) :
    Calls Tryz.prog 14 #[v, kv, .int .i64 agg, .int .i64 col] w fun e w' => ∃ v', e = .returned (.tuple #[v', .bool c]) ∧ TailZ w' v' os ∧ Below w.heap.size w w' := by
  subst hc ho
  refine (implGroup_any v kv z ks agg col w ht h hk).mono ?_
  rintro e w' ⟨v', he, hz, hb⟩
  exact ⟨v', he, hz.tail, hb⟩
theorem specGrpV {v kv : Value} {z os : List It} {ks : List Int} {agg col : Int} {c : Bool} {w : World} (hc : grpOk z ks agg col = c) (ho : grpOut z ks agg col = os) (h : ItemsAt w v z) (hk : TailI w kv ks) :
    Calls Tryz.prog 33 #[v, kv, .int .i64 agg, .int .i64 col] w fun e w' => ∃ v', e = .returned (.tuple #[v', .bool c]) ∧ TailZ w' v' os ∧ Below w.heap.size w w' := by
  subst hc ho
  refine (specGroup_any v kv z ks agg col w h hk.1).mono ?_
  rintro e w' ⟨v', he, hz, hb⟩
  exact ⟨v', he, hz.tail, hb⟩
theorem TailZ.atV {w : World} {a : Option Addr} {n cap : Nat} {zs : List It} (h : TailZ w (.slice a n cap) zs) {k : Nat} (hk : k < zs.length) :
    ∃ b off xa xn xc, a = some ⟨b, off, none⟩ ∧ b < w.heap.size ∧ w.cell? ⟨b, off + k * 2, none⟩ = some (.slice xa xn xc) ∧ w.cell? ⟨b, off + k * 2 + 1, none⟩ = some (.int .i64 (zs.getD k ([], 0)).2) ∧ IntsAt w (.slice xa xn xc) (zs.getD k ([], 0)).1 := by
  obtain ⟨_, a', c', e, _, hc⟩ := h.items
  obtain ⟨b, off, rfl, hb, hcell⟩ := hc (fun e => by rw [e] at hk; simp at hk)
  obtain ⟨rv, c0, c1, c2⟩ := hcell k hk
  obtain ⟨xa, xn, xc, rfl⟩ := c2.shape
  simp at e
  exact ⟨b, off, xa, xn, xc, e.1, hb, c0, c1, c2⟩
theorem TailZ.shapeV {w : World} {v : Value} {zs : List It} (h : TailZ w v zs) : ∃ a c, v = .slice a zs.length c := by
  obtain ⟨_, a, c, e, _⟩ := h.items
  exact ⟨a, c, e⟩

end Go.Proofs.YtfgpdakkbhfiaaaGreatDoor

/-
  The contracts of groups, of what is near and of by how much groups are turned, at a told answer.
-/
namespace Go.Proofs.YtfgpdakkbhfiaaaGreatDoor
open Go.RowKit
set_option linter.unusedVariables false

theorem dgV {v u kv : Value} {z d os : List It} {ks : List Int} {agg col : Int} {c : Bool} {w : World} (hc : dgOk z d ks agg col = c) (ho : dgOut z d ks agg col = os) (ht : Tab w) (h : TailZ w v z) (h2 : TailZ w u d) (hk : TailI w kv ks) :
    Calls Tryz.prog 8 #[v, u, kv, .int .i64 agg, .int .i64 col] w fun e w' => ∃ v', e = .returned (.tuple #[v', .bool c]) ∧ TailZ w' v' os ∧ Below w.heap.size w w' := by
  subst hc ho
  refine (implDG_any v u kv z d ks agg col w ht h h2 hk).mono ?_
  rintro e w' ⟨v', he, hz, hb⟩
  exact ⟨v', he, hz.tail, hb⟩
theorem specDgV {v u kv : Value} {z d os : List It} {ks : List Int} {agg col : Int} {c : Bool} {w : World} (hc : dgOk z d ks agg col = c) (ho : dgOut z d ks agg col = os) (h : TailZ w v z) (h2 : TailZ w u d) (hk : TailI w kv ks) :
    Calls Tryz.prog 9 #[v, u, kv, .int .i64 agg, .int .i64 col] w fun e w' => ∃ v', e = .returned (.tuple #[v', .bool c]) ∧ TailZ w' v' os ∧ Below w.heap.size w w' := by
  subst hc ho
  refine (specDG_any v u kv z d ks agg col w h.items h2.items hk.1).mono ?_
  rintro e w' ⟨v', he, hz, hb⟩
  exact ⟨v', he, hz.tail, hb⟩
theorem nearV {v u kv : Value} {z d os : List It} {ks : List Int} {w : World} (ho : nearOut z d ks = os) (ht : Tab w) (h : TailZ w v z) (h2 : TailZ w u d) (hk : TailI w kv ks) :
    Calls Tryz.prog 11 #[v, u, kv] w fun e w' => ∃ v', e = .returned v' ∧ TailZ w' v' os ∧ Below w.heap.size w w' := by
  subst ho
  refine (implNear_any v u kv z d ks w ht h.items h2.items hk).mono ?_
  rintro e w' ⟨v', he, hz, hb⟩
  exact ⟨v', he, hz.tail, hb⟩
theorem specNearV {v u kv : Value} {z d os : List It} {ks : List Int} {w : World} (ho : nearOut z d ks = os) (h : TailZ w v z) (h2 : TailZ w u d) (hk : TailI w kv ks) :
    Calls Tryz.prog 12 #[v, u, kv] w fun e w' => ∃ v', e = .returned v' ∧ TailZ w' v' os ∧ Below w.heap.size w w' := by
  subst ho
  refine (specNear_any v u kv z d ks w h.items h2.items hk.1).mono ?_
  rintro e w' ⟨v', he, hz, hb⟩
  exact ⟨v', he, hz.tail, hb⟩

end Go.Proofs.YtfgpdakkbhfiaaaGreatDoor

/-
  The walk of laws.FnDeltaSplit, out of the contracts: whatever the bytes are, it answers true, and nothing that was there is written. Condition: the tables of the library read as they were laid.
-/
namespace Go.Proofs.YtfgpdakkbhfiaaaGreatDoor
open Go.RowKit
set_option linter.unusedVariables false
attribute [local go_sem ↓] Go.wp_at_zero Go.wp_at_succ

set_option maxRecDepth 100000 in
set_option maxHeartbeats 16000000 in
theorem lawFnDeltaSplit (a : Option Addr) (len cap : Nat) (bs : List Int) (a2 : Option Addr) (len2 cap2 : Nat) (bs2 : List Int) (w : World) (h : IsRow .u8 w a len cap bs) (h2 : IsRow .u8 w a2 len2 cap2 bs2) (htab : Tab w) :
    Calls Tryz.prog 4 #[.slice a len cap, .slice a2 len2 cap2] w fun e w' => e = .returned (.bool true) ∧ Below w.heap.size w w' := by
  by_cases hbig : (1048576 : Int) < (len : Int)
  · go_enter Tryz.func4, Tryz.ntmps4
    go_wp2
    go_ret
    exact ⟨rfl, Below.refl _ _⟩
  by_cases hbig2 : (1048576 : Int) < (len2 : Int)
  · go_enter Tryz.func4, Tryz.ntmps4
    go_wp2
    go_ret
    exact ⟨rfl, Below.refl _ _⟩
  obtain ⟨i0, hi0, hz0, hz1, hz2⟩ := info_parts infoItem
  have HTAB : Hid (Tab w) := htab
  clear htab
  go_enter Tryz.func4, Tryz.ntmps4
  have h20 := h2
  go_wp2_with fail
  refine (drawDeltaOnce_any a len cap bs _ h).mono ?_
  rintro e w1 ⟨va, vd, z, d, rfl, hgz, hdl, TZ1, TD1, hk1⟩
  have h21 := h2.below hk1
  clear h h2 h20 hgz hdl
  go_wp2_with fail
  refine (drawDeltaOnce_any a2 len2 cap2 bs2 _ h21).mono ?_
  rintro e w2 ⟨ve1, ve, z2, e2, rfl, hgz, hdl, TZ2, TE2, hb2⟩
  have hk2 := below_then hk1 hb2
  have TZ := TZ1.below hb2
  have TD := TD1.below hb2
  clear h21 hgz hdl hk1 hb2 TZ1 TD1 TZ2
  obtain ⟨c0, Hc0⟩ : ∃ c : Bool, Hid (c = onceOk z d) := ⟨_, rfl⟩
  go_wp2_with fail
  refine (once_val Hc0.out.symm rfl TZ TD).mono ?_
  rintro e w3 ⟨vx, rfl, TX, hb3⟩
  have hk3 := below_then hk2 hb3
  have Z_3 := TZ.below hb3
  have D_3 := TD.below hb3
  have E_3 := TE2.below hb3
  clear hb3 hk2 TZ TD TE2
  go_wp2_with fail
  refine (specOnce_val Hc0.out.symm rfl Z_3 D_3).mono ?_
  rintro e w4 ⟨vy, rfl, TY, hb4⟩
  have hk4 := below_then hk3 hb4
  have Z_4 := Z_3.below hb4
  have D_4 := D_3.below hb4
  have E_4 := E_3.below hb4
  have A_4 := TX.below hb4
  clear hb4 hk3 Z_3 D_3 E_3 TX
  go_wp2_with fail
  refine (zsame_val (zsB_refl _) A_4 TY).mono ?_
  rintro e w5 ⟨rfl, hb5⟩
  have hk5 := below_then hk4 hb5
  have Z_5 := Z_4.below hb5
  have D_5 := D_4.below hb5
  have E_5 := E_4.below hb5
  have A_5 := A_4.below hb5
  have Y_5 := TY.below hb5
  clear hb5 hk4 Z_4 D_4 E_4 A_4 TY
  cases c0 with
  | false =>
    go_wp2_with fail
    refine (zsame_val (zsB_refl _) A_5 Y_5).mono ?_
    rintro e w6 ⟨rfl, hb6⟩
    have hk6 := below_then hk5 hb6
    have Z_6 := Z_5.below hb6
    have D_6 := D_5.below hb6
    have E_6 := E_5.below hb6
    have A_6 := A_5.below hb6
    have Y_6 := Y_5.below hb6
    clear hb6 hk5 Z_5 D_5 E_5 A_5 Y_5
    clear Z_6 D_6 E_6 A_6 Y_6
    go_wp2
    go_ret
    exact ⟨rfl, hk6⟩
  | true =>
    clear Y_5
    have hok := Hc0.out.symm
    have hadd := (once_true hok).1
    obtain ⟨c1, Hc1⟩ : ∃ c : Bool, Hid (c = onceOk (addOut z d) e2) := ⟨_, rfl⟩
    obtain ⟨c2, Hc2⟩ : ∃ c : Bool, Hid (c = addOk d e2) := ⟨_, rfl⟩
    obtain ⟨c3, Hc3⟩ : ∃ c : Bool, Hid (c = onceOk z (addOut d e2)) := ⟨_, rfl⟩
    obtain ⟨c4, Hc4⟩ : ∃ c : Bool, Hid (c = addOk (onceOut z d) (onceOut (addOut z d) e2)) := ⟨_, rfl⟩
    obtain ⟨c5, Hc5⟩ : ∃ c : Bool, Hid (c = dgOk z d [0] 0 0) := ⟨_, rfl⟩
    obtain ⟨c6, Hc6⟩ : ∃ c : Bool, Hid (c = dgOk (addOut z d) e2 [0] 0 0) := ⟨_, rfl⟩
    obtain ⟨c7, Hc7⟩ : ∃ c : Bool, Hid (c = dgOk z (addOut d e2) [0] 0 0) := ⟨_, rfl⟩
    obtain ⟨c8, Hc8⟩ : ∃ c : Bool, Hid (c = addOk (dgOut z d [0] 0 0) (dgOut (addOut z d) e2 [0] 0 0)) := ⟨_, rfl⟩
    go_wp2_with fail
    refine (add_val hadd rfl Z_5 D_5).mono ?_
    rintro e w6 ⟨vq, rfl, TQ, hb6⟩
    have hk6 := below_then hk5 hb6
    have Z_6 := Z_5.below hb6
    have D_6 := D_5.below hb6
    have E_6 := E_5.below hb6
    have A_6 := A_5.below hb6
    clear hb6 hk5 Z_5 D_5 E_5 A_5
    go_wp2_with fail
    refine (once_val Hc1.out.symm rfl TQ E_6).mono ?_
    rintro e w7 ⟨vb, rfl, TB, hb7⟩
    have hk7 := below_then hk6 hb7
    have Z_7 := Z_6.below hb7
    have D_7 := D_6.below hb7
    have E_7 := E_6.below hb7
    have A_7 := A_6.below hb7
    have Q_7 := TQ.below hb7
    clear hb7 hk6 Z_6 D_6 E_6 A_6 TQ
    go_wp2_with fail
    refine (add_val Hc2.out.symm rfl D_7 E_7).mono ?_
    rintro e w8 ⟨vf, rfl, TF, hb8⟩
    have hk8 := below_then hk7 hb8
    have Z_8 := Z_7.below hb8
    have D_8 := D_7.below hb8
    have E_8 := E_7.below hb8
    have A_8 := A_7.below hb8
    have Q_8 := Q_7.below hb8
    have B_8 := TB.below hb8
    clear hb8 hk7 Z_7 D_7 E_7 A_7 Q_7 TB
    go_wp2_with fail
    refine (once_val Hc3.out.symm rfl Z_8 TF).mono ?_
    rintro e w9 ⟨vc, rfl, TC, hb9⟩
    have hk9 := below_then hk8 hb9
    have Z_9 := Z_8.below hb9
    have D_9 := D_8.below hb9
    have E_9 := E_8.below hb9
    have A_9 := A_8.below hb9
    have Q_9 := Q_8.below hb9
    have B_9 := B_8.below hb9
    have F_9 := TF.below hb9
    clear hb9 hk8 Z_8 D_8 E_8 A_8 Q_8 B_8 TF
    go_wp2_with fail
    refine (add_val Hc4.out.symm rfl A_9 B_9).mono ?_
    rintro e w10 ⟨vs, rfl, TS, hb10⟩
    have hk10 := below_then hk9 hb10
    have Z_10 := Z_9.below hb10
    have D_10 := D_9.below hb10
    have E_10 := E_9.below hb10
    have A_10 := A_9.below hb10
    have Q_10 := Q_9.below hb10
    have B_10 := B_9.below hb10
    have F_10 := F_9.below hb10
    have R_10 := TC.below hb10
    clear hb10 hk9 Z_9 D_9 E_9 A_9 Q_9 B_9 F_9 TC
    clear A_10
    clear B_10
    go_upto_region 14 with fail
    go_cut [131] (fun c wx => c = .bool false ∧ Hid (Below w10.heap.size w10 wx))
    case first =>
      cases c1 with
      | false =>
        clear Z_10 D_10 E_10 Q_10 F_10 R_10 TS
        go_wp2_with fail
        go_meet
        case rel => exact ⟨rfl, Below.refl _ _⟩
      | true =>
        cases c2 with
        | false =>
          clear Z_10 D_10 E_10 Q_10 F_10 R_10 TS
          go_wp2_with fail
          go_meet
          case rel => exact ⟨rfl, Below.refl _ _⟩
        | true =>
          cases c3 with
          | false =>
            clear Z_10 D_10 E_10 Q_10 F_10 R_10 TS
            go_wp2_with fail
            go_meet
            case rel => exact ⟨rfl, Below.refl _ _⟩
          | true =>
            cases c4 with
            | false =>
              clear Z_10 D_10 E_10 Q_10 F_10 R_10 TS
              go_wp2_with fail
              go_meet
              case rel => exact ⟨rfl, Below.refl _ _⟩
            | true =>
              have hs : zsB (addOut (onceOut z d) (onceOut (addOut z d) e2)) (onceOut z (addOut d e2)) = true := by rw [once_split hok Hc1.out.symm Hc2.out.symm Hc3.out.symm Hc4.out.symm]; exact zsB_refl _
              go_wp2_with fail
              refine (zsame_val hs TS R_10).mono ?_
              rintro e wz ⟨rfl, hbz⟩
              clear Z_10 D_10 E_10 Q_10 F_10 R_10 TS
              go_wp2_with fail
              go_meet
              case rel => exact ⟨rfl, hbz⟩
    case rest =>
      obtain ⟨rfl, hcb⟩ := hcut
      have hb11 := hcb.out
      have hk11 := below_then hk10 hb11
      have Z_11 := Z_10.below hb11
      have D_11 := D_10.below hb11
      have E_11 := E_10.below hb11
      have Q_11 := Q_10.below hb11
      have F_11 := F_10.below hb11
      have R_11 := R_10.below hb11
      have S_11 := TS.below hb11
      clear hb11 hcb hk10 Z_10 D_10 E_10 Q_10 F_10 R_10 TS
      clear S_11
      clear R_11
      obtain ⟨k0, hk0e⟩ : ∃ kv, kv = (Value.slice (some ⟨wc.heap.size, 0, none⟩) 1 1) := ⟨_, rfl⟩
      have hbl : Below wc.heap.size wc (wc.alloc (.cells #[.int .i64 0] 3)) := below_alloc _
      have TK : TailI (wc.alloc (.cells #[.int .i64 0] 3)) (.slice (some ⟨wc.heap.size, 0, none⟩) 1 1) [0] := (own_lit wc [0] (by simp)).tailI
      clear hk0e k0
      have hk12 := below_then hk11 hbl
      have Z_12 := Z_11.below hbl
      have D_12 := D_11.below hbl
      have E_12 := E_11.below hbl
      have Q_12 := Q_11.below hbl
      have F_12 := F_11.below hbl
      clear hbl hk11 Z_11 D_11 E_11 Q_11 F_11
      go_wp2_with fail
      refine (dgV Hc5.out.symm rfl (HTAB.out.below hk12) Z_12 D_12 TK).mono ?_
      rintro e w13 ⟨vg, rfl, TG, hb13⟩
      have hk13 := below_then hk12 hb13
      have Z_13 := Z_12.below hb13
      have D_13 := D_12.below hb13
      have E_13 := E_12.below hb13
      have Q_13 := Q_12.below hb13
      have F_13 := F_12.below hb13
      have K_13 := TK.below hb13
      clear hb13 hk12 Z_12 D_12 E_12 Q_12 F_12 TK
      clear D_13
      go_wp2_with fail
      refine (dgV Hc6.out.symm rfl (HTAB.out.below hk13) Q_13 E_13 K_13).mono ?_
      rintro e w14 ⟨vh, rfl, TH, hb14⟩
      have hk14 := below_then hk13 hb14
      have Z_14 := Z_13.below hb14
      have E_14 := E_13.below hb14
      have Q_14 := Q_13.below hb14
      have F_14 := F_13.below hb14
      have K_14 := K_13.below hb14
      have G_14 := TG.below hb14
      clear hb14 hk13 Z_13 E_13 Q_13 F_13 K_13 TG
      clear Q_14
      clear E_14
      go_wp2_with fail
      refine (dgV Hc7.out.symm rfl (HTAB.out.below hk14) Z_14 F_14 K_14).mono ?_
      rintro e w15 ⟨vi, rfl, TI, hb15⟩
      have hk15 := below_then hk14 hb15
      have Z_15 := Z_14.below hb15
      have F_15 := F_14.below hb15
      have K_15 := K_14.below hb15
      have G_15 := G_14.below hb15
      have H_15 := TH.below hb15
      clear hb15 hk14 Z_14 F_14 K_14 G_14 TH
      clear Z_15
      clear F_15
      clear K_15
      go_wp2_with fail
      refine (add_val Hc8.out.symm rfl G_15 H_15).mono ?_
      rintro e w16 ⟨vu, rfl, TU, hb16⟩
      have hk16 := below_then hk15 hb16
      have G_16 := G_15.below hb16
      have H_16 := H_15.below hb16
      have I_16 := TI.below hb16
      clear hb16 hk15 G_15 H_15 TI
      clear G_16
      clear H_16
      cases c5 with
      | false =>
        clear I_16 TU
        clear hok hadd
        go_wp2
        go_ret
        exact ⟨rfl, hk16⟩
      | true =>
        cases c6 with
        | false =>
          clear I_16 TU
          clear hok hadd
          go_wp2
          go_ret
          exact ⟨rfl, hk16⟩
        | true =>
          cases c2 with
          | false =>
            clear I_16 TU
            clear hok hadd
            go_wp2
            go_ret
            exact ⟨rfl, hk16⟩
          | true =>
            cases c7 with
            | false =>
              clear I_16 TU
              clear hok hadd
              go_wp2
              go_ret
              exact ⟨rfl, hk16⟩
            | true =>
              cases c8 with
              | false =>
                clear I_16 TU
                clear hok hadd
                go_wp2
                go_ret
                exact ⟨rfl, hk16⟩
              | true =>
                have hs : zsB (addOut (dgOut z d [0] 0 0) (dgOut (addOut z d) e2 [0] 0 0)) (dgOut z (addOut d e2) [0] 0 0) = true := by rw [dg_split Hc5.out.symm Hc6.out.symm Hc2.out.symm Hc7.out.symm Hc8.out.symm]; exact zsB_refl _
                go_wp2_with fail
                refine (zsame_val hs TU I_16).mono ?_
                rintro e w17 ⟨rfl, hb17⟩
                have hk17 := below_then hk16 hb17
                have I_17 := I_16.below hb17
                have U_17 := TU.below hb17
                clear hb17 hk16 I_16 TU
                clear hs
                clear I_17 U_17
                clear hok hadd
                go_wp2
                go_ret
                exact ⟨rfl, hk17⟩

end Go.Proofs.YtfgpdakkbhfiaaaGreatDoor
