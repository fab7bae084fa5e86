/-
  Texts of this claim put behind one another: GroupRows, TotalOf, GroupImpl, LawGroupOf.
-/
import Derived.Test.YtjbfgfgldchfnaaDoorGroups
import Derived.Test.YtjbfgfgldchfnaaDoorTotalsG
import Derived.Test.YtjbfgfgldchfnaaDoorGatherSort
import Derived.StringKeys
import Derived.Test.YtjbfgfgldchfnaaDoorGroupSpec
import Derived.Test.YtjbfgfgldchfnaaDoorLawKit
import Derived.Test.YtjbfgfgldchfnaaDoorLaidTab

/-
  Plain facts on the groups by their texts: each text's row; the texts of all groups, once each, and their rows in order are what is told.
-/
namespace Go.Proofs.YtjbfgfgldchfnaaDoor
open Go.RowKit

/-- The row that is told of a text's group. -/
def rowT (z : List It) (ks : List Int) (agg : Int) (col : Nat) (s : List UInt8) : List Int := keyZ ((grpT z ks s).getD 0 ([], 0)).1 ks ++ [aggZ agg col (grpT z ks s)]
theorem grpT_mem {z : List It} {ks : List Int} {s : List UInt8} {p : It} : p ∈ grpT z ks s ↔ p ∈ z ∧ 0 < p.2 ∧ rowTx (keyZ p.1 ks) = s := by
  unfold grpT
  rw [List.mem_filter]
  simp
theorem key_inj {z : List It} {ks : List Int} (hz : zOkB z = true) (hkz : haveAll z ks = true) {p q : It} (hp : p ∈ z) (hq : q ∈ z) (h : rowTx (keyZ p.1 ks) = rowTx (keyZ q.1 ks)) : keyZ p.1 ks = keyZ q.1 ks :=
  rowTx_inj (keyZ_cells (zOk_item hz hp).1 fun k hk => have_iff.1 hkz k hk p hp) (keyZ_cells (zOk_item hz hq).1 fun k hk => have_iff.1 hkz k hk q hq) (by rw [keyZ_len, keyZ_len]) h
theorem grpT_is {z : List It} {ks : List Int} (hz : zOkB z = true) (hkz : haveAll z ks = true) {p : It} (hp : p ∈ z) : grpT z ks (rowTx (keyZ p.1 ks)) = grpZ z ks (keyZ p.1 ks) := by
  unfold grpT grpZ
  refine List.filter_congr fun q hq => ?_
  congr 1
  by_cases e : keyZ q.1 ks = keyZ p.1 ks
  · rw [e]; simp
  · rw [decide_eq_false e, decide_eq_false fun h => e (key_inj hz hkz hq hp h)]
theorem first_mem {z : List It} {ks : List Int} {s : List UInt8} (h : grpT z ks s ≠ []) : (grpT z ks s).getD 0 ([], 0) ∈ grpT z ks s := by
  cases e : grpT z ks s with
  | nil => exact absurd e h
  | cons p l => simp
/-- The text of the group of the row that is told of it. -/
theorem first_is {z : List It} {ks : List Int} {s : List UInt8} (h : grpT z ks s ≠ []) : rowTx (keyZ ((grpT z ks s).getD 0 ([], 0)).1 ks) = s := (grpT_mem.1 (first_mem h)).2.2
theorem rowT_is {z : List It} {ks : List Int} (agg : Int) (col : Nat) (hz : zOkB z = true) (hkz : haveAll z ks = true) {p : It} (hp : p ∈ z) (hw : 0 < p.2) : rowT z ks agg col (rowTx (keyZ p.1 ks)) = rowG z ks agg col p := by
  have hm : p ∈ grpT z ks (rowTx (keyZ p.1 ks)) := grpT_mem.2 ⟨hp, hw, rfl⟩
  have hne : grpT z ks (rowTx (keyZ p.1 ks)) ≠ [] := fun e => by rw [e] at hm; simp at hm
  have h0 := grpT_mem.1 (first_mem hne)
  unfold rowT rowG
  rw [key_inj hz hkz h0.1 hp h0.2.2, grpT_is hz hkz hp]
theorem rowT_first {z : List It} {ks : List Int} {agg : Int} {col : Nat} (hz : zOkB z = true) (hkz : haveAll z ks = true) {s : List UInt8} (h : grpT z ks s ≠ []) : ∃ p ∈ z, 0 < p.2 ∧ rowTx (keyZ p.1 ks) = s ∧ rowT z ks agg col s = rowG z ks agg col p ∧ grpT z ks s = grpZ z ks (keyZ p.1 ks) := by
  have h0 := grpT_mem.1 (first_mem h)
  have h1 := rowT_is agg col hz hkz h0.1 h0.2.1
  have h2 := grpT_is hz hkz h0.1
  rw [h0.2.2] at h1 h2
  exact ⟨_, h0.1, h0.2.1, h0.2.2, h1, h2⟩
theorem rowT_inj {z : List It} {ks : List Int} {agg : Int} {col : Nat} {s t : List UInt8} (hs : grpT z ks s ≠ []) (ht : grpT z ks t ≠ []) (h : rowT z ks agg col s = rowT z ks agg col t) : s = t := by
  unfold rowT at h
  have := (List.append_inj' h rfl).1
  rw [← first_is hs, ← first_is ht, this]
theorem texts_no {z : List It} {ks : List Int} {agg : Int} {col : Nat} (hz : zOkB z = true) (hkz : haveAll z ks = true) {s : List UInt8} (h : grpT z ks s ≠ []) (hc : cellB (aggZ agg col (grpT z ks s)) = false) : grpTold z ks agg col = false := by
  obtain ⟨p, hp, hw, _, _, e⟩ := rowT_first (agg := agg) (col := col) hz hkz h
  unfold grpTold
  rw [List.all_eq_false]
  refine ⟨p, hp, ?_⟩
  unfold toldG
  rw [← e, hc, decide_eq_false (by omega)]; decide
theorem texts_yes {z : List It} {ks : List Int} {agg : Int} {col : Nat} (hz : zOkB z = true) (hkz : haveAll z ks = true) {D : List (List UInt8)} (hD : ∀ s, grpT z ks s ≠ [] → s ∈ D) (hc : ∀ s ∈ D, cellB (aggZ agg col (grpT z ks s)) = true) : grpTold z ks agg col = true := by
  unfold grpTold
  rw [List.all_eq_true]
  intro p hp
  unfold toldG
  by_cases hw : p.2 < 0
  · rw [decide_eq_true hw]; rfl
  · have hnz := zOk_nz hz p hp
    have hm : p ∈ grpT z ks (rowTx (keyZ p.1 ks)) := grpT_mem.2 ⟨hp, by omega, rfl⟩
    have h1 := hc _ (hD (rowTx (keyZ p.1 ks)) (fun e => by rw [e] at hm; simp at hm))
    rw [grpT_is hz hkz hp] at h1
    rw [h1]; simp
/-- The rows of all texts, each once, in order, are what is told. -/
theorem rows_told {z : List It} {ks : List Int} {agg : Int} {col : Nat} (hz : zOkB z = true) (hkz : haveAll z ks = true) {D : List (List UInt8)} (hnd : D.Nodup) (hD : ∀ s, s ∈ D ↔ grpT z ks s ≠ []) {m : List It} (hp : (D.map fun s => (rowT z ks agg col s, (1 : Int))).Perm m) (ha : Asc m) : m = grpTo (rowG z ks agg col) z := by
  have hG := isG_to (rowG z ks agg col) z
  have hrows : (D.map fun s => (rowT z ks agg col s, (1 : Int))).Pairwise fun p q => p.1 ≠ q.1 := by
    rw [List.pairwise_map]
    refine List.Pairwise.imp_of_mem ?_ hnd
    intro s t hs ht hne e
    exact hne (rowT_inj ((hD s).1 hs) ((hD t).1 ht) e)
  have hrm : m.Pairwise fun p q => p.1 ≠ q.1 := (hp.pairwise_iff (fun h e => h e.symm)).1 hrows
  have hsrt : Srt m := by
    refine (List.pairwise_and_iff.2 ⟨ha, hrm⟩).imp ?_
    intro p q h
    exact ordL_flip h.1 (fun e => h.2 e.symm)
  have hone : ∀ p ∈ m, p.2 = 1 := fun p hpm => by
    obtain ⟨s, _, rfl⟩ := List.mem_map.1 (hp.symm.subset hpm)
    rfl
  refine canon hsrt (fun p hpm => by rw [hone p hpm]; decide) hG.1 hG.2.1 fun q => ?_
  rw [hG.2.2]
  by_cases hq : ∃ p ∈ m, p.1 = q
  · obtain ⟨p, hpm, rfl⟩ := hq
    rw [getZ_ownG hsrt p hpm, hone p hpm]
    obtain ⟨s, hs, rfl⟩ := List.mem_map.1 (hp.symm.subset hpm)
    obtain ⟨x, hx, hw, _, e, _⟩ := rowT_first (agg := agg) (col := col) hz hkz ((hD s).1 hs)
    have : hasG (rowG z ks agg col) z (rowT z ks agg col s) = true := by
      unfold hasG
      rw [List.any_eq_true]
      exact ⟨x, hx, by rw [e]; simp; omega⟩
    rw [if_pos this]
  · have : hasG (rowG z ks agg col) z q = false := by
      cases hh : hasG (rowG z ks agg col) z q with
      | false => rfl
      | true =>
        obtain ⟨p, hpz, h1, h2⟩ := hasG_mem hh
        have hnz := zOk_nz hz p hpz
        have hw : 0 < p.2 := by omega
        have hm : p ∈ grpT z ks (rowTx (keyZ p.1 ks)) := grpT_mem.2 ⟨hpz, hw, rfl⟩
        have hd := (hD (rowTx (keyZ p.1 ks))).2 (fun e => by rw [e] at hm; simp at hm)
        refine absurd ⟨(rowT z ks agg col (rowTx (keyZ p.1 ks)), 1), hp.subset (List.mem_map.2 ⟨_, hd, rfl⟩), ?_⟩ hq
        rw [← h2]
        exact rowT_is agg col hz hkz hpz hw
    rw [this, getZ_zero fun p hpm e => hq ⟨p, hpm, e⟩]; rfl

end Go.Proofs.YtjbfgfgldchfnaaDoor

/-
  The contracts of impl.totalOf and of what it answers, and of impl.canGroup.
-/
namespace Go.Proofs.YtjbfgfgldchfnaaDoor
set_option maxRecDepth 100000
open Go.RowKit
attribute [local go_sem ↓] Go.wp_at_zero Go.wp_at_succ

theorem invOf_count (v : Value) (w : World) : (Go.method 247 72 v "loop.example/milldam/impl.of").run Tryd.prog w = .ok (122, v) w := by kernel_rfl
theorem invOf_sum (v : Value) (w : World) : (Go.method 247 73 v "loop.example/milldam/impl.of").run Tryd.prog w = .ok (123, v) w := by kernel_rfl
theorem invOf_least (v : Value) (w : World) : (Go.method 247 74 v "loop.example/milldam/impl.of").run Tryd.prog w = .ok (124, v) w := by kernel_rfl
theorem invOf_most (v : Value) (w : World) : (Go.method 247 75 v "loop.example/milldam/impl.of").run Tryd.prog w = .ok (125, v) w := by kernel_rfl

/-- A type and a function that reckon so of a group. -/
def IsTotal (agg : Int) (tid : TypeId) (fn : Nat) : Prop :=
  (∀ (v : Value) (w : World), (Go.method 247 tid v "loop.example/milldam/impl.of").run Tryd.prog w = .ok (fn, v) w) ∧ (∀ args w, (callFunc fn args).run Tryd.prog w = .ok (.enter fn args) w) ∧
    ∀ (u : Value) (g : List It) (col : Nat) (w : World), ItemsAt w u g → Fine g col → 0 < g.length → Calls Tryd.prog fn #[.agg #[], u, .int .i64 col] w fun e w' => e = .returned (.int .i64 (aggZ agg col g)) ∧ Below w.heap.size w w'
theorem totalOf_yes (agg : Int) (h : aggB agg = true) : ∃ tid fn, IsTotal agg tid fn ∧ ∀ w : World, Calls Tryd.prog 37 #[.int .i64 agg] w fun e w' => e = .returned (.tuple #[.iface tid (.agg #[]), .bool true]) ∧ w = w' := by
  have h0 := of_decide_eq_true h
  have hc : agg = 0 ∨ agg = 1 ∨ agg = 2 ∨ agg = 3 := by omega
  clear h h0
  rcases hc with rfl | rfl | rfl | rfl
  · refine ⟨72, 122, ⟨invOf_count, enters_of Tryd.func122 (by kernel_rfl) rfl, fun u g col w h hf hp => count_any u _ g col w h hf hp rfl⟩, fun w => ?_⟩
    go_enter Tryd.func37, Tryd.ntmps37
    go_wp2
    go_ret2
    exact ⟨rfl, rfl⟩
  · refine ⟨73, 123, ⟨invOf_sum, enters_of Tryd.func123 (by kernel_rfl) rfl, fun u g col w h hf hp => sum_any u _ g col w h hf hp rfl⟩, fun w => ?_⟩
    go_enter Tryd.func37, Tryd.ntmps37
    go_wp2
    go_ret2
    exact ⟨rfl, rfl⟩
  · refine ⟨74, 124, ⟨invOf_least, enters_of Tryd.func124 (by kernel_rfl) rfl, fun u g col w h hf hp => least_any u _ g col w h hf hp rfl⟩, fun w => ?_⟩
    go_enter Tryd.func37, Tryd.ntmps37
    go_wp2
    go_ret2
    exact ⟨rfl, rfl⟩
  · refine ⟨75, 125, ⟨invOf_most, enters_of Tryd.func125 (by kernel_rfl) rfl, fun u g col w h hf hp => most_any u _ g col w h hf hp rfl⟩, fun w => ?_⟩
    go_enter Tryd.func37, Tryd.ntmps37
    go_wp2
    go_ret2
    exact ⟨rfl, rfl⟩
theorem totalOf_no (agg : Int) (w : World) (h : aggB agg = false) : Calls Tryd.prog 37 #[.int .i64 agg] w fun e w' => e = .returned (.tuple #[.nilIface, .bool false]) ∧ w = w' := by
  have h0 := of_decide_eq_false h
  have h1 : (agg == 0) = false := by simp; omega
  have h2 : (agg == 1) = false := by simp; omega
  have h3 : (agg == 2) = false := by simp; omega
  have h4 : (agg == 3) = false := by simp; omega
  clear h h0
  go_enter Tryd.func37, Tryd.ntmps37
  go_wp2
  go_ret2
  exact ⟨rfl, rfl⟩
theorem canGroup_any (v u : Value) (z : List It) (ks : List Int) (col : Int) (w : World) (h : ItemsAt w v z) (h2 : IntsAt w u ks) :
    Calls Tryd.prog 39 #[v, u, .int .i64 col] w fun e w' => e = .returned (.bool (haveAll z ks && hasAt col z)) ∧ Below w.heap.size w w' := by
  obtain ⟨c, HC⟩ : ∃ c, Hid (c = haveAll z ks) := ⟨_, rfl⟩
  obtain ⟨d, HD⟩ : ∃ d, Hid (d = hasAt col z) := ⟨_, rfl⟩
  rw [← HC.out, ← HD.out]
  have HZ : Hid (ItemsAt w v z) := h
  go_enter Tryd.func39, Tryd.ntmps39
  go_wp2_with fail
  refine (allHaveKeys_any v u z ks _ h h2).mono ?_
  rw [← HC.out]
  rintro e w1 ⟨rfl, hb1⟩
  have HB1 : Hid (Below w.heap.size w w1) := hb1
  clear h h2 hb1
  cases c with
  | false =>
    go_wp2
    go_ret
    exact ⟨rfl, HB1.out⟩
  | true =>
    go_wp2_with fail
    refine (allHave_any v z col _ (HZ.out.below HB1.out)).mono ?_
    rw [← HD.out]
    rintro e w2 ⟨rfl, hb2⟩
    have HB2 : Hid (Below w.heap.size w w2) := below_then HB1.out hb2
    clear hb2 HB1
    go_wp2
    go_ret
    exact ⟨rfl, HB2.out⟩

end Go.Proofs.YtjbfgfgldchfnaaDoor

/-
  The contract of impl.GroupOf: the map of groups is read out in an order that nobody knows, each group once; what is told of it is put in order at the end.
-/
namespace Go.Proofs.YtjbfgfgldchfnaaDoor
set_option maxRecDepth 100000
open Go.RowKit Go.Maps
attribute [local go_sem ↓] Go.wp_at_zero Go.wp_at_succ

/-- The texts that have come: each once; what is left is what the map has besides. -/
def Got (D : DataW Value) (left : Lit → Bool) (ss : List (List UInt8)) : Prop := ss.Nodup ∧ (∀ s, left (.string s) = (has D (.string s) && !decide (s ∈ ss))) ∧ ∀ s ∈ ss, has D (.string s) = true
theorem got_start (D : DataW Value) : Got D (has D) [] := ⟨List.nodup_nil, fun s => by simp, fun s hs => by simp at hs⟩
theorem Got.step {D : DataW Value} {left : Lit → Bool} {ss : List (List UInt8)} (h : Got D left ss) {x : List UInt8} (hx : left (.string x) = true) : Got D (fun z => left z && !z.sameKey (.string x)) (ss ++ [x]) := by
  have h0 := h.2.1 x
  rw [hx] at h0
  have h1 : has D (.string x) = true ∧ x ∉ ss := by
    have := h0.symm
    rw [Bool.and_eq_true] at this
    exact ⟨this.1, by simpa using this.2⟩
  refine ⟨List.nodup_append.2 ⟨h.1, by simp, fun a ha b hb e => ?_⟩, fun s => ?_, fun s hs => ?_⟩
  · simp at hb
    subst hb
    exact h1.2 (by rw [← e]; exact ha)
  · show (left (.string s) && !(Lit.string s).sameKey (.string x)) = _
    rw [h.2.1 s]
    by_cases e : s = x
    · subst e; simp [Lit.sameKey]
    · simp [Lit.sameKey, e]
  · rcases List.mem_append.1 hs with e | e
    · exact h.2.2 s e
    · simp at e; rw [e]; exact h1.1
theorem Got.all {D : DataW Value} {left : Lit → Bool} {ss : List (List UInt8)} (h : Got D left ss) (hl : ∀ kl, left kl = false) (s : List UInt8) : s ∈ ss ↔ has D (.string s) = true := by
  refine ⟨h.2.2 s, fun hs => ?_⟩
  have h0 := h.2.1 s
  rw [hl, hs] at h0
  simpa using h0
theorem ranges_at {H : Type} {P : Program} {k : TypeId} {R : Value → Option (DataW H × List MemPlace)} {w w' : World} {b r n : Nat} {D : DataW H} {left : Lit → Bool} {cnt : Nat} (h : w.ranges P k R b r n D left cnt) (hb : w'.heap[b]? = w.heap[b]?) (hr : w'.heap[r]? = w.heap[r]?) : w'.ranges P k R b r n D left cnt := by
  obtain ⟨es, clock, since, seen, c0, h1, F, hs, hD, h2, rest⟩ := h
  exact ⟨es, clock, since, seen, c0, hb.trans h1, F, hs, hD, hr.trans h2, rest⟩
theorem grown_thenB {a b c : World} {r : Option Nat} (h : a.grownBy b r) (hb : Below a.heap.size b c) : a.grownBy c r :=
  ⟨hb.os.trans h.os, hb.tape.trans h.tape, hb.output.trans h.output, Nat.le_trans h.size hb.size, fun k hk hne => (hb.block k hk).trans (h.block k hk hne)⟩
theorem spine_items {w : World} {lo hi : Nat} {v : Value} {l : List Rw} (S : Spine w lo hi v (prs l)) (hr : RowsIn w l) : ItemsAt w v (its l) := by
  refine items_of_spine (by simp [prs, its]) S fun j hj => ?_
  rw [prs_length] at hj
  have := hr l[j] (List.getElem_mem hj)
  simpa [prs, its, List.getD, hj] using this

set_option maxHeartbeats 16000000 in
theorem implGroup_any (v u : Value) (z : List It) (ks : List Int) (agg col : Int) (w : World) (htab : Tab w) (h : ItemsAt w v z) (h2 : TailI w u ks) :
    Calls Tryd.prog 16 #[v, u, .int .i64 agg, .int .i64 col] w fun e w' => ∃ v', e = .returned (.tuple #[v', .bool (grpOk z ks agg col)]) ∧ OwnZ w' w.heap.size w'.heap.size v' (grpOut z ks agg col) ∧ Below w.heap.size w w' := by
  obtain ⟨i0, hi0, hz0, hz1, hz2⟩ := info_parts infoItem
  obtain ⟨i1, hi1, hj0, hj1, hj2⟩ := info_parts infoInt
  have hnot : grpCan z ks agg col = false → grpOk z ks agg col = false ∧ grpOut z ks agg col = [] := fun e => by
    have : grpOk z ks agg col = false := by unfold grpOk; rw [e]; rfl
    exact ⟨this, grp_not this⟩
  obtain ⟨ua, un, uc, rfl⟩ := h2.1.shape
  cases ha : aggB agg with
  | false =>
    obtain ⟨e0, e1⟩ := hnot (by unfold grpCan; rw [ha]; simp)
    rw [e0, e1]
    clear hnot e0 e1 h2 htab
    go_enter Tryd.func16, Tryd.ntmps16
    go_wp2_with fail
    refine (totalOf_no agg _ ha).mono ?_
    rintro e w0 ⟨rfl, rfl⟩
    go_wp2_with fail
    refine (implZOk_any v z _ h).mono ?_
    rintro e w1 ⟨rfl, hb1⟩
    clear h
    cases zOkB z with
    | false =>
      go_wp2
      go_ret2
      exact ⟨_, rfl, nil_ownZ _ _, hb1⟩
    | true =>
      go_wp2
      go_ret2
      exact ⟨_, rfl, nil_ownZ _ _, hb1⟩
  | true =>
  obtain ⟨tid, fn, htot, htof⟩ := totalOf_yes agg ha
  cases hz : zOkB z with
  | false =>
    obtain ⟨e0, e1⟩ := hnot (by unfold grpCan; rw [hz]; simp)
    rw [e0, e1]
    clear hnot e0 e1 h2 htab htot
    go_enter Tryd.func16, Tryd.ntmps16
    go_wp2_with fail
    refine (htof _).mono ?_
    rintro e w0 ⟨rfl, rfl⟩
    clear htof
    go_wp2_with fail
    refine (implZOk_any v z _ h).mono ?_
    rw [hz]
    rintro e w1 ⟨rfl, hb1⟩
    clear h
    go_wp2
    go_ret2
    exact ⟨_, rfl, nil_ownZ _ _, hb1⟩
  | true =>
  cases hk6 : keysB ks 6 with
  | false =>
    obtain ⟨e0, e1⟩ := hnot (by unfold grpCan; rw [hk6]; simp)
    rw [e0, e1]
    clear hnot e0 e1 htab htot
    go_enter Tryd.func16, Tryd.ntmps16
    go_wp2_with fail
    refine (htof _).mono ?_
    rintro e w0 ⟨rfl, rfl⟩
    clear htof
    go_wp2_with fail
    refine (implZOk_any v z _ h).mono ?_
    rw [hz]
    rintro e w1 ⟨rfl, hb1⟩
    go_wp2_with fail
    refine (areKeys_any _ ks 6 _ (h2.below hb1)).mono ?_
    rw [hk6]
    rintro e w2 ⟨rfl, rfl⟩
    clear h h2
    go_wp2
    go_ret2
    exact ⟨_, rfl, nil_ownZ _ _, hb1⟩
  | true =>
  cases hcg : (haveAll z ks && hasAt col z) with
  | false =>
    obtain ⟨e0, e1⟩ := hnot (by unfold grpCan; rw [hcg]; simp)
    rw [e0, e1]
    clear hnot e0 e1 htab htot
    go_enter Tryd.func16, Tryd.ntmps16
    go_wp2_with fail
    refine (htof _).mono ?_
    rintro e w0 ⟨rfl, rfl⟩
    clear htof
    go_wp2_with fail
    refine (implZOk_any v z _ h).mono ?_
    rw [hz]
    rintro e w1 ⟨rfl, hb1⟩
    go_wp2_with fail
    refine (areKeys_any _ ks 6 _ (h2.below hb1)).mono ?_
    rw [hk6]
    rintro e w2 ⟨rfl, rfl⟩
    go_wp2_with fail
    refine (canGroup_any v _ z ks col _ (h.below hb1) (h2.below hb1).1).mono ?_
    rw [hcg]
    rintro e w2 ⟨rfl, hb2⟩
    have HK : Hid (Below w.heap.size w w2) := below_then hb1 hb2
    clear h h2 hb1 hb2
    go_wp2
    go_ret2
    exact ⟨_, rfl, nil_ownZ _ _, HK.out⟩
  | true =>
  have hcan : grpCan z ks agg col = true := by unfold grpCan; rw [hz, ha, hk6, hcg]; rfl
  have hkz : haveAll z ks = true := (Bool.and_eq_true _ _ ▸ hcg).1
  have hcz : hasAt col z = true := (Bool.and_eq_true _ _ ▸ hcg).2
  have hk5 := (keys_parts hk6).1
  obtain ⟨cn, HCN⟩ : ∃ cn, Hid (cn = col.toNat) := ⟨_, rfl⟩
  obtain ⟨os, HO⟩ : ∃ os, Hid (os = grpOut z ks agg col) := ⟨_, rfl⟩
  obtain ⟨d, HD⟩ : ∃ d, Hid (d = grpOk z ks agg col) := ⟨_, rfl⟩
  have HYES : Hid (grpTold z ks agg cn = true → d = true ∧ os = grpTo (rowG z ks agg cn) z) := fun e => by
    rw [HCN.out] at e ⊢
    have e0 : grpOk z ks agg col = true := by unfold grpOk; rw [hcan, e]; rfl
    exact ⟨HD.out.trans e0, by rw [HO.out]; unfold grpOut; rw [e0]; rfl⟩
  have HNO : Hid (grpTold z ks agg cn = false → d = false ∧ os = []) := fun e => by
    rw [HCN.out] at e
    have e0 : grpOk z ks agg col = false := by unfold grpOk; rw [e, Bool.and_false]
    exact ⟨HD.out.trans e0, HO.out.trans (grp_not e0)⟩
  rw [← HO.out, ← HD.out]
  clear hnot hcan
  go_enter Tryd.func16, Tryd.ntmps16
  go_wp2_with fail
  refine (htof _).mono ?_
  rintro e w0 ⟨rfl, rfl⟩
  clear htof
  go_wp2_with fail
  refine (implZOk_any v z _ h).mono ?_
  rw [hz]
  rintro e w1 ⟨rfl, hb1⟩
  go_wp2_with fail
  refine (areKeys_any _ ks 6 _ (h2.below hb1)).mono ?_
  rw [hk6]
  rintro e w1' ⟨rfl, hw1⟩
  obtain rfl := hw1.symm
  go_wp2_with fail
  refine (canGroup_any v _ z ks col _ (h.below hb1) (h2.below hb1).1).mono ?_
  rw [hcg]
  rintro e w2 ⟨rfl, hb2⟩
  have hk2 := below_then hb1 hb2
  go_wp2_with fail
  refine (groups_any v _ z ks _ (htab.below hk2) (h.below hk2) (h2.below hk2).1 hz hkz (by omega)).mono ?_
  rintro e w3 ⟨n, G, rfl, ⟨D, V, hm1, hm2, hm3, hm4, hm5, hm6, hm7⟩, hG, hR, hn100, hb3⟩
  have hk3 := below_then hk2 hb3
  have HK2 : Hid (IntsAt w (.slice ua un uc) ks) := h2.1
  have HR : Hid (∀ s, RowsIn w2 (G s)) := hR
  have HG : Hid (∀ s, its (G s) = grpT z ks s) := hG
  have HV : Hid (∀ c, D.atKey (.string c) (.held vn) = .held (V c)) := hm2
  have HH : Hid (∀ c, has D (.string c) = !(G c).isEmpty) := hm7
  have HS3 : Hid (∀ c, Spine w3 (w2.heap.size + 1) w3.heap.size (V c) (prs (G c))) := hm3
  have HB3 : Hid (Below w2.heap.size w2 w3) := hb3
  have HB2 : Hid (Below w.heap.size w w2) := hk2
  have HZ : Hid (zOkB z = true) := hz
  have HKZ : Hid (haveAll z ks = true) := hkz
  have HCZ : Hid (hasAt col z = true) := hcz
  have HTOT : Hid (IsTotal agg tid fn) := htot
  have hmt := htot.1
  have hen0 := htot.2.1
  have hszD := hm1.size_le
  have hmb : w2.heap.size < w3.heap.size := by have := hm1.lt; exact this
  have hs32 := hb3.size
  have hs2w := hk2.size
  have K : Keyed Tryd.prog 9 := string_keyed Tryd.underlying9
  clear h h2 hb1 hb2 hk2 htab hG hR hm2 hm3 hm4 hm7 hz hkz hcz hcg hk6 hb3 hk3 htot ha
  go_wp2_with (first
    | (at_range; go_loud (refine wpList_range_own _ rfl _ 62 rfl 9 25 K hm6 _ w2.heap.size n D rfl hm1 ?_; intro w0 hrg0 hg0 hs0))
    | go_in)
  go_frame
  have HB0 : Hid (Below w2.heap.size w2 w0) := HB3.out.grown hg0 hs32 (fun j hj => by cases hj)
  have HS0 : Hid (∀ c, Spine w0 (w2.heap.size + 1) w3.heap.size (V c) (prs (G c))) := fun c => (HS3.out c).kept hg0 (by cases (V c).ownBlock <;> simp)
  have HRG0 : Hid (w0.ranges Tryd.prog 9 heldT w2.heap.size w3.heap.size n D (has D) (Maps.size D)) := hrg0
  have HM1 : Hid (w3.ownsMap Tryd.prog 9 heldT w2.heap.size n D) := hm1
  have HW0 : Hid (Below w.heap.size w w0) := HB2.out.trans (HB0.out.mono hs2w)
  clear hrg0 hg0 HB3 HS3 hm1 hm6 hm5
  go_loopw [12] (fun s wr => ∃ (left : Lit → Bool) (cnt : Nat) (ss : List (List UInt8)), Hid (wr.ranges Tryd.prog 9 heldT w2.heap.size w3.heap.size n D left cnt) ∧ Hid (Got D left ss) ∧ ss.length + cnt ≤ 100 ∧ Hid (OwnZ wr w0.heap.size wr.heap.size s (ss.map fun s => (rowT z ks agg cn s, (1 : Int)))) ∧ Hid (w0.grownBy wr (some w3.heap.size)) ∧ Hid (∀ s ∈ ss, cellB (aggZ agg cn (grpT z ks s)) = true))
    (fun _ wr => wr.rangeLeft w2.heap.size w3.heap.size)
  case atStart => exact ⟨_, _, [], HRG0.out, got_start D, by simp; omega, nil_ownZ _ _, grown_refl _ _, fun s hs => by simp at hs⟩
  case round =>
    obtain ⟨left, cnt, ss, HRG, HGOT, hlen, HT, HGR, HCE⟩ := hrel
    clear HRG0
    have hrg := HRG.out
    go_wp2_with (first
      | (at_next; go_loud (refine wpList_next_ranges _ rfl _ rfl 9 K heldT Value.string id (fun key kl hk => by obtain ⟨x, hx, _⟩ := Go.WideMaps.string_of_keyOf Tryd.underlying9 hk; exact ⟨x, hx⟩) (fun v y _ => ⟨v, rfl⟩) w2.heap.size w3.heap.size n D left cnt rfl hrg ?_ ?_))
      | go_in)
    · intro hc0 hl0
      have hD : ∀ s, s ∈ ss ↔ grpT z ks s ≠ [] := fun s => by
        rw [HGOT.out.all hl0 s, HH.out s, ← HG.out s]
        cases G s with
        | nil => simp [its]
        | cons a l => simp [its]
      have htold := texts_yes HZ.out HKZ.out (fun s hs => (hD s).2 hs) HCE.out
      obtain ⟨hd, hos⟩ := HYES.out htold
      obtain ⟨l, hl, S, R, AP⟩ := HT.out.opened
      have hll : l.length ≤ 100 := by
        have := congrArg List.length hl
        rw [its_length, List.length_map] at this
        omega
      have HEND : Hid (∀ l' : List Rw, l.Perm l' → Asc (its l') → its l' = os) := fun l' hp ha => by
        rw [hos]
        exact rows_told HZ.out HKZ.out HGOT.out.1 hD (by rw [hl]; exact hp.map _) ha
      have hszr := HGR.out.size
      have HBR : Hid (Below w.heap.size w wr) := HW0.out.grown HGR.out (by omega) (fun k hk => by simp at hk; omega)
      subst hd
      clear hrg hos htold hD hl0 hc0 hl HRG
      go_wp2_with fail
      refine (sort_any u12 w0.heap.size wr.heap.size l _ S R (by omega)).mono ?_
      rintro e w4 ⟨rfl, l', hp, hasc, S1, R1, O1⟩
      have HZ4 : Hid (OwnZ w4 w.heap.size w4.heap.size u12 os) := by
        rw [Hid, ← HEND.out l' hp hasc]
        exact (OwnZ.closed S1 R1 (apart_perm AP hp)).wide (by omega) O1.size (Nat.le_refl _)
      have HB4 : Hid (Below w.heap.size w w4) := O1.below HBR.out (by omega) (by omega)
      clear S R AP S1 R1 O1 hp hasc HEND
      go_wp2
      go_ret2
      exact ⟨_, rfl, HZ4.out, HB4.out⟩
    · intro x c kl y yb w4 cnt1 hkey hleft hRc hat hrg4 hlt hg4 hs4 hen
      obtain ⟨x', hx', hkl, hxs⟩ := Go.WideMaps.string_of_keyOf Tryd.underlying9 hkey
      obtain ⟨s, hsx⟩ : ∃ s, s = x.data.toList := ⟨_, rfl⟩
      have ex : x' = x := by injection hx' with e; exact e.symm
      rw [ex, ← hsx] at hkl
      have hcV : c = V s := by
        have h1 := hat (.held vn)
        rw [hkl, HV.out s] at h1
        unfold heldT at hRc
        injection hRc with h2
        injection h2 with h2 _
        rw [← h2] at h1
        injection h1 with h1
        exact h1.symm
      subst hkl
      have hgot := HGOT.out.2.1 s
      rw [hleft] at hgot
      have hhas : has D (.string s) = true := by
        have := hgot.symm
        rw [Bool.and_eq_true] at this
        exact this.1
      have hTne : grpT z ks s ≠ [] := fun e => by
        have h1 := HH.out s
        have h2 := HG.out s
        rw [e] at h2
        rw [hhas] at h1
        cases hg : G s with
        | nil => rw [hg] at h1; simp at h1
        | cons a l => rw [hg] at h2; simp [its] at h2
      have HGOT2 : Hid (Got D (fun z => left z && !z.sameKey (.string s)) (ss ++ [s])) := HGOT.out.step hleft
      obtain ⟨p, hp, hw, _, hrt, hgz⟩ := rowT_first (agg := agg) (col := cn) HZ.out HKZ.out hTne
      have hc0 : 0 ≤ col := (has_iff.1 HCZ.out p hp).1
      have hcc : ((cn : Nat) : Int) = col := by rw [HCN.out]; omega
      have hfine : Fine (grpT z ks s) cn := by rw [hgz]; exact grp_fine HZ.out (by rw [hcc]; exact HCZ.out) ks _
      have hszr := HGR.out.size
      have hgr4 : w0.grownBy w4 (some w3.heap.size) := grown_trans HGR.out hg4
      have hw4 : Below w.heap.size w w4 := HW0.out.grown hgr4 (by omega) (fun k hk => by simp at hk; omega)
      have hw42 : Below w2.heap.size w2 w4 := HB0.out.grown hgr4 (by omega) (fun k hk => by simp at hk; omega)
      have S4 : Spine w4 (w2.heap.size + 1) w3.heap.size (V s) (prs (G s)) := (HS0.out s).kept hgr4 (by
        cases ho : (V s).ownBlock with
        | none => exact .inl rfl
        | some k =>
          have := (HS0.out s).2.1 k ho
          exact .inr (fun e => by simp at e; omega))
      have IA : ItemsAt w4 c (grpT z ks s) := by rw [← HG.out s, hcV]; exact spine_items S4 ((HR.out s).below hw42)
      have hfirst := first_mem hTne
      have hfz := (grpT_mem.1 hfirst).1
      have hkk : ∀ k ∈ ks, 0 ≤ k ∧ k < ((((grpT z ks s).getD 0 ([], 0)).1.length : Nat) : Int) := fun k hk => have_iff.1 HKZ.out k hk _ hfz
      have htno := texts_no (agg := agg) (col := cn) HZ.out HKZ.out hTne
      have HROW : Hid (rowT z ks agg cn s = keyZ ((grpT z ks s).getD 0 ([], 0)).1 ks ++ [aggZ agg cn (grpT z ks s)]) := rfl
      have HRG4 : Hid (w4.ranges Tryd.prog 9 heldT w2.heap.size w3.heap.size n D (fun z => left z && !z.sameKey (.string s)) cnt1) := hrg4
      have HG4 : Hid (w0.grownBy w4 (some w3.heap.size)) := hgr4
      have HW4 : Hid (Below w.heap.size w w4) := hw4
      have HT4 : Hid (OwnZ w4 w0.heap.size wr.heap.size u12 (ss.map fun s => (rowT z ks agg cn s, (1 : Int)))) := HT.out.only (lo := w3.heap.size) (hi := w3.heap.size + 1) (Only.of_grown hg4 (fun k hk => by simp at hk; omega)) (.inr (by omega))
      have HLT : Hid (cnt1 < cnt) := hlt
      clear hat hRc hkey hx' hcV hgot hhas hfirst hfz hgz hrt hp hw S4 hw42 hgr4 hrg4 hg4 hsx ex hxs HT hleft
      have HCE2 : Hid (cellB (aggZ agg cn (grpT z ks s)) = true → ∀ t ∈ ss ++ [s], cellB (aggZ agg cn (grpT z ks t)) = true) := fun e t ht => by
        rcases List.mem_append.1 ht with h1 | h1
        · exact HCE.out t h1
        · simp at h1; rw [h1]; exact e
      obtain ⟨gt, HGT⟩ : ∃ gt, Hid (gt = grpT z ks s) := ⟨_, rfl⟩
      rw [← HGT.out] at IA hfine hkk htno HROW HCE2 hTne
      rcases IA.cases with ⟨a, cap, rfl, hnil⟩ | ⟨b, off, cap, hpos, hlim, rfl, hbw, hcell⟩
      · exact absurd rfl hTne
      clear hTne
      have hcall := HTOT.out.2.2 _ gt cn w4 IA hfine hpos
      rw [hcc] at hcall
      obtain ⟨rv, c0, _, hix0⟩ := hcell 0 hpos
      obtain ⟨nv, HNV⟩ : ∃ nv, Hid (nv = aggZ agg cn gt) := ⟨_, rfl⟩
      rw [← HNV.out] at hcall htno HROW HCE2
      obtain ⟨x0, HX0⟩ : ∃ x0, Hid (x0 = (gt.getD 0 ([], 0)).1) := ⟨_, rfl⟩
      rw [← HX0.out] at hix0 hkk HROW
      clear IA hfine hcell
      go_wp2_with fail
      refine hcall.mono ?_
      rintro e w5 ⟨rfl, hb5⟩
      have hk5w := below_then HW4.out hb5
      have c05 := (hb5.cell (p := ⟨b, off + 0 * 2, none⟩) hbw).trans c0
      rw [Nat.zero_mul, Nat.add_zero] at c05
      have hix5 := hix0.below hb5
      have HT5 : Hid (OwnZ w5 w0.heap.size wr.heap.size u12 (ss.map fun s => (rowT z ks agg cn s, (1 : Int)))) := HT4.out.keep' hb5
      have HB5 : Hid (Below w4.heap.size w4 w5) := hb5
      have hs5 := hb5.size
      have hbw5 : b < w5.heap.size := by omega
      have hposi : (0 : Int) < (gt.length : Int) := by omega
      obtain ⟨m, HM⟩ : ∃ m, Hid (m = gt.length) := ⟨_, rfl⟩
      rw [← HM.out] at hpos hlim hposi ⊢
      clear hcall c0 hix0 hb5 hmt hen0 hen hrg
      go_wp2_with fail
      refine (cellFits_any nv _).mono ?_
      rintro e w5' ⟨rfl, hw5⟩
      obtain rfl := hw5.symm
      cases hcb : cellB nv with
      | false =>
        obtain ⟨hd, hos⟩ := HNO.out (htno hcb)
        have HK : Hid (Below w.heap.size w w5) := hk5w
        subst hd hos
        clear hcb htno hix5 c05 hk5w
        go_wp2
        go_ret2
        exact ⟨_, rfl, nil_ownZ _ _, HK.out⟩
      | true =>
        have HCE3 := HCE2.out hcb
        have HCE4 : Hid (∀ t ∈ ss ++ [s], cellB (aggZ agg cn (grpT z ks t)) = true) := HCE3
        obtain ⟨ra, rn, rc, rfl⟩ := hix5.shape
        have hku := HK2.out.below hk5w
        clear htno HCE3 HCE2 hk5w
        go_wp2_with fail
        refine (cellsAt_any _ _ x0 ks _ hix5 hku hkk (by omega)).mono ?_
        rintro e w6 ⟨v6, rfl, O6, hb6⟩
        have hs6 := hb6.size
        have hO6 := O6.keep' (below_alloc (w := w6) (.cells #[.int .i64 nv] 3))
        have hkl6 : (keyZ x0 ks).length ≤ 6 := by rw [keyZ_len]; omega
        have HB6 : Hid (Below w5.heap.size w5 w6) := hb6
        clear hix5 hku c05 hb6 O6 hkk hcb
        have hb67 : Below w5.heap.size w5 (w6.alloc (.cells #[.int .i64 nv] 3)) := HB6.out.trans ((below_alloc (w := w6) (.cells #[.int .i64 nv] 3)).mono hs6)
        have hs67 : w5.heap.size ≤ (w6.alloc (.cells #[.int .i64 nv] 3)).heap.size := by simp; omega
        have key7 : ∀ v7 w7, w7.ownsRow w5.heap.size 3 1 v7 (keyZ x0 ks ++ [nv]).length ((keyZ x0 ks ++ [nv]).map (Value.int .i64)) → (w6.alloc (.cells #[.int .i64 nv] 3)).grownBy w7 v6.ownBlock → Own w7 w5.heap.size w7.heap.size v7 (rowT z ks agg cn s) ∧ Below w5.heap.size w5 w7 := fun v7 w7 hown7 hg7 => by
          rw [HROW.out]
          exact ⟨own_new (xs := keyZ x0 ks ++ [nv]) (by simpa using hown7) (by simp; omega), hb67.grown hg7 hs67 (fun i hi' => (hO6.1.lt i hi').1)⟩
        have HK7 : Hid _ := key7
        clear hb67 key7
        go_wp2_with (first
          | (at_builtin; refine wpList_append_ints rfl _ _ 23 rfl w5.heap.size 3 i1 Tryd.underlying23 hi1 hj0 hj1 hj2 v6 _ _ rfl hO6.1 _ [nv] rfl (int_litK w6 nv) (by simp; omega) (by simp; omega) ?_; intro v7 w7 hown7 hg7 _; obtain ⟨O7, hb7⟩ := HK7.out v7 w7 (by simpa using hown7) hg7; have hs7 := hb7.size; obtain ⟨ra7, rn7, rc7, rfl⟩ := O7.ints.shape; obtain ⟨ps, hpsl, hspW, hprW, hfin⟩ := (HT5.out.keep' hb7).ready 1 O7 (by omega) (by omega) (by omega) (by simp; omega); have hpl2 : ps.length ≤ 100 := by (rw [hpsl, List.length_map]; omega))
          | (at_builtin; go_loud (refine wpList_append_pairs rfl _ _ 25 rfl w0.heap.size 43 i0 Tryd.underlying25 hi0 hz0 hz1 hz2 u12 ps rfl hspW _ _ rfl hprW (by simp; omega) (by simp; omega) ?_; intro v8 w8 hown8 hg8 _)))
        obtain ⟨Z8, B8⟩ := hfin v8 w8 hown8 hg8
        have HZ8 : Hid (OwnZ w8 w0.heap.size w8.heap.size v8 ((ss ++ [s]).map fun s => (rowT z ks agg cn s, (1 : Int)))) := by rw [Hid, List.map_append]; exact Z8
        have hB48 : Below w0.heap.size w4 w8 := (HB5.out.mono (by omega)).trans ((hb7.mono (by omega)).trans B8)
        have HG8 : Hid (w0.grownBy w8 (some w3.heap.size)) := grown_thenB HG4.out hB48
        have HRG8 : Hid (w8.ranges Tryd.prog 9 heldT w2.heap.size w3.heap.size n D (fun z => left z && !z.sameKey (.string s)) cnt1) := ranges_at HRG4.out (hB48.block _ (by omega)) (hB48.block _ (by omega))
        clear hfin hown8 hg8 hspW hprW Z8 B8 hB48 O7 hb7 hO6 hown7 hg7 HK7
        go_wp2
        go_roundw
        case rel => exact ⟨_, cnt1, ss ++ [s], HRG8.out, HGOT2.out, by have := HLT.out; simp; omega, HZ8.out, HG8.out, HCE4.out⟩
        case measure => rw [HRG8.out.left_eq, HRG.out.left_eq]; exact HLT.out

end Go.Proofs.YtjbfgfgldchfnaaDoor

/-
  The walk of laws.FnExactGroupOf, out of the contracts: it answers true at all arguments, and nothing that was there is written.
-/
namespace Go.Proofs.YtjbfgfgldchfnaaDoor
open Go.RowKit

theorem grpOut_zok (z : List It) (ks : List Int) (agg col : Int) : grpOut z ks agg col = [] ∨ zOkB (grpOut z ks agg col) = true := by
  unfold grpOut
  cases hok : grpOk z ks agg col with
  | false => exact .inl rfl
  | true =>
    right
    have h0 := hok
    unfold grpOk grpCan grpTold at h0
    simp only [Bool.and_eq_true] at h0
    obtain ⟨⟨⟨⟨hz, ha⟩, hk6⟩, hkz, hcz⟩, ht⟩ := h0
    rw [List.all_eq_true] at ht
    exact grpTo_ok hz hk6 hkz (fun p hp => hp) (zOk_le hz) ht
theorem grpOut_small (z : List It) (ks : List Int) (agg col : Int) : (grpOut z ks agg col).length ≤ 100 ∧ tot (lens (grpOut z ks agg col)) ≤ 4194304 := by
  rcases grpOut_zok z ks agg col with hz | hz
  · rw [hz]; simp [tot, lens]
  · generalize grpOut z ks agg col = o at hz
    have h1 := zOk_le hz
    have h3 : rowsLen o ≤ o.length * 6 := rowsLen_le fun p hp => zOk_mem hz hp
    rw [tot_lens]
    exact ⟨by omega, by omega⟩

set_option maxRecDepth 100000
set_option maxHeartbeats 16000000 in
theorem lawGroupOf (v0 : Value) (z0 : List It) (a1 : Option Addr) (len1 cap1 : Nat) (r1 : List Int) (x2 : Int) (x3 : Int) (w : World) (h0 : RawItems w v0 z0) (_ : WfItems z0) (h1 : IsRow .i64 w a1 len1 cap1 r1) (hcond : Tab w) :
    Calls Tryd.prog 4 #[v0, .slice a1 len1 cap1, .int .i64 x2, .int .i64 x3] w fun e w' => e = .returned (.bool true) ∧ Below w.heap.size w w' := by
  by_cases hl1 : ¬ len1 ≤ 1048576
  · have hbig : (1048576 : Int) < (len1 : Int) := by omega
    clear h0 h1
    go_enter Tryd.func4, Tryd.ntmps4
    go_wp2
    go_ret
    exact ⟨rfl, Below.refl _ _⟩
  replace hl1 : len1 ≤ 1048576 := by omega
  obtain ⟨ks1, HL1, hz1⟩ := h1.ints (by omega)
  subst HL1
  clear h1
  obtain ⟨os, HO⟩ : ∃ os, Hid (os = grpOut z0 ks1 x2 x3) := ⟨_, rfl⟩
  obtain ⟨c, HC⟩ : ∃ c, Hid (c = grpOk z0 ks1 x2 x3) := ⟨_, rfl⟩
  have hos : os.length ≤ 100 ∧ tot (lens os) ≤ 4194304 := by rw [HO.out]; exact grpOut_small z0 ks1 x2 x3
  obtain ⟨hos1, hos2⟩ := hos
  go_enter Tryd.func4, Tryd.ntmps4
  go_wp2_with fail
  refine (szItemS_any v0 z0 1048576 _ h0 (by omega) (by omega)).mono ?_
  rintro e y0 ⟨r0, rfl, hr0, hc0⟩
  have hq0 := hc0
  by_cases hneg0 : r0 < 0
  · clear hr0
    go_wp2
    go_ret
    exact ⟨rfl, hq0⟩
  have hlim0 : z0.length + rowsLen z0 ≤ 1048576 := by omega
  have hrl0 : r0 ≤ 1048576 := by omega
  have hz0 := h0.items hlim0
  have ht0 : tot (lens z0) ≤ 1048576 := by rw [tot_lens]; omega
  clear hr0 h0 hc0
  have hk0 : Below w.heap.size w y0 := hq0
  have t0 := hk0.size
  clear hq0
  go_wp2_with fail
  refine (toItemS_any v0 z0 _ (hz0.below hk0) hlim0).mono ?_
  rintro e w1 ⟨a0v, rfl, A0_1, hb1⟩
  have hk1 := below_then hk0 hb1
  have s1 := hb1.size
  have t1 := hk1.size
  clear hb1 hk0
  go_wp2_with fail
  refine (toIntS_any _ ks1 _ (hz1.below hk1) hl1).mono ?_
  rintro e w2 ⟨rfl, ho2, hb2⟩
  have hk2 := below_then hk1 hb2
  have s2 := hb2.size
  have t2 := hk2.size
  have A0_2 := A0_1.keep' hb2
  clear hb2 A0_1 hk1
  have A1_2 := own_new ho2 (by omega)
  clear ho2
  go_wp2_with fail
  refine (specGroup_any a0v _ z0 ks1 x2 x3 _ A0_2.items A1_2.ints).mono ?_
  rw [← HO.out, ← HC.out]
  rintro e w3 ⟨vw, rfl, W_3, hb3⟩
  have hk3 := below_then hk2 hb3
  have s3 := hb3.size
  have t3 := hk3.size
  clear hb3 A0_2 A1_2 hk2
  go_wp2_with fail
  refine (toItemS_any v0 z0 _ (hz0.below hk3) hlim0).mono ?_
  rintro e w4 ⟨x0v, rfl, X0_4, hb4⟩
  have hk4 := below_then hk3 hb4
  have s4 := hb4.size
  have t4 := hk4.size
  have W_4 := W_3.keep' hb4
  clear hb4 W_3 hk3
  go_wp2_with fail
  refine (toIntS_any _ ks1 _ (hz1.below hk4) hl1).mono ?_
  rintro e w5 ⟨rfl, ho5, hb5⟩
  have hk5 := below_then hk4 hb5
  have s5 := hb5.size
  have t5 := hk5.size
  have W_5 := W_4.keep' hb5
  have X0_5 := X0_4.keep' hb5
  clear hb5 W_4 X0_4 hk4
  have X1_5 := own_new ho5 (by omega)
  clear ho5
  go_wp2_with fail
  refine (implGroup_any x0v _ z0 ks1 x2 x3 _ (hcond.below hk5) X0_5.items X1_5.tailI).mono ?_
  rw [← HO.out, ← HC.out]
  rintro e w6 ⟨vg, rfl, Gg_6, hb6⟩
  have hk6 := below_then hk5 hb6
  have s6 := hb6.size
  have t6 := hk6.size
  have W_6 := W_5.keep' hb6
  have X0_6 := X0_5.keep' hb6
  have X1_6 := X1_5.keep' hb6
  clear hb6 W_5 X0_5 X1_5 hk5
  go_wp2_with fail
  refine (eqItemS_self vg vw os _ Gg_6.items W_6.items).mono ?_
  rintro e w7 ⟨rfl, hb7⟩
  have hk7 := below_then hk6 hb7
  have s7 := hb7.size
  have t7 := hk7.size
  have W_7 := W_6.keep' hb7
  have X0_7 := X0_6.keep' hb7
  have X1_7 := X1_6.keep' hb7
  have Gg_7 := Gg_6.keep' hb7
  clear hb7 W_6 X0_6 X1_6 Gg_6 hk6
  go_wp2_with fail
  refine (toItemS_any v0 z0 _ (hz0.below hk7) hlim0).mono ?_
  rintro e w8 ⟨c0v, rfl, C0_8, hb8⟩
  have hk8 := below_then hk7 hb8
  have s8 := hb8.size
  have t8 := hk8.size
  have W_8 := W_7.keep' hb8
  have X0_8 := X0_7.keep' hb8
  have X1_8 := X1_7.keep' hb8
  have Gg_8 := Gg_7.keep' hb8
  clear hb8 W_7 X0_7 X1_7 Gg_7 hk7
  go_wp2_with fail
  refine (eqItemS_self x0v c0v z0 _ X0_8.items C0_8.items).mono ?_
  rintro e w9 ⟨rfl, hb9⟩
  have hk9 := below_then hk8 hb9
  have s9 := hb9.size
  have t9 := hk9.size
  have W_9 := W_8.keep' hb9
  have X0_9 := X0_8.keep' hb9
  have X1_9 := X1_8.keep' hb9
  have Gg_9 := Gg_8.keep' hb9
  clear hb9 W_8 X0_8 X1_8 Gg_8 C0_8 hk8
  go_wp2_with fail
  refine (toIntS_any _ ks1 _ (hz1.below hk9) hl1).mono ?_
  rintro e w10 ⟨rfl, ho10, hb10⟩
  have hk10 := below_then hk9 hb10
  have s10 := hb10.size
  have t10 := hk10.size
  have W_10 := W_9.keep' hb10
  have X0_10 := X0_9.keep' hb10
  have X1_10 := X1_9.keep' hb10
  have Gg_10 := Gg_9.keep' hb10
  clear hb10 W_9 X0_9 X1_9 Gg_9 hk9
  have C1_10 := own_new ho10 (by omega)
  clear ho10
  go_wp2_with fail
  refine (eqIntS_any _ _ ks1 ks1 _ X1_10.ints C1_10.ints).mono ?_
  rintro e w11 ⟨rfl, hb11⟩
  have hk11 := below_then hk10 hb11
  have s11 := hb11.size
  have t11 := hk11.size
  have W_11 := W_10.keep' hb11
  have X0_11 := X0_10.keep' hb11
  have X1_11 := X1_10.keep' hb11
  have Gg_11 := Gg_10.keep' hb11
  clear hb11 W_10 X0_10 X1_10 Gg_10 C1_10 hk10
  rw [sameB_refl]
  go_wp2_with fail
  refine (markItemS_any x0v _ _ z0 1 _ (by omega) (by omega) (by omega) X0_11).mono ?_
  rintro e w12 ⟨rfl, -, O12⟩
  have hk12 : Below w.heap.size w w12 := O12.below hk11 (by omega) hk11.size
  have s12 := O12.size
  have W_12 := W_11.only O12 (by omega)
  have X1_12 := X1_11.only O12 (by omega)
  have Gg_12 := Gg_11.only O12 (by omega)
  clear O12 hk11 W_11 X0_11 X1_11 Gg_11
  obtain ⟨k0, HK0⟩ : ∃ k : Int, Hid (k = 1 + tot (lens z0)) := ⟨_, rfl⟩
  have kb0 : 0 ≤ k0 ∧ k0 ≤ 1048577 := by rw [HK0.out]; omega
  rw [← HK0.out]
  go_wp2_with fail
  refine (markIntS_any _ _ _ ks1 k0 _ (by omega) (by omega) X1_12).mono ?_
  rintro e w13 ⟨rfl, -, G13⟩
  have O13 := Only.of_grown G13 (fun k e => ⟨(X1_12.1.lt k e).1, X1_12.2.1 k e⟩)
  clear G13
  have hk13 : Below w.heap.size w w13 := O13.below hk12 (by omega) hk12.size
  have s13 := O13.size
  have W_13 := W_12.only O13 (by omega)
  have Gg_13 := Gg_12.only O13 (by omega)
  clear O13 hk12 W_12 X1_12 Gg_12
  obtain ⟨k1, HK1⟩ : ∃ k : Int, Hid (k = k0 + (ks1.length : Int)) := ⟨_, rfl⟩
  have kb1 : 0 ≤ k1 ∧ k1 ≤ 2097153 := by rw [HK1.out]; omega
  rw [← HK1.out]
  have hkn : ¬ k1 < 0 := by omega
  go_wp2_with fail
  refine (eqItemS_self vg vw os _ Gg_13.items W_13.items).mono ?_
  rintro e w14 ⟨rfl, hb14⟩
  have hk14 := below_then hk13 hb14
  have s14 := hb14.size
  have t14 := hk14.size
  have W_14 := W_13.keep' hb14
  have Gg_14 := Gg_13.keep' hb14
  clear hb14 W_13 Gg_13 hk13
  go_wp2_with fail
  refine (markItemS_any vg _ _ os 1 _ (by omega) (by omega) hos2 Gg_14).mono ?_
  rintro e w15 ⟨rfl, Gg_15, O15⟩
  have hk15 : Below w.heap.size w w15 := O15.below hk14 (by omega) hk14.size
  have W_15 := W_14.only O15 (by omega)
  clear O15 hk14 W_14 Gg_14
  go_wp2_with fail
  refine (heldItemS_any vg (lens os) 1 _ (by omega) (by omega) hos2 Gg_15.items).mono ?_
  rintro e wh ⟨rfl, rfl⟩
  go_wp2_with fail
  refine (toItemS_any v0 z0 _ (hz0.below hk15) hlim0).mono ?_
  rintro e w16 ⟨y0v, rfl, Y0_16, hb16⟩
  have hk16 := below_then hk15 hb16
  have s16 := hb16.size
  have t16 := hk16.size
  have W_16 := W_15.keep' hb16
  have Gg_16 := Gg_15.keep' hb16
  clear hb16 W_15 Gg_15 hk15
  go_wp2_with fail
  refine (toIntS_any _ ks1 _ (hz1.below hk16) hl1).mono ?_
  rintro e w17 ⟨rfl, ho17, hb17⟩
  have hk17 := below_then hk16 hb17
  have s17 := hb17.size
  have t17 := hk17.size
  have W_17 := W_16.keep' hb17
  have Gg_17 := Gg_16.keep' hb17
  have Y0_17 := Y0_16.keep' hb17
  clear hb17 W_16 Gg_16 Y0_16 hk16
  have Y1_17 := own_new ho17 (by omega)
  clear ho17
  go_wp2_with fail
  refine (implGroup_any y0v _ z0 ks1 x2 x3 _ (hcond.below hk17) Y0_17.items Y1_17.tailI).mono ?_
  rw [← HO.out, ← HC.out]
  rintro e w18 ⟨vh, rfl, H_18, hb18⟩
  have hk18 := below_then hk17 hb18
  have s18 := hb18.size
  have t18 := hk18.size
  have W_18 := W_17.keep' hb18
  have Gg_18 := Gg_17.keep' hb18
  clear hb18 W_17 Gg_17 Y0_17 Y1_17 hk17
  go_wp2_with fail
  refine (eqItemS_self vh vw os _ H_18.items W_18.items).mono ?_
  rintro e w19 ⟨rfl, hb19⟩
  have hk19 := below_then hk18 hb19
  have s19 := hb19.size
  have t19 := hk19.size
  have Gg_19 := Gg_18.keep' hb19
  clear hb19 W_18 Gg_18 H_18 hk18
  go_wp2_with fail
  refine (heldItemS_any vg (lens os) 1 _ (by omega) (by omega) hos2 Gg_19.items).mono ?_
  rintro e wz ⟨rfl, rfl⟩
  clear Gg_19 hz0 hz1
  go_wp2
  go_ret
  exact ⟨rfl, hk19⟩

end Go.Proofs.YtjbfgfgldchfnaaDoor
