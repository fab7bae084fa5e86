/-
  The contracts of the program's own scanNumber, scanColumn, scanCell and CellRead: impl.CellRead answers readC. Conditions: what the library's variables hold (Can).
-/
import Derived.Test.YtkgopbffgahhcaaGreatDoorCellText
import Derived.Test.YtkgopbffgahhcaaGreatDoorAtoi
import Derived.Test.YtkgopbffgahhcaaGreatDoorCellReadSpec
namespace Go.Proofs.YtkgopbffgahhcaaGreatDoor
open Go.RowKit
set_option linter.unusedVariables false

/-- The worlds in which cells are read: the error of chapter 3 at p, the table of powers of ten, the library's own variables. -/
def Can (p : Addr) (w : World) : Prop :=
  Sent w p ∧ Tab3 w ∧ (1 < w.heap.size ∧ ∃ m : Int, w.cell? ⟨1, 0, none⟩ = some (.int .i64 m)) ∧
  (∃ (t : TypeId) (q : Value), w.var? Tryz.prog "strconv.ErrSyntax" = some #[.iface t q]) ∧ ∃ (t : TypeId) (q : Value), w.var? Tryz.prog "strconv.ErrRange" = some #[.iface t q]
theorem var_keeps {P : Program} {w w' : World} {n : String} {cs : Array Value} (h : w.var? P n = some cs) (hb : Below w.heap.size w w') : w'.var? P n = some cs := by
  unfold World.var? at h ⊢
  obtain ⟨g, hg, h⟩ := Option.bind_eq_some_iff.1 h
  rw [hg, Option.bind_some]
  have hlt : g < w.heap.size := by
    rcases Nat.lt_or_ge g w.heap.size with h1 | h1
    · exact h1
    · rw [Array.getElem?_eq_none h1] at h
      simp at h
  rw [hb.block g hlt]
  exact h
theorem Can.below {p : Addr} {w w' : World} (h : Can p w) (hb : Below w.heap.size w w') : Can p w' := by
  obtain ⟨h1, h2, ⟨hl, m, hm⟩, ⟨t, q, hy⟩, t2, q2, hr⟩ := h
  exact ⟨h1.below hb, h2.below hb, ⟨Nat.lt_of_lt_of_le hl hb.size, m, (hb.cell (p := ⟨1, 0, none⟩) hl).trans hm⟩, ⟨t, q, var_keeps hy hb⟩, t2, q2, var_keeps hr hb⟩

theorem arr_list (l : List UInt8) : (⟨l.toArray⟩ : ByteArray).data.toList = l := by simp
theorem arr_size (l : List UInt8) : (⟨l.toArray⟩ : ByteArray).size = l.length := by simp [ByteArray.size]

set_option maxRecDepth 100000 in
set_option maxHeartbeats 1000000 in
theorem scanNumber_any (s : ByteArray) (hs : s.size ≤ 1048576) (w : World) (p : Addr) (hc : Can p w) :
    Calls Tryz.prog 108 #[.string s] w fun e w' => e = .returned (.int .i64 (atoi0 s.data.toList)) ∧ Below w.heap.size w w' := by
  obtain ⟨z, HZ⟩ : ∃ z, Hid (z = atoi0 s.data.toList) := ⟨_, Eq.refl _⟩
  rw [← HZ.out]
  go_enter Tryz.func108, Tryz.ntmps108
  go_wp2_with fail
  refine (atoi_any s hs _ hc.2.2.2.1 hc.2.2.2.2).mono ?_
  rintro e w2 ⟨he, hb2⟩
  have HB : Hid (Below w.heap.size w w2) := hb2
  clear hb2 hc
  rcases he with ⟨n, hn, rfl⟩ | ⟨hno, n, t, q, rfl⟩
  · have e1 : atoi0 s.data.toList = n := by unfold atoi0; rw [hn]
    rw [← HZ.out] at e1
    subst e1
    clear hn
    go_wp2
    go_ret
    exact ⟨rfl, HB.out⟩
  · have e1 : atoi0 s.data.toList = 0 := by
      unfold atoi0
      split
      · rename_i m hm; exact absurd hm (hno m)
      · rfl
    rw [← HZ.out] at e1
    subst e1
    clear hno
    go_wp2
    go_ret
    exact ⟨rfl, HB.out⟩

theorem pre_one (c : UInt8) (l : List UInt8) : Lib.hasPrefix l [c] = decide (l.head? = some c) ∧ Lib.trimPrefix l [c] = if l.head? = some c then l.tail else l := by
  cases l with
  | nil => simp [Lib.hasPrefix, Lib.trimPrefix]
  | cons x r =>
    by_cases h : x = c
    · subst h; simp [Lib.hasPrefix, Lib.trimPrefix]
    · have h2 : ¬ c = x := fun e => h e.symm
      simp [Lib.hasPrefix, Lib.trimPrefix, List.isPrefixOf, h, h2]

set_option maxRecDepth 100000 in
set_option maxHeartbeats 1000000 in
theorem scanColumn_any (s : ByteArray) (hs : s.size ≤ 1048576) (w : World) (p : Addr) (hc : Can p w) :
    Calls Tryz.prog 109 #[.string s] w fun e w' => e = .returned (.int .i64 (colS s.data.toList)) ∧ Below w.heap.size w w' := by
  have hl : (Lib.trimPrefix s.data.toList [99]).length ≤ s.size := by
    rw [(pre_one 99 _).2]
    have : s.data.toList.length = s.size := by rw [Array.length_toList]; rfl
    split
    · rw [List.length_tail]; omega
    · omega
  have e1 : colS s.data.toList = atoi0 (Lib.trimPrefix s.data.toList [99]) := by rw [(pre_one 99 _).2]; rfl
  rw [e1]
  go_enter Tryz.func109, Tryz.ntmps109
  go_wp2_with fail
  refine (Tryz.strings_TrimPrefix s ⟨#[99]⟩ _).mono ?_
  rintro e w1 ⟨rfl, rfl⟩
  go_wp2_with fail
  refine (scanNumber_any ⟨(Lib.trimPrefix s.data.toList [99]).toArray⟩ (by rw [arr_size]; omega) _ p hc).mono ?_
  rw [arr_list]
  rintro e w2 ⟨rfl, hb2⟩
  have HB : Hid (Below w1.heap.size w1 w2) := hb2
  clear hb2
  go_wp2
  go_ret
  exact ⟨rfl, HB.out⟩

set_option maxRecDepth 100000 in
set_option maxHeartbeats 1000000 in
theorem scan_num (s : ByteArray) (hs : s.size ≤ 1048576) (w : World) (p : Addr) (hc : Can p w) (h : s.data.toList.head? = some 35) :
    Calls Tryz.prog 71 #[.string s] w fun e w' => e = .returned (.agg #[.int .i64 2, .int .i64 0, .int .i64 0, .int .i64 (atoi0 s.data.toList.tail)]) ∧ Below w.heap.size w w' := by
  have hp := (pre_one 35 s.data.toList).1
  rw [decide_eq_true h] at hp
  have ht := (pre_one 35 s.data.toList).2
  rw [if_pos h] at ht
  have hl : s.data.toList.length = s.size := by rw [Array.length_toList]; rfl
  obtain ⟨z, HZ⟩ : ∃ z, Hid (z = atoi0 s.data.toList.tail) := ⟨_, Eq.refl _⟩
  rw [← HZ.out]
  go_enter Tryz.func71, Tryz.ntmps71
  go_wp2_with fail
  refine (Tryz.strings_CutPrefix s ⟨#[35]⟩ _).mono ?_
  rintro e w1 ⟨rfl, rfl⟩
  rw [hp, ht]
  go_wp2_with fail
  refine (scanNumber_any ⟨s.data.toList.tail.toArray⟩ (by rw [arr_size, List.length_tail]; omega) _ p (hc.below (bel_alloc _))).mono ?_
  rw [arr_list, ← HZ.out]
  rintro e w2 ⟨rfl, hb2⟩
  have zr := at_below (alloc_at w _) hb2
  have HB : Hid (Below w.heap.size w w2) := bel_then (bel_alloc _) hb2
  clear hb2 hp ht hl h
  have BL : Below w.heap.size w ((((w2.setCell ⟨w.heap.size, 0, none⟩ (.int .i64 2)).setCell ⟨w.heap.size, 1, none⟩ (.int .i64 0)).setCell ⟨w.heap.size, 2, none⟩ (.int .i64 0)).setCell ⟨w.heap.size, 3, none⟩ (.int .i64 z)) := (((HB.out.setCell (Nat.le_refl _) _).setCell (Nat.le_refl _) _).setCell (Nat.le_refl _) _).setCell (Nat.le_refl _) _
  obtain ⟨c0, c1, c2, c3, f0, f1, f2, f3⟩ := zero_cells zr
  clear zr
  go_wp2
  exact bodyPost_ret (v := .agg #[.int .i64 2, .int .i64 0, .int .i64 0, .int .i64 z]) (by simp [results, Tryz.results71, go_sem, c0, c1, c2, c3]) rfl ⟨rfl, BL⟩

set_option maxRecDepth 100000 in
set_option maxHeartbeats 1000000 in
theorem scan_col (s : ByteArray) (hs : s.size ≤ 1048576) (w : World) (p : Addr) (hc : Can p w) (h : ¬ s.data.toList.head? = some 35) (hcut : cutAt 43 s.data.toList = none) :
    Calls Tryz.prog 71 #[.string s] w fun e w' => e = .returned (.agg #[.int .i64 1, .int .i64 (colS s.data.toList), .int .i64 0, .int .i64 0]) ∧ Below w.heap.size w w' := by
  have hp := (pre_one 35 s.data.toList).1
  rw [decide_eq_false h] at hp
  have hl : s.data.toList.length = s.size := by rw [Array.length_toList]; rfl
  obtain ⟨z, HZ⟩ : ∃ z, Hid (z = colS s.data.toList) := ⟨_, Eq.refl _⟩
  rw [← HZ.out]
  have hcl : Lib.cut s.data.toList [43] = (s.data.toList, [], false) := by rw [cut_lib, hcut]
  go_enter Tryz.func71, Tryz.ntmps71
  go_wp2_with fail
  refine (Tryz.strings_CutPrefix s ⟨#[35]⟩ _).mono ?_
  rintro e w1 ⟨rfl, rfl⟩
  rw [hp]
  obtain ⟨m, hm⟩ := (hc.below (bel_alloc (w := w) (.cells #[.int .i64 0, .int .i64 0, .int .i64 0, .int .i64 0] 40))).2.2.1.2
  go_wp2_with fail
  refine (Tryz.strings_Cut s ⟨#[43]⟩ m _ (by omega) hm).mono ?_
  rintro e w2 ⟨rfl, nd, rfl⟩
  rw [show Lib.cut s.data.toList (⟨#[43]⟩ : ByteArray).data.toList = (s.data.toList, [], false) from hcl]
  simp only
  go_wp2_with fail
  refine (scanColumn_any ⟨s.data.toList.toArray⟩ (by rw [arr_size]; omega) _ p (hc.below (below_drewN (bel_alloc _) _))).mono ?_
  rw [arr_list, ← HZ.out]
  rintro e w3 ⟨rfl, hb3⟩
  have zr := at_below (show (World.drewN (w.alloc _) nd).heap[w.heap.size]? = some _ from alloc_at w _) hb3
  have HB : Hid (Below w.heap.size w w3) := bel_then (below_drewN (bel_alloc _) _) hb3
  clear hb3 hp hl h hcut hcl hm
  have BL : Below w.heap.size w ((((w3.setCell ⟨w.heap.size, 0, none⟩ (.int .i64 1)).setCell ⟨w.heap.size, 1, none⟩ (.int .i64 z)).setCell ⟨w.heap.size, 2, none⟩ (.int .i64 0)).setCell ⟨w.heap.size, 3, none⟩ (.int .i64 0)) := (((HB.out.setCell (Nat.le_refl _) _).setCell (Nat.le_refl _) _).setCell (Nat.le_refl _) _).setCell (Nat.le_refl _) _
  obtain ⟨c0, c1, c2, c3, f0, f1, f2, f3⟩ := zero_cells zr
  clear zr
  go_wp2
  exact bodyPost_ret (v := .agg #[.int .i64 1, .int .i64 z, .int .i64 0, .int .i64 0]) (by simp [results, Tryz.results71, go_sem, c0, c1, c2, c3]) rfl ⟨rfl, BL⟩

set_option maxRecDepth 100000 in
set_option maxHeartbeats 1000000 in
theorem scan_sum (s : ByteArray) (hs : s.size ≤ 1048576) (w : World) (p : Addr) (hc : Can p w) (h : ¬ s.data.toList.head? = some 35) (q : List UInt8 × List UInt8) (hcut : cutAt 43 s.data.toList = some q) :
    Calls Tryz.prog 71 #[.string s] w fun e w' => e = .returned (.agg #[.int .i64 3, .int .i64 (colS q.1), .int .i64 (colS q.2), .int .i64 0]) ∧ Below w.heap.size w w' := by
  have hp := (pre_one 35 s.data.toList).1
  rw [decide_eq_false h] at hp
  have hl : s.data.toList.length = s.size := by rw [Array.length_toList]; rfl
  obtain ⟨x, HZ⟩ : ∃ z, Hid (z = colS q.1) := ⟨_, Eq.refl _⟩
  obtain ⟨y, HY⟩ : ∃ z, Hid (z = colS q.2) := ⟨_, Eq.refl _⟩
  rw [← HZ.out, ← HY.out]
  have hcl : Lib.cut s.data.toList [43] = (q.1, q.2, true) := by rw [cut_lib, hcut]
  have hq := congrArg List.length (cutAt_back hcut)
  simp at hq
  go_enter Tryz.func71, Tryz.ntmps71
  go_wp2_with fail
  refine (Tryz.strings_CutPrefix s ⟨#[35]⟩ _).mono ?_
  rintro e w1 ⟨rfl, rfl⟩
  rw [hp]
  obtain ⟨m, hm⟩ := (hc.below (bel_alloc (w := w) (.cells #[.int .i64 0, .int .i64 0, .int .i64 0, .int .i64 0] 40))).2.2.1.2
  go_wp2_with fail
  refine (Tryz.strings_Cut s ⟨#[43]⟩ m _ (by omega) hm).mono ?_
  rintro e w2 ⟨rfl, nd, rfl⟩
  rw [show Lib.cut s.data.toList (⟨#[43]⟩ : ByteArray).data.toList = (q.1, q.2, true) from hcl]
  simp only
  go_wp2_with fail
  refine (scanColumn_any ⟨q.1.toArray⟩ (by rw [arr_size]; omega) _ p (hc.below (below_drewN (bel_alloc _) _))).mono ?_
  rw [arr_list, ← HZ.out]
  rintro e w3 ⟨rfl, hb3⟩
  have z3 := at_below (show (World.drewN (w.alloc _) nd).heap[w.heap.size]? = some _ from alloc_at w _) hb3
  have HB3 : Hid (Below w.heap.size w w3) := bel_then (below_drewN (bel_alloc _) _) hb3
  clear hb3
  go_wp2_with fail
  refine (scanColumn_any ⟨q.2.toArray⟩ (by rw [arr_size]; omega) _ p (hc.below HB3.out)).mono ?_
  rw [arr_list, ← HY.out]
  rintro e w4 ⟨rfl, hb4⟩
  have zr := at_below z3 hb4
  have HB : Hid (Below w.heap.size w w4) := bel_then HB3.out hb4
  clear hb4 z3 hp hl h hcut hcl hm hq
  have BL : Below w.heap.size w ((((w4.setCell ⟨w.heap.size, 0, none⟩ (.int .i64 3)).setCell ⟨w.heap.size, 1, none⟩ (.int .i64 x)).setCell ⟨w.heap.size, 2, none⟩ (.int .i64 y)).setCell ⟨w.heap.size, 3, none⟩ (.int .i64 0)) := (((HB.out.setCell (Nat.le_refl _) _).setCell (Nat.le_refl _) _).setCell (Nat.le_refl _) _).setCell (Nat.le_refl _) _
  obtain ⟨c0, c1, c2, c3, f0, f1, f2, f3⟩ := zero_cells zr
  clear zr
  go_wp2
  exact bodyPost_ret (v := .agg #[.int .i64 3, .int .i64 x, .int .i64 y, .int .i64 0]) (by simp [results, Tryz.results71, go_sem, c0, c1, c2, c3]) rfl ⟨rfl, BL⟩

theorem scanCell_any (s : ByteArray) (hs : s.size ≤ 1048576) (w : World) (p : Addr) (hc : Can p w) :
    Calls Tryz.prog 71 #[.string s] w fun e w' => e = .returned (.agg #[.int .i64 (scanC s.data.toList).k, .int .i64 (scanC s.data.toList).a, .int .i64 (scanC s.data.toList).b, .int .i64 (scanC s.data.toList).n]) ∧ Below w.heap.size w w' := by
  by_cases h : s.data.toList.head? = some 35
  · have e : scanC s.data.toList = ⟨2, 0, 0, atoi0 s.data.toList.tail⟩ := by unfold scanC; rw [if_pos h]
    rw [e]
    exact scan_num s hs w p hc h
  · cases hcut : cutAt 43 s.data.toList with
    | none =>
      have e : scanC s.data.toList = ⟨1, colS s.data.toList, 0, 0⟩ := by unfold scanC; rw [if_neg h, hcut]
      rw [e]
      exact scan_col s hs w p hc h hcut
    | some q =>
      have e : scanC s.data.toList = ⟨3, colS q.1, colS q.2, 0⟩ := by unfold scanC; rw [if_neg h, hcut]
      rw [e]
      exact scan_sum s hs w p hc h q hcut

theorem str_ne (a b : ByteArray) : (a.toList == b.toList) = decide (a.data.toList = b.data.toList) := by
  rw [ByteArray.toList_eq, ByteArray.toList_eq]
  by_cases h : a.data.toList = b.data.toList
  · simp [h]
  · rw [decide_eq_false h, beq_eq_false_iff_ne]; exact h

set_option maxRecDepth 100000 in
set_option maxHeartbeats 1000000 in
theorem cread_no (s : ByteArray) (hs : s.size ≤ 1048576) (w : World) (p : Addr) (hc : Can p w) (c : Cel) (hsc : scanC s.data.toList = c) (hok : c.okB 6 = false) :
    Calls Tryz.prog 22 #[.string s] w fun e w' => e = .returned (.tuple #[.agg #[.int .i64 0, .int .i64 0, .int .i64 0, .int .i64 0], .bool false]) ∧ Below w.heap.size w w' := by
  obtain ⟨k, a, b, n⟩ := c
  go_enter Tryz.func22, Tryz.ntmps22
  go_wp2_with fail
  refine (scanCell_any s hs _ p (hc.below (bel_alloc _))).mono ?_
  rw [hsc]
  simp only
  rintro e w1 ⟨rfl, hb1⟩
  have z1 := at_below (alloc_at w _) hb1
  have B1 : Hid (Below w.heap.size w w1) := bel_then (bel_alloc _) hb1
  clear hb1
  go_wp2_with fail
  refine (implCellOk_any ⟨k, a, b, n⟩ _ _ p (hc.1.below (bel_then B1.out (bel_alloc _)))).mono ?_
  rw [hok]
  rintro e w2 ⟨rfl, hb2⟩
  have hs1 : w.heap.size < w1.heap.size := (Array.getElem?_eq_some_iff.1 z1).1
  have z2 := at_below z1 (bel_then (bel_alloc _) hb2)
  have X2 : Hid (Box4 w2 w1.heap.size ⟨k, a, b, n⟩) := (Box4.start w1 ⟨k, a, b, n⟩ _).below hb2
  have B2 : Hid (Below w.heap.size w w2) := bel_then B1.out (bel_then (bel_alloc _) hb2)
  clear hb2 z1
  have BL := ((((B2.out.setCell (p := ⟨w.heap.size, 0, none⟩) (Nat.le_refl _) (.int .i64 0)).setCell (p := ⟨w.heap.size, 1, none⟩) (Nat.le_refl _) (.int .i64 0)).setCell (p := ⟨w.heap.size, 2, none⟩) (Nat.le_refl _) (.int .i64 0)).setCell (p := ⟨w.heap.size, 3, none⟩) (Nat.le_refl _) (.int .i64 0))
  obtain ⟨d0, d1, d2, d3, f0, f1, f2, f3⟩ := zero_cells z2
  have hnb : w.heap.size ≠ w1.heap.size := by omega
  have hnb2 : w1.heap.size ≠ w.heap.size := by omega
  go_wp2
  exact bodyPost_ret (v := .tuple #[.agg #[.int .i64 0, .int .i64 0, .int .i64 0, .int .i64 0], .bool false]) (by simp [results, Tryz.results22, go_sem, d0, d1, d2, d3]) rfl ⟨rfl, BL⟩

set_option maxRecDepth 100000 in
set_option maxHeartbeats 1000000 in
theorem cread_tx (s : ByteArray) (hs : s.size ≤ 1048576) (w : World) (p : Addr) (hc : Can p w) (c : Cel) (hsc : scanC s.data.toList = c) (hok : c.okB 6 = true) (htx : ¬ c.tx = s.data.toList) :
    Calls Tryz.prog 22 #[.string s] w fun e w' => e = .returned (.tuple #[.agg #[.int .i64 0, .int .i64 0, .int .i64 0, .int .i64 0], .bool false]) ∧ Below w.heap.size w w' := by
  obtain ⟨k, a, b, n⟩ := c
  go_enter Tryz.func22, Tryz.ntmps22
  go_wp2_with fail
  refine (scanCell_any s hs _ p (hc.below (bel_alloc _))).mono ?_
  rw [hsc]
  simp only
  rintro e w1 ⟨rfl, hb1⟩
  have z1 := at_below (alloc_at w _) hb1
  have B1 : Hid (Below w.heap.size w w1) := bel_then (bel_alloc _) hb1
  clear hb1
  go_wp2_with fail
  refine (implCellOk_any ⟨k, a, b, n⟩ _ _ p (hc.1.below (bel_then B1.out (bel_alloc _)))).mono ?_
  rw [hok]
  rintro e w2 ⟨rfl, hb2⟩
  have hs1 : w.heap.size < w1.heap.size := (Array.getElem?_eq_some_iff.1 z1).1
  have z2 := at_below z1 (bel_then (bel_alloc _) hb2)
  have X2 : Hid (Box4 w2 w1.heap.size ⟨k, a, b, n⟩) := (Box4.start w1 ⟨k, a, b, n⟩ _).below hb2
  have B2 : Hid (Below w.heap.size w w2) := bel_then B1.out (bel_then (bel_alloc _) hb2)
  clear hb2 z1
  obtain ⟨_, c0, c1, c2, c3⟩ := X2.out
  simp only at c0 c1 c2 c3
  go_wp2_with fail
  refine (implCellText_ok ⟨k, a, b, n⟩ _ p (hc.1.below B2.out) (hc.2.1.below B2.out) hok).mono ?_
  rintro e w3 ⟨s2, rfl, hs2, hz2, hb3⟩
  have z3 := at_below z2 hb3
  have X3 : Hid (Box4 w3 w1.heap.size ⟨k, a, b, n⟩) := X2.out.below hb3
  have B3 : Hid (Below w.heap.size w w3) := bel_then B2.out hb3
  have he : (s2.toList == s.toList) = false := by rw [str_ne, hs2]; simpa using htx
  have hn : (s2.toList != s.toList) = true := by rw [bne, he]; rfl
  clear hb3 z2 c0 c1 c2 c3 hs2
  obtain ⟨_, c0, c1, c2, c3⟩ := X3.out
  simp only at c0 c1 c2 c3
  have BL := ((((B3.out.setCell (p := ⟨w.heap.size, 0, none⟩) (Nat.le_refl _) (.int .i64 0)).setCell (p := ⟨w.heap.size, 1, none⟩) (Nat.le_refl _) (.int .i64 0)).setCell (p := ⟨w.heap.size, 2, none⟩) (Nat.le_refl _) (.int .i64 0)).setCell (p := ⟨w.heap.size, 3, none⟩) (Nat.le_refl _) (.int .i64 0))
  obtain ⟨d0, d1, d2, d3, f0, f1, f2, f3⟩ := zero_cells z3
  have hnb : w.heap.size ≠ w1.heap.size := by omega
  have hnb2 : w1.heap.size ≠ w.heap.size := by omega
  go_wp2
  exact bodyPost_ret (v := .tuple #[.agg #[.int .i64 0, .int .i64 0, .int .i64 0, .int .i64 0], .bool false]) (by simp [results, Tryz.results22, go_sem, d0, d1, d2, d3]) rfl ⟨rfl, BL⟩

set_option maxRecDepth 100000 in
set_option maxHeartbeats 1000000 in
theorem cread_yes (s : ByteArray) (hs : s.size ≤ 1048576) (w : World) (p : Addr) (hc : Can p w) (c : Cel) (hsc : scanC s.data.toList = c) (hok : c.okB 6 = true) (htx : c.tx = s.data.toList) :
    Calls Tryz.prog 22 #[.string s] w fun e w' => e = .returned (.tuple #[.agg #[.int .i64 c.k, .int .i64 c.a, .int .i64 c.b, .int .i64 c.n], .bool true]) ∧ Below w.heap.size w w' := by
  obtain ⟨k, a, b, n⟩ := c
  go_enter Tryz.func22, Tryz.ntmps22
  go_wp2_with fail
  refine (scanCell_any s hs _ p (hc.below (bel_alloc _))).mono ?_
  rw [hsc]
  simp only
  rintro e w1 ⟨rfl, hb1⟩
  have z1 := at_below (alloc_at w _) hb1
  have B1 : Hid (Below w.heap.size w w1) := bel_then (bel_alloc _) hb1
  clear hb1
  go_wp2_with fail
  refine (implCellOk_any ⟨k, a, b, n⟩ _ _ p (hc.1.below (bel_then B1.out (bel_alloc _)))).mono ?_
  rw [hok]
  rintro e w2 ⟨rfl, hb2⟩
  have hs1 : w.heap.size < w1.heap.size := (Array.getElem?_eq_some_iff.1 z1).1
  have z2 := at_below z1 (bel_then (bel_alloc _) hb2)
  have X2 : Hid (Box4 w2 w1.heap.size ⟨k, a, b, n⟩) := (Box4.start w1 ⟨k, a, b, n⟩ _).below hb2
  have B2 : Hid (Below w.heap.size w w2) := bel_then B1.out (bel_then (bel_alloc _) hb2)
  clear hb2 z1
  obtain ⟨_, c0, c1, c2, c3⟩ := X2.out
  simp only at c0 c1 c2 c3
  go_wp2_with fail
  refine (implCellText_ok ⟨k, a, b, n⟩ _ p (hc.1.below B2.out) (hc.2.1.below B2.out) hok).mono ?_
  rintro e w3 ⟨s2, rfl, hs2, hz2, hb3⟩
  have z3 := at_below z2 hb3
  have X3 : Hid (Box4 w3 w1.heap.size ⟨k, a, b, n⟩) := X2.out.below hb3
  have B3 : Hid (Below w.heap.size w w3) := bel_then B2.out hb3
  have he : (s2.toList == s.toList) = true := by rw [str_ne, hs2]; simpa using htx
  have hn : (s2.toList != s.toList) = false := by rw [bne, he]; rfl
  clear hb3 z2 c0 c1 c2 c3 hs2
  obtain ⟨_, c0, c1, c2, c3⟩ := X3.out
  simp only at c0 c1 c2 c3
  have BL := ((((B3.out.setCell (p := ⟨w.heap.size, 0, none⟩) (Nat.le_refl _) (.int .i64 k)).setCell (p := ⟨w.heap.size, 1, none⟩) (Nat.le_refl _) (.int .i64 a)).setCell (p := ⟨w.heap.size, 2, none⟩) (Nat.le_refl _) (.int .i64 b)).setCell (p := ⟨w.heap.size, 3, none⟩) (Nat.le_refl _) (.int .i64 n))
  obtain ⟨d0, d1, d2, d3, f0, f1, f2, f3⟩ := zero_cells z3
  have hnb : w.heap.size ≠ w1.heap.size := by omega
  have hnb2 : w1.heap.size ≠ w.heap.size := by omega
  go_wp2
  exact bodyPost_ret (v := .tuple #[.agg #[.int .i64 k, .int .i64 a, .int .i64 b, .int .i64 n], .bool true]) (by simp [results, Tryz.results22, go_sem, d0, d1, d2, d3]) rfl ⟨rfl, BL⟩

theorem implCellRead_any (s : ByteArray) (hs : s.size ≤ 1048576) (w : World) (p : Addr) (hc : Can p w) :
    Calls Tryz.prog 22 #[.string s] w fun e w' => e = .returned (.tuple #[.agg #[.int .i64 (outC (readC s.data.toList)).k, .int .i64 (outC (readC s.data.toList)).a, .int .i64 (outC (readC s.data.toList)).b, .int .i64 (outC (readC s.data.toList)).n], .bool (readC s.data.toList).isSome]) ∧ Below w.heap.size w w' := by
  rw [read_is]
  cases hok : (scanC s.data.toList).okB 6
  · rw [if_neg (by simp)]
    exact cread_no s hs w p hc _ rfl hok
  · by_cases htx : (scanC s.data.toList).tx = s.data.toList
    · rw [if_pos ⟨rfl, htx⟩]
      exact cread_yes s hs w p hc _ rfl hok htx
    · rw [if_neg (fun h => htx h.2)]
      exact cread_tx s hs w p hc _ rfl hok htx

end Go.Proofs.YtkgopbffgahhcaaGreatDoor
