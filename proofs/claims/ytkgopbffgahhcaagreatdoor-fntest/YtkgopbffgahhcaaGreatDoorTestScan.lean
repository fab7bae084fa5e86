/-
  The contracts of the program's own scanTest, TestText (at what is ok for rows of six cells) and TestRead: impl.TestRead answers readT. Conditions: what the library's variables hold (Can).
-/
import Derived.Test.YtkgopbffgahhcaaGreatDoorCellScan
import Derived.Test.YtkgopbffgahhcaaGreatDoorTestReadMath
import Derived.Test.YtkgopbffgahhcaaGreatDoorTestImpl
import Derived.Deep.RegionWith
namespace Go.Proofs.YtkgopbffgahhcaaGreatDoor
open Go.RowKit
set_option linter.unusedVariables false

theorem len_3 (s : ByteArray) : s.data.toList.length = s.size := by rw [Array.length_toList]; rfl
theorem rest_len (l : List UInt8) : (restB l).length ≤ l.length := by
  unfold restB
  split
  · rw [List.length_tail]; omega
  · omega
theorem cut_len {c : UInt8} {l : List UInt8} {q : List UInt8 × List UInt8} (h : cutAt c l = some q) : q.1.length ≤ l.length ∧ q.2.length ≤ l.length := by
  have := congrArg List.length (cutAt_back h)
  simp at this
  omega

set_option maxRecDepth 100000 in
set_option maxHeartbeats 2000000 in
theorem scanT_less (s : ByteArray) (hs : s.size ≤ 1048576) (w : World) (p : Addr) (hc : Can p w) (q : List UInt8 × List UInt8) (h60 : cutAt 60 (restB s.data.toList) = some q) :
    Calls Tryz.prog 82 #[.string s] w fun e w' => e = .returned (.agg #[.int .i64 1, .bool (notB s.data.toList), .int .i64 (scanC q.1).k, .int .i64 (scanC q.1).a, .int .i64 (scanC q.1).b, .int .i64 (scanC q.1).n, .int .i64 (scanC q.2).k, .int .i64 (scanC q.2).a, .int .i64 (scanC q.2).b, .int .i64 (scanC q.2).n]) ∧ Below w.heap.size w w' := by
  have hp := (pre_one 33 s.data.toList).1
  have ht := (pre_one 33 s.data.toList).2
  rw [show decide (s.data.toList.head? = some 33) = notB s.data.toList from rfl] at hp
  rw [show (if s.data.toList.head? = some 33 then s.data.toList.tail else s.data.toList) = restB s.data.toList from rfl] at ht
  have hl := len_3 s
  have hr := rest_len s.data.toList
  have hq := cut_len h60
  have k60 : Lib.cut (restB s.data.toList) [60] = (q.1, q.2, true) := by rw [cut_lib, h60]
  skip
  obtain ⟨no, HN⟩ : ∃ no, Hid (no = notB s.data.toList) := ⟨_, Eq.refl _⟩
  obtain ⟨u, HU⟩ : ∃ u, Hid (u = restB s.data.toList) := ⟨_, Eq.refl _⟩
  obtain ⟨x, HX⟩ : ∃ x, Hid (x = q.1) := ⟨_, Eq.refl _⟩
  obtain ⟨y, HY⟩ : ∃ y, Hid (y = q.2) := ⟨_, Eq.refl _⟩
  obtain ⟨cx, HCX⟩ : ∃ c, Hid (c = scanC q.1) := ⟨_, Eq.refl _⟩
  obtain ⟨cy, HCY⟩ : ∃ c, Hid (c = scanC q.2) := ⟨_, Eq.refl _⟩
  have hlx : x.length ≤ 1048576 := by rw [HX.out]; omega
  have hly : y.length ≤ 1048576 := by rw [HY.out]; omega
  rw [← HCX.out, ← HCY.out, ← HN.out]
  obtain ⟨pk, pa, pb, pn⟩ := cx
  obtain ⟨qk, qa, qb, qn⟩ := cy
  simp only
  go_enter Tryz.func82, Tryz.ntmps82
  go_wp2_with fail
  refine (Tryz.strings_CutPrefix s ⟨#[33]⟩ _).mono ?_
  rintro e w1 ⟨rfl, rfl⟩
  rw [show Lib.hasPrefix s.data.toList (⟨#[33]⟩ : ByteArray).data.toList = no from hp.trans HN.out.symm, show Lib.trimPrefix s.data.toList (⟨#[33]⟩ : ByteArray).data.toList = u from ht.trans HU.out.symm]
  obtain ⟨m, hm⟩ := (hc.below (bel_alloc (w := w) (.cells #[.int .i64 0, .bool false, .int .i64 0, .int .i64 0, .int .i64 0, .int .i64 0, .int .i64 0, .int .i64 0, .int .i64 0, .int .i64 0] 52))).2.2.1.2
  go_wp2_with fail
  refine (Tryz.strings_Cut ⟨u.toArray⟩ ⟨#[60]⟩ m _ (by rw [arr_size, HU.out]; omega) hm).mono ?_
  rintro e w2 ⟨rfl, nd, rfl⟩
  rw [arr_list, show Lib.cut u (⟨#[60]⟩ : ByteArray).data.toList = (x, y, true) from (by rw [HU.out, HX.out, HY.out]; exact k60)]
  simp only
  clear hm
  go_wp2_with fail
  refine (scanCell_any ⟨x.toArray⟩ (by rw [arr_size]; exact hlx) _ p (hc.below (below_drewN (bel_alloc _) _))).mono ?_
  rw [arr_list, HX.out, ← HCX.out]
  simp only
  rintro e w4 ⟨rfl, hb4⟩
  have z4 : w4.heap[w.heap.size]? = some (.cells #[.int .i64 0, .bool false, .int .i64 0, .int .i64 0, .int .i64 0, .int .i64 0, .int .i64 0, .int .i64 0, .int .i64 0, .int .i64 0] 52) := at_below (show (World.drewN (w.alloc (.cells #[.int .i64 0, .bool false, .int .i64 0, .int .i64 0, .int .i64 0, .int .i64 0, .int .i64 0, .int .i64 0, .int .i64 0, .int .i64 0] 52)) _).heap[w.heap.size]? = some _ from alloc_at w _) hb4
  have B4 : Hid (Below w.heap.size w w4) := bel_then (below_drewN (bel_alloc _) _) hb4
  clear hb4
  go_wp2_with fail
  refine (scanCell_any ⟨y.toArray⟩ (by rw [arr_size]; exact hly) _ p (hc.below B4.out)).mono ?_
  rw [arr_list, HY.out, ← HCY.out]
  simp only
  rintro e w5 ⟨rfl, hb5⟩
  have zr := at_below z4 hb5
  have B5 := bel_then B4.out hb5
  clear hb5 z4
  obtain ⟨⟨d0, d1, d2, d3, d4, d5, d6, d7, d8, d9⟩, e0, e1, e2, e3, e4, e5, e6, e7, e8, e9⟩ := ten_cells zr
  clear zr
  go_wp2
  refine bodyPost_ret (v := .agg #[.int .i64 1, .bool no, .int .i64 pk, .int .i64 pa, .int .i64 pb, .int .i64 pn, .int .i64 qk, .int .i64 qa, .int .i64 qb, .int .i64 qn]) (by simp [results, Tryz.results82, go_sem, d0, d1, d2, d3, d4, d5, d6, d7, d8, d9]) rfl ⟨rfl, ?_⟩
  iterate 10 refine Below.setCell ?_ (by simp) _
  exact B5

set_option maxRecDepth 100000 in
set_option maxHeartbeats 2000000 in
theorem scanT_same (s : ByteArray) (hs : s.size ≤ 1048576) (w : World) (p : Addr) (hc : Can p w) (q : List UInt8 × List UInt8) (h60 : cutAt 60 (restB s.data.toList) = none) (h61 : cutAt 61 (restB s.data.toList) = some q) :
    Calls Tryz.prog 82 #[.string s] w fun e w' => e = .returned (.agg #[.int .i64 2, .bool (notB s.data.toList), .int .i64 (scanC q.1).k, .int .i64 (scanC q.1).a, .int .i64 (scanC q.1).b, .int .i64 (scanC q.1).n, .int .i64 (scanC q.2).k, .int .i64 (scanC q.2).a, .int .i64 (scanC q.2).b, .int .i64 (scanC q.2).n]) ∧ Below w.heap.size w w' := by
  have hp := (pre_one 33 s.data.toList).1
  have ht := (pre_one 33 s.data.toList).2
  rw [show decide (s.data.toList.head? = some 33) = notB s.data.toList from rfl] at hp
  rw [show (if s.data.toList.head? = some 33 then s.data.toList.tail else s.data.toList) = restB s.data.toList from rfl] at ht
  have hl := len_3 s
  have hr := rest_len s.data.toList
  have hq := cut_len h61
  have k60 : Lib.cut (restB s.data.toList) [60] = (restB s.data.toList, [], false) := by rw [cut_lib, h60]
  have k61 : Lib.cut (restB s.data.toList) [61] = (q.1, q.2, true) := by rw [cut_lib, h61]
  obtain ⟨no, HN⟩ : ∃ no, Hid (no = notB s.data.toList) := ⟨_, Eq.refl _⟩
  obtain ⟨u, HU⟩ : ∃ u, Hid (u = restB s.data.toList) := ⟨_, Eq.refl _⟩
  obtain ⟨x, HX⟩ : ∃ x, Hid (x = q.1) := ⟨_, Eq.refl _⟩
  obtain ⟨y, HY⟩ : ∃ y, Hid (y = q.2) := ⟨_, Eq.refl _⟩
  obtain ⟨cx, HCX⟩ : ∃ c, Hid (c = scanC q.1) := ⟨_, Eq.refl _⟩
  obtain ⟨cy, HCY⟩ : ∃ c, Hid (c = scanC q.2) := ⟨_, Eq.refl _⟩
  have hlx : x.length ≤ 1048576 := by rw [HX.out]; omega
  have hly : y.length ≤ 1048576 := by rw [HY.out]; omega
  rw [← HCX.out, ← HCY.out, ← HN.out]
  obtain ⟨pk, pa, pb, pn⟩ := cx
  obtain ⟨qk, qa, qb, qn⟩ := cy
  simp only
  go_enter Tryz.func82, Tryz.ntmps82
  go_wp2_with fail
  refine (Tryz.strings_CutPrefix s ⟨#[33]⟩ _).mono ?_
  rintro e w1 ⟨rfl, rfl⟩
  rw [show Lib.hasPrefix s.data.toList (⟨#[33]⟩ : ByteArray).data.toList = no from hp.trans HN.out.symm, show Lib.trimPrefix s.data.toList (⟨#[33]⟩ : ByteArray).data.toList = u from ht.trans HU.out.symm]
  obtain ⟨m, hm⟩ := (hc.below (bel_alloc (w := w) (.cells #[.int .i64 0, .bool false, .int .i64 0, .int .i64 0, .int .i64 0, .int .i64 0, .int .i64 0, .int .i64 0, .int .i64 0, .int .i64 0] 52))).2.2.1.2
  go_wp2_with fail
  refine (Tryz.strings_Cut ⟨u.toArray⟩ ⟨#[60]⟩ m _ (by rw [arr_size, HU.out]; omega) hm).mono ?_
  rintro e w2 ⟨rfl, nd, rfl⟩
  rw [arr_list, show Lib.cut u (⟨#[60]⟩ : ByteArray).data.toList = (u, [], false) from (by rw [HU.out]; exact k60)]
  simp only
  clear hm
  obtain ⟨m2, hm2⟩ := (hc.below (below_drewN (bel_alloc (w := w) (.cells #[.int .i64 0, .bool false, .int .i64 0, .int .i64 0, .int .i64 0, .int .i64 0, .int .i64 0, .int .i64 0, .int .i64 0, .int .i64 0] 52)) nd)).2.2.1.2
  go_wp2_with fail
  refine (Tryz.strings_Cut ⟨u.toArray⟩ ⟨#[61]⟩ m2 _ (by rw [arr_size, HU.out]; omega) hm2).mono ?_
  rintro e w3 ⟨rfl, nd2, rfl⟩
  rw [arr_list, show Lib.cut u (⟨#[61]⟩ : ByteArray).data.toList = (x, y, true) from (by rw [HU.out, HX.out, HY.out]; exact k61)]
  simp only
  clear hm2
  go_wp2_with fail
  refine (scanCell_any ⟨x.toArray⟩ (by rw [arr_size]; exact hlx) _ p (hc.below (below_drewN (bel_alloc _) _))).mono ?_
  rw [arr_list, HX.out, ← HCX.out]
  simp only
  rintro e w4 ⟨rfl, hb4⟩
  have z4 : w4.heap[w.heap.size]? = some (.cells #[.int .i64 0, .bool false, .int .i64 0, .int .i64 0, .int .i64 0, .int .i64 0, .int .i64 0, .int .i64 0, .int .i64 0, .int .i64 0] 52) := at_below (show (World.drewN (w.alloc (.cells #[.int .i64 0, .bool false, .int .i64 0, .int .i64 0, .int .i64 0, .int .i64 0, .int .i64 0, .int .i64 0, .int .i64 0, .int .i64 0] 52)) _).heap[w.heap.size]? = some _ from alloc_at w _) hb4
  have B4 : Hid (Below w.heap.size w w4) := bel_then (below_drewN (bel_alloc _) _) hb4
  clear hb4
  go_wp2_with fail
  refine (scanCell_any ⟨y.toArray⟩ (by rw [arr_size]; exact hly) _ p (hc.below B4.out)).mono ?_
  rw [arr_list, HY.out, ← HCY.out]
  simp only
  rintro e w5 ⟨rfl, hb5⟩
  have zr := at_below z4 hb5
  have B5 := bel_then B4.out hb5
  clear hb5 z4
  obtain ⟨⟨d0, d1, d2, d3, d4, d5, d6, d7, d8, d9⟩, e0, e1, e2, e3, e4, e5, e6, e7, e8, e9⟩ := ten_cells zr
  clear zr
  go_wp2
  refine bodyPost_ret (v := .agg #[.int .i64 2, .bool no, .int .i64 pk, .int .i64 pa, .int .i64 pb, .int .i64 pn, .int .i64 qk, .int .i64 qa, .int .i64 qb, .int .i64 qn]) (by simp [results, Tryz.results82, go_sem, d0, d1, d2, d3, d4, d5, d6, d7, d8, d9]) rfl ⟨rfl, ?_⟩
  iterate 10 refine Below.setCell ?_ (by simp) _
  exact B5

set_option maxRecDepth 100000 in
set_option maxHeartbeats 2000000 in
theorem scanT_none (s : ByteArray) (hs : s.size ≤ 1048576) (w : World) (p : Addr) (hc : Can p w) (h60 : cutAt 60 (restB s.data.toList) = none) (h61 : cutAt 61 (restB s.data.toList) = none) :
    Calls Tryz.prog 82 #[.string s] w fun e w' => e = .returned (.agg #[.int .i64 2, .bool (notB s.data.toList), .int .i64 (scanC (restB s.data.toList)).k, .int .i64 (scanC (restB s.data.toList)).a, .int .i64 (scanC (restB s.data.toList)).b, .int .i64 (scanC (restB s.data.toList)).n, .int .i64 (scanC ([] : List UInt8)).k, .int .i64 (scanC ([] : List UInt8)).a, .int .i64 (scanC ([] : List UInt8)).b, .int .i64 (scanC ([] : List UInt8)).n]) ∧ Below w.heap.size w w' := by
  have hp := (pre_one 33 s.data.toList).1
  have ht := (pre_one 33 s.data.toList).2
  rw [show decide (s.data.toList.head? = some 33) = notB s.data.toList from rfl] at hp
  rw [show (if s.data.toList.head? = some 33 then s.data.toList.tail else s.data.toList) = restB s.data.toList from rfl] at ht
  have hl := len_3 s
  have hr := rest_len s.data.toList
  skip
  have k60 : Lib.cut (restB s.data.toList) [60] = (restB s.data.toList, [], false) := by rw [cut_lib, h60]
  have k61 : Lib.cut (restB s.data.toList) [61] = (restB s.data.toList, [], false) := by rw [cut_lib, h61]
  obtain ⟨no, HN⟩ : ∃ no, Hid (no = notB s.data.toList) := ⟨_, Eq.refl _⟩
  obtain ⟨u, HU⟩ : ∃ u, Hid (u = restB s.data.toList) := ⟨_, Eq.refl _⟩
  obtain ⟨x, HX⟩ : ∃ x, Hid (x = (restB s.data.toList)) := ⟨_, Eq.refl _⟩
  obtain ⟨y, HY⟩ : ∃ y, Hid (y = ([] : List UInt8)) := ⟨_, Eq.refl _⟩
  obtain ⟨cx, HCX⟩ : ∃ c, Hid (c = scanC (restB s.data.toList)) := ⟨_, Eq.refl _⟩
  obtain ⟨cy, HCY⟩ : ∃ c, Hid (c = scanC ([] : List UInt8)) := ⟨_, Eq.refl _⟩
  have hlx : x.length ≤ 1048576 := by rw [HX.out]; omega
  have hly : y.length ≤ 1048576 := by rw [HY.out]; simp
  rw [← HCX.out, ← HCY.out, ← HN.out]
  obtain ⟨pk, pa, pb, pn⟩ := cx
  obtain ⟨qk, qa, qb, qn⟩ := cy
  simp only
  go_enter Tryz.func82, Tryz.ntmps82
  go_wp2_with fail
  refine (Tryz.strings_CutPrefix s ⟨#[33]⟩ _).mono ?_
  rintro e w1 ⟨rfl, rfl⟩
  rw [show Lib.hasPrefix s.data.toList (⟨#[33]⟩ : ByteArray).data.toList = no from hp.trans HN.out.symm, show Lib.trimPrefix s.data.toList (⟨#[33]⟩ : ByteArray).data.toList = u from ht.trans HU.out.symm]
  obtain ⟨m, hm⟩ := (hc.below (bel_alloc (w := w) (.cells #[.int .i64 0, .bool false, .int .i64 0, .int .i64 0, .int .i64 0, .int .i64 0, .int .i64 0, .int .i64 0, .int .i64 0, .int .i64 0] 52))).2.2.1.2
  go_wp2_with fail
  refine (Tryz.strings_Cut ⟨u.toArray⟩ ⟨#[60]⟩ m _ (by rw [arr_size, HU.out]; omega) hm).mono ?_
  rintro e w2 ⟨rfl, nd, rfl⟩
  rw [arr_list, show Lib.cut u (⟨#[60]⟩ : ByteArray).data.toList = (u, [], false) from (by rw [HU.out]; exact k60)]
  simp only
  clear hm
  obtain ⟨m2, hm2⟩ := (hc.below (below_drewN (bel_alloc (w := w) (.cells #[.int .i64 0, .bool false, .int .i64 0, .int .i64 0, .int .i64 0, .int .i64 0, .int .i64 0, .int .i64 0, .int .i64 0, .int .i64 0] 52)) nd)).2.2.1.2
  go_wp2_with fail
  refine (Tryz.strings_Cut ⟨u.toArray⟩ ⟨#[61]⟩ m2 _ (by rw [arr_size, HU.out]; omega) hm2).mono ?_
  rintro e w3 ⟨rfl, nd2, rfl⟩
  rw [arr_list, show Lib.cut u (⟨#[61]⟩ : ByteArray).data.toList = (x, y, false) from (by rw [HU.out, HX.out, HY.out]; exact k61)]
  simp only
  clear hm2
  go_wp2_with fail
  refine (scanCell_any ⟨x.toArray⟩ (by rw [arr_size]; exact hlx) _ p (hc.below (below_drewN (bel_alloc _) _))).mono ?_
  rw [arr_list, HX.out, ← HCX.out]
  simp only
  rintro e w4 ⟨rfl, hb4⟩
  have z4 : w4.heap[w.heap.size]? = some (.cells #[.int .i64 0, .bool false, .int .i64 0, .int .i64 0, .int .i64 0, .int .i64 0, .int .i64 0, .int .i64 0, .int .i64 0, .int .i64 0] 52) := at_below (show (World.drewN (w.alloc (.cells #[.int .i64 0, .bool false, .int .i64 0, .int .i64 0, .int .i64 0, .int .i64 0, .int .i64 0, .int .i64 0, .int .i64 0, .int .i64 0] 52)) _).heap[w.heap.size]? = some _ from alloc_at w _) hb4
  have B4 : Hid (Below w.heap.size w w4) := bel_then (below_drewN (bel_alloc _) _) hb4
  clear hb4
  go_wp2_with fail
  refine (scanCell_any ⟨y.toArray⟩ (by rw [arr_size]; exact hly) _ p (hc.below B4.out)).mono ?_
  rw [arr_list, HY.out, ← HCY.out]
  simp only
  rintro e w5 ⟨rfl, hb5⟩
  have zr := at_below z4 hb5
  have B5 := bel_then B4.out hb5
  clear hb5 z4
  obtain ⟨⟨d0, d1, d2, d3, d4, d5, d6, d7, d8, d9⟩, e0, e1, e2, e3, e4, e5, e6, e7, e8, e9⟩ := ten_cells zr
  clear zr
  go_wp2
  refine bodyPost_ret (v := .agg #[.int .i64 2, .bool no, .int .i64 pk, .int .i64 pa, .int .i64 pb, .int .i64 pn, .int .i64 qk, .int .i64 qa, .int .i64 qb, .int .i64 qn]) (by simp [results, Tryz.results82, go_sem, d0, d1, d2, d3, d4, d5, d6, d7, d8, d9]) rfl ⟨rfl, ?_⟩
  iterate 10 refine Below.setCell ?_ (by simp) _
  exact B5

theorem scanTest_any (s : ByteArray) (hs : s.size ≤ 1048576) (w : World) (p : Addr) (hc : Can p w) :
    Calls Tryz.prog 82 #[.string s] w fun e w' => e = .returned (.agg #[.int .i64 (scanT s.data.toList).k, .bool (scanT s.data.toList).no, .int .i64 (scanT s.data.toList).l.k, .int .i64 (scanT s.data.toList).l.a, .int .i64 (scanT s.data.toList).l.b, .int .i64 (scanT s.data.toList).l.n, .int .i64 (scanT s.data.toList).r.k, .int .i64 (scanT s.data.toList).r.a, .int .i64 (scanT s.data.toList).r.b, .int .i64 (scanT s.data.toList).r.n]) ∧ Below w.heap.size w w' := by
  unfold scanT
  cases h60 : cutAt 60 (restB s.data.toList) with
  | some q => exact scanT_less s hs w p hc q h60
  | none =>
    simp only
    cases h61 : cutAt 61 (restB s.data.toList) with
    | some q => exact scanT_same s hs w p hc q h60 h61
    | none => exact scanT_none s hs w p hc h60 h61

end Go.Proofs.YtkgopbffgahhcaaGreatDoor
