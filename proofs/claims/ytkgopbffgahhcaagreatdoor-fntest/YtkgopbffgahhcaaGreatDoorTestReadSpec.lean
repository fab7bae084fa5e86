/-
  The contract of the document's own TestRead: it answers readT, at every text of at most 2^20 bytes.
-/
import Derived.Test.YtkgopbffgahhcaaGreatDoorTestReadMath
import Derived.Test.YtkgopbffgahhcaaGreatDoorCellReadSpec
import Derived.Test.YtkgopbffgahhcaaGreatDoorCellBox
namespace Go.Proofs.YtkgopbffgahhcaaGreatDoor
open Go.RowKit
set_option linter.unusedVariables false

set_option maxHeartbeats 1000000 in
theorem l12Find_60 (s : ByteArray) (hs : s.size ≤ 1048576) (w : World) :
    Calls Tryz.prog 75 #[.string s, .int .u8 60] w fun e w' => e = .returned (.int .i64 (findC 60 s.data.toList)) ∧ w' = w := by
  go_enter Tryz.func75, Tryz.ntmps75
  go_wp2
  go_loop [5] (fun i => ∃ k : Nat, k ≤ s.size ∧ i = .int .i64 k ∧ Hid (∀ j (hj : j < s.size), j < k → s[j] ≠ 60)) (fun i => s.size - (intOf i).toNat)
  case atStart => exact ⟨0, Nat.zero_le _, rfl, fun j hj hk => by omega⟩
  case round =>
    obtain ⟨k, hk, rfl, HN⟩ := hrel
    by_cases hlt : k < s.size
    · have hll : k < s.data.toList.length := by rw [len_l]; exact hlt
      by_cases h42 : (s[k]'hlt) = 60
      · have gc : (((s[k]'hlt).toNat : Int) == 60) = true := by rw [h42]; rfl
        have HF : Hid (findC 60 s.data.toList = (k : Int)) := by
          show _ = _
          unfold findC
          rw [cut_find hll (fun j hj => HN.out j (by omega) hj) h42]
          simp [List.length_take]
          omega
        clear h42 hll
        go_wp2
        go_ret
        exact ⟨ret_int HF.out.symm, rfl⟩
      · have gc : (((s[k]'hlt).toNat : Int) == 60) = false := by
          rw [beq_eq_false_iff_ne]
          intro e
          have e2 : (s[k]'hlt).toNat = (60 : UInt8).toNat := by show _ = 60; omega
          exact h42 (UInt8.toNat_inj.1 e2)
        have HN2 : Hid (∀ j (hj : j < s.size), j < k + 1 → s[j] ≠ 60) := fun j hj hjk => by
          rcases Nat.lt_succ_iff_lt_or_eq.1 hjk with h | h
          · exact HN.out j hj h
          · subst h; exact h42
        clear h42 hll HN
        go_wp2
        go_round
        case rel => exact ⟨k + 1, by omega, by go_num, HN2⟩
        case measure => simp [intOf]; omega
    · have HF : Hid (findC 60 s.data.toList = -1) := by
        show _ = _
        unfold findC
        rw [cutAt_none fun c hc => ?_]
        obtain ⟨j, hj, rfl⟩ := List.getElem_of_mem hc
        rw [len_l] at hj
        exact HN.out j hj (by omega)
      go_wp2
      go_ret
      exact ⟨ret_int HF.out.symm, rfl⟩

set_option maxHeartbeats 1000000 in
theorem l12Find_61 (s : ByteArray) (hs : s.size ≤ 1048576) (w : World) :
    Calls Tryz.prog 75 #[.string s, .int .u8 61] w fun e w' => e = .returned (.int .i64 (findC 61 s.data.toList)) ∧ w' = w := by
  go_enter Tryz.func75, Tryz.ntmps75
  go_wp2
  go_loop [5] (fun i => ∃ k : Nat, k ≤ s.size ∧ i = .int .i64 k ∧ Hid (∀ j (hj : j < s.size), j < k → s[j] ≠ 61)) (fun i => s.size - (intOf i).toNat)
  case atStart => exact ⟨0, Nat.zero_le _, rfl, fun j hj hk => by omega⟩
  case round =>
    obtain ⟨k, hk, rfl, HN⟩ := hrel
    by_cases hlt : k < s.size
    · have hll : k < s.data.toList.length := by rw [len_l]; exact hlt
      by_cases h42 : (s[k]'hlt) = 61
      · have gc : (((s[k]'hlt).toNat : Int) == 61) = true := by rw [h42]; rfl
        have HF : Hid (findC 61 s.data.toList = (k : Int)) := by
          show _ = _
          unfold findC
          rw [cut_find hll (fun j hj => HN.out j (by omega) hj) h42]
          simp [List.length_take]
          omega
        clear h42 hll
        go_wp2
        go_ret
        exact ⟨ret_int HF.out.symm, rfl⟩
      · have gc : (((s[k]'hlt).toNat : Int) == 61) = false := by
          rw [beq_eq_false_iff_ne]
          intro e
          have e2 : (s[k]'hlt).toNat = (61 : UInt8).toNat := by show _ = 61; omega
          exact h42 (UInt8.toNat_inj.1 e2)
        have HN2 : Hid (∀ j (hj : j < s.size), j < k + 1 → s[j] ≠ 61) := fun j hj hjk => by
          rcases Nat.lt_succ_iff_lt_or_eq.1 hjk with h | h
          · exact HN.out j hj h
          · subst h; exact h42
        clear h42 hll HN
        go_wp2
        go_round
        case rel => exact ⟨k + 1, by omega, by go_num, HN2⟩
        case measure => simp [intOf]; omega
    · have HF : Hid (findC 61 s.data.toList = -1) := by
        show _ = _
        unfold findC
        rw [cutAt_none fun c hc => ?_]
        obtain ⟨j, hj, rfl⟩ := List.getElem_of_mem hc
        rw [len_l] at hj
        exact HN.out j hj (by omega)
      go_wp2
      go_ret
      exact ⟨ret_int HF.out.symm, rfl⟩

set_option maxRecDepth 100000 in
set_option maxHeartbeats 2000000 in
theorem tr_n0 (s : ByteArray) (hs : s.size ≤ 1048576) (w : World) (h0 : 0 < s.size) (hp0 : (0 : Int) < (s.size : Int)) (h33 : (((s[0]'h0).toNat : Int) == 33) = true) (u : ByteArray) (hu0 : Hid (s.extract 1 s.size = u)) (hu1 : u.size ≤ 1048576) (hf : findC 60 u.data.toList = -1) (hf2 : findC 61 u.data.toList = -1) :
    Calls Tryz.prog 38 #[.string s] w fun e w' => e = .returned (.tuple #[.agg #[.int .i64 0, .bool false, .int .i64 0, .int .i64 0, .int .i64 0, .int .i64 0, .int .i64 0, .int .i64 0, .int .i64 0, .int .i64 0], .bool false]) ∧ Below w.heap.size w w' := by
  go_enter Tryz.func38, Tryz.ntmps38
  go_wp2_with fail
  rw [hu0.out]
  refine (l12Find_60 u hu1 _).mono ?_
  rw [hf]
  rintro e w1 ⟨rfl, rfl⟩
  go_wp2_with fail
  skip
  refine (l12Find_61 u hu1 _).mono ?_
  rw [hf2]
  rintro e w2 ⟨rfl, rfl⟩
  go_wp2
  refine bodyPost_ret (v := .tuple #[.agg #[.int .i64 0, .bool false, .int .i64 0, .int .i64 0, .int .i64 0, .int .i64 0, .int .i64 0, .int .i64 0, .int .i64 0, .int .i64 0], .bool false]) (by simp [results, Tryz.results38, go_sem]) rfl ⟨rfl, ?_⟩
  exact bel_then (bel_alloc _) (bel_alloc _)

set_option maxRecDepth 100000 in
set_option maxHeartbeats 2000000 in
theorem tr_n1tt (s : ByteArray) (hs : s.size ≤ 1048576) (w : World) (h0 : 0 < s.size) (hp0 : (0 : Int) < (s.size : Int)) (h33 : (((s[0]'h0).toNat : Int) == 33) = true) (u : ByteArray) (hu0 : Hid (s.extract 1 s.size = u)) (hu1 : u.size ≤ 1048576) (k : Nat) (hk : k + 1 ≤ u.size) (c1 c2 : Cel) (hf : findC 60 u.data.toList = (k : Int)) (hc1 : outC (readC (u.extract 0 k).data.toList) = c1) (hx1 : (readC (u.extract 0 k).data.toList).isSome = true) (hc2 : outC (readC (u.extract (k + 1) u.size).data.toList) = c2) (hx2 : (readC (u.extract (k + 1) u.size).data.toList).isSome = true) :
    Calls Tryz.prog 38 #[.string s] w fun e w' => e = .returned (.tuple #[.agg #[.int .i64 1, .bool true, .int .i64 c1.k, .int .i64 c1.a, .int .i64 c1.b, .int .i64 c1.n, .int .i64 c2.k, .int .i64 c2.a, .int .i64 c2.b, .int .i64 c2.n], .bool true]) ∧ Below w.heap.size w w' := by
  obtain ⟨pk, pa, pb, pn⟩ := c1
  obtain ⟨qk, qa, qb, qn⟩ := c2
  try simp only
  have hus : u.size ≤ 1048576 := hu1
  go_enter Tryz.func38, Tryz.ntmps38
  go_wp2_with fail
  rw [hu0.out]
  refine (l12Find_60 u hu1 _).mono ?_
  rw [hf]
  rintro e w1 ⟨rfl, rfl⟩
  have zr0 := at_below (alloc_at w (.cells #[.int .i64 0, .bool false, .int .i64 0, .int .i64 0, .int .i64 0, .int .i64 0, .int .i64 0, .int .i64 0, .int .i64 0, .int .i64 0] 52)) (bel_alloc (.cells #[.int .i64 1, .bool true, .int .i64 0, .int .i64 0, .int .i64 0, .int .i64 0, .int .i64 0, .int .i64 0, .int .i64 0, .int .i64 0] 52))
  have zt0 := alloc_at (w.alloc (.cells #[.int .i64 0, .bool false, .int .i64 0, .int .i64 0, .int .i64 0, .int .i64 0, .int .i64 0, .int .i64 0, .int .i64 0, .int .i64 0] 52)) (.cells #[.int .i64 1, .bool true, .int .i64 0, .int .i64 0, .int .i64 0, .int .i64 0, .int .i64 0, .int .i64 0, .int .i64 0, .int .i64 0] 52)
  rw [alloc_size] at zt0
  go_wp2_with fail
  refine (specCellRead_any (u.extract 0 k) (by rw [ByteArray.size_extract]; omega) _).mono ?_
  rw [hc1, hx1]
  simp only
  rintro e w3 ⟨rfl, hb3⟩
  have zr3 := at_below zr0 hb3
  have zt3 := at_below zt0 hb3
  have B3 : Hid (Below w.heap.size w w3) := bel_then (bel_then (bel_alloc _) (bel_alloc _)) hb3
  have hs3 : w.heap.size + 1 < w3.heap.size := (Array.getElem?_eq_some_iff.1 zt3).1
  clear hb3 zr0 zt0
  go_wp2_with fail
  refine (specCellRead_any (u.extract (k + 1) u.size) (by rw [ByteArray.size_extract]; omega) _).mono ?_
  rw [hc2, hx2]
  simp only
  rintro e w4 ⟨rfl, hb4⟩
  have X4 := (Box4.start w3 ⟨pk, pa, pb, pn⟩ _).below hb4
  have hs4 : w3.heap.size < w4.heap.size := X4.1
  have BB := bel_alloc (w := w4) (.cells #[.int .i64 qk, .int .i64 qa, .int .i64 qb, .int .i64 qn] 40)
  have zr := at_below (at_below zr3 (bel_then (bel_alloc (.cells #[.int .i64 pk, .int .i64 pa, .int .i64 pb, .int .i64 pn] 40)) hb4)) BB
  have zt := at_below (at_below zt3 (bel_then (bel_alloc (.cells #[.int .i64 pk, .int .i64 pa, .int .i64 pb, .int .i64 pn] 40)) hb4)) BB
  have X5 := X4.below BB
  have B5 : Below w.heap.size w (w4.alloc (.cells #[.int .i64 qk, .int .i64 qa, .int .i64 qb, .int .i64 qn] 40)) := bel_then B3.out (bel_then (bel_alloc (.cells #[.int .i64 pk, .int .i64 pa, .int .i64 pb, .int .i64 pn] 40)) (bel_then hb4 BB))
  clear hb4 zr3 zt3 X4 BB
  obtain ⟨_, a0, a1, a2, a3⟩ := X5
  simp only at a0 a1 a2 a3
  obtain ⟨⟨d0, d1, d2, d3, d4, d5, d6, d7, d8, d9⟩, e0, e1, e2, e3, e4, e5, e6, e7, e8, e9⟩ := ten_cells zr
  obtain ⟨⟨t0, t1, t2, t3, t4, t5, t6, t7, t8, t9⟩, u0, u1, u2, u3, u4, u5, u6, u7, u8, u9⟩ := ten_cells zt
  clear zr zt
  have n1 : w.heap.size ≠ w.heap.size + 1 := by omega
  have n2 : w.heap.size + 1 ≠ w.heap.size := by omega
  have n3 : w3.heap.size ≠ w.heap.size + 1 := by omega
  have n4 : w3.heap.size ≠ w.heap.size := by omega
  have n5 : w4.heap.size ≠ w.heap.size + 1 := by omega
  have n6 : w4.heap.size ≠ w.heap.size := by omega
  have n7 : w.heap.size + 1 ≠ w3.heap.size := by omega
  have n8 : w.heap.size + 1 ≠ w4.heap.size := by omega
  go_wp2
  refine bodyPost_ret (v := .tuple #[.agg #[.int .i64 1, .bool true, .int .i64 pk, .int .i64 pa, .int .i64 pb, .int .i64 pn, .int .i64 qk, .int .i64 qa, .int .i64 qb, .int .i64 qn], .bool true]) (by simp [results, Tryz.results38, go_sem, d0, d1, d2, d3, d4, d5, d6, d7, d8, d9]) rfl ⟨rfl, ?_⟩
  iterate 18 refine Below.setCell ?_ (by simp) _
  exact B5

set_option maxRecDepth 100000 in
set_option maxHeartbeats 2000000 in
theorem tr_n1tf (s : ByteArray) (hs : s.size ≤ 1048576) (w : World) (h0 : 0 < s.size) (hp0 : (0 : Int) < (s.size : Int)) (h33 : (((s[0]'h0).toNat : Int) == 33) = true) (u : ByteArray) (hu0 : Hid (s.extract 1 s.size = u)) (hu1 : u.size ≤ 1048576) (k : Nat) (hk : k + 1 ≤ u.size) (c1 c2 : Cel) (hf : findC 60 u.data.toList = (k : Int)) (hc1 : outC (readC (u.extract 0 k).data.toList) = c1) (hx1 : (readC (u.extract 0 k).data.toList).isSome = true) (hc2 : outC (readC (u.extract (k + 1) u.size).data.toList) = c2) (hx2 : (readC (u.extract (k + 1) u.size).data.toList).isSome = false) :
    Calls Tryz.prog 38 #[.string s] w fun e w' => e = .returned (.tuple #[.agg #[.int .i64 0, .bool false, .int .i64 0, .int .i64 0, .int .i64 0, .int .i64 0, .int .i64 0, .int .i64 0, .int .i64 0, .int .i64 0], .bool false]) ∧ Below w.heap.size w w' := by
  obtain ⟨pk, pa, pb, pn⟩ := c1
  obtain ⟨qk, qa, qb, qn⟩ := c2
  try simp only
  have hus : u.size ≤ 1048576 := hu1
  go_enter Tryz.func38, Tryz.ntmps38
  go_wp2_with fail
  rw [hu0.out]
  refine (l12Find_60 u hu1 _).mono ?_
  rw [hf]
  rintro e w1 ⟨rfl, rfl⟩
  have zr0 := at_below (alloc_at w (.cells #[.int .i64 0, .bool false, .int .i64 0, .int .i64 0, .int .i64 0, .int .i64 0, .int .i64 0, .int .i64 0, .int .i64 0, .int .i64 0] 52)) (bel_alloc (.cells #[.int .i64 1, .bool true, .int .i64 0, .int .i64 0, .int .i64 0, .int .i64 0, .int .i64 0, .int .i64 0, .int .i64 0, .int .i64 0] 52))
  have zt0 := alloc_at (w.alloc (.cells #[.int .i64 0, .bool false, .int .i64 0, .int .i64 0, .int .i64 0, .int .i64 0, .int .i64 0, .int .i64 0, .int .i64 0, .int .i64 0] 52)) (.cells #[.int .i64 1, .bool true, .int .i64 0, .int .i64 0, .int .i64 0, .int .i64 0, .int .i64 0, .int .i64 0, .int .i64 0, .int .i64 0] 52)
  rw [alloc_size] at zt0
  go_wp2_with fail
  refine (specCellRead_any (u.extract 0 k) (by rw [ByteArray.size_extract]; omega) _).mono ?_
  rw [hc1, hx1]
  simp only
  rintro e w3 ⟨rfl, hb3⟩
  have zr3 := at_below zr0 hb3
  have zt3 := at_below zt0 hb3
  have B3 : Hid (Below w.heap.size w w3) := bel_then (bel_then (bel_alloc _) (bel_alloc _)) hb3
  have hs3 : w.heap.size + 1 < w3.heap.size := (Array.getElem?_eq_some_iff.1 zt3).1
  clear hb3 zr0 zt0
  go_wp2_with fail
  refine (specCellRead_any (u.extract (k + 1) u.size) (by rw [ByteArray.size_extract]; omega) _).mono ?_
  rw [hc2, hx2]
  simp only
  rintro e w4 ⟨rfl, hb4⟩
  have X4 := (Box4.start w3 ⟨pk, pa, pb, pn⟩ _).below hb4
  have hs4 : w3.heap.size < w4.heap.size := X4.1
  have BB := bel_alloc (w := w4) (.cells #[.int .i64 qk, .int .i64 qa, .int .i64 qb, .int .i64 qn] 40)
  have zr := at_below (at_below zr3 (bel_then (bel_alloc (.cells #[.int .i64 pk, .int .i64 pa, .int .i64 pb, .int .i64 pn] 40)) hb4)) BB
  have zt := at_below (at_below zt3 (bel_then (bel_alloc (.cells #[.int .i64 pk, .int .i64 pa, .int .i64 pb, .int .i64 pn] 40)) hb4)) BB
  have X5 := X4.below BB
  have B5 : Below w.heap.size w (w4.alloc (.cells #[.int .i64 qk, .int .i64 qa, .int .i64 qb, .int .i64 qn] 40)) := bel_then B3.out (bel_then (bel_alloc (.cells #[.int .i64 pk, .int .i64 pa, .int .i64 pb, .int .i64 pn] 40)) (bel_then hb4 BB))
  clear hb4 zr3 zt3 X4 BB
  obtain ⟨_, a0, a1, a2, a3⟩ := X5
  simp only at a0 a1 a2 a3
  obtain ⟨⟨d0, d1, d2, d3, d4, d5, d6, d7, d8, d9⟩, e0, e1, e2, e3, e4, e5, e6, e7, e8, e9⟩ := ten_cells zr
  obtain ⟨⟨t0, t1, t2, t3, t4, t5, t6, t7, t8, t9⟩, u0, u1, u2, u3, u4, u5, u6, u7, u8, u9⟩ := ten_cells zt
  clear zr zt
  have n1 : w.heap.size ≠ w.heap.size + 1 := by omega
  have n2 : w.heap.size + 1 ≠ w.heap.size := by omega
  have n3 : w3.heap.size ≠ w.heap.size + 1 := by omega
  have n4 : w3.heap.size ≠ w.heap.size := by omega
  have n5 : w4.heap.size ≠ w.heap.size + 1 := by omega
  have n6 : w4.heap.size ≠ w.heap.size := by omega
  have n7 : w.heap.size + 1 ≠ w3.heap.size := by omega
  have n8 : w.heap.size + 1 ≠ w4.heap.size := by omega
  go_wp2
  refine bodyPost_ret (v := .tuple #[.agg #[.int .i64 0, .bool false, .int .i64 0, .int .i64 0, .int .i64 0, .int .i64 0, .int .i64 0, .int .i64 0, .int .i64 0, .int .i64 0], .bool false]) (by simp [results, Tryz.results38, go_sem, d0, d1, d2, d3, d4, d5, d6, d7, d8, d9]) rfl ⟨rfl, ?_⟩
  iterate 18 refine Below.setCell ?_ (by simp) _
  exact B5

set_option maxRecDepth 100000 in
set_option maxHeartbeats 2000000 in
theorem tr_n1ft (s : ByteArray) (hs : s.size ≤ 1048576) (w : World) (h0 : 0 < s.size) (hp0 : (0 : Int) < (s.size : Int)) (h33 : (((s[0]'h0).toNat : Int) == 33) = true) (u : ByteArray) (hu0 : Hid (s.extract 1 s.size = u)) (hu1 : u.size ≤ 1048576) (k : Nat) (hk : k + 1 ≤ u.size) (c1 c2 : Cel) (hf : findC 60 u.data.toList = (k : Int)) (hc1 : outC (readC (u.extract 0 k).data.toList) = c1) (hx1 : (readC (u.extract 0 k).data.toList).isSome = false) (hc2 : outC (readC (u.extract (k + 1) u.size).data.toList) = c2) (hx2 : (readC (u.extract (k + 1) u.size).data.toList).isSome = true) :
    Calls Tryz.prog 38 #[.string s] w fun e w' => e = .returned (.tuple #[.agg #[.int .i64 0, .bool false, .int .i64 0, .int .i64 0, .int .i64 0, .int .i64 0, .int .i64 0, .int .i64 0, .int .i64 0, .int .i64 0], .bool false]) ∧ Below w.heap.size w w' := by
  obtain ⟨pk, pa, pb, pn⟩ := c1
  obtain ⟨qk, qa, qb, qn⟩ := c2
  try simp only
  have hus : u.size ≤ 1048576 := hu1
  go_enter Tryz.func38, Tryz.ntmps38
  go_wp2_with fail
  rw [hu0.out]
  refine (l12Find_60 u hu1 _).mono ?_
  rw [hf]
  rintro e w1 ⟨rfl, rfl⟩
  have zr0 := at_below (alloc_at w (.cells #[.int .i64 0, .bool false, .int .i64 0, .int .i64 0, .int .i64 0, .int .i64 0, .int .i64 0, .int .i64 0, .int .i64 0, .int .i64 0] 52)) (bel_alloc (.cells #[.int .i64 1, .bool true, .int .i64 0, .int .i64 0, .int .i64 0, .int .i64 0, .int .i64 0, .int .i64 0, .int .i64 0, .int .i64 0] 52))
  have zt0 := alloc_at (w.alloc (.cells #[.int .i64 0, .bool false, .int .i64 0, .int .i64 0, .int .i64 0, .int .i64 0, .int .i64 0, .int .i64 0, .int .i64 0, .int .i64 0] 52)) (.cells #[.int .i64 1, .bool true, .int .i64 0, .int .i64 0, .int .i64 0, .int .i64 0, .int .i64 0, .int .i64 0, .int .i64 0, .int .i64 0] 52)
  rw [alloc_size] at zt0
  go_wp2_with fail
  refine (specCellRead_any (u.extract 0 k) (by rw [ByteArray.size_extract]; omega) _).mono ?_
  rw [hc1, hx1]
  simp only
  rintro e w3 ⟨rfl, hb3⟩
  have zr3 := at_below zr0 hb3
  have zt3 := at_below zt0 hb3
  have B3 : Hid (Below w.heap.size w w3) := bel_then (bel_then (bel_alloc _) (bel_alloc _)) hb3
  have hs3 : w.heap.size + 1 < w3.heap.size := (Array.getElem?_eq_some_iff.1 zt3).1
  clear hb3 zr0 zt0
  go_wp2_with fail
  refine (specCellRead_any (u.extract (k + 1) u.size) (by rw [ByteArray.size_extract]; omega) _).mono ?_
  rw [hc2, hx2]
  simp only
  rintro e w4 ⟨rfl, hb4⟩
  have X4 := (Box4.start w3 ⟨pk, pa, pb, pn⟩ _).below hb4
  have hs4 : w3.heap.size < w4.heap.size := X4.1
  have BB := bel_alloc (w := w4) (.cells #[.int .i64 qk, .int .i64 qa, .int .i64 qb, .int .i64 qn] 40)
  have zr := at_below (at_below zr3 (bel_then (bel_alloc (.cells #[.int .i64 pk, .int .i64 pa, .int .i64 pb, .int .i64 pn] 40)) hb4)) BB
  have zt := at_below (at_below zt3 (bel_then (bel_alloc (.cells #[.int .i64 pk, .int .i64 pa, .int .i64 pb, .int .i64 pn] 40)) hb4)) BB
  have X5 := X4.below BB
  have B5 : Below w.heap.size w (w4.alloc (.cells #[.int .i64 qk, .int .i64 qa, .int .i64 qb, .int .i64 qn] 40)) := bel_then B3.out (bel_then (bel_alloc (.cells #[.int .i64 pk, .int .i64 pa, .int .i64 pb, .int .i64 pn] 40)) (bel_then hb4 BB))
  clear hb4 zr3 zt3 X4 BB
  obtain ⟨_, a0, a1, a2, a3⟩ := X5
  simp only at a0 a1 a2 a3
  obtain ⟨⟨d0, d1, d2, d3, d4, d5, d6, d7, d8, d9⟩, e0, e1, e2, e3, e4, e5, e6, e7, e8, e9⟩ := ten_cells zr
  obtain ⟨⟨t0, t1, t2, t3, t4, t5, t6, t7, t8, t9⟩, u0, u1, u2, u3, u4, u5, u6, u7, u8, u9⟩ := ten_cells zt
  clear zr zt
  have n1 : w.heap.size ≠ w.heap.size + 1 := by omega
  have n2 : w.heap.size + 1 ≠ w.heap.size := by omega
  have n3 : w3.heap.size ≠ w.heap.size + 1 := by omega
  have n4 : w3.heap.size ≠ w.heap.size := by omega
  have n5 : w4.heap.size ≠ w.heap.size + 1 := by omega
  have n6 : w4.heap.size ≠ w.heap.size := by omega
  have n7 : w.heap.size + 1 ≠ w3.heap.size := by omega
  have n8 : w.heap.size + 1 ≠ w4.heap.size := by omega
  go_wp2
  refine bodyPost_ret (v := .tuple #[.agg #[.int .i64 0, .bool false, .int .i64 0, .int .i64 0, .int .i64 0, .int .i64 0, .int .i64 0, .int .i64 0, .int .i64 0, .int .i64 0], .bool false]) (by simp [results, Tryz.results38, go_sem, d0, d1, d2, d3, d4, d5, d6, d7, d8, d9]) rfl ⟨rfl, ?_⟩
  iterate 18 refine Below.setCell ?_ (by simp) _
  exact B5

set_option maxRecDepth 100000 in
set_option maxHeartbeats 2000000 in
theorem tr_n1ff (s : ByteArray) (hs : s.size ≤ 1048576) (w : World) (h0 : 0 < s.size) (hp0 : (0 : Int) < (s.size : Int)) (h33 : (((s[0]'h0).toNat : Int) == 33) = true) (u : ByteArray) (hu0 : Hid (s.extract 1 s.size = u)) (hu1 : u.size ≤ 1048576) (k : Nat) (hk : k + 1 ≤ u.size) (c1 c2 : Cel) (hf : findC 60 u.data.toList = (k : Int)) (hc1 : outC (readC (u.extract 0 k).data.toList) = c1) (hx1 : (readC (u.extract 0 k).data.toList).isSome = false) (hc2 : outC (readC (u.extract (k + 1) u.size).data.toList) = c2) (hx2 : (readC (u.extract (k + 1) u.size).data.toList).isSome = false) :
    Calls Tryz.prog 38 #[.string s] w fun e w' => e = .returned (.tuple #[.agg #[.int .i64 0, .bool false, .int .i64 0, .int .i64 0, .int .i64 0, .int .i64 0, .int .i64 0, .int .i64 0, .int .i64 0, .int .i64 0], .bool false]) ∧ Below w.heap.size w w' := by
  obtain ⟨pk, pa, pb, pn⟩ := c1
  obtain ⟨qk, qa, qb, qn⟩ := c2
  try simp only
  have hus : u.size ≤ 1048576 := hu1
  go_enter Tryz.func38, Tryz.ntmps38
  go_wp2_with fail
  rw [hu0.out]
  refine (l12Find_60 u hu1 _).mono ?_
  rw [hf]
  rintro e w1 ⟨rfl, rfl⟩
  have zr0 := at_below (alloc_at w (.cells #[.int .i64 0, .bool false, .int .i64 0, .int .i64 0, .int .i64 0, .int .i64 0, .int .i64 0, .int .i64 0, .int .i64 0, .int .i64 0] 52)) (bel_alloc (.cells #[.int .i64 1, .bool true, .int .i64 0, .int .i64 0, .int .i64 0, .int .i64 0, .int .i64 0, .int .i64 0, .int .i64 0, .int .i64 0] 52))
  have zt0 := alloc_at (w.alloc (.cells #[.int .i64 0, .bool false, .int .i64 0, .int .i64 0, .int .i64 0, .int .i64 0, .int .i64 0, .int .i64 0, .int .i64 0, .int .i64 0] 52)) (.cells #[.int .i64 1, .bool true, .int .i64 0, .int .i64 0, .int .i64 0, .int .i64 0, .int .i64 0, .int .i64 0, .int .i64 0, .int .i64 0] 52)
  rw [alloc_size] at zt0
  go_wp2_with fail
  refine (specCellRead_any (u.extract 0 k) (by rw [ByteArray.size_extract]; omega) _).mono ?_
  rw [hc1, hx1]
  simp only
  rintro e w3 ⟨rfl, hb3⟩
  have zr3 := at_below zr0 hb3
  have zt3 := at_below zt0 hb3
  have B3 : Hid (Below w.heap.size w w3) := bel_then (bel_then (bel_alloc _) (bel_alloc _)) hb3
  have hs3 : w.heap.size + 1 < w3.heap.size := (Array.getElem?_eq_some_iff.1 zt3).1
  clear hb3 zr0 zt0
  go_wp2_with fail
  refine (specCellRead_any (u.extract (k + 1) u.size) (by rw [ByteArray.size_extract]; omega) _).mono ?_
  rw [hc2, hx2]
  simp only
  rintro e w4 ⟨rfl, hb4⟩
  have X4 := (Box4.start w3 ⟨pk, pa, pb, pn⟩ _).below hb4
  have hs4 : w3.heap.size < w4.heap.size := X4.1
  have BB := bel_alloc (w := w4) (.cells #[.int .i64 qk, .int .i64 qa, .int .i64 qb, .int .i64 qn] 40)
  have zr := at_below (at_below zr3 (bel_then (bel_alloc (.cells #[.int .i64 pk, .int .i64 pa, .int .i64 pb, .int .i64 pn] 40)) hb4)) BB
  have zt := at_below (at_below zt3 (bel_then (bel_alloc (.cells #[.int .i64 pk, .int .i64 pa, .int .i64 pb, .int .i64 pn] 40)) hb4)) BB
  have X5 := X4.below BB
  have B5 : Below w.heap.size w (w4.alloc (.cells #[.int .i64 qk, .int .i64 qa, .int .i64 qb, .int .i64 qn] 40)) := bel_then B3.out (bel_then (bel_alloc (.cells #[.int .i64 pk, .int .i64 pa, .int .i64 pb, .int .i64 pn] 40)) (bel_then hb4 BB))
  clear hb4 zr3 zt3 X4 BB
  obtain ⟨_, a0, a1, a2, a3⟩ := X5
  simp only at a0 a1 a2 a3
  obtain ⟨⟨d0, d1, d2, d3, d4, d5, d6, d7, d8, d9⟩, e0, e1, e2, e3, e4, e5, e6, e7, e8, e9⟩ := ten_cells zr
  obtain ⟨⟨t0, t1, t2, t3, t4, t5, t6, t7, t8, t9⟩, u0, u1, u2, u3, u4, u5, u6, u7, u8, u9⟩ := ten_cells zt
  clear zr zt
  have n1 : w.heap.size ≠ w.heap.size + 1 := by omega
  have n2 : w.heap.size + 1 ≠ w.heap.size := by omega
  have n3 : w3.heap.size ≠ w.heap.size + 1 := by omega
  have n4 : w3.heap.size ≠ w.heap.size := by omega
  have n5 : w4.heap.size ≠ w.heap.size + 1 := by omega
  have n6 : w4.heap.size ≠ w.heap.size := by omega
  have n7 : w.heap.size + 1 ≠ w3.heap.size := by omega
  have n8 : w.heap.size + 1 ≠ w4.heap.size := by omega
  go_wp2
  refine bodyPost_ret (v := .tuple #[.agg #[.int .i64 0, .bool false, .int .i64 0, .int .i64 0, .int .i64 0, .int .i64 0, .int .i64 0, .int .i64 0, .int .i64 0, .int .i64 0], .bool false]) (by simp [results, Tryz.results38, go_sem, d0, d1, d2, d3, d4, d5, d6, d7, d8, d9]) rfl ⟨rfl, ?_⟩
  iterate 18 refine Below.setCell ?_ (by simp) _
  exact B5

set_option maxRecDepth 100000 in
set_option maxHeartbeats 2000000 in
theorem tr_n2tt (s : ByteArray) (hs : s.size ≤ 1048576) (w : World) (h0 : 0 < s.size) (hp0 : (0 : Int) < (s.size : Int)) (h33 : (((s[0]'h0).toNat : Int) == 33) = true) (u : ByteArray) (hu0 : Hid (s.extract 1 s.size = u)) (hu1 : u.size ≤ 1048576) (k : Nat) (hk : k + 1 ≤ u.size) (c1 c2 : Cel) (hf : findC 60 u.data.toList = -1) (hf2 : findC 61 u.data.toList = (k : Int)) (hc1 : outC (readC (u.extract 0 k).data.toList) = c1) (hx1 : (readC (u.extract 0 k).data.toList).isSome = true) (hc2 : outC (readC (u.extract (k + 1) u.size).data.toList) = c2) (hx2 : (readC (u.extract (k + 1) u.size).data.toList).isSome = true) :
    Calls Tryz.prog 38 #[.string s] w fun e w' => e = .returned (.tuple #[.agg #[.int .i64 2, .bool true, .int .i64 c1.k, .int .i64 c1.a, .int .i64 c1.b, .int .i64 c1.n, .int .i64 c2.k, .int .i64 c2.a, .int .i64 c2.b, .int .i64 c2.n], .bool true]) ∧ Below w.heap.size w w' := by
  obtain ⟨pk, pa, pb, pn⟩ := c1
  obtain ⟨qk, qa, qb, qn⟩ := c2
  try simp only
  have hus : u.size ≤ 1048576 := hu1
  go_enter Tryz.func38, Tryz.ntmps38
  go_wp2_with fail
  rw [hu0.out]
  refine (l12Find_60 u hu1 _).mono ?_
  rw [hf]
  rintro e w1 ⟨rfl, rfl⟩
  go_wp2_with fail
  skip
  refine (l12Find_61 u hu1 _).mono ?_
  rw [hf2]
  rintro e w2 ⟨rfl, rfl⟩
  have zr0 := at_below (alloc_at w (.cells #[.int .i64 0, .bool false, .int .i64 0, .int .i64 0, .int .i64 0, .int .i64 0, .int .i64 0, .int .i64 0, .int .i64 0, .int .i64 0] 52)) (bel_alloc (.cells #[.int .i64 2, .bool true, .int .i64 0, .int .i64 0, .int .i64 0, .int .i64 0, .int .i64 0, .int .i64 0, .int .i64 0, .int .i64 0] 52))
  have zt0 := alloc_at (w.alloc (.cells #[.int .i64 0, .bool false, .int .i64 0, .int .i64 0, .int .i64 0, .int .i64 0, .int .i64 0, .int .i64 0, .int .i64 0, .int .i64 0] 52)) (.cells #[.int .i64 2, .bool true, .int .i64 0, .int .i64 0, .int .i64 0, .int .i64 0, .int .i64 0, .int .i64 0, .int .i64 0, .int .i64 0] 52)
  rw [alloc_size] at zt0
  go_wp2_with fail
  refine (specCellRead_any (u.extract 0 k) (by rw [ByteArray.size_extract]; omega) _).mono ?_
  rw [hc1, hx1]
  simp only
  rintro e w3 ⟨rfl, hb3⟩
  have zr3 := at_below zr0 hb3
  have zt3 := at_below zt0 hb3
  have B3 : Hid (Below w.heap.size w w3) := bel_then (bel_then (bel_alloc _) (bel_alloc _)) hb3
  have hs3 : w.heap.size + 1 < w3.heap.size := (Array.getElem?_eq_some_iff.1 zt3).1
  clear hb3 zr0 zt0
  go_wp2_with fail
  refine (specCellRead_any (u.extract (k + 1) u.size) (by rw [ByteArray.size_extract]; omega) _).mono ?_
  rw [hc2, hx2]
  simp only
  rintro e w4 ⟨rfl, hb4⟩
  have X4 := (Box4.start w3 ⟨pk, pa, pb, pn⟩ _).below hb4
  have hs4 : w3.heap.size < w4.heap.size := X4.1
  have BB := bel_alloc (w := w4) (.cells #[.int .i64 qk, .int .i64 qa, .int .i64 qb, .int .i64 qn] 40)
  have zr := at_below (at_below zr3 (bel_then (bel_alloc (.cells #[.int .i64 pk, .int .i64 pa, .int .i64 pb, .int .i64 pn] 40)) hb4)) BB
  have zt := at_below (at_below zt3 (bel_then (bel_alloc (.cells #[.int .i64 pk, .int .i64 pa, .int .i64 pb, .int .i64 pn] 40)) hb4)) BB
  have X5 := X4.below BB
  have B5 : Below w.heap.size w (w4.alloc (.cells #[.int .i64 qk, .int .i64 qa, .int .i64 qb, .int .i64 qn] 40)) := bel_then B3.out (bel_then (bel_alloc (.cells #[.int .i64 pk, .int .i64 pa, .int .i64 pb, .int .i64 pn] 40)) (bel_then hb4 BB))
  clear hb4 zr3 zt3 X4 BB
  obtain ⟨_, a0, a1, a2, a3⟩ := X5
  simp only at a0 a1 a2 a3
  obtain ⟨⟨d0, d1, d2, d3, d4, d5, d6, d7, d8, d9⟩, e0, e1, e2, e3, e4, e5, e6, e7, e8, e9⟩ := ten_cells zr
  obtain ⟨⟨t0, t1, t2, t3, t4, t5, t6, t7, t8, t9⟩, u0, u1, u2, u3, u4, u5, u6, u7, u8, u9⟩ := ten_cells zt
  clear zr zt
  have n1 : w.heap.size ≠ w.heap.size + 1 := by omega
  have n2 : w.heap.size + 1 ≠ w.heap.size := by omega
  have n3 : w3.heap.size ≠ w.heap.size + 1 := by omega
  have n4 : w3.heap.size ≠ w.heap.size := by omega
  have n5 : w4.heap.size ≠ w.heap.size + 1 := by omega
  have n6 : w4.heap.size ≠ w.heap.size := by omega
  have n7 : w.heap.size + 1 ≠ w3.heap.size := by omega
  have n8 : w.heap.size + 1 ≠ w4.heap.size := by omega
  go_wp2
  refine bodyPost_ret (v := .tuple #[.agg #[.int .i64 2, .bool true, .int .i64 pk, .int .i64 pa, .int .i64 pb, .int .i64 pn, .int .i64 qk, .int .i64 qa, .int .i64 qb, .int .i64 qn], .bool true]) (by simp [results, Tryz.results38, go_sem, d0, d1, d2, d3, d4, d5, d6, d7, d8, d9]) rfl ⟨rfl, ?_⟩
  iterate 18 refine Below.setCell ?_ (by simp) _
  exact B5

set_option maxRecDepth 100000 in
set_option maxHeartbeats 2000000 in
theorem tr_n2tf (s : ByteArray) (hs : s.size ≤ 1048576) (w : World) (h0 : 0 < s.size) (hp0 : (0 : Int) < (s.size : Int)) (h33 : (((s[0]'h0).toNat : Int) == 33) = true) (u : ByteArray) (hu0 : Hid (s.extract 1 s.size = u)) (hu1 : u.size ≤ 1048576) (k : Nat) (hk : k + 1 ≤ u.size) (c1 c2 : Cel) (hf : findC 60 u.data.toList = -1) (hf2 : findC 61 u.data.toList = (k : Int)) (hc1 : outC (readC (u.extract 0 k).data.toList) = c1) (hx1 : (readC (u.extract 0 k).data.toList).isSome = true) (hc2 : outC (readC (u.extract (k + 1) u.size).data.toList) = c2) (hx2 : (readC (u.extract (k + 1) u.size).data.toList).isSome = false) :
    Calls Tryz.prog 38 #[.string s] w fun e w' => e = .returned (.tuple #[.agg #[.int .i64 0, .bool false, .int .i64 0, .int .i64 0, .int .i64 0, .int .i64 0, .int .i64 0, .int .i64 0, .int .i64 0, .int .i64 0], .bool false]) ∧ Below w.heap.size w w' := by
  obtain ⟨pk, pa, pb, pn⟩ := c1
  obtain ⟨qk, qa, qb, qn⟩ := c2
  try simp only
  have hus : u.size ≤ 1048576 := hu1
  go_enter Tryz.func38, Tryz.ntmps38
  go_wp2_with fail
  rw [hu0.out]
  refine (l12Find_60 u hu1 _).mono ?_
  rw [hf]
  rintro e w1 ⟨rfl, rfl⟩
  go_wp2_with fail
  skip
  refine (l12Find_61 u hu1 _).mono ?_
  rw [hf2]
  rintro e w2 ⟨rfl, rfl⟩
  have zr0 := at_below (alloc_at w (.cells #[.int .i64 0, .bool false, .int .i64 0, .int .i64 0, .int .i64 0, .int .i64 0, .int .i64 0, .int .i64 0, .int .i64 0, .int .i64 0] 52)) (bel_alloc (.cells #[.int .i64 2, .bool true, .int .i64 0, .int .i64 0, .int .i64 0, .int .i64 0, .int .i64 0, .int .i64 0, .int .i64 0, .int .i64 0] 52))
  have zt0 := alloc_at (w.alloc (.cells #[.int .i64 0, .bool false, .int .i64 0, .int .i64 0, .int .i64 0, .int .i64 0, .int .i64 0, .int .i64 0, .int .i64 0, .int .i64 0] 52)) (.cells #[.int .i64 2, .bool true, .int .i64 0, .int .i64 0, .int .i64 0, .int .i64 0, .int .i64 0, .int .i64 0, .int .i64 0, .int .i64 0] 52)
  rw [alloc_size] at zt0
  go_wp2_with fail
  refine (specCellRead_any (u.extract 0 k) (by rw [ByteArray.size_extract]; omega) _).mono ?_
  rw [hc1, hx1]
  simp only
  rintro e w3 ⟨rfl, hb3⟩
  have zr3 := at_below zr0 hb3
  have zt3 := at_below zt0 hb3
  have B3 : Hid (Below w.heap.size w w3) := bel_then (bel_then (bel_alloc _) (bel_alloc _)) hb3
  have hs3 : w.heap.size + 1 < w3.heap.size := (Array.getElem?_eq_some_iff.1 zt3).1
  clear hb3 zr0 zt0
  go_wp2_with fail
  refine (specCellRead_any (u.extract (k + 1) u.size) (by rw [ByteArray.size_extract]; omega) _).mono ?_
  rw [hc2, hx2]
  simp only
  rintro e w4 ⟨rfl, hb4⟩
  have X4 := (Box4.start w3 ⟨pk, pa, pb, pn⟩ _).below hb4
  have hs4 : w3.heap.size < w4.heap.size := X4.1
  have BB := bel_alloc (w := w4) (.cells #[.int .i64 qk, .int .i64 qa, .int .i64 qb, .int .i64 qn] 40)
  have zr := at_below (at_below zr3 (bel_then (bel_alloc (.cells #[.int .i64 pk, .int .i64 pa, .int .i64 pb, .int .i64 pn] 40)) hb4)) BB
  have zt := at_below (at_below zt3 (bel_then (bel_alloc (.cells #[.int .i64 pk, .int .i64 pa, .int .i64 pb, .int .i64 pn] 40)) hb4)) BB
  have X5 := X4.below BB
  have B5 : Below w.heap.size w (w4.alloc (.cells #[.int .i64 qk, .int .i64 qa, .int .i64 qb, .int .i64 qn] 40)) := bel_then B3.out (bel_then (bel_alloc (.cells #[.int .i64 pk, .int .i64 pa, .int .i64 pb, .int .i64 pn] 40)) (bel_then hb4 BB))
  clear hb4 zr3 zt3 X4 BB
  obtain ⟨_, a0, a1, a2, a3⟩ := X5
  simp only at a0 a1 a2 a3
  obtain ⟨⟨d0, d1, d2, d3, d4, d5, d6, d7, d8, d9⟩, e0, e1, e2, e3, e4, e5, e6, e7, e8, e9⟩ := ten_cells zr
  obtain ⟨⟨t0, t1, t2, t3, t4, t5, t6, t7, t8, t9⟩, u0, u1, u2, u3, u4, u5, u6, u7, u8, u9⟩ := ten_cells zt
  clear zr zt
  have n1 : w.heap.size ≠ w.heap.size + 1 := by omega
  have n2 : w.heap.size + 1 ≠ w.heap.size := by omega
  have n3 : w3.heap.size ≠ w.heap.size + 1 := by omega
  have n4 : w3.heap.size ≠ w.heap.size := by omega
  have n5 : w4.heap.size ≠ w.heap.size + 1 := by omega
  have n6 : w4.heap.size ≠ w.heap.size := by omega
  have n7 : w.heap.size + 1 ≠ w3.heap.size := by omega
  have n8 : w.heap.size + 1 ≠ w4.heap.size := by omega
  go_wp2
  refine bodyPost_ret (v := .tuple #[.agg #[.int .i64 0, .bool false, .int .i64 0, .int .i64 0, .int .i64 0, .int .i64 0, .int .i64 0, .int .i64 0, .int .i64 0, .int .i64 0], .bool false]) (by simp [results, Tryz.results38, go_sem, d0, d1, d2, d3, d4, d5, d6, d7, d8, d9]) rfl ⟨rfl, ?_⟩
  iterate 18 refine Below.setCell ?_ (by simp) _
  exact B5

set_option maxRecDepth 100000 in
set_option maxHeartbeats 2000000 in
theorem tr_n2ft (s : ByteArray) (hs : s.size ≤ 1048576) (w : World) (h0 : 0 < s.size) (hp0 : (0 : Int) < (s.size : Int)) (h33 : (((s[0]'h0).toNat : Int) == 33) = true) (u : ByteArray) (hu0 : Hid (s.extract 1 s.size = u)) (hu1 : u.size ≤ 1048576) (k : Nat) (hk : k + 1 ≤ u.size) (c1 c2 : Cel) (hf : findC 60 u.data.toList = -1) (hf2 : findC 61 u.data.toList = (k : Int)) (hc1 : outC (readC (u.extract 0 k).data.toList) = c1) (hx1 : (readC (u.extract 0 k).data.toList).isSome = false) (hc2 : outC (readC (u.extract (k + 1) u.size).data.toList) = c2) (hx2 : (readC (u.extract (k + 1) u.size).data.toList).isSome = true) :
    Calls Tryz.prog 38 #[.string s] w fun e w' => e = .returned (.tuple #[.agg #[.int .i64 0, .bool false, .int .i64 0, .int .i64 0, .int .i64 0, .int .i64 0, .int .i64 0, .int .i64 0, .int .i64 0, .int .i64 0], .bool false]) ∧ Below w.heap.size w w' := by
  obtain ⟨pk, pa, pb, pn⟩ := c1
  obtain ⟨qk, qa, qb, qn⟩ := c2
  try simp only
  have hus : u.size ≤ 1048576 := hu1
  go_enter Tryz.func38, Tryz.ntmps38
  go_wp2_with fail
  rw [hu0.out]
  refine (l12Find_60 u hu1 _).mono ?_
  rw [hf]
  rintro e w1 ⟨rfl, rfl⟩
  go_wp2_with fail
  skip
  refine (l12Find_61 u hu1 _).mono ?_
  rw [hf2]
  rintro e w2 ⟨rfl, rfl⟩
  have zr0 := at_below (alloc_at w (.cells #[.int .i64 0, .bool false, .int .i64 0, .int .i64 0, .int .i64 0, .int .i64 0, .int .i64 0, .int .i64 0, .int .i64 0, .int .i64 0] 52)) (bel_alloc (.cells #[.int .i64 2, .bool true, .int .i64 0, .int .i64 0, .int .i64 0, .int .i64 0, .int .i64 0, .int .i64 0, .int .i64 0, .int .i64 0] 52))
  have zt0 := alloc_at (w.alloc (.cells #[.int .i64 0, .bool false, .int .i64 0, .int .i64 0, .int .i64 0, .int .i64 0, .int .i64 0, .int .i64 0, .int .i64 0, .int .i64 0] 52)) (.cells #[.int .i64 2, .bool true, .int .i64 0, .int .i64 0, .int .i64 0, .int .i64 0, .int .i64 0, .int .i64 0, .int .i64 0, .int .i64 0] 52)
  rw [alloc_size] at zt0
  go_wp2_with fail
  refine (specCellRead_any (u.extract 0 k) (by rw [ByteArray.size_extract]; omega) _).mono ?_
  rw [hc1, hx1]
  simp only
  rintro e w3 ⟨rfl, hb3⟩
  have zr3 := at_below zr0 hb3
  have zt3 := at_below zt0 hb3
  have B3 : Hid (Below w.heap.size w w3) := bel_then (bel_then (bel_alloc _) (bel_alloc _)) hb3
  have hs3 : w.heap.size + 1 < w3.heap.size := (Array.getElem?_eq_some_iff.1 zt3).1
  clear hb3 zr0 zt0
  go_wp2_with fail
  refine (specCellRead_any (u.extract (k + 1) u.size) (by rw [ByteArray.size_extract]; omega) _).mono ?_
  rw [hc2, hx2]
  simp only
  rintro e w4 ⟨rfl, hb4⟩
  have X4 := (Box4.start w3 ⟨pk, pa, pb, pn⟩ _).below hb4
  have hs4 : w3.heap.size < w4.heap.size := X4.1
  have BB := bel_alloc (w := w4) (.cells #[.int .i64 qk, .int .i64 qa, .int .i64 qb, .int .i64 qn] 40)
  have zr := at_below (at_below zr3 (bel_then (bel_alloc (.cells #[.int .i64 pk, .int .i64 pa, .int .i64 pb, .int .i64 pn] 40)) hb4)) BB
  have zt := at_below (at_below zt3 (bel_then (bel_alloc (.cells #[.int .i64 pk, .int .i64 pa, .int .i64 pb, .int .i64 pn] 40)) hb4)) BB
  have X5 := X4.below BB
  have B5 : Below w.heap.size w (w4.alloc (.cells #[.int .i64 qk, .int .i64 qa, .int .i64 qb, .int .i64 qn] 40)) := bel_then B3.out (bel_then (bel_alloc (.cells #[.int .i64 pk, .int .i64 pa, .int .i64 pb, .int .i64 pn] 40)) (bel_then hb4 BB))
  clear hb4 zr3 zt3 X4 BB
  obtain ⟨_, a0, a1, a2, a3⟩ := X5
  simp only at a0 a1 a2 a3
  obtain ⟨⟨d0, d1, d2, d3, d4, d5, d6, d7, d8, d9⟩, e0, e1, e2, e3, e4, e5, e6, e7, e8, e9⟩ := ten_cells zr
  obtain ⟨⟨t0, t1, t2, t3, t4, t5, t6, t7, t8, t9⟩, u0, u1, u2, u3, u4, u5, u6, u7, u8, u9⟩ := ten_cells zt
  clear zr zt
  have n1 : w.heap.size ≠ w.heap.size + 1 := by omega
  have n2 : w.heap.size + 1 ≠ w.heap.size := by omega
  have n3 : w3.heap.size ≠ w.heap.size + 1 := by omega
  have n4 : w3.heap.size ≠ w.heap.size := by omega
  have n5 : w4.heap.size ≠ w.heap.size + 1 := by omega
  have n6 : w4.heap.size ≠ w.heap.size := by omega
  have n7 : w.heap.size + 1 ≠ w3.heap.size := by omega
  have n8 : w.heap.size + 1 ≠ w4.heap.size := by omega
  go_wp2
  refine bodyPost_ret (v := .tuple #[.agg #[.int .i64 0, .bool false, .int .i64 0, .int .i64 0, .int .i64 0, .int .i64 0, .int .i64 0, .int .i64 0, .int .i64 0, .int .i64 0], .bool false]) (by simp [results, Tryz.results38, go_sem, d0, d1, d2, d3, d4, d5, d6, d7, d8, d9]) rfl ⟨rfl, ?_⟩
  iterate 18 refine Below.setCell ?_ (by simp) _
  exact B5

set_option maxRecDepth 100000 in
set_option maxHeartbeats 2000000 in
theorem tr_n2ff (s : ByteArray) (hs : s.size ≤ 1048576) (w : World) (h0 : 0 < s.size) (hp0 : (0 : Int) < (s.size : Int)) (h33 : (((s[0]'h0).toNat : Int) == 33) = true) (u : ByteArray) (hu0 : Hid (s.extract 1 s.size = u)) (hu1 : u.size ≤ 1048576) (k : Nat) (hk : k + 1 ≤ u.size) (c1 c2 : Cel) (hf : findC 60 u.data.toList = -1) (hf2 : findC 61 u.data.toList = (k : Int)) (hc1 : outC (readC (u.extract 0 k).data.toList) = c1) (hx1 : (readC (u.extract 0 k).data.toList).isSome = false) (hc2 : outC (readC (u.extract (k + 1) u.size).data.toList) = c2) (hx2 : (readC (u.extract (k + 1) u.size).data.toList).isSome = false) :
    Calls Tryz.prog 38 #[.string s] w fun e w' => e = .returned (.tuple #[.agg #[.int .i64 0, .bool false, .int .i64 0, .int .i64 0, .int .i64 0, .int .i64 0, .int .i64 0, .int .i64 0, .int .i64 0, .int .i64 0], .bool false]) ∧ Below w.heap.size w w' := by
  obtain ⟨pk, pa, pb, pn⟩ := c1
  obtain ⟨qk, qa, qb, qn⟩ := c2
  try simp only
  have hus : u.size ≤ 1048576 := hu1
  go_enter Tryz.func38, Tryz.ntmps38
  go_wp2_with fail
  rw [hu0.out]
  refine (l12Find_60 u hu1 _).mono ?_
  rw [hf]
  rintro e w1 ⟨rfl, rfl⟩
  go_wp2_with fail
  skip
  refine (l12Find_61 u hu1 _).mono ?_
  rw [hf2]
  rintro e w2 ⟨rfl, rfl⟩
  have zr0 := at_below (alloc_at w (.cells #[.int .i64 0, .bool false, .int .i64 0, .int .i64 0, .int .i64 0, .int .i64 0, .int .i64 0, .int .i64 0, .int .i64 0, .int .i64 0] 52)) (bel_alloc (.cells #[.int .i64 2, .bool true, .int .i64 0, .int .i64 0, .int .i64 0, .int .i64 0, .int .i64 0, .int .i64 0, .int .i64 0, .int .i64 0] 52))
  have zt0 := alloc_at (w.alloc (.cells #[.int .i64 0, .bool false, .int .i64 0, .int .i64 0, .int .i64 0, .int .i64 0, .int .i64 0, .int .i64 0, .int .i64 0, .int .i64 0] 52)) (.cells #[.int .i64 2, .bool true, .int .i64 0, .int .i64 0, .int .i64 0, .int .i64 0, .int .i64 0, .int .i64 0, .int .i64 0, .int .i64 0] 52)
  rw [alloc_size] at zt0
  go_wp2_with fail
  refine (specCellRead_any (u.extract 0 k) (by rw [ByteArray.size_extract]; omega) _).mono ?_
  rw [hc1, hx1]
  simp only
  rintro e w3 ⟨rfl, hb3⟩
  have zr3 := at_below zr0 hb3
  have zt3 := at_below zt0 hb3
  have B3 : Hid (Below w.heap.size w w3) := bel_then (bel_then (bel_alloc _) (bel_alloc _)) hb3
  have hs3 : w.heap.size + 1 < w3.heap.size := (Array.getElem?_eq_some_iff.1 zt3).1
  clear hb3 zr0 zt0
  go_wp2_with fail
  refine (specCellRead_any (u.extract (k + 1) u.size) (by rw [ByteArray.size_extract]; omega) _).mono ?_
  rw [hc2, hx2]
  simp only
  rintro e w4 ⟨rfl, hb4⟩
  have X4 := (Box4.start w3 ⟨pk, pa, pb, pn⟩ _).below hb4
  have hs4 : w3.heap.size < w4.heap.size := X4.1
  have BB := bel_alloc (w := w4) (.cells #[.int .i64 qk, .int .i64 qa, .int .i64 qb, .int .i64 qn] 40)
  have zr := at_below (at_below zr3 (bel_then (bel_alloc (.cells #[.int .i64 pk, .int .i64 pa, .int .i64 pb, .int .i64 pn] 40)) hb4)) BB
  have zt := at_below (at_below zt3 (bel_then (bel_alloc (.cells #[.int .i64 pk, .int .i64 pa, .int .i64 pb, .int .i64 pn] 40)) hb4)) BB
  have X5 := X4.below BB
  have B5 : Below w.heap.size w (w4.alloc (.cells #[.int .i64 qk, .int .i64 qa, .int .i64 qb, .int .i64 qn] 40)) := bel_then B3.out (bel_then (bel_alloc (.cells #[.int .i64 pk, .int .i64 pa, .int .i64 pb, .int .i64 pn] 40)) (bel_then hb4 BB))
  clear hb4 zr3 zt3 X4 BB
  obtain ⟨_, a0, a1, a2, a3⟩ := X5
  simp only at a0 a1 a2 a3
  obtain ⟨⟨d0, d1, d2, d3, d4, d5, d6, d7, d8, d9⟩, e0, e1, e2, e3, e4, e5, e6, e7, e8, e9⟩ := ten_cells zr
  obtain ⟨⟨t0, t1, t2, t3, t4, t5, t6, t7, t8, t9⟩, u0, u1, u2, u3, u4, u5, u6, u7, u8, u9⟩ := ten_cells zt
  clear zr zt
  have n1 : w.heap.size ≠ w.heap.size + 1 := by omega
  have n2 : w.heap.size + 1 ≠ w.heap.size := by omega
  have n3 : w3.heap.size ≠ w.heap.size + 1 := by omega
  have n4 : w3.heap.size ≠ w.heap.size := by omega
  have n5 : w4.heap.size ≠ w.heap.size + 1 := by omega
  have n6 : w4.heap.size ≠ w.heap.size := by omega
  have n7 : w.heap.size + 1 ≠ w3.heap.size := by omega
  have n8 : w.heap.size + 1 ≠ w4.heap.size := by omega
  go_wp2
  refine bodyPost_ret (v := .tuple #[.agg #[.int .i64 0, .bool false, .int .i64 0, .int .i64 0, .int .i64 0, .int .i64 0, .int .i64 0, .int .i64 0, .int .i64 0, .int .i64 0], .bool false]) (by simp [results, Tryz.results38, go_sem, d0, d1, d2, d3, d4, d5, d6, d7, d8, d9]) rfl ⟨rfl, ?_⟩
  iterate 18 refine Below.setCell ?_ (by simp) _
  exact B5

set_option maxRecDepth 100000 in
set_option maxHeartbeats 2000000 in
theorem tr_p0 (s : ByteArray) (hs : s.size ≤ 1048576) (w : World) (h0 : 0 < s.size) (hp0 : (0 : Int) < (s.size : Int)) (h33 : (((s[0]'h0).toNat : Int) == 33) = false) (hf : findC 60 s.data.toList = -1) (hf2 : findC 61 s.data.toList = -1) :
    Calls Tryz.prog 38 #[.string s] w fun e w' => e = .returned (.tuple #[.agg #[.int .i64 0, .bool false, .int .i64 0, .int .i64 0, .int .i64 0, .int .i64 0, .int .i64 0, .int .i64 0, .int .i64 0, .int .i64 0], .bool false]) ∧ Below w.heap.size w w' := by
  go_enter Tryz.func38, Tryz.ntmps38
  go_wp2_with fail
  skip
  refine (l12Find_60 s hs _).mono ?_
  rw [hf]
  rintro e w1 ⟨rfl, rfl⟩
  go_wp2_with fail
  skip
  refine (l12Find_61 s hs _).mono ?_
  rw [hf2]
  rintro e w2 ⟨rfl, rfl⟩
  go_wp2
  refine bodyPost_ret (v := .tuple #[.agg #[.int .i64 0, .bool false, .int .i64 0, .int .i64 0, .int .i64 0, .int .i64 0, .int .i64 0, .int .i64 0, .int .i64 0, .int .i64 0], .bool false]) (by simp [results, Tryz.results38, go_sem]) rfl ⟨rfl, ?_⟩
  exact bel_then (bel_alloc _) (bel_alloc _)

set_option maxRecDepth 100000 in
set_option maxHeartbeats 2000000 in
theorem tr_p1tt (s : ByteArray) (hs : s.size ≤ 1048576) (w : World) (h0 : 0 < s.size) (hp0 : (0 : Int) < (s.size : Int)) (h33 : (((s[0]'h0).toNat : Int) == 33) = false) (k : Nat) (hk : k + 1 ≤ s.size) (c1 c2 : Cel) (hf : findC 60 s.data.toList = (k : Int)) (hc1 : outC (readC (s.extract 0 k).data.toList) = c1) (hx1 : (readC (s.extract 0 k).data.toList).isSome = true) (hc2 : outC (readC (s.extract (k + 1) s.size).data.toList) = c2) (hx2 : (readC (s.extract (k + 1) s.size).data.toList).isSome = true) :
    Calls Tryz.prog 38 #[.string s] w fun e w' => e = .returned (.tuple #[.agg #[.int .i64 1, .bool false, .int .i64 c1.k, .int .i64 c1.a, .int .i64 c1.b, .int .i64 c1.n, .int .i64 c2.k, .int .i64 c2.a, .int .i64 c2.b, .int .i64 c2.n], .bool true]) ∧ Below w.heap.size w w' := by
  obtain ⟨pk, pa, pb, pn⟩ := c1
  obtain ⟨qk, qa, qb, qn⟩ := c2
  try simp only
  have hus : s.size ≤ 1048576 := hs
  go_enter Tryz.func38, Tryz.ntmps38
  go_wp2_with fail
  skip
  refine (l12Find_60 s hs _).mono ?_
  rw [hf]
  rintro e w1 ⟨rfl, rfl⟩
  have zr0 := at_below (alloc_at w (.cells #[.int .i64 0, .bool false, .int .i64 0, .int .i64 0, .int .i64 0, .int .i64 0, .int .i64 0, .int .i64 0, .int .i64 0, .int .i64 0] 52)) (bel_alloc (.cells #[.int .i64 1, .bool false, .int .i64 0, .int .i64 0, .int .i64 0, .int .i64 0, .int .i64 0, .int .i64 0, .int .i64 0, .int .i64 0] 52))
  have zt0 := alloc_at (w.alloc (.cells #[.int .i64 0, .bool false, .int .i64 0, .int .i64 0, .int .i64 0, .int .i64 0, .int .i64 0, .int .i64 0, .int .i64 0, .int .i64 0] 52)) (.cells #[.int .i64 1, .bool false, .int .i64 0, .int .i64 0, .int .i64 0, .int .i64 0, .int .i64 0, .int .i64 0, .int .i64 0, .int .i64 0] 52)
  rw [alloc_size] at zt0
  go_wp2_with fail
  refine (specCellRead_any (s.extract 0 k) (by rw [ByteArray.size_extract]; omega) _).mono ?_
  rw [hc1, hx1]
  simp only
  rintro e w3 ⟨rfl, hb3⟩
  have zr3 := at_below zr0 hb3
  have zt3 := at_below zt0 hb3
  have B3 : Hid (Below w.heap.size w w3) := bel_then (bel_then (bel_alloc _) (bel_alloc _)) hb3
  have hs3 : w.heap.size + 1 < w3.heap.size := (Array.getElem?_eq_some_iff.1 zt3).1
  clear hb3 zr0 zt0
  go_wp2_with fail
  refine (specCellRead_any (s.extract (k + 1) s.size) (by rw [ByteArray.size_extract]; omega) _).mono ?_
  rw [hc2, hx2]
  simp only
  rintro e w4 ⟨rfl, hb4⟩
  have X4 := (Box4.start w3 ⟨pk, pa, pb, pn⟩ _).below hb4
  have hs4 : w3.heap.size < w4.heap.size := X4.1
  have BB := bel_alloc (w := w4) (.cells #[.int .i64 qk, .int .i64 qa, .int .i64 qb, .int .i64 qn] 40)
  have zr := at_below (at_below zr3 (bel_then (bel_alloc (.cells #[.int .i64 pk, .int .i64 pa, .int .i64 pb, .int .i64 pn] 40)) hb4)) BB
  have zt := at_below (at_below zt3 (bel_then (bel_alloc (.cells #[.int .i64 pk, .int .i64 pa, .int .i64 pb, .int .i64 pn] 40)) hb4)) BB
  have X5 := X4.below BB
  have B5 : Below w.heap.size w (w4.alloc (.cells #[.int .i64 qk, .int .i64 qa, .int .i64 qb, .int .i64 qn] 40)) := bel_then B3.out (bel_then (bel_alloc (.cells #[.int .i64 pk, .int .i64 pa, .int .i64 pb, .int .i64 pn] 40)) (bel_then hb4 BB))
  clear hb4 zr3 zt3 X4 BB
  obtain ⟨_, a0, a1, a2, a3⟩ := X5
  simp only at a0 a1 a2 a3
  obtain ⟨⟨d0, d1, d2, d3, d4, d5, d6, d7, d8, d9⟩, e0, e1, e2, e3, e4, e5, e6, e7, e8, e9⟩ := ten_cells zr
  obtain ⟨⟨t0, t1, t2, t3, t4, t5, t6, t7, t8, t9⟩, u0, u1, u2, u3, u4, u5, u6, u7, u8, u9⟩ := ten_cells zt
  clear zr zt
  have n1 : w.heap.size ≠ w.heap.size + 1 := by omega
  have n2 : w.heap.size + 1 ≠ w.heap.size := by omega
  have n3 : w3.heap.size ≠ w.heap.size + 1 := by omega
  have n4 : w3.heap.size ≠ w.heap.size := by omega
  have n5 : w4.heap.size ≠ w.heap.size + 1 := by omega
  have n6 : w4.heap.size ≠ w.heap.size := by omega
  have n7 : w.heap.size + 1 ≠ w3.heap.size := by omega
  have n8 : w.heap.size + 1 ≠ w4.heap.size := by omega
  go_wp2
  refine bodyPost_ret (v := .tuple #[.agg #[.int .i64 1, .bool false, .int .i64 pk, .int .i64 pa, .int .i64 pb, .int .i64 pn, .int .i64 qk, .int .i64 qa, .int .i64 qb, .int .i64 qn], .bool true]) (by simp [results, Tryz.results38, go_sem, d0, d1, d2, d3, d4, d5, d6, d7, d8, d9]) rfl ⟨rfl, ?_⟩
  iterate 18 refine Below.setCell ?_ (by simp) _
  exact B5

set_option maxRecDepth 100000 in
set_option maxHeartbeats 2000000 in
theorem tr_p1tf (s : ByteArray) (hs : s.size ≤ 1048576) (w : World) (h0 : 0 < s.size) (hp0 : (0 : Int) < (s.size : Int)) (h33 : (((s[0]'h0).toNat : Int) == 33) = false) (k : Nat) (hk : k + 1 ≤ s.size) (c1 c2 : Cel) (hf : findC 60 s.data.toList = (k : Int)) (hc1 : outC (readC (s.extract 0 k).data.toList) = c1) (hx1 : (readC (s.extract 0 k).data.toList).isSome = true) (hc2 : outC (readC (s.extract (k + 1) s.size).data.toList) = c2) (hx2 : (readC (s.extract (k + 1) s.size).data.toList).isSome = false) :
    Calls Tryz.prog 38 #[.string s] w fun e w' => e = .returned (.tuple #[.agg #[.int .i64 0, .bool false, .int .i64 0, .int .i64 0, .int .i64 0, .int .i64 0, .int .i64 0, .int .i64 0, .int .i64 0, .int .i64 0], .bool false]) ∧ Below w.heap.size w w' := by
  obtain ⟨pk, pa, pb, pn⟩ := c1
  obtain ⟨qk, qa, qb, qn⟩ := c2
  try simp only
  have hus : s.size ≤ 1048576 := hs
  go_enter Tryz.func38, Tryz.ntmps38
  go_wp2_with fail
  skip
  refine (l12Find_60 s hs _).mono ?_
  rw [hf]
  rintro e w1 ⟨rfl, rfl⟩
  have zr0 := at_below (alloc_at w (.cells #[.int .i64 0, .bool false, .int .i64 0, .int .i64 0, .int .i64 0, .int .i64 0, .int .i64 0, .int .i64 0, .int .i64 0, .int .i64 0] 52)) (bel_alloc (.cells #[.int .i64 1, .bool false, .int .i64 0, .int .i64 0, .int .i64 0, .int .i64 0, .int .i64 0, .int .i64 0, .int .i64 0, .int .i64 0] 52))
  have zt0 := alloc_at (w.alloc (.cells #[.int .i64 0, .bool false, .int .i64 0, .int .i64 0, .int .i64 0, .int .i64 0, .int .i64 0, .int .i64 0, .int .i64 0, .int .i64 0] 52)) (.cells #[.int .i64 1, .bool false, .int .i64 0, .int .i64 0, .int .i64 0, .int .i64 0, .int .i64 0, .int .i64 0, .int .i64 0, .int .i64 0] 52)
  rw [alloc_size] at zt0
  go_wp2_with fail
  refine (specCellRead_any (s.extract 0 k) (by rw [ByteArray.size_extract]; omega) _).mono ?_
  rw [hc1, hx1]
  simp only
  rintro e w3 ⟨rfl, hb3⟩
  have zr3 := at_below zr0 hb3
  have zt3 := at_below zt0 hb3
  have B3 : Hid (Below w.heap.size w w3) := bel_then (bel_then (bel_alloc _) (bel_alloc _)) hb3
  have hs3 : w.heap.size + 1 < w3.heap.size := (Array.getElem?_eq_some_iff.1 zt3).1
  clear hb3 zr0 zt0
  go_wp2_with fail
  refine (specCellRead_any (s.extract (k + 1) s.size) (by rw [ByteArray.size_extract]; omega) _).mono ?_
  rw [hc2, hx2]
  simp only
  rintro e w4 ⟨rfl, hb4⟩
  have X4 := (Box4.start w3 ⟨pk, pa, pb, pn⟩ _).below hb4
  have hs4 : w3.heap.size < w4.heap.size := X4.1
  have BB := bel_alloc (w := w4) (.cells #[.int .i64 qk, .int .i64 qa, .int .i64 qb, .int .i64 qn] 40)
  have zr := at_below (at_below zr3 (bel_then (bel_alloc (.cells #[.int .i64 pk, .int .i64 pa, .int .i64 pb, .int .i64 pn] 40)) hb4)) BB
  have zt := at_below (at_below zt3 (bel_then (bel_alloc (.cells #[.int .i64 pk, .int .i64 pa, .int .i64 pb, .int .i64 pn] 40)) hb4)) BB
  have X5 := X4.below BB
  have B5 : Below w.heap.size w (w4.alloc (.cells #[.int .i64 qk, .int .i64 qa, .int .i64 qb, .int .i64 qn] 40)) := bel_then B3.out (bel_then (bel_alloc (.cells #[.int .i64 pk, .int .i64 pa, .int .i64 pb, .int .i64 pn] 40)) (bel_then hb4 BB))
  clear hb4 zr3 zt3 X4 BB
  obtain ⟨_, a0, a1, a2, a3⟩ := X5
  simp only at a0 a1 a2 a3
  obtain ⟨⟨d0, d1, d2, d3, d4, d5, d6, d7, d8, d9⟩, e0, e1, e2, e3, e4, e5, e6, e7, e8, e9⟩ := ten_cells zr
  obtain ⟨⟨t0, t1, t2, t3, t4, t5, t6, t7, t8, t9⟩, u0, u1, u2, u3, u4, u5, u6, u7, u8, u9⟩ := ten_cells zt
  clear zr zt
  have n1 : w.heap.size ≠ w.heap.size + 1 := by omega
  have n2 : w.heap.size + 1 ≠ w.heap.size := by omega
  have n3 : w3.heap.size ≠ w.heap.size + 1 := by omega
  have n4 : w3.heap.size ≠ w.heap.size := by omega
  have n5 : w4.heap.size ≠ w.heap.size + 1 := by omega
  have n6 : w4.heap.size ≠ w.heap.size := by omega
  have n7 : w.heap.size + 1 ≠ w3.heap.size := by omega
  have n8 : w.heap.size + 1 ≠ w4.heap.size := by omega
  go_wp2
  refine bodyPost_ret (v := .tuple #[.agg #[.int .i64 0, .bool false, .int .i64 0, .int .i64 0, .int .i64 0, .int .i64 0, .int .i64 0, .int .i64 0, .int .i64 0, .int .i64 0], .bool false]) (by simp [results, Tryz.results38, go_sem, d0, d1, d2, d3, d4, d5, d6, d7, d8, d9]) rfl ⟨rfl, ?_⟩
  iterate 18 refine Below.setCell ?_ (by simp) _
  exact B5

set_option maxRecDepth 100000 in
set_option maxHeartbeats 2000000 in
theorem tr_p1ft (s : ByteArray) (hs : s.size ≤ 1048576) (w : World) (h0 : 0 < s.size) (hp0 : (0 : Int) < (s.size : Int)) (h33 : (((s[0]'h0).toNat : Int) == 33) = false) (k : Nat) (hk : k + 1 ≤ s.size) (c1 c2 : Cel) (hf : findC 60 s.data.toList = (k : Int)) (hc1 : outC (readC (s.extract 0 k).data.toList) = c1) (hx1 : (readC (s.extract 0 k).data.toList).isSome = false) (hc2 : outC (readC (s.extract (k + 1) s.size).data.toList) = c2) (hx2 : (readC (s.extract (k + 1) s.size).data.toList).isSome = true) :
    Calls Tryz.prog 38 #[.string s] w fun e w' => e = .returned (.tuple #[.agg #[.int .i64 0, .bool false, .int .i64 0, .int .i64 0, .int .i64 0, .int .i64 0, .int .i64 0, .int .i64 0, .int .i64 0, .int .i64 0], .bool false]) ∧ Below w.heap.size w w' := by
  obtain ⟨pk, pa, pb, pn⟩ := c1
  obtain ⟨qk, qa, qb, qn⟩ := c2
  try simp only
  have hus : s.size ≤ 1048576 := hs
  go_enter Tryz.func38, Tryz.ntmps38
  go_wp2_with fail
  skip
  refine (l12Find_60 s hs _).mono ?_
  rw [hf]
  rintro e w1 ⟨rfl, rfl⟩
  have zr0 := at_below (alloc_at w (.cells #[.int .i64 0, .bool false, .int .i64 0, .int .i64 0, .int .i64 0, .int .i64 0, .int .i64 0, .int .i64 0, .int .i64 0, .int .i64 0] 52)) (bel_alloc (.cells #[.int .i64 1, .bool false, .int .i64 0, .int .i64 0, .int .i64 0, .int .i64 0, .int .i64 0, .int .i64 0, .int .i64 0, .int .i64 0] 52))
  have zt0 := alloc_at (w.alloc (.cells #[.int .i64 0, .bool false, .int .i64 0, .int .i64 0, .int .i64 0, .int .i64 0, .int .i64 0, .int .i64 0, .int .i64 0, .int .i64 0] 52)) (.cells #[.int .i64 1, .bool false, .int .i64 0, .int .i64 0, .int .i64 0, .int .i64 0, .int .i64 0, .int .i64 0, .int .i64 0, .int .i64 0] 52)
  rw [alloc_size] at zt0
  go_wp2_with fail
  refine (specCellRead_any (s.extract 0 k) (by rw [ByteArray.size_extract]; omega) _).mono ?_
  rw [hc1, hx1]
  simp only
  rintro e w3 ⟨rfl, hb3⟩
  have zr3 := at_below zr0 hb3
  have zt3 := at_below zt0 hb3
  have B3 : Hid (Below w.heap.size w w3) := bel_then (bel_then (bel_alloc _) (bel_alloc _)) hb3
  have hs3 : w.heap.size + 1 < w3.heap.size := (Array.getElem?_eq_some_iff.1 zt3).1
  clear hb3 zr0 zt0
  go_wp2_with fail
  refine (specCellRead_any (s.extract (k + 1) s.size) (by rw [ByteArray.size_extract]; omega) _).mono ?_
  rw [hc2, hx2]
  simp only
  rintro e w4 ⟨rfl, hb4⟩
  have X4 := (Box4.start w3 ⟨pk, pa, pb, pn⟩ _).below hb4
  have hs4 : w3.heap.size < w4.heap.size := X4.1
  have BB := bel_alloc (w := w4) (.cells #[.int .i64 qk, .int .i64 qa, .int .i64 qb, .int .i64 qn] 40)
  have zr := at_below (at_below zr3 (bel_then (bel_alloc (.cells #[.int .i64 pk, .int .i64 pa, .int .i64 pb, .int .i64 pn] 40)) hb4)) BB
  have zt := at_below (at_below zt3 (bel_then (bel_alloc (.cells #[.int .i64 pk, .int .i64 pa, .int .i64 pb, .int .i64 pn] 40)) hb4)) BB
  have X5 := X4.below BB
  have B5 : Below w.heap.size w (w4.alloc (.cells #[.int .i64 qk, .int .i64 qa, .int .i64 qb, .int .i64 qn] 40)) := bel_then B3.out (bel_then (bel_alloc (.cells #[.int .i64 pk, .int .i64 pa, .int .i64 pb, .int .i64 pn] 40)) (bel_then hb4 BB))
  clear hb4 zr3 zt3 X4 BB
  obtain ⟨_, a0, a1, a2, a3⟩ := X5
  simp only at a0 a1 a2 a3
  obtain ⟨⟨d0, d1, d2, d3, d4, d5, d6, d7, d8, d9⟩, e0, e1, e2, e3, e4, e5, e6, e7, e8, e9⟩ := ten_cells zr
  obtain ⟨⟨t0, t1, t2, t3, t4, t5, t6, t7, t8, t9⟩, u0, u1, u2, u3, u4, u5, u6, u7, u8, u9⟩ := ten_cells zt
  clear zr zt
  have n1 : w.heap.size ≠ w.heap.size + 1 := by omega
  have n2 : w.heap.size + 1 ≠ w.heap.size := by omega
  have n3 : w3.heap.size ≠ w.heap.size + 1 := by omega
  have n4 : w3.heap.size ≠ w.heap.size := by omega
  have n5 : w4.heap.size ≠ w.heap.size + 1 := by omega
  have n6 : w4.heap.size ≠ w.heap.size := by omega
  have n7 : w.heap.size + 1 ≠ w3.heap.size := by omega
  have n8 : w.heap.size + 1 ≠ w4.heap.size := by omega
  go_wp2
  refine bodyPost_ret (v := .tuple #[.agg #[.int .i64 0, .bool false, .int .i64 0, .int .i64 0, .int .i64 0, .int .i64 0, .int .i64 0, .int .i64 0, .int .i64 0, .int .i64 0], .bool false]) (by simp [results, Tryz.results38, go_sem, d0, d1, d2, d3, d4, d5, d6, d7, d8, d9]) rfl ⟨rfl, ?_⟩
  iterate 18 refine Below.setCell ?_ (by simp) _
  exact B5

set_option maxRecDepth 100000 in
set_option maxHeartbeats 2000000 in
theorem tr_p1ff (s : ByteArray) (hs : s.size ≤ 1048576) (w : World) (h0 : 0 < s.size) (hp0 : (0 : Int) < (s.size : Int)) (h33 : (((s[0]'h0).toNat : Int) == 33) = false) (k : Nat) (hk : k + 1 ≤ s.size) (c1 c2 : Cel) (hf : findC 60 s.data.toList = (k : Int)) (hc1 : outC (readC (s.extract 0 k).data.toList) = c1) (hx1 : (readC (s.extract 0 k).data.toList).isSome = false) (hc2 : outC (readC (s.extract (k + 1) s.size).data.toList) = c2) (hx2 : (readC (s.extract (k + 1) s.size).data.toList).isSome = false) :
    Calls Tryz.prog 38 #[.string s] w fun e w' => e = .returned (.tuple #[.agg #[.int .i64 0, .bool false, .int .i64 0, .int .i64 0, .int .i64 0, .int .i64 0, .int .i64 0, .int .i64 0, .int .i64 0, .int .i64 0], .bool false]) ∧ Below w.heap.size w w' := by
  obtain ⟨pk, pa, pb, pn⟩ := c1
  obtain ⟨qk, qa, qb, qn⟩ := c2
  try simp only
  have hus : s.size ≤ 1048576 := hs
  go_enter Tryz.func38, Tryz.ntmps38
  go_wp2_with fail
  skip
  refine (l12Find_60 s hs _).mono ?_
  rw [hf]
  rintro e w1 ⟨rfl, rfl⟩
  have zr0 := at_below (alloc_at w (.cells #[.int .i64 0, .bool false, .int .i64 0, .int .i64 0, .int .i64 0, .int .i64 0, .int .i64 0, .int .i64 0, .int .i64 0, .int .i64 0] 52)) (bel_alloc (.cells #[.int .i64 1, .bool false, .int .i64 0, .int .i64 0, .int .i64 0, .int .i64 0, .int .i64 0, .int .i64 0, .int .i64 0, .int .i64 0] 52))
  have zt0 := alloc_at (w.alloc (.cells #[.int .i64 0, .bool false, .int .i64 0, .int .i64 0, .int .i64 0, .int .i64 0, .int .i64 0, .int .i64 0, .int .i64 0, .int .i64 0] 52)) (.cells #[.int .i64 1, .bool false, .int .i64 0, .int .i64 0, .int .i64 0, .int .i64 0, .int .i64 0, .int .i64 0, .int .i64 0, .int .i64 0] 52)
  rw [alloc_size] at zt0
  go_wp2_with fail
  refine (specCellRead_any (s.extract 0 k) (by rw [ByteArray.size_extract]; omega) _).mono ?_
  rw [hc1, hx1]
  simp only
  rintro e w3 ⟨rfl, hb3⟩
  have zr3 := at_below zr0 hb3
  have zt3 := at_below zt0 hb3
  have B3 : Hid (Below w.heap.size w w3) := bel_then (bel_then (bel_alloc _) (bel_alloc _)) hb3
  have hs3 : w.heap.size + 1 < w3.heap.size := (Array.getElem?_eq_some_iff.1 zt3).1
  clear hb3 zr0 zt0
  go_wp2_with fail
  refine (specCellRead_any (s.extract (k + 1) s.size) (by rw [ByteArray.size_extract]; omega) _).mono ?_
  rw [hc2, hx2]
  simp only
  rintro e w4 ⟨rfl, hb4⟩
  have X4 := (Box4.start w3 ⟨pk, pa, pb, pn⟩ _).below hb4
  have hs4 : w3.heap.size < w4.heap.size := X4.1
  have BB := bel_alloc (w := w4) (.cells #[.int .i64 qk, .int .i64 qa, .int .i64 qb, .int .i64 qn] 40)
  have zr := at_below (at_below zr3 (bel_then (bel_alloc (.cells #[.int .i64 pk, .int .i64 pa, .int .i64 pb, .int .i64 pn] 40)) hb4)) BB
  have zt := at_below (at_below zt3 (bel_then (bel_alloc (.cells #[.int .i64 pk, .int .i64 pa, .int .i64 pb, .int .i64 pn] 40)) hb4)) BB
  have X5 := X4.below BB
  have B5 : Below w.heap.size w (w4.alloc (.cells #[.int .i64 qk, .int .i64 qa, .int .i64 qb, .int .i64 qn] 40)) := bel_then B3.out (bel_then (bel_alloc (.cells #[.int .i64 pk, .int .i64 pa, .int .i64 pb, .int .i64 pn] 40)) (bel_then hb4 BB))
  clear hb4 zr3 zt3 X4 BB
  obtain ⟨_, a0, a1, a2, a3⟩ := X5
  simp only at a0 a1 a2 a3
  obtain ⟨⟨d0, d1, d2, d3, d4, d5, d6, d7, d8, d9⟩, e0, e1, e2, e3, e4, e5, e6, e7, e8, e9⟩ := ten_cells zr
  obtain ⟨⟨t0, t1, t2, t3, t4, t5, t6, t7, t8, t9⟩, u0, u1, u2, u3, u4, u5, u6, u7, u8, u9⟩ := ten_cells zt
  clear zr zt
  have n1 : w.heap.size ≠ w.heap.size + 1 := by omega
  have n2 : w.heap.size + 1 ≠ w.heap.size := by omega
  have n3 : w3.heap.size ≠ w.heap.size + 1 := by omega
  have n4 : w3.heap.size ≠ w.heap.size := by omega
  have n5 : w4.heap.size ≠ w.heap.size + 1 := by omega
  have n6 : w4.heap.size ≠ w.heap.size := by omega
  have n7 : w.heap.size + 1 ≠ w3.heap.size := by omega
  have n8 : w.heap.size + 1 ≠ w4.heap.size := by omega
  go_wp2
  refine bodyPost_ret (v := .tuple #[.agg #[.int .i64 0, .bool false, .int .i64 0, .int .i64 0, .int .i64 0, .int .i64 0, .int .i64 0, .int .i64 0, .int .i64 0, .int .i64 0], .bool false]) (by simp [results, Tryz.results38, go_sem, d0, d1, d2, d3, d4, d5, d6, d7, d8, d9]) rfl ⟨rfl, ?_⟩
  iterate 18 refine Below.setCell ?_ (by simp) _
  exact B5

set_option maxRecDepth 100000 in
set_option maxHeartbeats 2000000 in
theorem tr_p2tt (s : ByteArray) (hs : s.size ≤ 1048576) (w : World) (h0 : 0 < s.size) (hp0 : (0 : Int) < (s.size : Int)) (h33 : (((s[0]'h0).toNat : Int) == 33) = false) (k : Nat) (hk : k + 1 ≤ s.size) (c1 c2 : Cel) (hf : findC 60 s.data.toList = -1) (hf2 : findC 61 s.data.toList = (k : Int)) (hc1 : outC (readC (s.extract 0 k).data.toList) = c1) (hx1 : (readC (s.extract 0 k).data.toList).isSome = true) (hc2 : outC (readC (s.extract (k + 1) s.size).data.toList) = c2) (hx2 : (readC (s.extract (k + 1) s.size).data.toList).isSome = true) :
    Calls Tryz.prog 38 #[.string s] w fun e w' => e = .returned (.tuple #[.agg #[.int .i64 2, .bool false, .int .i64 c1.k, .int .i64 c1.a, .int .i64 c1.b, .int .i64 c1.n, .int .i64 c2.k, .int .i64 c2.a, .int .i64 c2.b, .int .i64 c2.n], .bool true]) ∧ Below w.heap.size w w' := by
  obtain ⟨pk, pa, pb, pn⟩ := c1
  obtain ⟨qk, qa, qb, qn⟩ := c2
  try simp only
  have hus : s.size ≤ 1048576 := hs
  go_enter Tryz.func38, Tryz.ntmps38
  go_wp2_with fail
  skip
  refine (l12Find_60 s hs _).mono ?_
  rw [hf]
  rintro e w1 ⟨rfl, rfl⟩
  go_wp2_with fail
  skip
  refine (l12Find_61 s hs _).mono ?_
  rw [hf2]
  rintro e w2 ⟨rfl, rfl⟩
  have zr0 := at_below (alloc_at w (.cells #[.int .i64 0, .bool false, .int .i64 0, .int .i64 0, .int .i64 0, .int .i64 0, .int .i64 0, .int .i64 0, .int .i64 0, .int .i64 0] 52)) (bel_alloc (.cells #[.int .i64 2, .bool false, .int .i64 0, .int .i64 0, .int .i64 0, .int .i64 0, .int .i64 0, .int .i64 0, .int .i64 0, .int .i64 0] 52))
  have zt0 := alloc_at (w.alloc (.cells #[.int .i64 0, .bool false, .int .i64 0, .int .i64 0, .int .i64 0, .int .i64 0, .int .i64 0, .int .i64 0, .int .i64 0, .int .i64 0] 52)) (.cells #[.int .i64 2, .bool false, .int .i64 0, .int .i64 0, .int .i64 0, .int .i64 0, .int .i64 0, .int .i64 0, .int .i64 0, .int .i64 0] 52)
  rw [alloc_size] at zt0
  go_wp2_with fail
  refine (specCellRead_any (s.extract 0 k) (by rw [ByteArray.size_extract]; omega) _).mono ?_
  rw [hc1, hx1]
  simp only
  rintro e w3 ⟨rfl, hb3⟩
  have zr3 := at_below zr0 hb3
  have zt3 := at_below zt0 hb3
  have B3 : Hid (Below w.heap.size w w3) := bel_then (bel_then (bel_alloc _) (bel_alloc _)) hb3
  have hs3 : w.heap.size + 1 < w3.heap.size := (Array.getElem?_eq_some_iff.1 zt3).1
  clear hb3 zr0 zt0
  go_wp2_with fail
  refine (specCellRead_any (s.extract (k + 1) s.size) (by rw [ByteArray.size_extract]; omega) _).mono ?_
  rw [hc2, hx2]
  simp only
  rintro e w4 ⟨rfl, hb4⟩
  have X4 := (Box4.start w3 ⟨pk, pa, pb, pn⟩ _).below hb4
  have hs4 : w3.heap.size < w4.heap.size := X4.1
  have BB := bel_alloc (w := w4) (.cells #[.int .i64 qk, .int .i64 qa, .int .i64 qb, .int .i64 qn] 40)
  have zr := at_below (at_below zr3 (bel_then (bel_alloc (.cells #[.int .i64 pk, .int .i64 pa, .int .i64 pb, .int .i64 pn] 40)) hb4)) BB
  have zt := at_below (at_below zt3 (bel_then (bel_alloc (.cells #[.int .i64 pk, .int .i64 pa, .int .i64 pb, .int .i64 pn] 40)) hb4)) BB
  have X5 := X4.below BB
  have B5 : Below w.heap.size w (w4.alloc (.cells #[.int .i64 qk, .int .i64 qa, .int .i64 qb, .int .i64 qn] 40)) := bel_then B3.out (bel_then (bel_alloc (.cells #[.int .i64 pk, .int .i64 pa, .int .i64 pb, .int .i64 pn] 40)) (bel_then hb4 BB))
  clear hb4 zr3 zt3 X4 BB
  obtain ⟨_, a0, a1, a2, a3⟩ := X5
  simp only at a0 a1 a2 a3
  obtain ⟨⟨d0, d1, d2, d3, d4, d5, d6, d7, d8, d9⟩, e0, e1, e2, e3, e4, e5, e6, e7, e8, e9⟩ := ten_cells zr
  obtain ⟨⟨t0, t1, t2, t3, t4, t5, t6, t7, t8, t9⟩, u0, u1, u2, u3, u4, u5, u6, u7, u8, u9⟩ := ten_cells zt
  clear zr zt
  have n1 : w.heap.size ≠ w.heap.size + 1 := by omega
  have n2 : w.heap.size + 1 ≠ w.heap.size := by omega
  have n3 : w3.heap.size ≠ w.heap.size + 1 := by omega
  have n4 : w3.heap.size ≠ w.heap.size := by omega
  have n5 : w4.heap.size ≠ w.heap.size + 1 := by omega
  have n6 : w4.heap.size ≠ w.heap.size := by omega
  have n7 : w.heap.size + 1 ≠ w3.heap.size := by omega
  have n8 : w.heap.size + 1 ≠ w4.heap.size := by omega
  go_wp2
  refine bodyPost_ret (v := .tuple #[.agg #[.int .i64 2, .bool false, .int .i64 pk, .int .i64 pa, .int .i64 pb, .int .i64 pn, .int .i64 qk, .int .i64 qa, .int .i64 qb, .int .i64 qn], .bool true]) (by simp [results, Tryz.results38, go_sem, d0, d1, d2, d3, d4, d5, d6, d7, d8, d9]) rfl ⟨rfl, ?_⟩
  iterate 18 refine Below.setCell ?_ (by simp) _
  exact B5

set_option maxRecDepth 100000 in
set_option maxHeartbeats 2000000 in
theorem tr_p2tf (s : ByteArray) (hs : s.size ≤ 1048576) (w : World) (h0 : 0 < s.size) (hp0 : (0 : Int) < (s.size : Int)) (h33 : (((s[0]'h0).toNat : Int) == 33) = false) (k : Nat) (hk : k + 1 ≤ s.size) (c1 c2 : Cel) (hf : findC 60 s.data.toList = -1) (hf2 : findC 61 s.data.toList = (k : Int)) (hc1 : outC (readC (s.extract 0 k).data.toList) = c1) (hx1 : (readC (s.extract 0 k).data.toList).isSome = true) (hc2 : outC (readC (s.extract (k + 1) s.size).data.toList) = c2) (hx2 : (readC (s.extract (k + 1) s.size).data.toList).isSome = false) :
    Calls Tryz.prog 38 #[.string s] w fun e w' => e = .returned (.tuple #[.agg #[.int .i64 0, .bool false, .int .i64 0, .int .i64 0, .int .i64 0, .int .i64 0, .int .i64 0, .int .i64 0, .int .i64 0, .int .i64 0], .bool false]) ∧ Below w.heap.size w w' := by
  obtain ⟨pk, pa, pb, pn⟩ := c1
  obtain ⟨qk, qa, qb, qn⟩ := c2
  try simp only
  have hus : s.size ≤ 1048576 := hs
  go_enter Tryz.func38, Tryz.ntmps38
  go_wp2_with fail
  skip
  refine (l12Find_60 s hs _).mono ?_
  rw [hf]
  rintro e w1 ⟨rfl, rfl⟩
  go_wp2_with fail
  skip
  refine (l12Find_61 s hs _).mono ?_
  rw [hf2]
  rintro e w2 ⟨rfl, rfl⟩
  have zr0 := at_below (alloc_at w (.cells #[.int .i64 0, .bool false, .int .i64 0, .int .i64 0, .int .i64 0, .int .i64 0, .int .i64 0, .int .i64 0, .int .i64 0, .int .i64 0] 52)) (bel_alloc (.cells #[.int .i64 2, .bool false, .int .i64 0, .int .i64 0, .int .i64 0, .int .i64 0, .int .i64 0, .int .i64 0, .int .i64 0, .int .i64 0] 52))
  have zt0 := alloc_at (w.alloc (.cells #[.int .i64 0, .bool false, .int .i64 0, .int .i64 0, .int .i64 0, .int .i64 0, .int .i64 0, .int .i64 0, .int .i64 0, .int .i64 0] 52)) (.cells #[.int .i64 2, .bool false, .int .i64 0, .int .i64 0, .int .i64 0, .int .i64 0, .int .i64 0, .int .i64 0, .int .i64 0, .int .i64 0] 52)
  rw [alloc_size] at zt0
  go_wp2_with fail
  refine (specCellRead_any (s.extract 0 k) (by rw [ByteArray.size_extract]; omega) _).mono ?_
  rw [hc1, hx1]
  simp only
  rintro e w3 ⟨rfl, hb3⟩
  have zr3 := at_below zr0 hb3
  have zt3 := at_below zt0 hb3
  have B3 : Hid (Below w.heap.size w w3) := bel_then (bel_then (bel_alloc _) (bel_alloc _)) hb3
  have hs3 : w.heap.size + 1 < w3.heap.size := (Array.getElem?_eq_some_iff.1 zt3).1
  clear hb3 zr0 zt0
  go_wp2_with fail
  refine (specCellRead_any (s.extract (k + 1) s.size) (by rw [ByteArray.size_extract]; omega) _).mono ?_
  rw [hc2, hx2]
  simp only
  rintro e w4 ⟨rfl, hb4⟩
  have X4 := (Box4.start w3 ⟨pk, pa, pb, pn⟩ _).below hb4
  have hs4 : w3.heap.size < w4.heap.size := X4.1
  have BB := bel_alloc (w := w4) (.cells #[.int .i64 qk, .int .i64 qa, .int .i64 qb, .int .i64 qn] 40)
  have zr := at_below (at_below zr3 (bel_then (bel_alloc (.cells #[.int .i64 pk, .int .i64 pa, .int .i64 pb, .int .i64 pn] 40)) hb4)) BB
  have zt := at_below (at_below zt3 (bel_then (bel_alloc (.cells #[.int .i64 pk, .int .i64 pa, .int .i64 pb, .int .i64 pn] 40)) hb4)) BB
  have X5 := X4.below BB
  have B5 : Below w.heap.size w (w4.alloc (.cells #[.int .i64 qk, .int .i64 qa, .int .i64 qb, .int .i64 qn] 40)) := bel_then B3.out (bel_then (bel_alloc (.cells #[.int .i64 pk, .int .i64 pa, .int .i64 pb, .int .i64 pn] 40)) (bel_then hb4 BB))
  clear hb4 zr3 zt3 X4 BB
  obtain ⟨_, a0, a1, a2, a3⟩ := X5
  simp only at a0 a1 a2 a3
  obtain ⟨⟨d0, d1, d2, d3, d4, d5, d6, d7, d8, d9⟩, e0, e1, e2, e3, e4, e5, e6, e7, e8, e9⟩ := ten_cells zr
  obtain ⟨⟨t0, t1, t2, t3, t4, t5, t6, t7, t8, t9⟩, u0, u1, u2, u3, u4, u5, u6, u7, u8, u9⟩ := ten_cells zt
  clear zr zt
  have n1 : w.heap.size ≠ w.heap.size + 1 := by omega
  have n2 : w.heap.size + 1 ≠ w.heap.size := by omega
  have n3 : w3.heap.size ≠ w.heap.size + 1 := by omega
  have n4 : w3.heap.size ≠ w.heap.size := by omega
  have n5 : w4.heap.size ≠ w.heap.size + 1 := by omega
  have n6 : w4.heap.size ≠ w.heap.size := by omega
  have n7 : w.heap.size + 1 ≠ w3.heap.size := by omega
  have n8 : w.heap.size + 1 ≠ w4.heap.size := by omega
  go_wp2
  refine bodyPost_ret (v := .tuple #[.agg #[.int .i64 0, .bool false, .int .i64 0, .int .i64 0, .int .i64 0, .int .i64 0, .int .i64 0, .int .i64 0, .int .i64 0, .int .i64 0], .bool false]) (by simp [results, Tryz.results38, go_sem, d0, d1, d2, d3, d4, d5, d6, d7, d8, d9]) rfl ⟨rfl, ?_⟩
  iterate 18 refine Below.setCell ?_ (by simp) _
  exact B5

set_option maxRecDepth 100000 in
set_option maxHeartbeats 2000000 in
theorem tr_p2ft (s : ByteArray) (hs : s.size ≤ 1048576) (w : World) (h0 : 0 < s.size) (hp0 : (0 : Int) < (s.size : Int)) (h33 : (((s[0]'h0).toNat : Int) == 33) = false) (k : Nat) (hk : k + 1 ≤ s.size) (c1 c2 : Cel) (hf : findC 60 s.data.toList = -1) (hf2 : findC 61 s.data.toList = (k : Int)) (hc1 : outC (readC (s.extract 0 k).data.toList) = c1) (hx1 : (readC (s.extract 0 k).data.toList).isSome = false) (hc2 : outC (readC (s.extract (k + 1) s.size).data.toList) = c2) (hx2 : (readC (s.extract (k + 1) s.size).data.toList).isSome = true) :
    Calls Tryz.prog 38 #[.string s] w fun e w' => e = .returned (.tuple #[.agg #[.int .i64 0, .bool false, .int .i64 0, .int .i64 0, .int .i64 0, .int .i64 0, .int .i64 0, .int .i64 0, .int .i64 0, .int .i64 0], .bool false]) ∧ Below w.heap.size w w' := by
  obtain ⟨pk, pa, pb, pn⟩ := c1
  obtain ⟨qk, qa, qb, qn⟩ := c2
  try simp only
  have hus : s.size ≤ 1048576 := hs
  go_enter Tryz.func38, Tryz.ntmps38
  go_wp2_with fail
  skip
  refine (l12Find_60 s hs _).mono ?_
  rw [hf]
  rintro e w1 ⟨rfl, rfl⟩
  go_wp2_with fail
  skip
  refine (l12Find_61 s hs _).mono ?_
  rw [hf2]
  rintro e w2 ⟨rfl, rfl⟩
  have zr0 := at_below (alloc_at w (.cells #[.int .i64 0, .bool false, .int .i64 0, .int .i64 0, .int .i64 0, .int .i64 0, .int .i64 0, .int .i64 0, .int .i64 0, .int .i64 0] 52)) (bel_alloc (.cells #[.int .i64 2, .bool false, .int .i64 0, .int .i64 0, .int .i64 0, .int .i64 0, .int .i64 0, .int .i64 0, .int .i64 0, .int .i64 0] 52))
  have zt0 := alloc_at (w.alloc (.cells #[.int .i64 0, .bool false, .int .i64 0, .int .i64 0, .int .i64 0, .int .i64 0, .int .i64 0, .int .i64 0, .int .i64 0, .int .i64 0] 52)) (.cells #[.int .i64 2, .bool false, .int .i64 0, .int .i64 0, .int .i64 0, .int .i64 0, .int .i64 0, .int .i64 0, .int .i64 0, .int .i64 0] 52)
  rw [alloc_size] at zt0
  go_wp2_with fail
  refine (specCellRead_any (s.extract 0 k) (by rw [ByteArray.size_extract]; omega) _).mono ?_
  rw [hc1, hx1]
  simp only
  rintro e w3 ⟨rfl, hb3⟩
  have zr3 := at_below zr0 hb3
  have zt3 := at_below zt0 hb3
  have B3 : Hid (Below w.heap.size w w3) := bel_then (bel_then (bel_alloc _) (bel_alloc _)) hb3
  have hs3 : w.heap.size + 1 < w3.heap.size := (Array.getElem?_eq_some_iff.1 zt3).1
  clear hb3 zr0 zt0
  go_wp2_with fail
  refine (specCellRead_any (s.extract (k + 1) s.size) (by rw [ByteArray.size_extract]; omega) _).mono ?_
  rw [hc2, hx2]
  simp only
  rintro e w4 ⟨rfl, hb4⟩
  have X4 := (Box4.start w3 ⟨pk, pa, pb, pn⟩ _).below hb4
  have hs4 : w3.heap.size < w4.heap.size := X4.1
  have BB := bel_alloc (w := w4) (.cells #[.int .i64 qk, .int .i64 qa, .int .i64 qb, .int .i64 qn] 40)
  have zr := at_below (at_below zr3 (bel_then (bel_alloc (.cells #[.int .i64 pk, .int .i64 pa, .int .i64 pb, .int .i64 pn] 40)) hb4)) BB
  have zt := at_below (at_below zt3 (bel_then (bel_alloc (.cells #[.int .i64 pk, .int .i64 pa, .int .i64 pb, .int .i64 pn] 40)) hb4)) BB
  have X5 := X4.below BB
  have B5 : Below w.heap.size w (w4.alloc (.cells #[.int .i64 qk, .int .i64 qa, .int .i64 qb, .int .i64 qn] 40)) := bel_then B3.out (bel_then (bel_alloc (.cells #[.int .i64 pk, .int .i64 pa, .int .i64 pb, .int .i64 pn] 40)) (bel_then hb4 BB))
  clear hb4 zr3 zt3 X4 BB
  obtain ⟨_, a0, a1, a2, a3⟩ := X5
  simp only at a0 a1 a2 a3
  obtain ⟨⟨d0, d1, d2, d3, d4, d5, d6, d7, d8, d9⟩, e0, e1, e2, e3, e4, e5, e6, e7, e8, e9⟩ := ten_cells zr
  obtain ⟨⟨t0, t1, t2, t3, t4, t5, t6, t7, t8, t9⟩, u0, u1, u2, u3, u4, u5, u6, u7, u8, u9⟩ := ten_cells zt
  clear zr zt
  have n1 : w.heap.size ≠ w.heap.size + 1 := by omega
  have n2 : w.heap.size + 1 ≠ w.heap.size := by omega
  have n3 : w3.heap.size ≠ w.heap.size + 1 := by omega
  have n4 : w3.heap.size ≠ w.heap.size := by omega
  have n5 : w4.heap.size ≠ w.heap.size + 1 := by omega
  have n6 : w4.heap.size ≠ w.heap.size := by omega
  have n7 : w.heap.size + 1 ≠ w3.heap.size := by omega
  have n8 : w.heap.size + 1 ≠ w4.heap.size := by omega
  go_wp2
  refine bodyPost_ret (v := .tuple #[.agg #[.int .i64 0, .bool false, .int .i64 0, .int .i64 0, .int .i64 0, .int .i64 0, .int .i64 0, .int .i64 0, .int .i64 0, .int .i64 0], .bool false]) (by simp [results, Tryz.results38, go_sem, d0, d1, d2, d3, d4, d5, d6, d7, d8, d9]) rfl ⟨rfl, ?_⟩
  iterate 18 refine Below.setCell ?_ (by simp) _
  exact B5

set_option maxRecDepth 100000 in
set_option maxHeartbeats 2000000 in
theorem tr_p2ff (s : ByteArray) (hs : s.size ≤ 1048576) (w : World) (h0 : 0 < s.size) (hp0 : (0 : Int) < (s.size : Int)) (h33 : (((s[0]'h0).toNat : Int) == 33) = false) (k : Nat) (hk : k + 1 ≤ s.size) (c1 c2 : Cel) (hf : findC 60 s.data.toList = -1) (hf2 : findC 61 s.data.toList = (k : Int)) (hc1 : outC (readC (s.extract 0 k).data.toList) = c1) (hx1 : (readC (s.extract 0 k).data.toList).isSome = false) (hc2 : outC (readC (s.extract (k + 1) s.size).data.toList) = c2) (hx2 : (readC (s.extract (k + 1) s.size).data.toList).isSome = false) :
    Calls Tryz.prog 38 #[.string s] w fun e w' => e = .returned (.tuple #[.agg #[.int .i64 0, .bool false, .int .i64 0, .int .i64 0, .int .i64 0, .int .i64 0, .int .i64 0, .int .i64 0, .int .i64 0, .int .i64 0], .bool false]) ∧ Below w.heap.size w w' := by
  obtain ⟨pk, pa, pb, pn⟩ := c1
  obtain ⟨qk, qa, qb, qn⟩ := c2
  try simp only
  have hus : s.size ≤ 1048576 := hs
  go_enter Tryz.func38, Tryz.ntmps38
  go_wp2_with fail
  skip
  refine (l12Find_60 s hs _).mono ?_
  rw [hf]
  rintro e w1 ⟨rfl, rfl⟩
  go_wp2_with fail
  skip
  refine (l12Find_61 s hs _).mono ?_
  rw [hf2]
  rintro e w2 ⟨rfl, rfl⟩
  have zr0 := at_below (alloc_at w (.cells #[.int .i64 0, .bool false, .int .i64 0, .int .i64 0, .int .i64 0, .int .i64 0, .int .i64 0, .int .i64 0, .int .i64 0, .int .i64 0] 52)) (bel_alloc (.cells #[.int .i64 2, .bool false, .int .i64 0, .int .i64 0, .int .i64 0, .int .i64 0, .int .i64 0, .int .i64 0, .int .i64 0, .int .i64 0] 52))
  have zt0 := alloc_at (w.alloc (.cells #[.int .i64 0, .bool false, .int .i64 0, .int .i64 0, .int .i64 0, .int .i64 0, .int .i64 0, .int .i64 0, .int .i64 0, .int .i64 0] 52)) (.cells #[.int .i64 2, .bool false, .int .i64 0, .int .i64 0, .int .i64 0, .int .i64 0, .int .i64 0, .int .i64 0, .int .i64 0, .int .i64 0] 52)
  rw [alloc_size] at zt0
  go_wp2_with fail
  refine (specCellRead_any (s.extract 0 k) (by rw [ByteArray.size_extract]; omega) _).mono ?_
  rw [hc1, hx1]
  simp only
  rintro e w3 ⟨rfl, hb3⟩
  have zr3 := at_below zr0 hb3
  have zt3 := at_below zt0 hb3
  have B3 : Hid (Below w.heap.size w w3) := bel_then (bel_then (bel_alloc _) (bel_alloc _)) hb3
  have hs3 : w.heap.size + 1 < w3.heap.size := (Array.getElem?_eq_some_iff.1 zt3).1
  clear hb3 zr0 zt0
  go_wp2_with fail
  refine (specCellRead_any (s.extract (k + 1) s.size) (by rw [ByteArray.size_extract]; omega) _).mono ?_
  rw [hc2, hx2]
  simp only
  rintro e w4 ⟨rfl, hb4⟩
  have X4 := (Box4.start w3 ⟨pk, pa, pb, pn⟩ _).below hb4
  have hs4 : w3.heap.size < w4.heap.size := X4.1
  have BB := bel_alloc (w := w4) (.cells #[.int .i64 qk, .int .i64 qa, .int .i64 qb, .int .i64 qn] 40)
  have zr := at_below (at_below zr3 (bel_then (bel_alloc (.cells #[.int .i64 pk, .int .i64 pa, .int .i64 pb, .int .i64 pn] 40)) hb4)) BB
  have zt := at_below (at_below zt3 (bel_then (bel_alloc (.cells #[.int .i64 pk, .int .i64 pa, .int .i64 pb, .int .i64 pn] 40)) hb4)) BB
  have X5 := X4.below BB
  have B5 : Below w.heap.size w (w4.alloc (.cells #[.int .i64 qk, .int .i64 qa, .int .i64 qb, .int .i64 qn] 40)) := bel_then B3.out (bel_then (bel_alloc (.cells #[.int .i64 pk, .int .i64 pa, .int .i64 pb, .int .i64 pn] 40)) (bel_then hb4 BB))
  clear hb4 zr3 zt3 X4 BB
  obtain ⟨_, a0, a1, a2, a3⟩ := X5
  simp only at a0 a1 a2 a3
  obtain ⟨⟨d0, d1, d2, d3, d4, d5, d6, d7, d8, d9⟩, e0, e1, e2, e3, e4, e5, e6, e7, e8, e9⟩ := ten_cells zr
  obtain ⟨⟨t0, t1, t2, t3, t4, t5, t6, t7, t8, t9⟩, u0, u1, u2, u3, u4, u5, u6, u7, u8, u9⟩ := ten_cells zt
  clear zr zt
  have n1 : w.heap.size ≠ w.heap.size + 1 := by omega
  have n2 : w.heap.size + 1 ≠ w.heap.size := by omega
  have n3 : w3.heap.size ≠ w.heap.size + 1 := by omega
  have n4 : w3.heap.size ≠ w.heap.size := by omega
  have n5 : w4.heap.size ≠ w.heap.size + 1 := by omega
  have n6 : w4.heap.size ≠ w.heap.size := by omega
  have n7 : w.heap.size + 1 ≠ w3.heap.size := by omega
  have n8 : w.heap.size + 1 ≠ w4.heap.size := by omega
  go_wp2
  refine bodyPost_ret (v := .tuple #[.agg #[.int .i64 0, .bool false, .int .i64 0, .int .i64 0, .int .i64 0, .int .i64 0, .int .i64 0, .int .i64 0, .int .i64 0, .int .i64 0], .bool false]) (by simp [results, Tryz.results38, go_sem, d0, d1, d2, d3, d4, d5, d6, d7, d8, d9]) rfl ⟨rfl, ?_⟩
  iterate 18 refine Below.setCell ?_ (by simp) _
  exact B5

set_option maxRecDepth 100000 in
set_option maxHeartbeats 2000000 in
theorem tr_e0 (s : ByteArray) (hs : s.size ≤ 1048576) (w : World) (hp0 : ¬ (0 : Int) < (s.size : Int)) (hf : findC 60 s.data.toList = -1) (hf2 : findC 61 s.data.toList = -1) :
    Calls Tryz.prog 38 #[.string s] w fun e w' => e = .returned (.tuple #[.agg #[.int .i64 0, .bool false, .int .i64 0, .int .i64 0, .int .i64 0, .int .i64 0, .int .i64 0, .int .i64 0, .int .i64 0, .int .i64 0], .bool false]) ∧ Below w.heap.size w w' := by
  go_enter Tryz.func38, Tryz.ntmps38
  go_wp2_with fail
  skip
  refine (l12Find_60 s hs _).mono ?_
  rw [hf]
  rintro e w1 ⟨rfl, rfl⟩
  go_wp2_with fail
  skip
  refine (l12Find_61 s hs _).mono ?_
  rw [hf2]
  rintro e w2 ⟨rfl, rfl⟩
  go_wp2
  refine bodyPost_ret (v := .tuple #[.agg #[.int .i64 0, .bool false, .int .i64 0, .int .i64 0, .int .i64 0, .int .i64 0, .int .i64 0, .int .i64 0, .int .i64 0, .int .i64 0], .bool false]) (by simp [results, Tryz.results38, go_sem]) rfl ⟨rfl, ?_⟩
  exact bel_then (bel_alloc _) (bel_alloc _)

def outT (o : Option Tst) : Tst := o.getD ⟨0, false, ⟨0, 0, 0, 0⟩, ⟨0, 0, 0, 0⟩⟩
theorem find_none {c : UInt8} {l : List UInt8} (h : cutAt c l = none) : findC c l = -1 := by unfold findC; rw [h]
theorem find_some {c : UInt8} {l : List UInt8} {q : List UInt8 × List UInt8} (h : cutAt c l = some q) : findC c l = (q.1.length : Int) := by unfold findC; rw [h]
theorem two_sides {c : UInt8} {u : ByteArray} {q : List UInt8 × List UInt8} (h : cutAt c u.data.toList = some q) :
    q.1.length + 1 ≤ u.size ∧ (u.extract 0 q.1.length).data.toList = q.1 ∧ (u.extract (q.1.length + 1) u.size).data.toList = q.2 := by
  have hq := cutAt_back h
  have hl := len_l u
  have hlen : u.data.toList.length = q.1.length + 1 + q.2.length := by rw [hq]; simp; omega
  refine ⟨by omega, by rw [piece_l, hq]; simp, ?_⟩
  rw [piece_l, show u.size = q.1.length + 1 + q.2.length by omega]
  conv => lhs; rw [hq]
  exact drop_piece c q.1 q.2

theorem specTestRead_any (s : ByteArray) (hs : s.size ≤ 1048576) (w : World) :
    Calls Tryz.prog 38 #[.string s] w fun e w' => e = .returned (.tuple #[.agg #[.int .i64 (outT (readT s.data.toList)).k, .bool (outT (readT s.data.toList)).no, .int .i64 (outT (readT s.data.toList)).l.k, .int .i64 (outT (readT s.data.toList)).l.a, .int .i64 (outT (readT s.data.toList)).l.b, .int .i64 (outT (readT s.data.toList)).l.n, .int .i64 (outT (readT s.data.toList)).r.k, .int .i64 (outT (readT s.data.toList)).r.a, .int .i64 (outT (readT s.data.toList)).r.b, .int .i64 (outT (readT s.data.toList)).r.n], .bool (readT s.data.toList).isSome]) ∧ Below w.heap.size w w' := by
  by_cases h0 : 0 < s.size
  · have hh : s.data.toList.head? = some (s[0]'h0) := by rw [drop_first s h0]; rfl
    by_cases h33 : s[0]'h0 = 33
    · have g : (((s[0]'h0).toNat : Int) == 33) = true := by rw [h33]; rfl
      have hn : notB s.data.toList = true := by unfold notB; rw [hh, h33]; rfl
      have hr : restB s.data.toList = (s.extract 1 s.size).data.toList := by unfold restB; rw [hh, h33, if_pos rfl, tail_list]
      have hu1 : (s.extract 1 s.size).size ≤ 1048576 := by rw [ByteArray.size_extract]; omega
      cases h60 : cutAt 60 (s.extract 1 s.size).data.toList with
      | some q =>
        obtain ⟨hk, e1, e2⟩ := two_sides h60
        have hs0 : sidesB (restB s.data.toList) = some (1, q.1, q.2) := by unfold sidesB; rw [hr, h60]
        have hR : readT s.data.toList = (readC q.1).bind fun a => (readC q.2).map fun b => ⟨1, true, a, b⟩ := by unfold readT; rw [hs0, hn]; rfl
        rw [hR]
        cases hx : readC q.1 with
        | none =>
          cases hy : readC q.2 with
          | none => exact tr_n1ff s hs w h0 (by omega) g (s.extract 1 s.size) rfl hu1 q.1.length hk _ _ (find_some h60) (by rw [e1, hx]) (by rw [e1, hx]; rfl) (by rw [e2, hy]) (by rw [e2, hy]; rfl)
          | some b => exact tr_n1ft s hs w h0 (by omega) g (s.extract 1 s.size) rfl hu1 q.1.length hk _ _ (find_some h60) (by rw [e1, hx]) (by rw [e1, hx]; rfl) (by rw [e2, hy]) (by rw [e2, hy]; rfl)
        | some a =>
          cases hy : readC q.2 with
          | none => exact tr_n1tf s hs w h0 (by omega) g (s.extract 1 s.size) rfl hu1 q.1.length hk _ _ (find_some h60) (by rw [e1, hx]) (by rw [e1, hx]; rfl) (by rw [e2, hy]) (by rw [e2, hy]; rfl)
          | some b => exact tr_n1tt s hs w h0 (by omega) g (s.extract 1 s.size) rfl hu1 q.1.length hk a b (find_some h60) (by rw [e1, hx]; rfl) (by rw [e1, hx]; rfl) (by rw [e2, hy]; rfl) (by rw [e2, hy]; rfl)
      | none =>
        cases h61 : cutAt 61 (s.extract 1 s.size).data.toList with
        | some q =>
          obtain ⟨hk, e1, e2⟩ := two_sides h61
          have hs0 : sidesB (restB s.data.toList) = some (2, q.1, q.2) := by unfold sidesB; rw [hr, h60]; simp only; rw [h61]; rfl
          have hR : readT s.data.toList = (readC q.1).bind fun a => (readC q.2).map fun b => ⟨2, true, a, b⟩ := by unfold readT; rw [hs0, hn]; rfl
          rw [hR]
          cases hx : readC q.1 with
          | none =>
            cases hy : readC q.2 with
            | none => exact tr_n2ff s hs w h0 (by omega) g (s.extract 1 s.size) rfl hu1 q.1.length hk _ _ (find_none h60) (find_some h61) (by rw [e1, hx]) (by rw [e1, hx]; rfl) (by rw [e2, hy]) (by rw [e2, hy]; rfl)
            | some b => exact tr_n2ft s hs w h0 (by omega) g (s.extract 1 s.size) rfl hu1 q.1.length hk _ _ (find_none h60) (find_some h61) (by rw [e1, hx]) (by rw [e1, hx]; rfl) (by rw [e2, hy]) (by rw [e2, hy]; rfl)
          | some a =>
            cases hy : readC q.2 with
            | none => exact tr_n2tf s hs w h0 (by omega) g (s.extract 1 s.size) rfl hu1 q.1.length hk _ _ (find_none h60) (find_some h61) (by rw [e1, hx]) (by rw [e1, hx]; rfl) (by rw [e2, hy]) (by rw [e2, hy]; rfl)
            | some b => exact tr_n2tt s hs w h0 (by omega) g (s.extract 1 s.size) rfl hu1 q.1.length hk a b (find_none h60) (find_some h61) (by rw [e1, hx]; rfl) (by rw [e1, hx]; rfl) (by rw [e2, hy]; rfl) (by rw [e2, hy]; rfl)
        | none =>
          have hs0 : sidesB (restB s.data.toList) = none := by unfold sidesB; rw [hr, h60]; simp only; rw [h61]; rfl
          have hR : readT s.data.toList = none := by unfold readT; rw [hs0]; rfl
          rw [hR]
          exact tr_n0 s hs w h0 (by omega) g (s.extract 1 s.size) rfl hu1 (find_none h60) (find_none h61)
    · have g : (((s[0]'h0).toNat : Int) == 33) = false := by
        rw [beq_eq_false_iff_ne]
        intro e
        have e2 : (s[0]'h0).toNat = (33 : UInt8).toNat := by show _ = 33; omega
        exact h33 (UInt8.toNat_inj.1 e2)
      have hn : notB s.data.toList = false := by unfold notB; rw [hh]; exact decide_eq_false (fun e => h33 (Option.some.inj e))
      have hr : restB s.data.toList = s.data.toList := by unfold restB; rw [hh, if_neg (fun e => h33 (Option.some.inj e))]
      cases h60 : cutAt 60 s.data.toList with
      | some q =>
        obtain ⟨hk, e1, e2⟩ := two_sides h60
        have hs0 : sidesB (restB s.data.toList) = some (1, q.1, q.2) := by unfold sidesB; rw [hr, h60]
        have hR : readT s.data.toList = (readC q.1).bind fun a => (readC q.2).map fun b => ⟨1, false, a, b⟩ := by unfold readT; rw [hs0, hn]; rfl
        rw [hR]
        cases hx : readC q.1 with
        | none =>
          cases hy : readC q.2 with
          | none => exact tr_p1ff s hs w h0 (by omega) g  q.1.length hk _ _ (find_some h60) (by rw [e1, hx]) (by rw [e1, hx]; rfl) (by rw [e2, hy]) (by rw [e2, hy]; rfl)
          | some b => exact tr_p1ft s hs w h0 (by omega) g  q.1.length hk _ _ (find_some h60) (by rw [e1, hx]) (by rw [e1, hx]; rfl) (by rw [e2, hy]) (by rw [e2, hy]; rfl)
        | some a =>
          cases hy : readC q.2 with
          | none => exact tr_p1tf s hs w h0 (by omega) g  q.1.length hk _ _ (find_some h60) (by rw [e1, hx]) (by rw [e1, hx]; rfl) (by rw [e2, hy]) (by rw [e2, hy]; rfl)
          | some b => exact tr_p1tt s hs w h0 (by omega) g  q.1.length hk a b (find_some h60) (by rw [e1, hx]; rfl) (by rw [e1, hx]; rfl) (by rw [e2, hy]; rfl) (by rw [e2, hy]; rfl)
      | none =>
        cases h61 : cutAt 61 s.data.toList with
        | some q =>
          obtain ⟨hk, e1, e2⟩ := two_sides h61
          have hs0 : sidesB (restB s.data.toList) = some (2, q.1, q.2) := by unfold sidesB; rw [hr, h60]; simp only; rw [h61]; rfl
          have hR : readT s.data.toList = (readC q.1).bind fun a => (readC q.2).map fun b => ⟨2, false, a, b⟩ := by unfold readT; rw [hs0, hn]; rfl
          rw [hR]
          cases hx : readC q.1 with
          | none =>
            cases hy : readC q.2 with
            | none => exact tr_p2ff s hs w h0 (by omega) g  q.1.length hk _ _ (find_none h60) (find_some h61) (by rw [e1, hx]) (by rw [e1, hx]; rfl) (by rw [e2, hy]) (by rw [e2, hy]; rfl)
            | some b => exact tr_p2ft s hs w h0 (by omega) g  q.1.length hk _ _ (find_none h60) (find_some h61) (by rw [e1, hx]) (by rw [e1, hx]; rfl) (by rw [e2, hy]) (by rw [e2, hy]; rfl)
          | some a =>
            cases hy : readC q.2 with
            | none => exact tr_p2tf s hs w h0 (by omega) g  q.1.length hk _ _ (find_none h60) (find_some h61) (by rw [e1, hx]) (by rw [e1, hx]; rfl) (by rw [e2, hy]) (by rw [e2, hy]; rfl)
            | some b => exact tr_p2tt s hs w h0 (by omega) g  q.1.length hk a b (find_none h60) (find_some h61) (by rw [e1, hx]; rfl) (by rw [e1, hx]; rfl) (by rw [e2, hy]; rfl) (by rw [e2, hy]; rfl)
        | none =>
          have hs0 : sidesB (restB s.data.toList) = none := by unfold sidesB; rw [hr, h60]; simp only; rw [h61]; rfl
          have hR : readT s.data.toList = none := by unfold readT; rw [hs0]; rfl
          rw [hR]
          exact tr_p0 s hs w h0 (by omega) g  (find_none h60) (find_none h61)
  · have hl : s.data.toList = [] := List.length_eq_zero_iff.1 (by rw [len_l]; omega)
    have hr : readT s.data.toList = none := by rw [hl]; rfl
    rw [hr]
    exact tr_e0 s hs w (by omega) (by rw [hl]; rfl) (by rw [hl]; rfl)

end Go.Proofs.YtkgopbffgahhcaaGreatDoor
