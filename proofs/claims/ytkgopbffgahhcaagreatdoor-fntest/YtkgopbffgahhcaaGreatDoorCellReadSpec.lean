/-
  The contracts of the document's own l12Find, l3Place and CellRead: spec.CellRead answers readC, at every text of at most 2^20 bytes.
-/
import Derived.Test.YtkgopbffgahhcaaGreatDoorCellReadMath
import Derived.Test.YtkgopbffgahhcaaGreatDoorNum
namespace Go.Proofs.YtkgopbffgahhcaaGreatDoor
open Go.RowKit
set_option linter.unusedVariables false

theorem len_l (s : ByteArray) : s.data.toList.length = s.size := by rw [Array.length_toList]; rfl
theorem piece_l (s : ByteArray) (i j : Nat) : (s.extract i j).data.toList = (s.data.toList.take j).drop i := by
  rw [ByteArray.data_extract, Array.toList_extract, List.extract_eq_take_drop]
  rw [List.drop_take]

def findC (c : UInt8) (l : List UInt8) : Int := match cutAt c l with
  | some q => q.1.length
  | none => -1
theorem cut_find {c : UInt8} {l : List UInt8} {k : Nat} (hk : k < l.length) (h : ∀ j (hj : j < k), l[j]'(by omega) ≠ c) (he : l[k] = c) : cutAt c l = some (l.take k, l.drop (k + 1)) := by
  have e : l = l.take k ++ c :: l.drop (k + 1) := by
    conv => lhs; rw [← List.take_append_drop k l, List.drop_eq_getElem_cons hk, he]
  conv => lhs; rw [e]
  refine cutAt_at fun d hd => ?_
  obtain ⟨j, hj, rfl⟩ := List.getElem_of_mem hd
  rw [List.length_take] at hj
  rw [List.getElem_take]
  exact h j (by omega)

set_option maxHeartbeats 1000000 in
theorem l12Find_43 (s : ByteArray) (hs : s.size ≤ 1048576) (w : World) :
    Calls Tryz.prog 75 #[.string s, .int .u8 43] w fun e w' => e = .returned (.int .i64 (findC 43 s.data.toList)) ∧ w' = w := by
  go_enter Tryz.func75, Tryz.ntmps75
  go_wp2
  go_loop [5] (fun i => ∃ k : Nat, k ≤ s.size ∧ i = .int .i64 k ∧ Hid (∀ j (hj : j < s.size), j < k → s[j] ≠ 43)) (fun i => s.size - (intOf i).toNat)
  case atStart => exact ⟨0, Nat.zero_le _, rfl, fun j hj hk => by omega⟩
  case round =>
    obtain ⟨k, hk, rfl, HN⟩ := hrel
    by_cases hlt : k < s.size
    · have hll : k < s.data.toList.length := by rw [len_l]; exact hlt
      by_cases h42 : (s[k]'hlt) = 43
      · have gc : (((s[k]'hlt).toNat : Int) == 43) = true := by rw [h42]; rfl
        have HF : Hid (findC 43 s.data.toList = (k : Int)) := by
          show _ = _
          unfold findC
          rw [cut_find hll (fun j hj => HN.out j (by omega) hj) h42]
          simp [List.length_take]
          omega
        clear h42 hll
        go_wp2
        go_ret
        exact ⟨ret_int HF.out.symm, rfl⟩
      · have gc : (((s[k]'hlt).toNat : Int) == 43) = false := by
          rw [beq_eq_false_iff_ne]
          intro e
          have e2 : (s[k]'hlt).toNat = (43 : UInt8).toNat := by show _ = 43; omega
          exact h42 (UInt8.toNat_inj.1 e2)
        have HN2 : Hid (∀ j (hj : j < s.size), j < k + 1 → s[j] ≠ 43) := fun j hj hjk => by
          rcases Nat.lt_succ_iff_lt_or_eq.1 hjk with h | h
          · exact HN.out j hj h
          · subst h; exact h42
        clear h42 hll HN
        go_wp2
        go_round
        case rel => exact ⟨k + 1, by omega, by go_num, HN2⟩
        case measure => simp [intOf]; omega
    · have HF : Hid (findC 43 s.data.toList = -1) := by
        show _ = _
        unfold findC
        rw [cutAt_none fun c hc => ?_]
        obtain ⟨j, hj, rfl⟩ := List.getElem_of_mem hc
        rw [len_l] at hj
        exact HN.out j hj (by omega)
      go_wp2
      go_ret
      exact ⟨ret_int HF.out.symm, rfl⟩

set_option maxRecDepth 100000 in
set_option maxHeartbeats 1000000 in
theorem place_len (s : ByteArray) (w : World) (h2 : ((s.size : Int) != 2) = true) :
    Calls Tryz.prog 76 #[.string s] w fun e w' => e = .returned (.tuple #[.int .i64 0, .bool false]) ∧ w' = w := by
  go_enter Tryz.func76, Tryz.ntmps76
  go_wp2
  go_ret2
  exact ⟨rfl, rfl⟩

set_option maxRecDepth 100000 in
set_option maxHeartbeats 1000000 in
theorem place_c (s : ByteArray) (w : World) (h2 : s.size = 2) (g0 : (((s[0]'(by omega)).toNat : Int) != 99) = true) :
    Calls Tryz.prog 76 #[.string s] w fun e w' => e = .returned (.tuple #[.int .i64 0, .bool false]) ∧ w' = w := by
  go_enter Tryz.func76, Tryz.ntmps76
  go_wp2
  go_ret2
  exact ⟨rfl, rfl⟩

set_option maxRecDepth 100000 in
set_option maxHeartbeats 1000000 in
theorem place_low (s : ByteArray) (w : World) (h2 : s.size = 2) (g0 : (((s[0]'(by omega)).toNat : Int) != 99) = false) (g1 : ((s[1]'(by omega)).toNat : Int) < 48) :
    Calls Tryz.prog 76 #[.string s] w fun e w' => e = .returned (.tuple #[.int .i64 0, .bool false]) ∧ w' = w := by
  go_enter Tryz.func76, Tryz.ntmps76
  go_wp2
  go_ret2
  exact ⟨rfl, rfl⟩

set_option maxRecDepth 100000 in
set_option maxHeartbeats 1000000 in
theorem place_high (s : ByteArray) (w : World) (h2 : s.size = 2) (g0 : (((s[0]'(by omega)).toNat : Int) != 99) = false) (g1 : ¬ ((s[1]'(by omega)).toNat : Int) < 48) (g2 : (54 : Int) ≤ ((s[1]'(by omega)).toNat : Int)) (gw : wrap64 ((s[1]'(by omega)).toNat : Int) = ((s[1]'(by omega)).toNat : Int)) :
    Calls Tryz.prog 76 #[.string s] w fun e w' => e = .returned (.tuple #[.int .i64 0, .bool false]) ∧ w' = w := by
  go_enter Tryz.func76, Tryz.ntmps76
  go_wp2
  go_ret2
  exact ⟨rfl, rfl⟩

set_option maxRecDepth 100000 in
set_option maxHeartbeats 1000000 in
theorem place_yes (s : ByteArray) (w : World) (h2 : s.size = 2) (g0 : (((s[0]'(by omega)).toNat : Int) != 99) = false) (g1 : ¬ ((s[1]'(by omega)).toNat : Int) < 48) (g2 : ¬ (54 : Int) ≤ ((s[1]'(by omega)).toNat : Int)) (g3 : IntKind.i64.wrap (((s[1]'(by omega)).toNat : Int) - 48) = ((s[1]'(by omega)).toNat : Int) - 48) :
    Calls Tryz.prog 76 #[.string s] w fun e w' => e = .returned (.tuple #[.int .i64 (((s[1]'(by omega)).toNat : Int) - 48), .bool true]) ∧ w' = w := by
  go_enter Tryz.func76, Tryz.ntmps76
  go_wp2
  go_ret2
  exact ⟨rfl, rfl⟩

/-- The answer of l3Place. -/
def placeTup : Option Int → Value
  | some a => .tuple #[.int .i64 a, .bool true]
  | none => .tuple #[.int .i64 0, .bool false]
theorem two_bytes (s : ByteArray) (h : s.size = 2) : s.data.toList = [s[0]'(by omega), s[1]'(by omega)] := by
  apply List.ext_getElem
  · rw [len_l]; simpa using h
  · intro i h1 h2
    rw [len_l, h] at h1
    match i, h1 with
    | 0, _ => rfl
    | 1, _ => rfl

theorem wrap_byte (d : UInt8) : wrap64 (d.toNat : Int) = (d.toNat : Int) := by
  have := d.toNat_lt
  unfold wrap64
  first | omega | (split <;> omega) | (simp; omega)
theorem drop_piece (c : UInt8) (p r : List UInt8) : ((p ++ c :: r).take (p.length + 1 + r.length)).drop (p.length + 1) = r := by
  rw [List.take_of_length_le (by simp; omega)]
  have e : p ++ c :: r = (p ++ [c]) ++ r := by simp
  rw [e]
  exact List.drop_left' (by simp)
theorem l3Place_any (s : ByteArray) (w : World) :
    Calls Tryz.prog 76 #[.string s] w fun e w' => e = .returned (placeTup (placeB s.data.toList)) ∧ w' = w := by
  by_cases h2 : s.size = 2
  · rw [two_bytes s h2]
    have hp : placeB [s[0]'(by omega), s[1]'(by omega)] = if s[0]'(by omega) = 99 ∧ 48 ≤ (s[1]'(by omega)).toNat ∧ (s[1]'(by omega)).toNat < 54 then some (((s[1]'(by omega)).toNat : Int) - 48) else none := rfl
    rw [hp]
    by_cases hx : s[0]'(by omega) = 99
    · have g0 : (((s[0]'(by omega)).toNat : Int) != 99) = false := by rw [hx]; rfl
      by_cases h48 : (s[1]'(by omega)).toNat < 48
      · rw [if_neg (by omega)]
        exact place_low s w h2 g0 (by omega)
      · by_cases h54 : (s[1]'(by omega)).toNat < 54
        · rw [if_pos ⟨hx, by omega, h54⟩]
          exact place_yes s w h2 g0 (by omega) (by omega) (by unfold IntKind.wrap; simp [IntKind.bits, IntKind.signed]; omega)
        · rw [if_neg (by omega)]
          exact place_high s w h2 g0 (by omega) (by omega) (wrap_byte _)
    · rw [if_neg (fun h => hx h.1)]
      refine place_c s w h2 ?_
      rw [bne_iff_ne]
      intro e
      have e2 : (s[0]'(by omega)).toNat = (99 : UInt8).toNat := by show _ = 99; omega
      exact hx (UInt8.toNat_inj.1 e2)
  · have hp : placeB s.data.toList = none := by
      have hl := len_l s
      unfold placeB
      split
      · rename_i x d he
        rw [he] at hl
        simp at hl
        omega
      · rfl
    rw [hp]
    exact place_len s w (by rw [bne_iff_ne]; omega)

set_option maxRecDepth 100000 in
set_option maxHeartbeats 1000000 in
theorem rd_a1 (s : ByteArray) (hs : s.size ≤ 1048576) (w : World) (h1 : (1 : Int) < (s.size : Int)) (h0 : 0 < s.size) (h35 : (((s[0]'h0).toNat : Int) == 35) = true) (n : Int) (hn : numTup (numB (s.extract 1 s.size).data.toList) = .tuple #[.int .i64 n, .bool false]) :
    Calls Tryz.prog 27 #[.string s] w fun e w' => e = .returned (.tuple #[.agg #[.int .i64 0, .int .i64 0, .int .i64 0, .int .i64 0], .bool false]) ∧ Below w.heap.size w w' := by
  go_enter Tryz.func27, Tryz.ntmps27
  go_wp2_with fail
  refine (l12Num_any (s.extract 1 s.size) (by rw [ByteArray.size_extract]; omega) _).mono ?_
  rw [hn]
  rintro e w1 ⟨rfl, rfl⟩
  go_wp2
  exact bodyPost_ret (v := .tuple #[.agg #[.int .i64 0, .int .i64 0, .int .i64 0, .int .i64 0], .bool false]) (by simp [results, Tryz.results27, go_sem]) rfl ⟨rfl, bel_alloc _⟩

set_option maxRecDepth 100000 in
set_option maxHeartbeats 1000000 in
theorem rd_a2 (s : ByteArray) (hs : s.size ≤ 1048576) (w : World) (h1 : (1 : Int) < (s.size : Int)) (h0 : 0 < s.size) (h35 : (((s[0]'h0).toNat : Int) == 35) = true) (n : Int) (hn : numTup (numB (s.extract 1 s.size).data.toList) = .tuple #[.int .i64 n, .bool true]) (hc : cellB n = false) :
    Calls Tryz.prog 27 #[.string s] w fun e w' => e = .returned (.tuple #[.agg #[.int .i64 0, .int .i64 0, .int .i64 0, .int .i64 0], .bool false]) ∧ Below w.heap.size w w' := by
  go_enter Tryz.func27, Tryz.ntmps27
  go_wp2_with fail
  refine (l12Num_any (s.extract 1 s.size) (by rw [ByteArray.size_extract]; omega) _).mono ?_
  rw [hn]
  rintro e w1 ⟨rfl, rfl⟩
  go_wp2_with fail
  refine (l1Cell_any _ _).mono ?_
  rintro e w2 ⟨rfl, rfl⟩
  rw [hc]
  go_wp2
  exact bodyPost_ret (v := .tuple #[.agg #[.int .i64 0, .int .i64 0, .int .i64 0, .int .i64 0], .bool false]) (by simp [results, Tryz.results27, go_sem]) rfl ⟨rfl, bel_alloc _⟩

set_option maxRecDepth 100000 in
set_option maxHeartbeats 1000000 in
theorem rd_a3 (s : ByteArray) (hs : s.size ≤ 1048576) (w : World) (h1 : (1 : Int) < (s.size : Int)) (h0 : 0 < s.size) (h35 : (((s[0]'h0).toNat : Int) == 35) = true) (n : Int) (hn : numTup (numB (s.extract 1 s.size).data.toList) = .tuple #[.int .i64 n, .bool true]) (hc : cellB n = true) :
    Calls Tryz.prog 27 #[.string s] w fun e w' => e = .returned (.tuple #[.agg #[.int .i64 2, .int .i64 0, .int .i64 0, .int .i64 n], .bool true]) ∧ Below w.heap.size w w' := by
  go_enter Tryz.func27, Tryz.ntmps27
  go_wp2_with fail
  refine (l12Num_any (s.extract 1 s.size) (by rw [ByteArray.size_extract]; omega) _).mono ?_
  rw [hn]
  rintro e w1 ⟨rfl, rfl⟩
  go_wp2_with fail
  refine (l1Cell_any _ _).mono ?_
  rintro e w2 ⟨rfl, rfl⟩
  rw [hc]
  go_wp2
  exact bodyPost_ret (v := .tuple #[.agg #[.int .i64 2, .int .i64 0, .int .i64 0, .int .i64 n], .bool true]) (by simp [results, Tryz.results27, go_sem]) rfl ⟨rfl, bel_alloc _⟩

set_option maxRecDepth 100000 in
set_option maxHeartbeats 1000000 in
theorem rd_s1n (s : ByteArray) (hs : s.size ≤ 1048576) (w : World) (h1 : ¬ (1 : Int) < (s.size : Int)) (hf : findC 43 s.data.toList = -1) (hp : placeTup (placeB s.data.toList) = .tuple #[.int .i64 0, .bool false]) :
    Calls Tryz.prog 27 #[.string s] w fun e w' => e = .returned (.tuple #[.agg #[.int .i64 0, .int .i64 0, .int .i64 0, .int .i64 0], .bool false]) ∧ Below w.heap.size w w' := by
  go_enter Tryz.func27, Tryz.ntmps27
  go_wp2_with fail
  refine (l12Find_43 s hs _).mono ?_
  rw [hf]
  rintro e w1 ⟨rfl, rfl⟩
  go_wp2_with fail
  refine (l3Place_any s _).mono ?_
  rw [hp]
  rintro e w2 ⟨rfl, rfl⟩
  go_wp2
  exact bodyPost_ret (v := .tuple #[.agg #[.int .i64 0, .int .i64 0, .int .i64 0, .int .i64 0], .bool false]) (by simp [results, Tryz.results27, go_sem]) rfl ⟨rfl, bel_alloc _⟩

set_option maxRecDepth 100000 in
set_option maxHeartbeats 1000000 in
theorem rd_s1y (s : ByteArray) (hs : s.size ≤ 1048576) (w : World) (h1 : ¬ (1 : Int) < (s.size : Int)) (a : Int) (hf : findC 43 s.data.toList = -1) (hp : placeTup (placeB s.data.toList) = .tuple #[.int .i64 a, .bool true]) :
    Calls Tryz.prog 27 #[.string s] w fun e w' => e = .returned (.tuple #[.agg #[.int .i64 1, .int .i64 a, .int .i64 0, .int .i64 0], .bool true]) ∧ Below w.heap.size w w' := by
  go_enter Tryz.func27, Tryz.ntmps27
  go_wp2_with fail
  refine (l12Find_43 s hs _).mono ?_
  rw [hf]
  rintro e w1 ⟨rfl, rfl⟩
  go_wp2_with fail
  refine (l3Place_any s _).mono ?_
  rw [hp]
  rintro e w2 ⟨rfl, rfl⟩
  go_wp2
  exact bodyPost_ret (v := .tuple #[.agg #[.int .i64 1, .int .i64 a, .int .i64 0, .int .i64 0], .bool true]) (by simp [results, Tryz.results27, go_sem]) rfl ⟨rfl, bel_alloc _⟩

set_option maxRecDepth 100000 in
set_option maxHeartbeats 1000000 in
theorem rd_s2tt (s : ByteArray) (hs : s.size ≤ 1048576) (w : World) (h1 : ¬ (1 : Int) < (s.size : Int)) (k : Nat) (hk : k + 1 ≤ s.size) (a b : Int) (hf : findC 43 s.data.toList = (k : Int)) (hp : placeTup (placeB (s.extract 0 k).data.toList) = .tuple #[.int .i64 a, .bool true]) (hq : placeTup (placeB (s.extract (k + 1) s.size).data.toList) = .tuple #[.int .i64 b, .bool true]) :
    Calls Tryz.prog 27 #[.string s] w fun e w' => e = .returned (.tuple #[.agg #[.int .i64 3, .int .i64 a, .int .i64 b, .int .i64 0], .bool true]) ∧ Below w.heap.size w w' := by
  go_enter Tryz.func27, Tryz.ntmps27
  go_wp2_with fail
  refine (l12Find_43 s hs _).mono ?_
  rw [hf]
  rintro e w1 ⟨rfl, rfl⟩
  go_wp2_with fail
  refine (l3Place_any (s.extract 0 k) _).mono ?_
  rw [hp]
  rintro e w2 ⟨rfl, rfl⟩
  go_wp2_with fail
  refine (l3Place_any (s.extract (k + 1) s.size) _).mono ?_
  rw [hq]
  rintro e w3 ⟨rfl, rfl⟩
  go_wp2
  exact bodyPost_ret (v := .tuple #[.agg #[.int .i64 3, .int .i64 a, .int .i64 b, .int .i64 0], .bool true]) (by simp [results, Tryz.results27, go_sem]) rfl ⟨rfl, bel_alloc _⟩

set_option maxRecDepth 100000 in
set_option maxHeartbeats 1000000 in
theorem rd_s2tf (s : ByteArray) (hs : s.size ≤ 1048576) (w : World) (h1 : ¬ (1 : Int) < (s.size : Int)) (k : Nat) (hk : k + 1 ≤ s.size) (a b : Int) (hf : findC 43 s.data.toList = (k : Int)) (hp : placeTup (placeB (s.extract 0 k).data.toList) = .tuple #[.int .i64 a, .bool true]) (hq : placeTup (placeB (s.extract (k + 1) s.size).data.toList) = .tuple #[.int .i64 b, .bool false]) :
    Calls Tryz.prog 27 #[.string s] w fun e w' => e = .returned (.tuple #[.agg #[.int .i64 0, .int .i64 0, .int .i64 0, .int .i64 0], .bool false]) ∧ Below w.heap.size w w' := by
  go_enter Tryz.func27, Tryz.ntmps27
  go_wp2_with fail
  refine (l12Find_43 s hs _).mono ?_
  rw [hf]
  rintro e w1 ⟨rfl, rfl⟩
  go_wp2_with fail
  refine (l3Place_any (s.extract 0 k) _).mono ?_
  rw [hp]
  rintro e w2 ⟨rfl, rfl⟩
  go_wp2_with fail
  refine (l3Place_any (s.extract (k + 1) s.size) _).mono ?_
  rw [hq]
  rintro e w3 ⟨rfl, rfl⟩
  go_wp2
  exact bodyPost_ret (v := .tuple #[.agg #[.int .i64 0, .int .i64 0, .int .i64 0, .int .i64 0], .bool false]) (by simp [results, Tryz.results27, go_sem]) rfl ⟨rfl, bel_alloc _⟩

set_option maxRecDepth 100000 in
set_option maxHeartbeats 1000000 in
theorem rd_s2ft (s : ByteArray) (hs : s.size ≤ 1048576) (w : World) (h1 : ¬ (1 : Int) < (s.size : Int)) (k : Nat) (hk : k + 1 ≤ s.size) (a b : Int) (hf : findC 43 s.data.toList = (k : Int)) (hp : placeTup (placeB (s.extract 0 k).data.toList) = .tuple #[.int .i64 a, .bool false]) (hq : placeTup (placeB (s.extract (k + 1) s.size).data.toList) = .tuple #[.int .i64 b, .bool true]) :
    Calls Tryz.prog 27 #[.string s] w fun e w' => e = .returned (.tuple #[.agg #[.int .i64 0, .int .i64 0, .int .i64 0, .int .i64 0], .bool false]) ∧ Below w.heap.size w w' := by
  go_enter Tryz.func27, Tryz.ntmps27
  go_wp2_with fail
  refine (l12Find_43 s hs _).mono ?_
  rw [hf]
  rintro e w1 ⟨rfl, rfl⟩
  go_wp2_with fail
  refine (l3Place_any (s.extract 0 k) _).mono ?_
  rw [hp]
  rintro e w2 ⟨rfl, rfl⟩
  go_wp2_with fail
  refine (l3Place_any (s.extract (k + 1) s.size) _).mono ?_
  rw [hq]
  rintro e w3 ⟨rfl, rfl⟩
  go_wp2
  exact bodyPost_ret (v := .tuple #[.agg #[.int .i64 0, .int .i64 0, .int .i64 0, .int .i64 0], .bool false]) (by simp [results, Tryz.results27, go_sem]) rfl ⟨rfl, bel_alloc _⟩

set_option maxRecDepth 100000 in
set_option maxHeartbeats 1000000 in
theorem rd_s2ff (s : ByteArray) (hs : s.size ≤ 1048576) (w : World) (h1 : ¬ (1 : Int) < (s.size : Int)) (k : Nat) (hk : k + 1 ≤ s.size) (a b : Int) (hf : findC 43 s.data.toList = (k : Int)) (hp : placeTup (placeB (s.extract 0 k).data.toList) = .tuple #[.int .i64 a, .bool false]) (hq : placeTup (placeB (s.extract (k + 1) s.size).data.toList) = .tuple #[.int .i64 b, .bool false]) :
    Calls Tryz.prog 27 #[.string s] w fun e w' => e = .returned (.tuple #[.agg #[.int .i64 0, .int .i64 0, .int .i64 0, .int .i64 0], .bool false]) ∧ Below w.heap.size w w' := by
  go_enter Tryz.func27, Tryz.ntmps27
  go_wp2_with fail
  refine (l12Find_43 s hs _).mono ?_
  rw [hf]
  rintro e w1 ⟨rfl, rfl⟩
  go_wp2_with fail
  refine (l3Place_any (s.extract 0 k) _).mono ?_
  rw [hp]
  rintro e w2 ⟨rfl, rfl⟩
  go_wp2_with fail
  refine (l3Place_any (s.extract (k + 1) s.size) _).mono ?_
  rw [hq]
  rintro e w3 ⟨rfl, rfl⟩
  go_wp2
  exact bodyPost_ret (v := .tuple #[.agg #[.int .i64 0, .int .i64 0, .int .i64 0, .int .i64 0], .bool false]) (by simp [results, Tryz.results27, go_sem]) rfl ⟨rfl, bel_alloc _⟩

set_option maxRecDepth 100000 in
set_option maxHeartbeats 1000000 in
theorem rd_c1n (s : ByteArray) (hs : s.size ≤ 1048576) (w : World) (h1 : (1 : Int) < (s.size : Int)) (h0 : 0 < s.size) (h35 : (((s[0]'h0).toNat : Int) == 35) = false) (hf : findC 43 s.data.toList = -1) (hp : placeTup (placeB s.data.toList) = .tuple #[.int .i64 0, .bool false]) :
    Calls Tryz.prog 27 #[.string s] w fun e w' => e = .returned (.tuple #[.agg #[.int .i64 0, .int .i64 0, .int .i64 0, .int .i64 0], .bool false]) ∧ Below w.heap.size w w' := by
  go_enter Tryz.func27, Tryz.ntmps27
  go_wp2_with fail
  refine (l12Find_43 s hs _).mono ?_
  rw [hf]
  rintro e w1 ⟨rfl, rfl⟩
  go_wp2_with fail
  refine (l3Place_any s _).mono ?_
  rw [hp]
  rintro e w2 ⟨rfl, rfl⟩
  go_wp2
  exact bodyPost_ret (v := .tuple #[.agg #[.int .i64 0, .int .i64 0, .int .i64 0, .int .i64 0], .bool false]) (by simp [results, Tryz.results27, go_sem]) rfl ⟨rfl, bel_alloc _⟩

set_option maxRecDepth 100000 in
set_option maxHeartbeats 1000000 in
theorem rd_c1y (s : ByteArray) (hs : s.size ≤ 1048576) (w : World) (h1 : (1 : Int) < (s.size : Int)) (h0 : 0 < s.size) (h35 : (((s[0]'h0).toNat : Int) == 35) = false) (a : Int) (hf : findC 43 s.data.toList = -1) (hp : placeTup (placeB s.data.toList) = .tuple #[.int .i64 a, .bool true]) :
    Calls Tryz.prog 27 #[.string s] w fun e w' => e = .returned (.tuple #[.agg #[.int .i64 1, .int .i64 a, .int .i64 0, .int .i64 0], .bool true]) ∧ Below w.heap.size w w' := by
  go_enter Tryz.func27, Tryz.ntmps27
  go_wp2_with fail
  refine (l12Find_43 s hs _).mono ?_
  rw [hf]
  rintro e w1 ⟨rfl, rfl⟩
  go_wp2_with fail
  refine (l3Place_any s _).mono ?_
  rw [hp]
  rintro e w2 ⟨rfl, rfl⟩
  go_wp2
  exact bodyPost_ret (v := .tuple #[.agg #[.int .i64 1, .int .i64 a, .int .i64 0, .int .i64 0], .bool true]) (by simp [results, Tryz.results27, go_sem]) rfl ⟨rfl, bel_alloc _⟩

set_option maxRecDepth 100000 in
set_option maxHeartbeats 1000000 in
theorem rd_c2tt (s : ByteArray) (hs : s.size ≤ 1048576) (w : World) (h1 : (1 : Int) < (s.size : Int)) (h0 : 0 < s.size) (h35 : (((s[0]'h0).toNat : Int) == 35) = false) (k : Nat) (hk : k + 1 ≤ s.size) (a b : Int) (hf : findC 43 s.data.toList = (k : Int)) (hp : placeTup (placeB (s.extract 0 k).data.toList) = .tuple #[.int .i64 a, .bool true]) (hq : placeTup (placeB (s.extract (k + 1) s.size).data.toList) = .tuple #[.int .i64 b, .bool true]) :
    Calls Tryz.prog 27 #[.string s] w fun e w' => e = .returned (.tuple #[.agg #[.int .i64 3, .int .i64 a, .int .i64 b, .int .i64 0], .bool true]) ∧ Below w.heap.size w w' := by
  go_enter Tryz.func27, Tryz.ntmps27
  go_wp2_with fail
  refine (l12Find_43 s hs _).mono ?_
  rw [hf]
  rintro e w1 ⟨rfl, rfl⟩
  go_wp2_with fail
  refine (l3Place_any (s.extract 0 k) _).mono ?_
  rw [hp]
  rintro e w2 ⟨rfl, rfl⟩
  go_wp2_with fail
  refine (l3Place_any (s.extract (k + 1) s.size) _).mono ?_
  rw [hq]
  rintro e w3 ⟨rfl, rfl⟩
  go_wp2
  exact bodyPost_ret (v := .tuple #[.agg #[.int .i64 3, .int .i64 a, .int .i64 b, .int .i64 0], .bool true]) (by simp [results, Tryz.results27, go_sem]) rfl ⟨rfl, bel_alloc _⟩

set_option maxRecDepth 100000 in
set_option maxHeartbeats 1000000 in
theorem rd_c2tf (s : ByteArray) (hs : s.size ≤ 1048576) (w : World) (h1 : (1 : Int) < (s.size : Int)) (h0 : 0 < s.size) (h35 : (((s[0]'h0).toNat : Int) == 35) = false) (k : Nat) (hk : k + 1 ≤ s.size) (a b : Int) (hf : findC 43 s.data.toList = (k : Int)) (hp : placeTup (placeB (s.extract 0 k).data.toList) = .tuple #[.int .i64 a, .bool true]) (hq : placeTup (placeB (s.extract (k + 1) s.size).data.toList) = .tuple #[.int .i64 b, .bool false]) :
    Calls Tryz.prog 27 #[.string s] w fun e w' => e = .returned (.tuple #[.agg #[.int .i64 0, .int .i64 0, .int .i64 0, .int .i64 0], .bool false]) ∧ Below w.heap.size w w' := by
  go_enter Tryz.func27, Tryz.ntmps27
  go_wp2_with fail
  refine (l12Find_43 s hs _).mono ?_
  rw [hf]
  rintro e w1 ⟨rfl, rfl⟩
  go_wp2_with fail
  refine (l3Place_any (s.extract 0 k) _).mono ?_
  rw [hp]
  rintro e w2 ⟨rfl, rfl⟩
  go_wp2_with fail
  refine (l3Place_any (s.extract (k + 1) s.size) _).mono ?_
  rw [hq]
  rintro e w3 ⟨rfl, rfl⟩
  go_wp2
  exact bodyPost_ret (v := .tuple #[.agg #[.int .i64 0, .int .i64 0, .int .i64 0, .int .i64 0], .bool false]) (by simp [results, Tryz.results27, go_sem]) rfl ⟨rfl, bel_alloc _⟩

set_option maxRecDepth 100000 in
set_option maxHeartbeats 1000000 in
theorem rd_c2ft (s : ByteArray) (hs : s.size ≤ 1048576) (w : World) (h1 : (1 : Int) < (s.size : Int)) (h0 : 0 < s.size) (h35 : (((s[0]'h0).toNat : Int) == 35) = false) (k : Nat) (hk : k + 1 ≤ s.size) (a b : Int) (hf : findC 43 s.data.toList = (k : Int)) (hp : placeTup (placeB (s.extract 0 k).data.toList) = .tuple #[.int .i64 a, .bool false]) (hq : placeTup (placeB (s.extract (k + 1) s.size).data.toList) = .tuple #[.int .i64 b, .bool true]) :
    Calls Tryz.prog 27 #[.string s] w fun e w' => e = .returned (.tuple #[.agg #[.int .i64 0, .int .i64 0, .int .i64 0, .int .i64 0], .bool false]) ∧ Below w.heap.size w w' := by
  go_enter Tryz.func27, Tryz.ntmps27
  go_wp2_with fail
  refine (l12Find_43 s hs _).mono ?_
  rw [hf]
  rintro e w1 ⟨rfl, rfl⟩
  go_wp2_with fail
  refine (l3Place_any (s.extract 0 k) _).mono ?_
  rw [hp]
  rintro e w2 ⟨rfl, rfl⟩
  go_wp2_with fail
  refine (l3Place_any (s.extract (k + 1) s.size) _).mono ?_
  rw [hq]
  rintro e w3 ⟨rfl, rfl⟩
  go_wp2
  exact bodyPost_ret (v := .tuple #[.agg #[.int .i64 0, .int .i64 0, .int .i64 0, .int .i64 0], .bool false]) (by simp [results, Tryz.results27, go_sem]) rfl ⟨rfl, bel_alloc _⟩

set_option maxRecDepth 100000 in
set_option maxHeartbeats 1000000 in
theorem rd_c2ff (s : ByteArray) (hs : s.size ≤ 1048576) (w : World) (h1 : (1 : Int) < (s.size : Int)) (h0 : 0 < s.size) (h35 : (((s[0]'h0).toNat : Int) == 35) = false) (k : Nat) (hk : k + 1 ≤ s.size) (a b : Int) (hf : findC 43 s.data.toList = (k : Int)) (hp : placeTup (placeB (s.extract 0 k).data.toList) = .tuple #[.int .i64 a, .bool false]) (hq : placeTup (placeB (s.extract (k + 1) s.size).data.toList) = .tuple #[.int .i64 b, .bool false]) :
    Calls Tryz.prog 27 #[.string s] w fun e w' => e = .returned (.tuple #[.agg #[.int .i64 0, .int .i64 0, .int .i64 0, .int .i64 0], .bool false]) ∧ Below w.heap.size w w' := by
  go_enter Tryz.func27, Tryz.ntmps27
  go_wp2_with fail
  refine (l12Find_43 s hs _).mono ?_
  rw [hf]
  rintro e w1 ⟨rfl, rfl⟩
  go_wp2_with fail
  refine (l3Place_any (s.extract 0 k) _).mono ?_
  rw [hp]
  rintro e w2 ⟨rfl, rfl⟩
  go_wp2_with fail
  refine (l3Place_any (s.extract (k + 1) s.size) _).mono ?_
  rw [hq]
  rintro e w3 ⟨rfl, rfl⟩
  go_wp2
  exact bodyPost_ret (v := .tuple #[.agg #[.int .i64 0, .int .i64 0, .int .i64 0, .int .i64 0], .bool false]) (by simp [results, Tryz.results27, go_sem]) rfl ⟨rfl, bel_alloc _⟩

/-- What is read, nothing being all 0. -/
def outC (o : Option Cel) : Cel := o.getD ⟨0, 0, 0, 0⟩
theorem place_tup (l : List UInt8) : ∃ (a : Int) (b : Bool), placeTup (placeB l) = .tuple #[.int .i64 a, .bool b] ∧ (b = true → placeB l = some a) ∧ (b = false → placeB l = none ∧ a = 0) := by
  cases h : placeB l with
  | none => exact ⟨0, false, rfl, fun h => (by cases h), fun _ => ⟨rfl, rfl⟩⟩
  | some a => exact ⟨a, true, rfl, fun _ => rfl, fun h => (by cases h)⟩
theorem num_tup (o : Option Int) : ∃ (n : Int) (b : Bool), numTup o = .tuple #[.int .i64 n, .bool b] ∧ (b = true → o = some n) ∧ (b = false → o = none) := by
  cases o with
  | none => exact ⟨_, false, rfl, fun h => (by cases h), fun _ => rfl⟩
  | some n => exact ⟨n, true, rfl, fun _ => rfl, fun h => (by cases h)⟩

theorem specCellRead_any (s : ByteArray) (hs : s.size ≤ 1048576) (w : World) :
    Calls Tryz.prog 27 #[.string s] w fun e w' => e = .returned (.tuple #[.agg #[.int .i64 (outC (readC s.data.toList)).k, .int .i64 (outC (readC s.data.toList)).a, .int .i64 (outC (readC s.data.toList)).b, .int .i64 (outC (readC s.data.toList)).n], .bool (readC s.data.toList).isSome]) ∧ Below w.heap.size w w' := by
  have hl := len_l s
  by_cases h1 : 1 < s.size
  · have h0 : 0 < s.size := by omega
    have hh : s.data.toList.head? = some (s[0]'h0) := by rw [drop_first s h0]; rfl
    by_cases h35 : s[0]'h0 = 35
    · have hr : readC s.data.toList = (numB s.data.toList.tail).bind fun n => if cellB n = true then some ⟨2, 0, 0, n⟩ else none := by
        unfold readC
        rw [if_pos ⟨by omega, by rw [hh, h35]⟩]
      have g : (((s[0]'h0).toNat : Int) == 35) = true := by rw [h35]; rfl
      obtain ⟨n, b, hn, hy, hno⟩ := num_tup (numB (s.extract 1 s.size).data.toList)
      rw [hr, ← tail_list s]
      cases b
      · rw [hno rfl]
        exact rd_a1 s hs w (by omega) h0 g n hn
      · rw [hy rfl]
        cases hc : cellB n
        · simp only [Option.bind_some, hc]
          exact rd_a2 s hs w (by omega) h0 g n hn hc
        · simp only [Option.bind_some, hc]
          exact rd_a3 s hs w (by omega) h0 g n hn hc
    · have g : (((s[0]'h0).toNat : Int) == 35) = false := by
        rw [beq_eq_false_iff_ne]
        intro e
        have e2 : (s[0]'h0).toNat = (35 : UInt8).toNat := by show _ = 35; omega
        exact h35 (UInt8.toNat_inj.1 e2)
      have hr : readC s.data.toList = match cutAt 43 s.data.toList with
          | none => (placeB s.data.toList).map fun a => ⟨1, a, 0, 0⟩
          | some q => (placeB q.1).bind fun a => (placeB q.2).map fun b => ⟨3, a, b, 0⟩ := by
        unfold readC
        rw [if_neg (by rw [hh]; intro e; exact h35 (Option.some.inj e.2))]
        cases cutAt 43 s.data.toList <;> rfl
      rw [hr]
      cases hc : cutAt 43 s.data.toList with
      | none =>
        have hf : findC 43 s.data.toList = -1 := by unfold findC; rw [hc]
        obtain ⟨a, b, ht, hy, hno⟩ := place_tup s.data.toList
        cases b
        · simp only [(hno rfl).1]
          rw [(hno rfl).2] at ht
          exact rd_c1n s hs w (by omega) h0 g hf ht
        · simp only [hy rfl]
          exact rd_c1y s hs w (by omega) h0 g a hf ht
      | some q =>
        have hq := cutAt_back hc
        have hf : findC 43 s.data.toList = (q.1.length : Int) := by unfold findC; rw [hc]
        have hlen : s.data.toList.length = q.1.length + 1 + q.2.length := by rw [hq]; simp; omega
        have e1 : (s.extract 0 q.1.length).data.toList = q.1 := by rw [piece_l, hq]; simp
        have e2 : (s.extract (q.1.length + 1) s.size).data.toList = q.2 := by
          rw [piece_l, show s.size = q.1.length + 1 + q.2.length by omega]
          conv => lhs; rw [hq]
          exact drop_piece 43 q.1 q.2
        obtain ⟨a, x, ht, hy, hno⟩ := place_tup (s.extract 0 q.1.length).data.toList
        obtain ⟨b, y, ht2, hy2, hno2⟩ := place_tup (s.extract (q.1.length + 1) s.size).data.toList
        rw [e1] at hy hno
        rw [e2] at hy2 hno2
        cases x
        · simp only [(hno rfl).1]
          cases y
          · exact rd_c2ff s hs w (by omega) h0 g q.1.length (by omega) a b hf ht ht2
          · exact rd_c2ft s hs w (by omega) h0 g q.1.length (by omega) a b hf ht ht2
        · simp only [hy rfl]
          cases y
          · simp only [(hno2 rfl).1]
            exact rd_c2tf s hs w (by omega) h0 g q.1.length (by omega) a b hf ht ht2
          · simp only [hy2 rfl]
            exact rd_c2tt s hs w (by omega) h0 g q.1.length (by omega) a b hf ht ht2
  · have hr : readC s.data.toList = match cutAt 43 s.data.toList with
        | none => (placeB s.data.toList).map fun a => ⟨1, a, 0, 0⟩
        | some q => (placeB q.1).bind fun a => (placeB q.2).map fun b => ⟨3, a, b, 0⟩ := by
      unfold readC
      rw [if_neg (by omega)]
      cases cutAt 43 s.data.toList <;> rfl
    rw [hr]
    cases hc : cutAt 43 s.data.toList with
    | none =>
      have hf : findC 43 s.data.toList = -1 := by unfold findC; rw [hc]
      obtain ⟨a, b, ht, hy, hno⟩ := place_tup s.data.toList
      cases b
      · simp only [(hno rfl).1]
        rw [(hno rfl).2] at ht
        exact rd_s1n s hs w (by omega) hf ht
      · simp only [hy rfl]
        exact rd_s1y s hs w (by omega) a hf ht
    | some q =>
      have hq := cutAt_back hc
      have hf : findC 43 s.data.toList = (q.1.length : Int) := by unfold findC; rw [hc]
      have hlen : s.data.toList.length = q.1.length + 1 + q.2.length := by rw [hq]; simp; omega
      have e1 : (s.extract 0 q.1.length).data.toList = q.1 := by rw [piece_l, hq]; simp
      have e2 : (s.extract (q.1.length + 1) s.size).data.toList = q.2 := by
          rw [piece_l, show s.size = q.1.length + 1 + q.2.length by omega]
          conv => lhs; rw [hq]
          exact drop_piece 43 q.1 q.2
      obtain ⟨a, x, ht, hy, hno⟩ := place_tup (s.extract 0 q.1.length).data.toList
      obtain ⟨b, y, ht2, hy2, hno2⟩ := place_tup (s.extract (q.1.length + 1) s.size).data.toList
      rw [e1] at hy hno
      rw [e2] at hy2 hno2
      cases x
      · simp only [(hno rfl).1]
        cases y
        · exact rd_s2ff s hs w (by omega) q.1.length (by omega) a b hf ht ht2
        · exact rd_s2ft s hs w (by omega) q.1.length (by omega) a b hf ht ht2
      · simp only [hy rfl]
        cases y
        · simp only [(hno2 rfl).1]
          exact rd_s2tf s hs w (by omega) q.1.length (by omega) a b hf ht ht2
        · simp only [hy2 rfl]
          exact rd_s2tt s hs w (by omega) q.1.length (by omega) a b hf ht ht2

end Go.Proofs.YtkgopbffgahhcaaGreatDoor
