/-
  The contracts of spec.l12Find (at a star), spec.l2One and spec.ZRead: at every text of at most 2^20 bytes spec.ZRead answers what readZ reads: the items in memory of their own, or nothing.
-/
import Derived.Test.YtkgopbffgahhcaaGreatDoorCutS
import Derived.Test.YtkgopbffgahhcaaGreatDoorRead
import Derived.Test.YtkgopbffgahhcaaGreatDoorZOk
namespace Go.Proofs.YtkgopbffgahhcaaGreatDoor
set_option maxRecDepth 100000
open Go.RowKit

theorem starAt_none : ∀ {l : List UInt8}, (∀ c ∈ l, c ≠ 42) → starAt l = none
  | [], _ => rfl
  | c :: l, h => by
    have ih := starAt_none (l := l) fun d hd => h d (by simp [hd])
    simp [starAt, h c (by simp), ih]
def findStar (l : List UInt8) : Int := match starAt l with
  | some q => q.1.length
  | none => -1
theorem find_at {l : List UInt8} {k : Nat} (hk : k < l.length) (h : ∀ j (hj : j < k), l[j]'(by omega) ≠ 42) (he : l[k] = 42) : starAt l = some (l.take k, l.drop (k + 1)) := by
  have e : l = l.take k ++ 42 :: l.drop (k + 1) := by
    conv => lhs; rw [← List.take_append_drop k l, List.drop_eq_getElem_cons hk, he]
  conv => lhs; rw [e]
  refine starAt_at fun c hc => ?_
  obtain ⟨j, hj, rfl⟩ := List.getElem_of_mem hc
  rw [List.length_take] at hj
  rw [List.getElem_take]
  exact h j (by omega)

set_option maxHeartbeats 1000000 in
theorem l12Find_any (s : ByteArray) (hs : s.size ≤ 1048576) (w : World) :
    Calls Tryz.prog 75 #[.string s, .int .u8 42] w fun e w' => e = .returned (.int .i64 (findStar s.data.toList)) ∧ w' = w := by
  go_enter Tryz.func75, Tryz.ntmps75
  go_wp2
  go_loop [5] (fun i => ∃ k : Nat, k ≤ s.size ∧ i = .int .i64 k ∧ Hid (∀ j (hj : j < s.size), j < k → s[j] ≠ 42)) (fun i => s.size - (intOf i).toNat)
  case atStart => exact ⟨0, Nat.zero_le _, rfl, fun j hj hk => by omega⟩
  case round =>
    obtain ⟨k, hk, rfl, HN⟩ := hrel
    by_cases hlt : k < s.size
    · have hll : k < s.data.toList.length := by rw [len_list]; exact hlt
      by_cases h42 : (s[k]'hlt) = 42
      · have gc : (((s[k]'hlt).toNat : Int) == 42) = true := by rw [h42]; rfl
        have HF : Hid (findStar s.data.toList = (k : Int)) := by
          show _ = _
          unfold findStar
          rw [find_at hll (fun j hj => HN.out j (by omega) hj) h42]
          simp [List.length_take]
          omega
        clear h42 hll
        go_wp2
        go_ret
        exact ⟨ret_int HF.out.symm, rfl⟩
      · have gc : (((s[k]'hlt).toNat : Int) == 42) = false := by
          rw [beq_eq_false_iff_ne]
          intro e
          have e2 : (s[k]'hlt).toNat = (42 : UInt8).toNat := by show _ = 42; omega
          exact h42 (UInt8.toNat_inj.1 e2)
        have HN2 : Hid (∀ j (hj : j < s.size), j < k + 1 → s[j] ≠ 42) := fun j hj hjk => by
          rcases Nat.lt_succ_iff_lt_or_eq.1 hjk with h | h
          · exact HN.out j hj h
          · subst h; exact h42
        clear h42 hll HN
        go_wp2
        go_round
        case rel => exact ⟨k + 1, by omega, by go_num, HN2⟩
        case measure => simp [intOf]; omega
    · have HF : Hid (findStar s.data.toList = -1) := by
        show _ = _
        unfold findStar
        rw [starAt_none fun c hc => ?_]
        obtain ⟨j, hj, rfl⟩ := List.getElem_of_mem hc
        rw [len_list] at hj
        exact HN.out j hj (by omega)
      go_wp2
      go_ret
      exact ⟨ret_int HF.out.symm, rfl⟩

/-- The answer of l2One: an item that is read, its row of the call's own; or nothing. -/
def OneEnd (w w' : World) (o : Option It) (e : Ending) : Prop :=
  (∃ (p : It) (v : Value), o = some p ∧ e = .returned (.tuple #[.agg #[v, .int .i64 p.2], .bool true]) ∧ Own w' w.heap.size w'.heap.size v p.1) ∨
  (o = none ∧ ∃ (a : Option Addr) (m c : Nat) (n : Int), e = .returned (.tuple #[.agg #[.slice a m c, .int .i64 n], .bool false]))

theorem Own.isSlice {w : World} {lo hi : Nat} {v : Value} {xs : List Int} (h : Own w lo hi v xs) : ∃ a m c, v = .slice a m c := by
  by_cases hne : v = .slice none 0 0
  · exact ⟨_, _, _, hne⟩
  · obtain ⟨g, cap, hv, _⟩ := h.shape' hne
    exact ⟨_, _, _, hv⟩

theorem numTup_cases (o : Option Int) : ∃ (n : Int) (c : Bool), numTup o = .tuple #[.int .i64 n, .bool c] ∧ (c = true → o = some n) ∧ (c = false → o = none) := by
  cases o with
  | none => exact ⟨0, false, rfl, fun h => by simp at h, fun _ => rfl⟩
  | some x => exact ⟨x, true, rfl, fun _ => rfl, fun h => by simp at h⟩

set_option maxHeartbeats 4000000 in
theorem l2One_any (s : ByteArray) (hs : s.size ≤ 1048576) (w : World) :
    Calls Tryz.prog 59 #[.string s] w fun e w' => OneEnd w w' (oneB s.data.toList) e ∧ Below w.heap.size w w' := by
  cases hst : starAt s.data.toList with
  | none =>
    have HO : Hid (oneB s.data.toList = none) := by show _ = _; unfold oneB; rw [hst]; rfl
    have hf : findStar s.data.toList = -1 := by unfold findStar; rw [hst]
    clear hst
    go_enter Tryz.func59, Tryz.ntmps59
    go_wp2_with fail
    refine (l12Find_any s hs _).mono ?_
    rw [hf]
    rintro e w1 ⟨rfl, rfl⟩
    go_wp2
    exact bodyPost_ret (v := .tuple #[.agg #[.slice none 0 0, .int .i64 0], .bool false]) (by simp [results, Tryz.results59, go_sem]) rfl ⟨.inr ⟨HO.out, _, _, _, _, rfl⟩, below_alloc _⟩
  | some q =>
    obtain ⟨k, hk⟩ : ∃ k, k = q.1.length := ⟨_, rfl⟩
    have hf : findStar s.data.toList = (k : Int) := by unfold findStar; rw [hst, hk]
    have hl := starAt_back (a := q.1) (b := q.2) hst
    have hlen : s.data.toList.length = k + 1 + q.2.length := by rw [hl, hk]; simp; omega
    have hks : k + 1 ≤ s.size := by rw [← len_list, hlen]; omega
    have e1 : (s.extract 0 k).data.toList = q.1 := by rw [piece_list, hl, hk]; simp
    have e2 : (s.extract (k + 1) s.size).data.toList = q.2 := by
      rw [piece_list, ← len_list, hlen, hl, hk]
      simp
    have HO : Hid (oneB s.data.toList = (readB q.1).bind fun r => (numB q.2).map fun n => (r, n)) := by show _ = _; unfold oneB; rw [hst]; rfl
    clear hst hl hlen
    have hs1 : (s.extract 0 k).size ≤ 1048576 := by rw [ByteArray.size_extract]; omega
    have hs2 : (s.extract (k + 1) s.size).size ≤ 1048576 := by rw [ByteArray.size_extract]; omega
    have HE1 : Hid ((s.extract 0 k).data.toList = q.1) := e1
    have HE2 : Hid ((s.extract (k + 1) s.size).data.toList = q.2) := e2
    clear hk e1 e2
    go_enter Tryz.func59, Tryz.ntmps59
    go_wp2_with fail
    refine (l12Find_any s hs _).mono ?_
    rw [hf]
    rintro e w1 ⟨rfl, rfl⟩
    clear hf
    go_wp2_with fail
    refine (specRowRead_any (s.extract 0 k) _).mono ?_
    rw [HE1.out]
    rintro e w2 ⟨hend, hb2⟩
    have hs1' : (w.alloc (Obj.cells #[Value.slice none 0 0, Value.int IntKind.i64 0] 38)).heap.size = w.heap.size + 1 := by simp
    have c0 : w2.cell? ⟨w.heap.size, 0, none⟩ = some (.slice none 0 0) := cell_is hb2 (by rw [hs1']; exact (show w.heap.size < w.heap.size + 1 by omega)) (by simp [go_sem])
    have c1 : w2.cell? ⟨w.heap.size, 1, none⟩ = some (.int .i64 0) := cell_is hb2 (by rw [hs1']; exact (show w.heap.size < w.heap.size + 1 by omega)) (by simp [go_sem])
    have f0 : w2.frozen? ⟨w.heap.size, 0, none⟩ = false := frozen_is hb2 (by rw [hs1']; exact (show w.heap.size < w.heap.size + 1 by omega)) (by simp [go_sem])
    have f1 : w2.frozen? ⟨w.heap.size, 1, none⟩ = false := frozen_is hb2 (by rw [hs1']; exact (show w.heap.size < w.heap.size + 1 by omega)) (by simp [go_sem])
    have HB : Hid (Below w.heap.size w w2) := below_then (below_alloc _) hb2
    have HSZ : Hid (w.heap.size + 1 ≤ w2.heap.size) := by have := hb2.size; rw [hs1'] at this; exact this
    clear hb2
    rcases hend with ⟨xs, v, hr, rfl, O2⟩ | ⟨hr, rfl⟩
    · have HR : Hid (readB q.1 = some xs) := hr
      clear hr
      rw [hs1'] at O2
      obtain ⟨va, vm, vc, hv⟩ := O2.isSlice
      rw [hv] at O2 ⊢
      have HO2 : Hid (Own w2 (w.heap.size + 1) w2.heap.size (.slice va vm vc) xs) := O2
      clear hv O2 hs1'
      go_wp2_with fail
      refine (l12Num_any (s.extract (k + 1) s.size) hs2 _).mono ?_
      rw [HE2.out]
      rintro e w3 ⟨rfl, rfl⟩
      obtain ⟨n, c, hn, ht, hf⟩ := numTup_cases (numB q.2)
      rw [hn]
      clear hn
      cases c with
      | true =>
        have HT : Hid (oneB s.data.toList = some (xs, n)) := by show _ = _; rw [HO.out, HR.out, ht rfl]; rfl
        clear ht hf
        go_wp2
        refine bodyPost_ret (v := .tuple #[.agg #[.slice va vm vc, .int .i64 n], .bool true]) (by simp [results, Tryz.results59, go_sem, c0, c1]) rfl ⟨.inl ⟨_, _, HT.out, rfl, ?_⟩, ?_⟩
        · refine (HO2.out.only (((Only.refl w.heap.size (w.heap.size + 1) _).setCell (by simp) (by simp) _).setCell (by simp) (by simp) _) (.inr (by omega))).wide (by omega) (by simp) (by simp)
        · exact (HB.out.setCell (by simp) _).setCell (by simp) _
      | false =>
        have HT : Hid (oneB s.data.toList = none) := by show _ = _; rw [HO.out, HR.out, hf rfl]; rfl
        clear ht hf
        go_wp2
        refine bodyPost_ret (v := .tuple #[.agg #[.slice va vm vc, .int .i64 n], .bool false]) (by simp [results, Tryz.results59, go_sem, c0, c1]) rfl ⟨.inr ⟨HT.out, _, _, _, _, rfl⟩, ?_⟩
        exact (HB.out.setCell (by simp) _).setCell (by simp) _
    · have HO2 : Hid (oneB s.data.toList = none) := by show _ = _; rw [HO.out, hr]; rfl
      clear hr HO hs1'
      go_wp2_with fail
      refine (l12Num_any (s.extract (k + 1) s.size) hs2 _).mono ?_
      rintro e w3 ⟨rfl, rfl⟩
      obtain ⟨n, c, hn, ht, hf⟩ := numTup_cases (numB (s.extract (k + 1) s.size).data.toList)
      rw [hn]
      clear hn ht hf
      go_wp2
      refine bodyPost_ret (v := .tuple #[.agg #[.slice none 0 0, .int .i64 n], .bool false]) (by simp [results, Tryz.results59, go_sem, c0, c1]) rfl ⟨.inr ⟨HO2.out, _, _, _, _, rfl⟩, ?_⟩
      exact (HB.out.setCell (by simp) _).setCell (by simp) _

end Go.Proofs.YtkgopbffgahhcaaGreatDoor
