/-
  Cells in memory, and the contracts of impl.rowOf and spec.l5Cells: what is reckoned of a row, cell by cell, in memory of its own; nothing, and false, if one can not be. Condition: the error of chapter 3 reads as it was laid.
-/
import Derived.Test.YtdponcnhdmkhiabDoorCellReck
import Derived.Test.YtdponcnhdmkhiabDoorClone
import Derived.Test.YtdponcnhdmkhiabDoorOwn
namespace Go.Proofs.YtdponcnhdmkhiabDoor
set_option maxRecDepth 100000
open Go.RowKit

def CelsAt (w : World) (v : Value) (cs : List Cel) : Prop :=
  ∃ (a : Option Addr) (cap : Nat), v = .slice a cs.length cap ∧ (cs ≠ [] → ∃ b off, a = some ⟨b, off, none⟩ ∧ b < w.heap.size ∧ ∀ j, j < cs.length →
    w.cell? ⟨b, off + j * 4, none⟩ = some (.int .i64 (cs.getD j ⟨0, 0, 0, 0⟩).k) ∧ w.cell? ⟨b, off + j * 4 + 1, none⟩ = some (.int .i64 (cs.getD j ⟨0, 0, 0, 0⟩).a) ∧
    w.cell? ⟨b, off + j * 4 + 2, none⟩ = some (.int .i64 (cs.getD j ⟨0, 0, 0, 0⟩).b) ∧ w.cell? ⟨b, off + j * 4 + 3, none⟩ = some (.int .i64 (cs.getD j ⟨0, 0, 0, 0⟩).n))
theorem CelsAt.below {w w' : World} {v : Value} {cs : List Cel} (h : CelsAt w v cs) (hb : Below w.heap.size w w') : CelsAt w' v cs := by
  obtain ⟨a, cap, rfl, hc⟩ := h
  refine ⟨a, cap, rfl, fun hne => ?_⟩
  obtain ⟨b, off, rfl, hbw, hcell⟩ := hc hne
  refine ⟨b, off, rfl, Nat.lt_of_lt_of_le hbw hb.size, fun j hj => ?_⟩
  obtain ⟨c0, c1, c2, c3⟩ := hcell j hj
  exact ⟨(hb.cell (p := ⟨b, off + j * 4, none⟩) hbw).trans c0, (hb.cell (p := ⟨b, off + j * 4 + 1, none⟩) hbw).trans c1, (hb.cell (p := ⟨b, off + j * 4 + 2, none⟩) hbw).trans c2, (hb.cell (p := ⟨b, off + j * 4 + 3, none⟩) hbw).trans c3⟩

def rowC (cs : List Cel) (xs : List Int) : List Int := cs.map fun c => c.valI xs
def toldC (cs : List Cel) (xs : List Int) : Bool := cs.all fun c => c.toldB xs
theorem rowC_take {cs : List Cel} {xs : List Int} {k : Nat} (hk : k < cs.length) : rowC (cs.take (k + 1)) xs = rowC (cs.take k) xs ++ [(cs.getD k ⟨0, 0, 0, 0⟩).valI xs] := by
  unfold rowC
  rw [List.take_succ_eq_append_getElem hk, List.map_append]
  simp [List.getD, hk]
theorem toldC_no {cs : List Cel} {xs : List Int} {k : Nat} (hk : k < cs.length) (h : (cs.getD k ⟨0, 0, 0, 0⟩).toldB xs = false) : toldC cs xs = false := by
  unfold toldC
  rw [List.all_eq_false]
  exact ⟨cs.getD k ⟨0, 0, 0, 0⟩, by simp [List.getD, hk], by rw [h]; simp⟩
theorem toldC_yes {cs : List Cel} {xs : List Int} (h : ∀ k, k < cs.length → (cs.getD k ⟨0, 0, 0, 0⟩).toldB xs = true) : toldC cs xs = true := by
  unfold toldC
  rw [List.all_eq_true]
  intro c hc
  obtain ⟨j, hj, e⟩ := mem_getD (d := (⟨0, 0, 0, 0⟩ : Cel)) hc
  rw [← e]
  exact h j hj
theorem int_lit (w : World) (n : Int) : IntsAt (w.alloc (.cells #[.int .i64 n] 3)) (.slice (some ⟨w.heap.size, 0, none⟩) 1 1) [n] := by
  refine ⟨by simp, _, _, rfl, by simp, fun _ => ⟨_, _, rfl, by simp, fun j hj => ?_⟩⟩
  have : j = 0 := by simp at hj; omega
  subst this
  simp [go_sem]
theorem nil_own (w : World) (lo : Nat) : Own w lo w.heap.size (.slice none 0 0) [] := ⟨⟨rfl, .inl ⟨rfl, rfl⟩⟩, fun k hk => by simp [Value.ownBlock] at hk, by simp, Nat.le_refl _⟩

set_option maxHeartbeats 4000000 in
theorem rowOf_any (v rv : Value) (cs : List Cel) (xs : List Int) (w : World) (p : Addr) (hs : Sent w p) (hc : CelsAt w v cs) (hx : IntsAt w rv xs) (hl0 : 1 ≤ cs.length) (hl : cs.length ≤ 6) :
    Calls Tryd.prog 23 #[v, rv] w fun e w' => ∃ v', e = .returned (.tuple #[v', .bool (toldC cs xs)]) ∧ Own w' w.heap.size w'.heap.size v' (if toldC cs xs then rowC cs xs else []) ∧ Below w.heap.size w w' := by
  obtain ⟨i0, hi, hz0, hz1, hz2⟩ := info_parts infoInt
  obtain ⟨a, cap, rfl, hcc⟩ := hc
  obtain ⟨b, off, rfl, hbw, hcell⟩ := hcc (fun e => by rw [e] at hl0; simp at hl0)
  obtain ⟨n, hn⟩ : ∃ n, n = cs.length := ⟨_, rfl⟩
  have HN : Hid (n = cs.length) := hn
  rw [← hn] at hl0 hl hcell ⊢
  obtain ⟨os, HOS⟩ : ∃ os, Hid (os = if toldC cs xs then rowC cs xs else []) := ⟨_, rfl⟩
  obtain ⟨d, HD⟩ : ∃ d, Hid (d = toldC cs xs) := ⟨_, rfl⟩
  rw [← HOS.out, ← HD.out]
  have HS : Hid (Sent w p) := hs
  have HX : Hid (IntsAt w rv xs) := hx
  clear hn hcc hs hx
  go_enter Tryd.func23, Tryd.ntmps23
  go_wp2_with (at_make; refine wpList_make_own _ rfl _ _ 32 rfl w.heap.size 3 i0 (.int .i64 0) 1 Tryd.underlying32 hi hz0 hz1 _ _ _ n rfl rfl (by omega) (by rw [hz2]; omega) (by unfold maxLen; omega) (Nat.le_refl _) ?_; intro w1 hown1 hgrow1)
  have hb1 : Below w.heap.size w w1 := (Below.refl _ _).grown hgrow1 (Nat.le_refl _) (by simp)
  have HO1 : Hid (Own w1 w.heap.size w1.heap.size (.slice (some ⟨w.heap.size, 0, none⟩) 0 n) (rowC (cs.take 0) xs)) := own_new (xs := []) (by simpa using hown1) (by simp)
  have HB1 : Hid (Below w.heap.size w w1) := hb1
  clear hown1 hgrow1 hb1
  go_wp2
  go_loopw [6, 16] (fun s i wr => ∃ (k : Nat), k ≤ n ∧ i = .int .i64 k ∧ Hid (Own wr w.heap.size wr.heap.size s (rowC (cs.take k) xs)) ∧ Hid (Below w.heap.size w wr) ∧ Hid (∀ j, j < k → (cs.getD j ⟨0, 0, 0, 0⟩).toldB xs = true)) (fun _ i _ => n - (intOf i).toNat)
  case atStart => exact ⟨0, Nat.zero_le _, rfl, HO1.out, HB1.out, fun j hj => by omega⟩
  case round =>
    obtain ⟨k, hk, rfl, HO, HW, HA⟩ := hrel
    clear HO1 HB1
    by_cases hlt : k < n
    · have hk' : k < cs.length := by rw [← HN.out]; exact hlt
      have hbq := HW.out
      obtain ⟨c0, c1, c2, c3⟩ := hcell k hlt
      have HT : Hid _ := rowC_take (xs := xs) hk'
      have hno := toldC_no (xs := xs) hk'
      obtain ⟨c, HC⟩ : ∃ c, Hid (c = cs.getD k ⟨0, 0, 0, 0⟩) := ⟨_, rfl⟩
      rw [← HC.out] at c0 c1 c2 c3 HT hno
      have g0 := (hbq.cell (p := ⟨b, off + k * 4, none⟩) hbw).trans c0
      have g1 := (hbq.cell (p := ⟨b, off + k * 4 + 1, none⟩) hbw).trans c1
      have g2 := (hbq.cell (p := ⟨b, off + k * 4 + 2, none⟩) hbw).trans c2
      have g3 := (hbq.cell (p := ⟨b, off + k * 4 + 3, none⟩) hbw).trans c3
      have hbr : b < wr.heap.size := Nat.lt_of_lt_of_le hbw hbq.size
      have hrl : (rowC (cs.take k) xs).length ≤ 6 := by unfold rowC; rw [List.length_map, List.length_take]; omega
      clear c0 c1 c2 c3 hcell
      go_wp2_with fail
      refine (implCellOf_any c rv xs _ p (HS.out.below (below_then hbq (below_alloc _))) (HX.out.below (below_then hbq (below_alloc _)))).mono ?_
      rintro e w2 ⟨rfl, hb2⟩
      have hk2 : Below wr.heap.size wr w2 := below_then (below_alloc _) hb2
      clear hb2 g0 g1 g2 g3
      cases ht : c.toldB xs with
      | false =>
        have hd : d = false := by rw [HD.out]; exact hno ht
        have hos : os = [] := by rw [HOS.out, hno ht]; rfl
        subst hd hos
        have HK : Hid (Below w.heap.size w w2) := hbq.trans (hk2.mono hbq.size)
        clear hno ht HT HO HW HA hbq hk2
        go_wp2
        go_ret2
        exact ⟨_, rfl, nil_own _ _, HK.out⟩
      | true =>
        have HA2 : Hid (∀ j, j < k + 1 → (cs.getD j ⟨0, 0, 0, 0⟩).toldB xs = true) := fun j hj => by
          rcases Nat.lt_succ_iff_lt_or_eq.1 hj with h | h
          · exact HA.out j h
          · rw [h, ← HC.out]; exact ht
        obtain ⟨z, HZ⟩ : ∃ z, Hid (z = c.valI xs) := ⟨_, rfl⟩
        rw [← HZ.out] at HT ⊢
        have hO2 : Own w2 w.heap.size wr.heap.size u6 (rowC (cs.take k) xs) := HO.out.keep' hk2
        have hal : Below w2.heap.size w2 (w2.alloc (.cells #[.int .i64 z] 3)) := below_alloc _
        have hO3 := hO2.keep' hal
        have hsz2 : w.heap.size ≤ w2.heap.size := Nat.le_trans hbq.size hk2.size
        have HKK : Hid (Below w.heap.size w (w2.alloc (.cells #[.int .i64 z] 3))) := (hbq.trans (hk2.mono hbq.size)).trans (hal.mono hsz2)
        clear hno ht HO HW HA hbq hk2 hO2
        go_wp2_with (at_builtin; refine wpList_append_ints rfl _ _ 32 rfl w.heap.size 3 i0 Tryd.underlying32 hi hz0 hz1 hz2 u6 _ _ rfl hO3.1 _ [z] rfl (int_lit w2 z) (by simp; omega) (by simp; omega) ?_; intro v3 w3 hown3 hg3 _)
        have O3 : Own w3 w.heap.size w3.heap.size v3 (rowC (cs.take k) xs ++ [z]) := own_new (xs := rowC (cs.take k) xs ++ [z]) (by simpa using hown3) (by simp; omega)
        have HO3 : Hid (Own w3 w.heap.size w3.heap.size v3 (rowC (cs.take (k + 1)) xs)) := by rw [Hid, HT.out]; exact O3
        have HK3 : Hid (Below w.heap.size w w3) := HKK.out.grown hg3 HKK.out.size (fun i hi' => (hO3.1.lt i hi').1)
        clear hown3 hg3 O3 hO3 hal HKK
        go_wp2
        go_roundw
        case rel => exact ⟨k + 1, by omega, by go_num, HO3.out, HK3.out, HA2.out⟩
        case measure => simp [intOf]; omega
    · obtain rfl : k = n := by omega
      have hO := HO.out
      rw [HN.out, List.take_length] at hO
      have ht : toldC cs xs = true := toldC_yes (fun j hj => HA.out j (by rw [HN.out]; exact hj))
      have hd : d = true := by rw [HD.out, ht]
      have hos : os = rowC cs xs := by rw [HOS.out, ht]; rfl
      subst hd hos
      clear hcell ht
      go_wp2
      go_ret2
      exact ⟨_, rfl, hO, HW.out⟩
set_option maxHeartbeats 4000000 in
theorem l5Cells_any (v rv : Value) (cs : List Cel) (xs : List Int) (w : World) (hc : CelsAt w v cs) (hx : IntsAt w rv xs) (hl0 : 1 ≤ cs.length) (hl : cs.length ≤ 6) :
    Calls Tryd.prog 27 #[v, rv] w fun e w' => ∃ v', e = .returned (.tuple #[v', .bool (toldC cs xs)]) ∧ Own w' w.heap.size w'.heap.size v' (if toldC cs xs then rowC cs xs else []) ∧ Below w.heap.size w w' := by
  obtain ⟨i0, hi, hz0, hz1, hz2⟩ := info_parts infoInt
  obtain ⟨a, cap, rfl, hcc⟩ := hc
  obtain ⟨b, off, rfl, hbw, hcell⟩ := hcc (fun e => by rw [e] at hl0; simp at hl0)
  obtain ⟨n, hn⟩ : ∃ n, n = cs.length := ⟨_, rfl⟩
  have HN : Hid (n = cs.length) := hn
  rw [← hn] at hl0 hl hcell ⊢
  obtain ⟨os, HOS⟩ : ∃ os, Hid (os = if toldC cs xs then rowC cs xs else []) := ⟨_, rfl⟩
  obtain ⟨d, HD⟩ : ∃ d, Hid (d = toldC cs xs) := ⟨_, rfl⟩
  rw [← HOS.out, ← HD.out]
  have HX : Hid (IntsAt w rv xs) := hx
  clear hn hcc hx
  go_enter Tryd.func27, Tryd.ntmps27
  have HO1 : Hid (Own (w.alloc (.cells #[] 3)) w.heap.size (w.alloc (.cells #[] 3)).heap.size (.slice (some ⟨w.heap.size, 0, none⟩) 0 0) (rowC (cs.take 0) xs)) := own_new (n := 0) (xs := []) (World.ownsRow_lit w #[] 0 (Nat.le_refl _) (by unfold maxLen; omega) rfl) (by simp)
  have HB1 : Hid (Below w.heap.size w (w.alloc (.cells #[] 3))) := below_alloc _
  go_wp2
  go_loopw [6, 7] (fun s i wr => ∃ (k : Nat), k ≤ n ∧ i = .int .i64 k ∧ Hid (Own wr w.heap.size wr.heap.size s (rowC (cs.take k) xs)) ∧ Hid (Below w.heap.size w wr) ∧ Hid (∀ j, j < k → (cs.getD j ⟨0, 0, 0, 0⟩).toldB xs = true)) (fun _ i _ => n - (intOf i).toNat)
  case atStart => exact ⟨0, Nat.zero_le _, rfl, HO1.out, HB1.out, fun j hj => by omega⟩
  case round =>
    obtain ⟨k, hk, rfl, HO, HW, HA⟩ := hrel
    clear HO1 HB1
    by_cases hlt : k < n
    · have hk' : k < cs.length := by rw [← HN.out]; exact hlt
      have hbq := HW.out
      obtain ⟨c0, c1, c2, c3⟩ := hcell k hlt
      have HT : Hid _ := rowC_take (xs := xs) hk'
      have hno := toldC_no (xs := xs) hk'
      obtain ⟨c, HC⟩ : ∃ c, Hid (c = cs.getD k ⟨0, 0, 0, 0⟩) := ⟨_, rfl⟩
      rw [← HC.out] at c0 c1 c2 c3 HT hno
      have g0 := (hbq.cell (p := ⟨b, off + k * 4, none⟩) hbw).trans c0
      have g1 := (hbq.cell (p := ⟨b, off + k * 4 + 1, none⟩) hbw).trans c1
      have g2 := (hbq.cell (p := ⟨b, off + k * 4 + 2, none⟩) hbw).trans c2
      have g3 := (hbq.cell (p := ⟨b, off + k * 4 + 3, none⟩) hbw).trans c3
      have hbr : b < wr.heap.size := Nat.lt_of_lt_of_le hbw hbq.size
      have hrl : (rowC (cs.take k) xs).length ≤ 6 := by unfold rowC; rw [List.length_map, List.length_take]; omega
      clear c0 c1 c2 c3 hcell
      go_wp2_with fail
      refine (specCellOf_any c rv xs _ (HX.out.below hbq)).mono ?_
      rintro e w2 ⟨rfl, hk2⟩
      clear g0 g1 g2 g3
      cases ht : c.toldB xs with
      | false =>
        have hd : d = false := by rw [HD.out]; exact hno ht
        have hos : os = [] := by rw [HOS.out, hno ht]; rfl
        subst hd hos
        have HK : Hid (Below w.heap.size w w2) := hbq.trans (hk2.mono hbq.size)
        clear hno ht HT HO HW HA hbq hk2
        go_wp2
        go_ret2
        exact ⟨_, rfl, nil_own _ _, HK.out⟩
      | true =>
        have HA2 : Hid (∀ j, j < k + 1 → (cs.getD j ⟨0, 0, 0, 0⟩).toldB xs = true) := fun j hj => by
          rcases Nat.lt_succ_iff_lt_or_eq.1 hj with h | h
          · exact HA.out j h
          · rw [h, ← HC.out]; exact ht
        obtain ⟨z, HZ⟩ : ∃ z, Hid (z = c.valI xs) := ⟨_, rfl⟩
        rw [← HZ.out] at HT ⊢
        have hO2 : Own w2 w.heap.size wr.heap.size u6 (rowC (cs.take k) xs) := HO.out.keep' hk2
        have hal : Below w2.heap.size w2 (w2.alloc (.cells #[.int .i64 z] 3)) := below_alloc _
        have hO3 := hO2.keep' hal
        have hsz2 : w.heap.size ≤ w2.heap.size := Nat.le_trans hbq.size hk2.size
        have HKK : Hid (Below w.heap.size w (w2.alloc (.cells #[.int .i64 z] 3))) := (hbq.trans (hk2.mono hbq.size)).trans (hal.mono hsz2)
        clear hno ht HO HW HA hbq hk2 hO2
        go_wp2_with (at_builtin; refine wpList_append_ints rfl _ _ 32 rfl w.heap.size 3 i0 Tryd.underlying32 hi hz0 hz1 hz2 u6 _ _ rfl hO3.1 _ [z] rfl (int_lit w2 z) (by simp; omega) (by simp; omega) ?_; intro v3 w3 hown3 hg3 _)
        have O3 : Own w3 w.heap.size w3.heap.size v3 (rowC (cs.take k) xs ++ [z]) := own_new (xs := rowC (cs.take k) xs ++ [z]) (by simpa using hown3) (by simp; omega)
        have HO3 : Hid (Own w3 w.heap.size w3.heap.size v3 (rowC (cs.take (k + 1)) xs)) := by rw [Hid, HT.out]; exact O3
        have HK3 : Hid (Below w.heap.size w w3) := HKK.out.grown hg3 HKK.out.size (fun i hi' => (hO3.1.lt i hi').1)
        clear hown3 hg3 O3 hO3 hal HKK
        go_wp2
        go_roundw
        case rel => exact ⟨k + 1, by omega, by go_num, HO3.out, HK3.out, HA2.out⟩
        case measure => simp [intOf]; omega
    · obtain rfl : k = n := by omega
      have hO := HO.out
      rw [HN.out, List.take_length] at hO
      have ht : toldC cs xs = true := toldC_yes (fun j hj => HA.out j (by rw [HN.out]; exact hj))
      have hd : d = true := by rw [HD.out, ht]
      have hos : os = rowC cs xs := by rw [HOS.out, ht]; rfl
      subst hd hos
      clear hcell ht
      go_wp2
      go_ret2
      exact ⟨_, rfl, hO, HW.out⟩

end Go.Proofs.YtdponcnhdmkhiabDoor
