/-
  The contracts of the laws' helpers on items: laws.szItemS (how much it is), laws.toItemS (a copy in new memory), laws.eqItemS (equal as lists).
-/
import Derived.Test.YtfmgohoddaobmaaOwnZ
import Derived.Test.YtfmgohoddaobmaaInts
import Derived.Deep.RegionWith
namespace Go.Proofs.Ytfmgohoddaobmaa
open Go.RowKit

/-- How many cells the rows have together. -/
theorem rowsLen_take {zs : List It} {k : Nat} (hk : k < zs.length) : rowsLen (zs.take (k + 1)) = rowsLen (zs.take k) + (zs.getD k ([], 0)).1.length := by
  unfold rowsLen
  rw [List.take_succ_eq_append_getElem hk, List.map_append, List.sum_append]
  simp [List.getD, hk]
theorem rowsLen_at {zs : List It} {k : Nat} (hk : k < zs.length) : (zs.getD k ([], 0)).1.length ≤ rowsLen zs := by
  have h1 := rowsLen_take hk
  have h2 : rowsLen zs = rowsLen (zs.take (k + 1)) + rowsLen (zs.drop (k + 1)) := by
    unfold rowsLen
    rw [← List.sum_append, ← List.map_append, List.take_append_drop]
  omega

/-- As ItemsAt, of whatever lengths slices may have. -/
def RawItems (w : World) (v : Value) (zs : List It) : Prop :=
  zs.length ≤ 9223372036854775807 ∧ ∃ (a : Option Addr) (cap : Nat), v = .slice a zs.length cap ∧ (a = none → cap = 0) ∧
    (zs ≠ [] → ∃ b off, a = some ⟨b, off, none⟩ ∧ b < w.heap.size ∧ ∀ j, j < zs.length → ∃ rv, w.cell? ⟨b, off + j * 2, none⟩ = some rv ∧ w.cell? ⟨b, off + j * 2 + 1, none⟩ = some (.int .i64 (zs.getD j ([], 0)).2) ∧ RawInts w rv (zs.getD j ([], 0)).1)
theorem RawItems.below {w w' : World} {v : Value} {zs : List It} (h : RawItems w v zs) (hb : Below w.heap.size w w') : RawItems w' v zs := by
  obtain ⟨hl, a, cap, rfl, hn, hc⟩ := h
  refine ⟨hl, a, cap, rfl, hn, fun hne => ?_⟩
  obtain ⟨b, off, rfl, hbl, hcell⟩ := hc hne
  refine ⟨b, off, rfl, Nat.lt_of_lt_of_le hbl hb.size, fun j hj => ?_⟩
  obtain ⟨rv, h1, h2, h3⟩ := hcell j hj
  exact ⟨rv, (hb.cell (p := ⟨b, off + j * 2, none⟩) hbl).trans h1, (hb.cell (p := ⟨b, off + j * 2 + 1, none⟩) hbl).trans h2, h3.below hb⟩
theorem RawItems.items {w : World} {v : Value} {zs : List It} (h : RawItems w v zs) (hl : zs.length + rowsLen zs ≤ 1048576) : ItemsAt w v zs := by
  obtain ⟨_, a, cap, rfl, hn, hc⟩ := h
  refine ⟨by omega, a, cap, rfl, hn, fun hne => ?_⟩
  obtain ⟨b, off, rfl, hb, hcell⟩ := hc hne
  refine ⟨b, off, rfl, hb, fun j hj => ?_⟩
  obtain ⟨rv, h1, h2, h3⟩ := hcell j hj
  exact ⟨rv, h1, h2, h3.ints (by have := rowsLen_at hj; omega)⟩

theorem szIntS_any (a : Option Addr) (n cap : Nat) (l : Int) (w : World) (h0 : 0 ≤ l) (h1 : l ≤ 1048576) (hn : n ≤ 9223372036854775807) :
    Calls Try.prog 29 #[.slice a n cap, .int .i64 l] w fun e w' => e = .returned (.int .i64 (if l < n then -1 else l - n)) ∧ w' = w := by
  by_cases h : l < n
  · rw [if_pos h]
    have hd : l - (n : Int) < 0 := by omega
    go_enter Try.func29, Try.ntmps29
    go_wp2
    go_ret
    exact ⟨rfl, rfl⟩
  · rw [if_neg h]
    have hd : ¬ l - (n : Int) < 0 := by omega
    go_enter Try.func29, Try.ntmps29
    go_wp2
    go_ret
    exact ⟨rfl, rfl⟩

theorem szItem_any (a : Option Addr) (n cap : Nat) (y l : Int) (w : World) (h0 : 0 ≤ l) (h1 : l ≤ 1048576) (hn : n ≤ 9223372036854775807) :
    Calls Try.prog 73 #[.agg #[.slice a n cap, .int .i64 y], .int .i64 l] w fun e w' => e = .returned (.int .i64 (if l < n then -1 else l - n)) ∧ Below w.heap.size w w' := by
  by_cases h : l < n
  · rw [if_pos h]
    go_enter Try.func73, Try.ntmps73
    go_wp2_with (go_at_call 29; refine (szIntS_any a n cap l _ h0 h1 hn).mono ?_; rw [if_pos h]; rintro e w' ⟨rfl, rfl⟩)
    go_ret
    exact ⟨rfl, below_alloc _⟩
  · rw [if_neg h]
    have hd : ¬ l - (n : Int) < 0 := by omega
    go_enter Try.func73, Try.ntmps73
    go_wp2_with (go_at_call 29; refine (szIntS_any a n cap l _ h0 h1 hn).mono ?_; rw [if_neg h]; rintro e w' ⟨rfl, rfl⟩)
    go_ret
    exact ⟨rfl, below_alloc _⟩

set_option maxHeartbeats 2000000 in
theorem szItemS_some (b off cap : Nat) (zs : List It) (l : Int) (w : World) (h0 : 0 ≤ l) (h1 : l ≤ 1048576) (hlim : zs.length ≤ 9223372036854775807) (hbw : b < w.heap.size)
    (hc : ∀ j, j < zs.length → ∃ rv, w.cell? ⟨b, off + j * 2, none⟩ = some rv ∧ w.cell? ⟨b, off + j * 2 + 1, none⟩ = some (.int .i64 (zs.getD j ([], 0)).2) ∧ RawInts w rv (zs.getD j ([], 0)).1) :
    Calls Try.prog 56 #[.slice (some ⟨b, off, none⟩) zs.length cap, .int .i64 l] w fun e w' => ∃ r : Int, e = .returned (.int .i64 r) ∧ (r < 0 ∨ (0 ≤ r ∧ r = l - zs.length - rowsLen zs)) ∧ Below w.heap.size w w' := by
  obtain ⟨n, hn⟩ : ∃ n, n = zs.length := ⟨_, rfl⟩
  have HN : Hid (n = zs.length) := hn
  rw [← hn] at hlim hc ⊢
  clear hn
  by_cases hln : l < n
  · have hd : l - (n : Int) < 0 := by omega
    clear hc
    go_enter Try.func56, Try.ntmps56
    go_wp2
    go_ret
    exact ⟨-1, rfl, .inl (by omega), Below.refl _ _⟩
  · have hd : ¬ l - (n : Int) < 0 := by omega
    go_enter Try.func56, Try.ntmps56
    go_wp2
    go_loopw [1, 5] (fun q i wr => ∃ (k : Nat) (r : Int), k ≤ n ∧ i = .int .i64 k ∧ q = .int .i64 r ∧ 0 ≤ r ∧ r ≤ 1048576 ∧ Hid (r = l - n - rowsLen (zs.take k)) ∧ Hid (Below w.heap.size w wr)) (fun _ i _ => n - (intOf i).toNat)
    case atStart => exact ⟨0, l - n, Nat.zero_le _, rfl, rfl, by omega, by omega, by simp [Hid, rowsLen], Below.refl _ _⟩
    case round =>
      obtain ⟨k, r, hk, rfl, rfl, hr0, hr1, HR, HW⟩ := hrel
      by_cases hlt : k < n
      · have HB := HW.out
        obtain ⟨rv, hrv0, hwt0, hix0⟩ := hc k hlt
        have hrv := (HB.cell (p := ⟨b, off + k * 2, none⟩) hbw).trans hrv0
        have hwt := (HB.cell (p := ⟨b, off + k * 2 + 1, none⟩) hbw).trans hwt0
        clear hrv0 hwt0 HB hc
        obtain ⟨m, HM⟩ : ∃ m, Hid (m = (zs.getD k ([], 0)).1.length) := ⟨_, rfl⟩
        obtain ⟨y, HY⟩ : ∃ y, Hid (y = (zs.getD k ([], 0)).2) := ⟨_, rfl⟩
        obtain ⟨hml, ra, rc, rfl, -⟩ := hix0
        rw [← HM.out] at hml hrv
        rw [← HY.out] at hwt
        by_cases hrm : r < m
        · go_wp2_with (go_at_call 73; refine (szItem_any ra m rc y r _ hr0 hr1 hml).mono ?_; rw [if_pos hrm]; rintro e w' ⟨rfl, hb'⟩)
          go_ret
          exact ⟨-1, rfl, .inl (by omega), below_then HW.out hb'⟩
        · have hd2 : ¬ r - (m : Int) < 0 := by omega
          go_wp2_with (go_at_call 73; refine (szItem_any ra m rc y r _ hr0 hr1 hml).mono ?_; rw [if_neg hrm]; rintro e w' ⟨rfl, hb'⟩)
          go_roundw
          case rel => exact ⟨k + 1, r - m, by omega, by go_num, rfl, by omega, by omega, by
            have h1 := HR.out
            have h2 := rowsLen_take (zs := zs) (k := k) (by rw [← HN.out]; exact hlt)
            rw [← HM.out] at h2
            show r - m = _
            omega, below_then HW.out hb'⟩
          case measure => simp [intOf]; omega
      · have e : k = n := by omega
        subst e
        clear hc
        go_wp2
        go_ret
        refine ⟨r, rfl, .inr ⟨hr0, ?_⟩, HW.out⟩
        have h1 := HR.out
        rw [show zs.take k = zs by rw [HN.out, List.take_length]] at h1
        exact h1

theorem szItemS_none (a : Option Addr) (cap : Nat) (l : Int) (w : World) (h0 : 0 ≤ l) (h1 : l ≤ 1048576) :
    Calls Try.prog 56 #[.slice a 0 cap, .int .i64 l] w fun e w' => ∃ r : Int, e = .returned (.int .i64 r) ∧ (r < 0 ∨ (0 ≤ r ∧ r = l - ([] : List It).length - rowsLen [])) ∧ Below w.heap.size w w' := by
  have hd : ¬ l < 0 := by omega
  go_enter Try.func56, Try.ntmps56
  go_wp2
  refine wp_loop_rounds 1 ?_
  rw [rounds_succ]
  go_wp2
  go_ret
  exact ⟨l, rfl, .inr ⟨h0, by simp [rowsLen]⟩, Below.refl _ _⟩

theorem szItemS_any (v : Value) (zs : List It) (l : Int) (w : World) (h : RawItems w v zs) (h0 : 0 ≤ l) (h1 : l ≤ 1048576) :
    Calls Try.prog 56 #[v, .int .i64 l] w fun e w' => ∃ r : Int, e = .returned (.int .i64 r) ∧ (r < 0 ∨ (0 ≤ r ∧ r = l - zs.length - rowsLen zs)) ∧ Below w.heap.size w w' := by
  obtain ⟨hl, a, cap, rfl, _, hc⟩ := h
  by_cases hx : zs = []
  · subst hx
    exact szItemS_none a cap l w h0 h1
  · obtain ⟨b, off, rfl, hbl, hcell⟩ := hc hx
    exact szItemS_some b off cap zs l w h0 h1 hl hbl hcell

theorem Own.one {w : World} {g n : Nat} {xs : List Int} (h : w.ownsRow g 3 1 (.slice (some ⟨g, 0, none⟩) n n) n (xs.map (Value.int .i64))) (hl : xs.length ≤ 140737488355328) : Own w g (g + 1) (.slice (some ⟨g, 0, none⟩) n n) xs := by
  have hn : n = xs.length := by simpa using h.1.symm
  subst hn
  refine ⟨h, fun k hk => ?_, hl, ?_⟩
  · simp [Value.ownBlock] at hk; omega
  · exact (h.lt g rfl).2

set_option maxHeartbeats 2000000 in
theorem toItem_any (a : Option Addr) (n cap : Nat) (y : Int) (xs : List Int) (w : World) (h : IntsAt w (.slice a n cap) xs) (hlim : xs.length ≤ 1048576) :
    Calls Try.prog 75 #[.agg #[.slice a n cap, .int .i64 y]] w fun e w' => ∃ g, e = .returned (.agg #[.slice (some ⟨g, 0, none⟩) n n, .int .i64 y]) ∧ Own w' g (g + 1) (.slice (some ⟨g, 0, none⟩) n n) xs ∧ w.heap.size ≤ g ∧ Below w.heap.size w w' := by
  have HL : Hid (xs.length = n) := by
    obtain ⟨_, a', cap', he, _⟩ := h
    simp at he
    exact he.2.1.symm
  go_enter Try.func75, Try.ntmps75
  go_wp2_with fail
  refine (toIntS_any _ xs _ (((h.alloc _).alloc _).alloc _) hlim).mono ?_
  rintro e w1 ⟨rfl, ho1, hb1⟩
  rw [HL.out] at ho1 ⊢
  have hs3 : (((w.alloc (Obj.cells #[Value.slice a n cap, Value.int IntKind.i64 y] 130)).alloc (Obj.cells #[Value.slice none 0 0, Value.int IntKind.i64 0] 115)).alloc (Obj.cells #[Value.slice none 0 0, Value.int IntKind.i64 0] 115)).heap.size = w.heap.size + 3 := by simp
  have hbw : Below w.heap.size w w1 := below_then (below_then (below_then (below_alloc _) (below_alloc _)) (below_alloc _)) hb1
  have c1 : w1.cell? ⟨w.heap.size, 1, none⟩ = some (.int .i64 y) := cell_is hb1 (by rw [hs3]; exact (show w.heap.size < w.heap.size + 3 by omega)) (by simp [go_sem])
  have c2 : w1.cell? ⟨w.heap.size + 1, 0, none⟩ = some (.slice none 0 0) := cell_is hb1 (by rw [hs3]; exact (show w.heap.size + 1 < w.heap.size + 3 by omega)) (by simp [go_sem])
  have c2' : w1.cell? ⟨w.heap.size + 1, 1, none⟩ = some (.int .i64 0) := cell_is hb1 (by rw [hs3]; exact (show w.heap.size + 1 < w.heap.size + 3 by omega)) (by simp [go_sem])
  have c3 : w1.cell? ⟨w.heap.size + 1 + 1, 0, none⟩ = some (.slice none 0 0) := cell_is hb1 (by rw [hs3]; exact (show w.heap.size + 1 + 1 < w.heap.size + 3 by omega)) (by simp [go_sem])
  have c3' : w1.cell? ⟨w.heap.size + 1 + 1, 1, none⟩ = some (.int .i64 0) := cell_is hb1 (by rw [hs3]; exact (show w.heap.size + 1 + 1 < w.heap.size + 3 by omega)) (by simp [go_sem])
  have f2 : w1.frozen? ⟨w.heap.size + 1, 0, none⟩ = false := frozen_is hb1 (by rw [hs3]; exact (show w.heap.size + 1 < w.heap.size + 3 by omega)) (by simp [go_sem])
  have f2' : w1.frozen? ⟨w.heap.size + 1, 1, none⟩ = false := frozen_is hb1 (by rw [hs3]; exact (show w.heap.size + 1 < w.heap.size + 3 by omega)) (by simp [go_sem])
  have f3 : w1.frozen? ⟨w.heap.size + 1 + 1, 0, none⟩ = false := frozen_is hb1 (by rw [hs3]; exact (show w.heap.size + 1 + 1 < w.heap.size + 3 by omega)) (by simp [go_sem])
  have f3' : w1.frozen? ⟨w.heap.size + 1 + 1, 1, none⟩ = false := frozen_is hb1 (by rw [hs3]; exact (show w.heap.size + 1 + 1 < w.heap.size + 3 by omega)) (by simp [go_sem])
  have hsz := hb1.size
  rw [hs3] at ho1 hsz ⊢
  clear h hb1 hs3
  have O := Own.one ho1 (by omega)
  clear ho1
  go_wp2
  refine bodyPost_ret (v := .agg #[.slice (some ⟨w.heap.size + 3, 0, none⟩) n n, .int .i64 y]) (by simp [results, Try.results75, go_sem, c2, c2']) rfl ⟨_, rfl, ?_, ?_, ?_⟩
  · exact O.only ((((Only.refl (w.heap.size + 1) (w.heap.size + 3) _).setCell (by simp) (by simp) _).setCell (by simp) (by simp) _).setCell (by simp) (by simp) _ |>.setCell (by simp) (by simp) _) (.inr (by omega))
  · omega
  · exact (((hbw.setCell (by simp; omega) _).setCell (by simp; omega) _).setCell (by simp) _).setCell (by simp) _

/-- What stands in the copy behind k rounds. -/
def zTo (zs : List It) (k : Nat) : List It := zs.take k ++ List.replicate (zs.length - k) ([], 0)
theorem zTo_all (zs : List It) : zTo zs zs.length = zs := by simp [zTo]
theorem zTo_length (zs : List It) (k : Nat) (hk : k ≤ zs.length) : (zTo zs k).length = zs.length := by simp [zTo]; omega
theorem zTo_set (zs : List It) (k : Nat) (hk : k < zs.length) : (zTo zs k).set k (zs.getD k ([], 0)) = zTo zs (k + 1) := by
  unfold zTo
  rw [List.set_append_right _ _ (by simp; omega)]
  have h1 : k - (zs.take k).length = 0 := by simp; omega
  rw [h1]
  obtain ⟨m, hm⟩ : ∃ m, zs.length - k = m + 1 := ⟨zs.length - k - 1, by omega⟩
  have hm' : zs.length - (k + 1) = m := by omega
  have h2 : zs.getD k ([], 0) = zs[k] := by simp [List.getD, hk]
  rw [hm, hm', List.replicate_succ, List.set_cons_zero, List.take_succ_eq_append_getElem hk, h2, List.append_assoc]
  rfl

theorem zeros_own {w : World} {lo : Nat} {v : Value} {n : Nat} (h : w.ownsRow lo 115 2 v n (cells2 (List.replicate n (vn, 0)))) (hl : n ≤ 140737488355328) : OwnZ w lo w.heap.size v (List.replicate n ([], 0)) := by
  refine ⟨List.replicate n (vn, 0), by simp, spine_new h (by simpa using hl), fun j hj => ?_, fun i j k _ hj hk => ?_⟩
  · have e1 : ((List.replicate n (vn, (0 : Int))).getD j (vn, 0)).1 = vn := by
      have hj' : j < n := by simpa using hj
      simp [List.getD, hj']
    have e2 : ((List.replicate n (([] : List Int), (0 : Int))).getD j ([], 0)).1 = [] := by
      have hj' : j < n := by simpa using hj
      simp [List.getD, hj']
    rw [e1, e2]
    exact ⟨World.ownsRow_nil _ _ _ _, fun k hk => by simp [vn, Value.ownBlock] at hk, by simp, Nat.le_refl _⟩
  · have e1 : ((List.replicate n (vn, (0 : Int))).getD i (vn, 0)).1 = vn := by
      simp only [List.getD, List.getElem?_replicate]
      split <;> rfl
    rw [e1] at hk
    simp [vn, Value.ownBlock] at hk

theorem cells2_zeros (n : Nat) : cells2 (List.replicate n (vn, 0)) = (madeCells #[.slice none 0 0, .int .i64 0] (n * 2)).toList := by
  apply List.ext_getElem?
  intro j
  by_cases hj : j < n * 2
  · have h1 : (madeCells #[Value.slice none 0 0, .int .i64 0] (n * 2)).toList[j]? = some (if j % 2 = 0 then .slice none 0 0 else .int .i64 0) := by
      rcases Nat.mod_two_eq_zero_or_one j with h | h <;> simp [madeCells, hj, h]
    rw [h1]
    obtain ⟨q, r, hq, hr⟩ : ∃ q r, j = q * 2 + r ∧ r < 2 := ⟨j / 2, j % 2, by omega, by omega⟩
    have hqn : q < (List.replicate n (vn, (0 : Int))).length := by simp; omega
    rcases Nat.lt_succ_iff_lt_or_eq.1 hr with h | h
    · obtain rfl : r = 0 := by omega
      subst hq
      rw [Nat.add_zero, cells2_get0 _ _ hqn, if_pos (by omega)]
      simp [List.getD, show q < n by omega, vn]
    · subst h hq
      rw [cells2_get1 _ _ hqn, if_neg (by omega)]
      simp [List.getD, show q < n by omega]
  · rw [List.getElem?_eq_none (by rw [cells2_length]; simp; omega), List.getElem?_eq_none (by simp [madeCells]; omega)]

set_option maxHeartbeats 2000000 in
theorem toItemS_some (b off cap : Nat) (zs : List It) (w : World) (hpos : 0 < zs.length) (hlim : zs.length ≤ 1048576) (hrl : ∀ j, j < zs.length → (zs.getD j ([], 0)).1.length ≤ 1048576) (hbw : b < w.heap.size)
    (hc : ∀ j, j < zs.length → ∃ rv, w.cell? ⟨b, off + j * 2, none⟩ = some rv ∧ w.cell? ⟨b, off + j * 2 + 1, none⟩ = some (.int .i64 (zs.getD j ([], 0)).2) ∧ IntsAt w rv (zs.getD j ([], 0)).1) :
    Calls Try.prog 60 #[.slice (some ⟨b, off, none⟩) zs.length cap] w fun e w' => ∃ v, e = .returned v ∧ OwnZ w' w.heap.size w'.heap.size v zs ∧ Below w.heap.size w w' := by
  obtain ⟨i0, hi, hz0, hz1, hz2⟩ := info_parts infoItem
  obtain ⟨n, hn⟩ : ∃ n, n = zs.length := ⟨_, rfl⟩
  have HN : Hid (n = zs.length) := hn
  rw [← hn] at hpos hlim hc hrl ⊢
  clear hn
  go_enter Try.func60, Try.ntmps60
  go_wp2_with (at_make; refine wpList_make_full _ rfl _ _ 81 rfl w.heap.size 115 i0 (.agg #[.slice none 0 0, .int .i64 0]) 2 Try.underlying81 hi hz0 hz1 _ _ _ _ n rfl rfl rfl rfl (by rw [hz2]; omega) (by unfold maxLen; omega) (Nat.le_refl _) ?_; intro w1 hown1 hgrow1)
  have hb1 : Below w.heap.size w w1 := (Below.refl _ _).grown hgrow1 (Nat.le_refl _) (by simp)
  have Z1 : OwnZ w1 w.heap.size w1.heap.size (.slice (some ⟨w.heap.size, 0, none⟩) n n) (zTo zs 0) := by
    have := zeros_own (n := n) (by rw [cells2_zeros]; simpa [Value.cells] using hown1) (by omega)
    simpa [zTo, ← HN.out] using this
  clear hown1 hgrow1
  go_loopw [4] (fun i wr => ∃ k : Nat, k ≤ n ∧ i = .int .i64 k ∧ Hid (OwnZ wr w.heap.size wr.heap.size (.slice (some ⟨w.heap.size, 0, none⟩) n n) (zTo zs k)) ∧ Hid (Below w.heap.size w wr))
    (fun i _ => n - (intOf i).toNat)
  case atStart => exact ⟨0, Nat.zero_le _, rfl, Z1, hb1⟩
  case round =>
    obtain ⟨k, hk, rfl, HZ, HW⟩ := hrel
    clear Z1 hb1
    by_cases hlt : k < n
    · have HB := HW.out
      obtain ⟨rv, hrv0, hwt0, hix0⟩ := hc k hlt
      have hrv := (HB.cell (p := ⟨b, off + k * 2, none⟩) hbw).trans hrv0
      have hwt := (HB.cell (p := ⟨b, off + k * 2 + 1, none⟩) hbw).trans hwt0
      have hix := hix0.below HB
      have hxl := hrl k hlt
      clear hrv0 hwt0 hix0 hc hrl
      obtain ⟨x, HX⟩ : ∃ x, Hid (x = (zs.getD k ([], 0)).1) := ⟨_, rfl⟩
      obtain ⟨y, HY⟩ : ∃ y, Hid (y = (zs.getD k ([], 0)).2) := ⟨_, rfl⟩
      rw [← HX.out] at hix hxl
      rw [← HY.out] at hwt
      obtain ⟨ra, rn, rc, rfl⟩ := hix.shape
      go_wp2_with fail
      refine (toItem_any ra rn rc y x _ hix hxl).mono ?_
      rintro e w2 ⟨g2, rfl, O2, hg2, hb2⟩
      have hlk : k < (zTo zs k).length := by rw [zTo_length _ _ (by rw [← HN.out]; omega), ← HN.out]; exact hlt
      have Z2 := HZ.out.keep' hb2
      have R : Hid (OwnZ ((w2.setCell ⟨w.heap.size, k * 2, none⟩ (.slice (some ⟨g2, 0, none⟩) rn rn)).setCell ⟨w.heap.size, k * 2 + 1, none⟩ (.int .i64 y)) w.heap.size w2.heap.size (.slice (some ⟨w.heap.size, 0, none⟩) n n) (zTo zs (k + 1))) := by
        have := Z2.put hlk (O2.wide (by have := HB.size; omega) O2.2.2.2 (Nat.le_refl _)) hb2.size (Nat.le_refl _) (fun b hb => by simp [Value.ownBlock] at hb; omega) y
        have e : (x, y) = zs.getD k ([], 0) := by rw [HX.out, HY.out]
        rw [e, zTo_set zs k (by rw [← HN.out]; exact hlt)] at this
        exact this
      have hc0 := Z2.cellAt0 hlk
      have hc1 := Z2.cellAt1 hlk
      have hf0 := Z2.frozenAt (k * 2)
      have hf1 := Z2.frozenAt (k * 2 + 1)
      have HB2 : Hid (Below w.heap.size w w2) := below_then HB hb2
      clear HB HZ HW Z2 O2 hb2 hix hrv hwt hlk
      obtain ⟨u0, hc0⟩ := hc0
      obtain ⟨u1, hc1⟩ := hc1
      go_wp2
      go_roundw
      case rel => exact ⟨k + 1, by omega, by go_num, by show OwnZ _ _ _ _ _; simpa using R.out, (HB2.out.setCell (Nat.le_refl _) _).setCell (Nat.le_refl _) _⟩
      case measure => simp [intOf]; omega
    · have e : k = n := by omega
      subst e
      clear hc hrl
      go_wp2
      go_ret
      refine ⟨_, rfl, ?_, HW.out⟩
      have := HZ.out
      rw [show zTo zs k = zs by rw [HN.out, zTo_all]] at this
      exact this

theorem toItemS_none (a : Option Addr) (cap : Nat) (w : World) :
    Calls Try.prog 60 #[.slice a 0 cap] w fun e w' => ∃ v, e = .returned v ∧ OwnZ w' w.heap.size w'.heap.size v [] ∧ Below w.heap.size w w' := by
  obtain ⟨i0, hi, hz0, hz1, hz2⟩ := info_parts infoItem
  go_enter Try.func60, Try.ntmps60
  go_wp2_with (at_make; refine wpList_make_full _ rfl _ _ 81 rfl w.heap.size 115 i0 (.agg #[.slice none 0 0, .int .i64 0]) 2 Try.underlying81 hi hz0 hz1 _ _ _ _ 0 rfl rfl rfl rfl (by rw [hz2]; omega) (by unfold maxLen; omega) (Nat.le_refl _) ?_; intro w1 hown1 hgrow1)
  have hb1 : Below w.heap.size w w1 := (Below.refl _ _).grown hgrow1 (Nat.le_refl _) (by simp)
  have Z1 : OwnZ w1 w.heap.size w1.heap.size (.slice (some ⟨w.heap.size, 0, none⟩) 0 0) [] := by
    have := zeros_own (n := 0) (by rw [cells2_zeros]; simpa [Value.cells] using hown1) (by omega)
    simpa using this
  clear hown1 hgrow1
  refine wp_loop_rounds 1 ?_
  rw [rounds_succ]
  go_wp2
  go_ret
  exact ⟨_, rfl, Z1, hb1⟩

theorem toItemS_any (v : Value) (zs : List It) (w : World) (h : ItemsAt w v zs) (hlim : zs.length + rowsLen zs ≤ 1048576) :
    Calls Try.prog 60 #[v] w fun e w' => ∃ v, e = .returned v ∧ OwnZ w' w.heap.size w'.heap.size v zs ∧ Below w.heap.size w w' := by
  rcases h.cases with ⟨a, cap, rfl, rfl⟩ | ⟨b, off, cap, hpos, _, rfl, hbw, hc⟩
  · exact toItemS_none a cap w
  · exact toItemS_some b off cap zs w hpos (by omega) (fun j hj => by have := rowsLen_at hj; omega) hbw hc

/-- Two items are one. -/
def itB (p q : It) : Bool := sameB p.1 q.1 && decide (p.2 = q.2)

set_option maxHeartbeats 2000000 in
theorem eqItem_any (a : Option Addr) (n cap : Nat) (y : Int) (xs : List Int) (a2 : Option Addr) (n2 cap2 : Nat) (y2 : Int) (xs2 : List Int) (w : World) (h : IntsAt w (.slice a n cap) xs) (h2 : IntsAt w (.slice a2 n2 cap2) xs2) :
    Calls Try.prog 78 #[.agg #[.slice a n cap, .int .i64 y], .agg #[.slice a2 n2 cap2, .int .i64 y2]] w fun e w' => e = .returned (.bool (itB (xs, y) (xs2, y2))) ∧ Below w.heap.size w w' := by
  have ha := (h.alloc (.cells #[.slice a n cap, .int .i64 y] 115)).alloc (.cells #[.slice a2 n2 cap2, .int .i64 y2] 115)
  have ha2 := (h2.alloc (.cells #[.slice a n cap, .int .i64 y] 115)).alloc (.cells #[.slice a2 n2 cap2, .int .i64 y2] 115)
  clear h h2
  cases hs : sameB xs xs2 with
  | false =>
    go_enter Try.func78, Try.ntmps78
    go_wp2_with fail
    refine (eqIntS_any _ _ xs xs2 _ ha ha2).mono ?_
    rw [hs]
    rintro e w1 ⟨rfl, hb1⟩
    clear ha ha2
    go_wp2
    go_ret
    exact ⟨ret_bool (by simp [itB, hs]), below_then (below_then (below_alloc _) (below_alloc _)) hb1⟩
  | true =>
    go_enter Try.func78, Try.ntmps78
    go_wp2_with fail
    refine (eqIntS_any _ _ xs xs2 _ ha ha2).mono ?_
    rw [hs]
    rintro e w1 ⟨rfl, hb1⟩
    have hs2 : ((w.alloc (.cells #[.slice a n cap, .int .i64 y] 115)).alloc (.cells #[.slice a2 n2 cap2, .int .i64 y2] 115)).heap.size = w.heap.size + 2 := by simp
    have c1 : w1.cell? ⟨w.heap.size, 1, none⟩ = some (.int .i64 y) := cell_is hb1 (by rw [hs2]; exact (show w.heap.size < w.heap.size + 2 by omega)) (by simp [go_sem])
    have c2 : w1.cell? ⟨w.heap.size + 1, 1, none⟩ = some (.int .i64 y2) := cell_is hb1 (by rw [hs2]; exact (show w.heap.size + 1 < w.heap.size + 2 by omega)) (by simp [go_sem])
    have hb : Hid (Below w.heap.size w w1) := below_then (below_then (below_alloc _) (below_alloc _)) hb1
    clear ha ha2 hb1 hs2
    by_cases hy : y = y2
    · have hne : (y != y2) = false := by simp [hy]
      have HY : Hid (y = y2) := hy
      clear hy
      go_wp2
      go_ret
      exact ⟨ret_bool (by simp [itB, hs, HY.out]), hb.out⟩
    · have hne : (y != y2) = true := by simp [hy]
      go_wp2
      go_ret
      exact ⟨ret_bool (by simp [itB, hs, hy]), hb.out⟩

def zSameB (zs ys : List It) : Bool := decide (zs = ys)
theorem zSameB_refl (zs : List It) : zSameB zs zs = true := by simp [zSameB]
theorem itB_eq {p q : It} (h : itB p q = true) : p = q := by
  unfold itB sameB at h
  simp at h
  exact Prod.ext h.1 h.2
theorem itB_ne {p q : It} (h : itB p q = false) : p ≠ q := by
  intro e
  subst e
  simp [itB, sameB] at h
theorem zSameB_of (xs ys : List It) (hl : xs.length = ys.length) (h : ∀ j, j < xs.length → xs.getD j ([], 0) = ys.getD j ([], 0)) : zSameB xs ys = true := by
  unfold zSameB
  rw [decide_eq_true_iff]
  apply List.ext_getElem hl
  intro j h1 h2
  have := h j h1
  simpa [List.getD, h1, h2] using this
theorem zSameB_len (xs ys : List It) (hl : xs.length ≠ ys.length) : zSameB xs ys = false := by
  unfold zSameB
  rw [decide_eq_false_iff_not]
  intro h; exact hl (by rw [h])
theorem zSameB_at (xs ys : List It) (j : Nat) (h : xs.getD j ([], 0) ≠ ys.getD j ([], 0)) : zSameB xs ys = false := by
  unfold zSameB
  rw [decide_eq_false_iff_not]
  intro e; exact h (by rw [e])

set_option maxHeartbeats 4000000 in
theorem eqItemS_some (b off cap b2 off2 cap2 : Nat) (zs ys : List It) (w : World) (hpos : 0 < zs.length) (hlim : zs.length ≤ 140737488355328) (hlen : zs.length = ys.length) (hbw : b < w.heap.size) (hbw2 : b2 < w.heap.size)
    (hc : ∀ j, j < zs.length → ∃ rv, w.cell? ⟨b, off + j * 2, none⟩ = some rv ∧ w.cell? ⟨b, off + j * 2 + 1, none⟩ = some (.int .i64 (zs.getD j ([], 0)).2) ∧ IntsAt w rv (zs.getD j ([], 0)).1)
    (hc2 : ∀ j, j < zs.length → ∃ rv, w.cell? ⟨b2, off2 + j * 2, none⟩ = some rv ∧ w.cell? ⟨b2, off2 + j * 2 + 1, none⟩ = some (.int .i64 (ys.getD j ([], 0)).2) ∧ IntsAt w rv (ys.getD j ([], 0)).1) :
    Calls Try.prog 66 #[.slice (some ⟨b, off, none⟩) zs.length cap, .slice (some ⟨b2, off2, none⟩) zs.length cap2] w fun e w' => e = .returned (.bool (zSameB zs ys)) ∧ Below w.heap.size w w' := by
  obtain ⟨n, hn⟩ : ∃ n, n = zs.length := ⟨_, rfl⟩
  have HN : Hid (n = zs.length) := hn
  have HL : Hid (zs.length = ys.length) := hlen
  rw [← hn] at hpos hlim hc hc2 ⊢
  clear hn hlen
  go_enter Try.func66, Try.ntmps66
  go_wp2
  go_loopw [5] (fun i wr => ∃ k : Nat, k ≤ n ∧ i = .int .i64 k ∧ Hid (Below w.heap.size w wr) ∧ Hid (∀ j, j < k → zs.getD j ([], 0) = ys.getD j ([], 0))) (fun i _ => n - (intOf i).toNat)
  case atStart => exact ⟨0, Nat.zero_le _, rfl, Below.refl _ _, fun j hj => by omega⟩
  case round =>
    obtain ⟨k, hk, rfl, HW, HS⟩ := hrel
    by_cases hlt : k < n
    · have HB := HW.out
      obtain ⟨rv, hrv0, hwt0, hix0⟩ := hc k hlt
      have hrv := (HB.cell (p := ⟨b, off + k * 2, none⟩) hbw).trans hrv0
      have hwt := (HB.cell (p := ⟨b, off + k * 2 + 1, none⟩) hbw).trans hwt0
      have hix := hix0.below HB
      obtain ⟨rv2, hrv02, hwt02, hix02⟩ := hc2 k hlt
      have hrv2 := (HB.cell (p := ⟨b2, off2 + k * 2, none⟩) hbw2).trans hrv02
      have hwt2 := (HB.cell (p := ⟨b2, off2 + k * 2 + 1, none⟩) hbw2).trans hwt02
      have hix2 := hix02.below HB
      clear hrv0 hwt0 hix0 hrv02 hwt02 hix02 HB hc hc2
      obtain ⟨p, HP⟩ : ∃ p, Hid (p = zs.getD k ([], 0)) := ⟨_, rfl⟩
      obtain ⟨q, HQ⟩ : ∃ q, Hid (q = ys.getD k ([], 0)) := ⟨_, rfl⟩
      rw [← HP.out] at hix hwt
      rw [← HQ.out] at hix2 hwt2
      obtain ⟨x, y⟩ := p
      obtain ⟨x2, y2⟩ := q
      obtain ⟨ra, rn, rc, rfl⟩ := hix.shape
      obtain ⟨ra2, rn2, rc2, rfl⟩ := hix2.shape
      simp only at hix hix2 hwt hwt2
      cases hb : itB (x, y) (x2, y2) with
      | false =>
        go_wp2
        go_region_with (go_at_call 78; refine (eqItem_any ra rn rc y x ra2 rn2 rc2 y2 x2 _ (by first | exact hix | exact hix.drewN _ | exact hix.below (Below.drew (Below.refl _ _))) (by first | exact hix2 | exact hix2.drewN _ | exact hix2.below (Below.drew (Below.refl _ _)))).mono ?_; rw [hb]; rintro e w1 ⟨rfl, hb1⟩)
        all_goals
          go_wp2
          go_ret
          exact ⟨ret_bool (zSameB_at zs ys k (by rw [← HP.out, ← HQ.out]; exact itB_ne hb)).symm, below_then HW.out (by first | exact hb1 | exact below_then (below_drewN (Below.refl _ _) _) hb1 | exact below_then (Below.drew (Below.refl _ _)) hb1)⟩
      | true =>
        go_wp2
        go_region_with (go_at_call 78; refine (eqItem_any ra rn rc y x ra2 rn2 rc2 y2 x2 _ (by first | exact hix | exact hix.drewN _ | exact hix.below (Below.drew (Below.refl _ _))) (by first | exact hix2 | exact hix2.drewN _ | exact hix2.below (Below.drew (Below.refl _ _)))).mono ?_; rw [hb]; rintro e w1 ⟨rfl, hb1⟩)
        all_goals
          go_wp2
          go_roundw
          case rel => exact ⟨k + 1, by omega, by go_num, below_then HW.out (by first | exact hb1 | exact below_then (below_drewN (Below.refl _ _) _) hb1 | exact below_then (Below.drew (Below.refl _ _)) hb1), fun j hj => by
            rcases Nat.lt_succ_iff_lt_or_eq.1 hj with h | h
            · exact HS.out j h
            · rw [h, ← HP.out, ← HQ.out]; exact itB_eq hb⟩
          case measure => simp [intOf]; omega
    · have e : k = n := by omega
      subst e
      clear hc hc2
      go_wp2
      go_ret
      exact ⟨ret_bool (zSameB_of zs ys HL.out (by rw [← HN.out]; exact HS.out)).symm, HW.out⟩

theorem eqItemS_len (a : Option Addr) (cap n : Nat) (a2 : Option Addr) (cap2 m : Nat) (w : World) (hne : ((n : Int) != (m : Int)) = true) :
    Calls Try.prog 66 #[.slice a n cap, .slice a2 m cap2] w fun e w' => e = .returned (.bool false) ∧ Below w.heap.size w w' := by
  go_enter Try.func66, Try.ntmps66
  go_wp2
  go_ret
  exact ⟨rfl, Below.refl _ _⟩

theorem eqItemS_none (a : Option Addr) (cap : Nat) (a2 : Option Addr) (cap2 : Nat) (w : World) :
    Calls Try.prog 66 #[.slice a 0 cap, .slice a2 0 cap2] w fun e w' => e = .returned (.bool true) ∧ Below w.heap.size w w' := by
  go_enter Try.func66, Try.ntmps66
  go_wp2
  refine wp_loop_rounds 1 ?_
  rw [rounds_succ]
  go_wp2
  go_ret
  exact ⟨rfl, Below.refl _ _⟩

theorem eqItemS_any (v v2 : Value) (zs ys : List It) (w : World) (h : ItemsAt w v zs) (h2 : ItemsAt w v2 ys) :
    Calls Try.prog 66 #[v, v2] w fun e w' => e = .returned (.bool (zSameB zs ys)) ∧ Below w.heap.size w w' := by
  by_cases hl : zs.length = ys.length
  · rcases h.cases with ⟨a, cap, rfl, rfl⟩ | ⟨b, off, cap, hpos, hlim, rfl, hbw, hc⟩
    · obtain rfl : ys = [] := List.length_eq_zero_iff.1 hl.symm
      obtain ⟨_, a2, cap2, rfl, _⟩ := h2
      exact eqItemS_none a cap a2 cap2 w
    · rcases h2.cases with ⟨a2, cap2, rfl, rfl⟩ | ⟨b2, off2, cap2, _, _, rfl, hbw2, hc2⟩
      · simp at hl; simp [hl] at hpos
      · rw [← hl]
        exact eqItemS_some b off cap b2 off2 cap2 zs ys w hpos hlim hl hbw hbw2 hc (by rw [hl]; exact hc2)
  · obtain ⟨_, a, cap, rfl, _⟩ := h
    obtain ⟨_, a2, cap2, rfl, _⟩ := h2
    rw [zSameB_len zs ys hl]
    exact eqItemS_len a cap _ a2 cap2 _ w (by rw [bne_iff_ne]; omega)
theorem eqItemS_self (v v2 : Value) (zs : List It) (w : World) (h : ItemsAt w v zs) (h2 : ItemsAt w v2 zs) :
    Calls Try.prog 66 #[v, v2] w fun e w' => e = .returned (.bool true) ∧ Below w.heap.size w w' := by
  have := eqItemS_any v v2 zs zs w h h2
  rw [zSameB_refl] at this
  exact this

end Go.Proofs.Ytfmgohoddaobmaa
