/-
  The contract of impl.WhereOf: the items of which a test is so, in memory of their own; none, and false, of items that are not right or of which it can not be told. Condition: the error of chapter 3 reads as it was laid.
-/
import Derived.Test.YtdponcnhdmkhiacDoorWhereMath
import Derived.Test.YtdponcnhdmkhiacDoorTestImpl
import Derived.Test.YtdponcnhdmkhiacDoorStep
import Derived.Test.YtdponcnhdmkhiacDoorZOk
namespace Go.Proofs.YtdponcnhdmkhiacDoor
set_option maxRecDepth 100000
open Go.RowKit

theorem box_cells {w : World} {g : Nat} {t : Tst} (h : Box10 w g t) : (w.cell? ⟨g, 0, none⟩ = some (.int .i64 t.k) ∧ w.cell? ⟨g, 1, none⟩ = some (.bool t.no) ∧ w.cell? ⟨g, 2, none⟩ = some (.int .i64 t.l.k) ∧ w.cell? ⟨g, 3, none⟩ = some (.int .i64 t.l.a) ∧ w.cell? ⟨g, 4, none⟩ = some (.int .i64 t.l.b)) ∧ (w.cell? ⟨g, 5, none⟩ = some (.int .i64 t.l.n) ∧ w.cell? ⟨g, 6, none⟩ = some (.int .i64 t.r.k) ∧ w.cell? ⟨g, 7, none⟩ = some (.int .i64 t.r.a) ∧ w.cell? ⟨g, 8, none⟩ = some (.int .i64 t.r.b) ∧ w.cell? ⟨g, 9, none⟩ = some (.int .i64 t.r.n)) := by
  obtain ⟨_, c0, c1, ⟨c2, c3, c4, c5⟩, c6, c7, c8, c9⟩ := h
  exact ⟨⟨c0, c1, c2, c3, c4⟩, c5, c6, c7, c8, c9⟩

set_option maxHeartbeats 4000000 in
theorem implWhere_any (v : Value) (zs : List It) (t : Tst) (w : World) (p : Addr) (hs : Sent w p) (h : ItemsAt w v zs) :
    Calls Tryd.prog 6 #[v, .agg #[.int .i64 t.k, .bool t.no, .int .i64 t.l.k, .int .i64 t.l.a, .int .i64 t.l.b, .int .i64 t.l.n, .int .i64 t.r.k, .int .i64 t.r.a, .int .i64 t.r.b, .int .i64 t.r.n]] w fun e w' => ∃ v', e = .returned (.tuple #[v', .bool (whereOk t zs)]) ∧ OwnZ w' w.heap.size w'.heap.size v' (whereOut t zs) ∧ Below w.heap.size w w' := by
  obtain ⟨i0, hi, hz0, hz1, hz2⟩ := info_parts infoItem
  cases hok : zOkB zs with
  | false =>
    have e0 : whereOk t zs = false := by simp [whereOk, hok]
    have e1 : whereOut t zs = [] := by simp [whereOut, e0]
    rw [e0, e1]
    go_enter Tryd.func6, Tryd.ntmps6
    go_wp2_with fail
    refine (implZOk_any v zs _ (h.below (bel_alloc _))).mono ?_
    rw [hok]
    rintro e w1 ⟨rfl, hb1⟩
    have HK : Hid (Below w.heap.size w w1) := bel_then (bel_alloc _) hb1
    clear h hb1 e0 e1
    go_wp2
    go_ret2
    exact ⟨_, rfl, nil_ownZ _ _, HK.out⟩
  | true =>
    have h100 := zOk_le hok
    have hrow : ∀ k, k < zs.length → (zs.getD k ([], 0)).1.length ≤ 8796093022208 := fun k hk => by have := rowOk_le (zOk_row hok hk).1; omega
    have HOK : Hid (zOkB zs = true) := hok
    go_enter Tryd.func6, Tryd.ntmps6
    go_wp2_with fail
    refine (implZOk_any v zs _ (h.below (bel_alloc _))).mono ?_
    rw [hok]
    rintro e w1 ⟨rfl, hb1⟩
    have HB1 : Hid (Below w.heap.size w w1) := bel_then (bel_alloc _) hb1
    have X1 : Hid (Box10 w1 w.heap.size t) := (Box10.start w t _).below hb1
    have HS : Hid (Sent w1 p) := hs.below HB1.out
    have h1 := h.below HB1.out
    clear h hb1 hok hs
    rcases h1.cases with ⟨a, cap, rfl, rfl⟩ | ⟨b, off, cap, hpos, hlim, rfl, hbw, hc⟩
    · clear h1 hrow
      go_wp2
      refine wp_loop_rounds 1 ?_
      rw [rounds_succ]
      go_wp2
      go_ret2
      refine ⟨_, rfl, ?_, HB1.out⟩
      have e1 : whereOut t [] = [] := by simp [whereOut, whereZ]
      rw [e1]
      exact nil_ownZ _ _
    · clear h1
      have hsz1 := HB1.out.size
      have hg1 : w.heap.size < w1.heap.size := X1.out.1
      obtain ⟨n, hn⟩ : ∃ n, n = zs.length := ⟨_, rfl⟩
      have HN : Hid (n = zs.length) := hn
      rw [← hn] at hpos hlim hc hrow h100 ⊢
      clear hn
      go_wp2
      go_loopw [6, 16] (fun s i wr => ∃ (k : Nat), k ≤ n ∧ i = .int .i64 k ∧ Hid (OwnZ wr w1.heap.size wr.heap.size s (whereZ t (zs.take k))) ∧ Hid (Below w1.heap.size w1 wr) ∧ Hid ((zs.take k).all (fun p => t.toldB p.1) = true)) (fun _ i _ => n - (intOf i).toNat)
      case atStart => exact ⟨0, Nat.zero_le _, rfl, nil_ownZ _ _, Below.refl _ _, by show _ = true; simp⟩
      case round =>
        obtain ⟨k, hk, rfl, HZ, HW, HA⟩ := hrel
        by_cases hlt : k < n
        · have HB := HW.out
          have hlt' : k < zs.length := by rw [← HN.out]; exact hlt
          obtain ⟨rv, hrv0, hwt0, hix0⟩ := hc k hlt
          have hrv := (HB.cell (p := ⟨b, off + k * 2, none⟩) hbw).trans hrv0
          have hwt := (HB.cell (p := ⟨b, off + k * 2 + 1, none⟩) hbw).trans hwt0
          have hix := hix0.below HB
          have hbr : b < wr.heap.size := Nat.lt_of_lt_of_le hbw HB.size
          have hgr : w.heap.size < wr.heap.size := Nat.lt_of_lt_of_le hg1 HB.size
          have hxl := hrow k hlt
          have hpl : (whereZ t (zs.take k)).length ≤ 100 := by have := whereZ_len t (zs.take k); rw [List.length_take] at this; omega
          have HT : Hid _ := whereZ_take (t := t) hlt'
          have hno := where_no (t := t) hlt'
          have hyes := told_take hlt' HA.out
          obtain ⟨⟨c0, c1, c2, c3, c4⟩, c5, c6, c7, c8, c9⟩ := box_cells (X1.out.below HB)
          clear hrv0 hwt0 hix0 hc hrow
          obtain ⟨q, HP⟩ : ∃ q, Hid (q = zs.getD k ([], 0)) := ⟨_, rfl⟩
          rw [← HP.out] at hix hwt hxl HT hno hyes
          obtain ⟨x, y⟩ := q
          obtain ⟨ra, rn, rc, rfl⟩ := hix.shape
          simp only at hix hwt hxl HT hno hyes
          go_wp2_with fail
          refine (implTestOf_any t _ x _ p ((HS.out.below HB).below (below_alloc _)) (hix.alloc _)).mono ?_
          rintro e w2 ⟨rfl, hb2⟩
          clear c0 c1 c2 c3 c4 c5 c6 c7 c8 c9 hrv hwt
          have hk2 : Below wr.heap.size wr w2 := below_then (below_alloc _) hb2
          have hw2 : w2.heap[wr.heap.size]? = some (.cells #[.slice ra rn rc, .int .i64 y] 40) := at_below (alloc_at _ _) hb2
          have d0 : w2.cell? ⟨wr.heap.size, 0, none⟩ = some (.slice ra rn rc) := by simp [World.cell?, hw2]
          have d1 : w2.cell? ⟨wr.heap.size, 1, none⟩ = some (.int .i64 y) := by simp [World.cell?, hw2]
          have hbr2 : wr.heap.size < w2.heap.size := (Array.getElem?_eq_some_iff.1 hw2).1
          have hix2 : IntsAt w2 (.slice ra rn rc) x := hix.below hk2
          clear hb2 hw2 hix
          cases htold : t.toldB x with
          | false =>
            have HE0 : Hid _ := hno htold
            have HE1 : Hid (whereOut t zs = []) := by show _ = _; simp [whereOut, HE0.out]
            have HK : Hid (Below w.heap.size w w2) := HB1.out.trans ((HB.mono hsz1).trans (hk2.mono (by omega)))
            clear HZ HT hno hyes HW HA htold hk2 HB hix2 d0 d1
            go_wp2
            go_ret2
            rw [HE0.out, HE1.out]
            exact ⟨_, rfl, nil_ownZ _ _, HK.out⟩
          | true =>
            have HA2 : Hid _ := hyes htold
            clear hyes hno htold
            cases hval : t.valB x with
            | true =>
              have HTT : Hid (whereZ t (zs.take (k + 1)) = whereZ t (zs.take k) ++ [(x, y)]) := by show _ = _; have := HT.out; rw [hval] at this; exact this
              have hszw := HB.size
              have hszk := hk2.size
              have Z2 : OwnZ w2.drew w1.heap.size wr.heap.size u6 (whereZ t (zs.take k)) := (HZ.out.keep' hk2).keep' (Below.drew (Below.refl _ _))
              have hixd : IntsAt w2.drew (.slice ra rn rc) x := hix2.below (Below.drew (Below.refl _ _))
              have d1d : w2.drew.cell? ⟨wr.heap.size, 1, none⟩ = some (.int .i64 y) := d1
              have HKd : Hid (Below w1.heap.size w1 w2.drew) := (HB.trans (hk2.mono hszw)).drew
              clear HT HZ HW HA hix2 hval hk2 HB
              go_wp2
              go_region_law (first
                | (go_simp; go_at_call 18; (refine (cloneInts_any _ x _ hixd hxl).mono ?_; rintro e w3 ⟨rv3, rfl, O3, hk3⟩; obtain ⟨ra3, rn3, rc3, rfl⟩ := O3.ints.shape; have d13 := cell_is (p := ⟨wr.heap.size, 1, none⟩) hk3 hbr2 d1d; have hsz3 : w2.heap.size ≤ w3.heap.size := hk3.size; obtain ⟨ps, hpsl, hspW, hprW, hfin⟩ := (Z2.keep' hk3).ready y O3 (by (show _ ≤ w2.drew.heap.size); (show _ ≤ w2.heap.size); omega) (by (show _ ≤ w2.heap.size); omega) (by omega) (by omega); have hpl2 : ps.length ≤ 1048576 := (by omega)))
                | ((refine step_append_pairs rfl (.tmp 30) (.tmp 37) 23 rfl w1.heap.size 40 i0 Tryd.underlying23 hi hz0 hz1 hz2 u6 ps (by simp [Act.eval]) hspW ⟨w3.heap.size, 0, none⟩ 1 1 [(.slice ra3 rn3 rc3, y)] (by simp [Act.eval]) rfl (news_lit _ _ _ _) (fun p hp => by simp at hp; subst hp; exact ⟨_, _, _, rfl⟩) (by simp; omega) (by simp; omega) ?_; intro v4 w4 hown4 hg4)))
              all_goals
                obtain ⟨Z4, B4⟩ := hfin v4 w4 hown4 hg4
                have HK : Hid (Below w1.heap.size w1 w4) := HKd.out.trans ((hk3.mono (by (show _ ≤ w2.heap.size); omega)).trans B4)
                clear hfin hown4 hg4 hspW hprW B4 hk3 HKd Z2 hixd O3
                go_wp2
                go_roundw
                case rel => exact ⟨k + 1, by omega, by go_num, by show OwnZ _ _ _ _ _; rw [HTT.out]; exact Z4, HK.out, HA2.out⟩
                case measure => simp [intOf]; omega
            | false =>
              have HTT : Hid (whereZ t (zs.take (k + 1)) = whereZ t (zs.take k)) := by show _ = _; have := HT.out; rw [hval] at this; simpa using this
              have HZ2 : Hid (OwnZ w2 w1.heap.size w2.heap.size u6 (whereZ t (zs.take k))) := (HZ.out.keep' hk2).wide (Nat.le_refl _) hk2.size (Nat.le_refl _)
              have HK : Hid (Below w1.heap.size w1 w2) := HB.trans (hk2.mono HB.size)
              clear HT HZ HB HW HA hix2 hk2
              go_wp2
              go_roundw
              case rel => exact ⟨k + 1, by omega, by go_num, by show OwnZ _ _ _ _ _; rw [HTT.out]; exact HZ2.out, HK.out, HA2.out⟩
              case measure => simp [intOf]; omega
        · have e : k = n := by omega
          subst e
          clear hc hrow
          go_wp2
          go_ret2
          have hT := HA.out
          have hZ := HZ.out
          rw [HN.out, List.take_length] at hT hZ
          have e0 : whereOk t zs = true := by simp only [whereOk, HOK.out, hT, Bool.and_self]
          have e1 : whereOut t zs = whereZ t zs := by simp [whereOut, e0]
          rw [e0, e1]
          exact ⟨_, rfl, hZ.wide hsz1 (Nat.le_refl _) (Nat.le_refl _), HB1.out.trans (HW.out.mono hsz1)⟩

end Go.Proofs.YtdponcnhdmkhiacDoor
