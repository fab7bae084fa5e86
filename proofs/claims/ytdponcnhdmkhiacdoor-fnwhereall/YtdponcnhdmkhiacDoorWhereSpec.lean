/-
  The contract of spec.WhereOf: the items of which a test is so, put one by one into a list; none, and false, of items that are not right or of which it can not be told.
-/
import Derived.Test.YtdponcnhdmkhiacDoorWhereMath
import Derived.Test.YtdponcnhdmkhiacDoorTestSpec2
import Derived.Test.YtdponcnhdmkhiacDoorCellBox
import Derived.Test.YtdponcnhdmkhiacDoorPutWalk
import Derived.Test.YtdponcnhdmkhiacDoorZNeg
namespace Go.Proofs.YtdponcnhdmkhiacDoor
set_option maxRecDepth 100000
open Go.RowKit

theorem where_in {t : Tst} {zs : List It} (hok : zOkB zs = true) (k : Nat) : ∀ j, j < (whereZ t (zs.take k)).length → -4611686018427387904 ≤ ((whereZ t (zs.take k)).getD j ([], 0)).2 ∧ ((whereZ t (zs.take k)).getD j ([], 0)).2 ≤ 4611686018427387903 := by
  intro j hj
  have gm : ∀ (l : List It) (j : Nat), j < l.length → l.getD j ([], 0) ∈ l := fun l j h => by simp [List.getD, h]
  obtain ⟨i, hi, e⟩ := mem_getD (d := ([], 0)) (List.mem_of_mem_take (whereZ_mem (gm _ j hj)))
  have := (wB_in (zOk_row hok hi).2).2
  rw [e] at this
  omega
theorem box_cells' {w : World} {g : Nat} {t : Tst} (h : Box10 w g t) : (w.cell? ⟨g, 0, none⟩ = some (.int .i64 t.k) ∧ w.cell? ⟨g, 1, none⟩ = some (.bool t.no) ∧ w.cell? ⟨g, 2, none⟩ = some (.int .i64 t.l.k) ∧ w.cell? ⟨g, 3, none⟩ = some (.int .i64 t.l.a) ∧ w.cell? ⟨g, 4, none⟩ = some (.int .i64 t.l.b)) ∧ (w.cell? ⟨g, 5, none⟩ = some (.int .i64 t.l.n) ∧ w.cell? ⟨g, 6, none⟩ = some (.int .i64 t.r.k) ∧ w.cell? ⟨g, 7, none⟩ = some (.int .i64 t.r.a) ∧ w.cell? ⟨g, 8, none⟩ = some (.int .i64 t.r.b) ∧ w.cell? ⟨g, 9, none⟩ = some (.int .i64 t.r.n)) := by
  obtain ⟨_, c0, c1, ⟨c2, c3, c4, c5⟩, c6, c7, c8, c9⟩ := h
  exact ⟨⟨c0, c1, c2, c3, c4⟩, c5, c6, c7, c8, c9⟩
set_option maxHeartbeats 4000000 in
theorem specWhere_any (v : Value) (zs : List It) (t : Tst) (w : World) (h : ItemsAt w v zs) :
    Calls Tryd.prog 7 #[v, .agg #[.int .i64 t.k, .bool t.no, .int .i64 t.l.k, .int .i64 t.l.a, .int .i64 t.l.b, .int .i64 t.l.n, .int .i64 t.r.k, .int .i64 t.r.a, .int .i64 t.r.b, .int .i64 t.r.n]] w fun e w' => ∃ v', e = .returned (.tuple #[v', .bool (whereOk t zs)]) ∧ OwnZ w' w.heap.size w'.heap.size v' (whereOut t zs) ∧ Below w.heap.size w w' := by
  cases hok : zOkB zs with
  | false =>
    have e0 : whereOk t zs = false := by simp [whereOk, hok]
    have e1 : whereOut t zs = [] := by simp [whereOut, e0]
    rw [e0, e1]
    go_enter Tryd.func7, Tryd.ntmps7
    go_wp2_with fail
    refine (specZOk_any v zs _ (h.below (bel_alloc _))).mono ?_
    rw [hok]
    rintro e w1 ⟨rfl, hd1⟩
    have HK : Hid (Below w.heap.size w w1) := bel_then (bel_alloc _) hd1.below
    clear h hd1 e0 e1
    go_wp2
    go_ret2
    exact ⟨_, rfl, (lit_ownZ w1).wide HK.out.size (Nat.le_refl _) (Nat.le_refl _), below_then HK.out (below_alloc _)⟩
  | true =>
    have h100 := zOk_le hok
    have HOK : Hid (zOkB zs = true) := hok
    go_enter Tryd.func7, Tryd.ntmps7
    go_wp2_with fail
    refine (specZOk_any v zs _ (h.below (bel_alloc _))).mono ?_
    rw [hok]
    rintro e w1 ⟨rfl, hd1⟩
    have HB1 : Hid (Below w.heap.size w w1) := bel_then (bel_alloc _) hd1.below
    have X1 : Hid (Box10 w1 w.heap.size t) := (Box10.start w t _).below hd1.below
    have h1 := h.below HB1.out
    clear h hd1 hok
    rcases h1.cases with ⟨a, cap, rfl, rfl⟩ | ⟨b, off, cap, hpos, hlim, rfl, hbw, hc⟩
    · clear h1
      go_wp2
      refine wp_loop_rounds 1 ?_
      rw [rounds_succ]
      go_wp2
      go_ret2
      refine ⟨_, rfl, ?_, below_then HB1.out (below_alloc _)⟩
      have e1 : whereOut t [] = [] := by simp [whereOut, whereZ]
      rw [e1]
      exact (lit_ownZ w1).wide HB1.out.size (Nat.le_refl _) (Nat.le_refl _)
    · clear h1
      have hsz1 := HB1.out.size
      have hg1 : w.heap.size < w1.heap.size := X1.out.1
      obtain ⟨n, hn⟩ : ∃ n, n = zs.length := ⟨_, rfl⟩
      have HN : Hid (n = zs.length) := hn
      rw [← hn] at hpos hlim hc h100 ⊢
      clear hn
      go_wp2
      go_loopw [6, 7] (fun s i wr => ∃ (k : Nat), k ≤ n ∧ i = .int .i64 k ∧ Hid (OwnZ wr w1.heap.size wr.heap.size s (whereZ t (zs.take k))) ∧ Hid (Below w1.heap.size w1 wr) ∧ Hid ((zs.take k).all (fun p => t.toldB p.1) = true)) (fun _ i _ => n - (intOf i).toNat)
      case atStart => exact ⟨0, Nat.zero_le _, rfl, lit_ownZ w1, below_alloc _, by show _ = true; simp⟩
      case round =>
        obtain ⟨k, hk, rfl, HZ, HW, HA⟩ := hrel
        by_cases hlt : k < n
        · have HB := HW.out
          have hlt' : k < zs.length := by rw [← HN.out]; exact hlt
          obtain ⟨rv, hrv0, hwt0, hix0⟩ := hc k hlt
          have hrv := (HB.cell (p := ⟨b, off + k * 2, none⟩) hbw).trans hrv0
          have hwt := (HB.cell (p := ⟨b, off + k * 2 + 1, none⟩) hbw).trans hwt0
          have hix := hix0.below HB
          have hbr : b < wr.heap.size := Nat.lt_of_lt_of_le hbw HB.size
          have hgr : w.heap.size < wr.heap.size := Nat.lt_of_lt_of_le hg1 HB.size
          have hxl := rowOk_le (zOk_row HOK.out hlt').1
          have hyw := (wB_in (zOk_row HOK.out hlt').2).2
          have hpl : (whereZ t (zs.take k)).length ≤ 100 := by have := whereZ_len t (zs.take k); rw [List.length_take] at this; omega
          have hput := where_put (t := t) HOK.out hlt'
          have HT : Hid _ := whereZ_take (t := t) hlt'
          have hno := where_no (t := t) hlt'
          have hyes := told_take hlt' HA.out
          have hbd := where_in (t := t) HOK.out k
          obtain ⟨⟨c0, c1, c2, c3, c4⟩, c5, c6, c7, c8, c9⟩ := box_cells' ((X1.out.below HB).below (Below.drew (Below.refl _ _)))
          clear hrv0 hwt0 hix0 hc
          obtain ⟨q, HP⟩ : ∃ q, Hid (q = zs.getD k ([], 0)) := ⟨_, rfl⟩
          rw [← HP.out] at hix hwt hxl hyw HT hno hyes hput
          obtain ⟨x, y⟩ := q
          obtain ⟨ra, rn, rc, rfl⟩ := hix.shape
          simp only at hix hwt hxl hyw HT hno hyes hput
          have hixd : IntsAt wr.drew (.slice ra rn rc) x := hix.below (Below.drew (Below.refl _ _))
          have hrvd : wr.drew.cell? ⟨b, off + k * 2, none⟩ = some (.slice ra rn rc) := hrv
          go_wp2
          go_region_law (first
            | (go_simp; go_at_call 20; (refine (specTestOf_any t _ x _ hixd).mono ?_; rintro e w2 ⟨rfl, hk2⟩)))
          all_goals
            replace hk2 : Below wr.heap.size wr w2 := (Below.drew (Below.refl _ wr)).trans hk2
            clear c0 c1 c2 c3 c4 c5 c6 c7 c8 c9 hixd hrvd
            have hrv2 := cell_is (p := ⟨b, off + k * 2, none⟩) hk2 hbr hrv
            have hwt2 := cell_is (p := ⟨b, off + k * 2 + 1, none⟩) hk2 hbr hwt
            have hix2 : IntsAt w2 (.slice ra rn rc) x := hix.below hk2
            clear hix hrv hwt
            cases htold : t.toldB x with
            | false =>
              have HE0 : Hid _ := hno htold
              have HE1 : Hid (whereOut t zs = []) := by show _ = _; simp [whereOut, HE0.out]
              have HK : Hid (Below w.heap.size w w2) := HB1.out.trans ((HB.mono hsz1).trans (hk2.mono (by omega)))
              clear HZ HT hno hyes HW HA htold hk2 HB hix2 hput hbd hrv2 hwt2
              go_wp2
              go_ret2
              rw [HE0.out, HE1.out]
              exact ⟨_, rfl, (lit_ownZ w2).wide HK.out.size (Nat.le_refl _) (Nat.le_refl _), below_then HK.out (below_alloc _)⟩
            | true =>
              have HA2 : Hid _ := hyes htold
              clear hyes hno htold
              cases hval : t.valB x with
              | true =>
                have HTT : Hid (putZ (whereZ t (zs.take k)) x y = whereZ t (zs.take (k + 1))) := hput hval
                have hszw := HB.size
                have hszk := hk2.size
                have HKd : Hid (Below w1.heap.size w1 w2) := HB.trans (hk2.mono hszw)
                have Z2 : OwnZ w2 w1.heap.size w2.heap.size u6 (whereZ t (zs.take k)) := (HZ.out.keep' hk2).wide (Nat.le_refl _) hk2.size (Nat.le_refl _)
                obtain ⟨zz, HZZ⟩ : ∃ zz, Hid (zz = whereZ t (zs.take k)) := ⟨_, rfl⟩
                rw [← HZZ.out] at Z2 hbd hpl HTT
                clear HT HZ HW HA hval hk2 HB hput
                have Z2d : OwnZ w2.drew w1.heap.size w2.drew.heap.size u6 zz := Z2.keep' (Below.drew (Below.refl _ _))
                have hixd : IntsAt w2.drew (.slice ra rn rc) x := hix2.below (Below.drew (Below.refl _ _))
                have hrvd : w2.drew.cell? ⟨b, off + k * 2, none⟩ = some (.slice ra rn rc) := hrv2
                have hwtd : w2.drew.cell? ⟨b, off + k * 2 + 1, none⟩ = some (.int .i64 y) := hwt2
                have hszd : w1.heap.size ≤ w2.drew.heap.size := by (show _ ≤ w2.heap.size); omega
                have HKdd : Hid (Below w1.heap.size w1 w2.drew) := HKd.out.drew
                clear Z2 HKd
                go_wp2
                go_region_law (first
                  | (go_simp; go_at_call 21; (refine (l2Put_any _ w1.heap.size w2.drew.heap.size zz _ x y _ Z2d hszd hixd (by omega) (by omega) hbd (by omega)).mono ?_; rintro e w3 ⟨v3, rfl, Z3, O3⟩)))
                all_goals
                  have HK : Hid (Below w1.heap.size w1 w3) := O3.below HKdd.out (Nat.le_refl _) hszd
                  have R3 : Hid (OwnZ w3 w1.heap.size w3.heap.size v3 (whereZ t (zs.take (k + 1)))) := by rw [← HTT.out]; exact Z3
                  clear O3 Z3 Z2d hixd hix2 hbd hrv2 hwt2 hrvd hwtd
                  go_wp2
                  go_roundw
                  case rel => exact ⟨k + 1, by omega, by go_num, R3.out, HK.out, HA2.out⟩
                  case measure => simp [intOf]; omega
              | false =>
                have HTT : Hid (whereZ t (zs.take (k + 1)) = whereZ t (zs.take k)) := by show _ = _; have := HT.out; rw [hval] at this; simpa using this
                have HZ2 : Hid (OwnZ w2 w1.heap.size w2.heap.size u6 (whereZ t (zs.take k))) := (HZ.out.keep' hk2).wide (Nat.le_refl _) hk2.size (Nat.le_refl _)
                have HK : Hid (Below w1.heap.size w1 w2) := HB.trans (hk2.mono HB.size)
                clear HT HZ HB HW HA hix2 hk2 hput hbd hrv2 hwt2
                go_wp2
                go_roundw
                case rel => exact ⟨k + 1, by omega, by go_num, by show OwnZ _ _ _ _ _; rw [HTT.out]; exact HZ2.out, HK.out, HA2.out⟩
                case measure => simp [intOf]; omega
        · have e : k = n := by omega
          subst e
          clear hc
          go_wp2
          go_ret2
          have hT := HA.out
          have hZ := HZ.out
          rw [HN.out, List.take_length] at hT hZ
          have e0 : whereOk t zs = true := by simp only [whereOk, HOK.out, hT, Bool.and_self]
          have e1 : whereOut t zs = whereZ t zs := by simp [whereOut, e0]
          rw [e0, e1]
          exact ⟨_, rfl, hZ.wide hsz1 (Nat.le_refl _) (Nat.le_refl _), HB1.out.trans (HW.out.mono hsz1)⟩

end Go.Proofs.YtdponcnhdmkhiacDoor
