/-
  Texts of this claim put behind one another: WhereMath, WhereImpl, WhereSpec, DrawW, WhereFacts, MapRow, MapOf, MapFacts, DrawMap, WhereLin, LinFacts, LawFnLinear.
-/
import Derived.Test.YtehfpceghdaajaaGreatDoorPutMath
import Derived.Test.YtehfpceghdaajaaGreatDoorCellMath
import Derived.Test.YtehfpceghdaajaaGreatDoorTestImpl
import Derived.Test.YtehfpceghdaajaaGreatDoorStep
import Derived.Test.YtehfpceghdaajaaGreatDoorZOk
import Derived.Test.YtehfpceghdaajaaGreatDoorTestSpec2
import Derived.Test.YtehfpceghdaajaaGreatDoorCellBox
import Derived.Test.YtehfpceghdaajaaGreatDoorPutWalk
import Derived.Test.YtehfpceghdaajaaGreatDoorZNeg
import Derived.Test.YtehfpceghdaajaaGreatDoorDrawZ2
import Derived.Test.YtehfpceghdaajaaGreatDoorDrawT
import Derived.Test.YtehfpceghdaajaaGreatDoorZVals
import Derived.Test.YtehfpceghdaajaaGreatDoorCellReck
import Derived.Test.YtehfpceghdaajaaGreatDoorClone
import Derived.Test.YtehfpceghdaajaaGreatDoorOwn
import Derived.Test.YtehfpceghdaajaaGreatDoorGather
import Derived.Test.YtehfpceghdaajaaGreatDoorAddSpec
import Derived.Test.YtehfpceghdaajaaGreatDoorDrawC2
import Derived.Test.YtehfpceghdaajaaGreatDoorZFacts
import Derived.Test.YtehfpceghdaajaaGreatDoorLaidSent
import Derived.Deep.DeepCutAuto

/-
  Plain facts on items of which something is so: those of which a test is so, in their order; put one by one into a list they come out so.
-/
namespace Go.Proofs.YtehfpceghdaajaaGreatDoor

def whereZ (t : Tst) (zs : List It) : List It := zs.filter fun p => t.valB p.1
def whereOk (t : Tst) (zs : List It) : Bool := zOkB zs && zs.all fun p => t.toldB p.1
def whereOut (t : Tst) (zs : List It) : List It := if whereOk t zs then whereZ t zs else []

theorem whereZ_len (t : Tst) (zs : List It) : (whereZ t zs).length ≤ zs.length := List.length_filter_le _ _
theorem whereZ_take {t : Tst} {zs : List It} {k : Nat} (hk : k < zs.length) : whereZ t (zs.take (k + 1)) = whereZ t (zs.take k) ++ (if t.valB (zs.getD k ([], 0)).1 then [((zs.getD k ([], 0)).1, (zs.getD k ([], 0)).2)] else []) := by
  unfold whereZ
  rw [List.take_succ_eq_append_getElem hk, List.filter_append]
  congr 1
  simp [List.getD, hk]
  split <;> simp_all
theorem told_take {t : Tst} {zs : List It} {k : Nat} (hk : k < zs.length) (h : (zs.take k).all (fun p => t.toldB p.1) = true) (hx : t.toldB (zs.getD k ([], 0)).1 = true) : (zs.take (k + 1)).all (fun p => t.toldB p.1) = true := by
  rw [List.take_succ_eq_append_getElem hk, List.all_append, h]
  simp [List.getD, hk] at hx ⊢
  exact hx
theorem where_no {t : Tst} {zs : List It} {k : Nat} (hk : k < zs.length) (hx : t.toldB (zs.getD k ([], 0)).1 = false) : whereOk t zs = false := by
  unfold whereOk
  have : (zs.all fun p => t.toldB p.1) = false := by
    rw [List.all_eq_false]
    refine ⟨zs[k], by simp, ?_⟩
    simp [List.getD, hk] at hx
    simp [hx]
  rw [this, Bool.and_false]
theorem putZ_last {zs : List It} {r : List Int} {y : Int} (h : ∀ p ∈ zs, ordL p.1 r = -1) (hy : y ≠ 0) : putZ zs r y = zs ++ [(r, y)] := by
  rw [putZ_new (k := zs.length) hy (fun j hj => h _ (by simp [List.getD, hj])) (Nat.le_refl _) (fun hc => by omega)]
  simp
theorem srt_ahead {zs : List It} (h : Srt zs) {k : Nat} (hk : k < zs.length) : ∀ p ∈ zs.take k, ordL p.1 (zs.getD k ([], 0)).1 = -1 := by
  intro p hp
  obtain ⟨j, hj, rfl⟩ := List.mem_iff_getElem.1 hp
  rw [List.length_take] at hj
  rw [List.getElem_take]
  have := List.pairwise_iff_getElem.1 h j k (by omega) hk (by omega)
  simpa [List.getD, hk] using this
theorem where_put {t : Tst} {zs : List It} (hok : zOkB zs = true) {k : Nat} (hk : k < zs.length) (hx : t.valB (zs.getD k ([], 0)).1 = true) : putZ (whereZ t (zs.take k)) (zs.getD k ([], 0)).1 (zs.getD k ([], 0)).2 = whereZ t (zs.take (k + 1)) := by
  rw [whereZ_take hk, if_pos hx]
  refine putZ_last (fun p hp => srt_ahead (zOk_srt hok) hk p (List.mem_filter.1 hp).1) (zOk_nz hok _ ?_)
  simp [List.getD, hk]
theorem whereZ_mem {t : Tst} {zs : List It} {p : It} (h : p ∈ whereZ t zs) : p ∈ zs := (List.mem_filter.1 h).1
end Go.Proofs.YtehfpceghdaajaaGreatDoor

/-
  The contract of impl.WhereOf: the items of which a test is so, in memory of their own; none, and false, of items that are not right or of which it can not be told. Condition: the error of chapter 3 reads as it was laid.
-/
namespace Go.Proofs.YtehfpceghdaajaaGreatDoor
set_option maxRecDepth 100000
open Go.RowKit

theorem box_cells {w : World} {g : Nat} {t : Tst} (h : Box10 w g t) : (w.cell? ⟨g, 0, none⟩ = some (.int .i64 t.k) ∧ w.cell? ⟨g, 1, none⟩ = some (.bool t.no) ∧ w.cell? ⟨g, 2, none⟩ = some (.int .i64 t.l.k) ∧ w.cell? ⟨g, 3, none⟩ = some (.int .i64 t.l.a) ∧ w.cell? ⟨g, 4, none⟩ = some (.int .i64 t.l.b)) ∧ (w.cell? ⟨g, 5, none⟩ = some (.int .i64 t.l.n) ∧ w.cell? ⟨g, 6, none⟩ = some (.int .i64 t.r.k) ∧ w.cell? ⟨g, 7, none⟩ = some (.int .i64 t.r.a) ∧ w.cell? ⟨g, 8, none⟩ = some (.int .i64 t.r.b) ∧ w.cell? ⟨g, 9, none⟩ = some (.int .i64 t.r.n)) := by
  obtain ⟨_, c0, c1, ⟨c2, c3, c4, c5⟩, c6, c7, c8, c9⟩ := h
  exact ⟨⟨c0, c1, c2, c3, c4⟩, c5, c6, c7, c8, c9⟩

set_option maxHeartbeats 4000000 in
theorem implWhere_any (v : Value) (zs : List It) (t : Tst) (w : World) (p : Addr) (hs : Sent w p) (h : ItemsAt w v zs) :
    Calls Tryz.prog 11 #[v, .agg #[.int .i64 t.k, .bool t.no, .int .i64 t.l.k, .int .i64 t.l.a, .int .i64 t.l.b, .int .i64 t.l.n, .int .i64 t.r.k, .int .i64 t.r.a, .int .i64 t.r.b, .int .i64 t.r.n]] w fun e w' => ∃ v', e = .returned (.tuple #[v', .bool (whereOk t zs)]) ∧ OwnZ w' w.heap.size w'.heap.size v' (whereOut t zs) ∧ Below w.heap.size w w' := by
  obtain ⟨i0, hi, hz0, hz1, hz2⟩ := info_parts infoItem
  cases hok : zOkB zs with
  | false =>
    have e0 : whereOk t zs = false := by simp [whereOk, hok]
    have e1 : whereOut t zs = [] := by simp [whereOut, e0]
    rw [e0, e1]
    go_enter Tryz.func11, Tryz.ntmps11
    go_wp2_with fail
    refine (implZOk_any v zs _ (h.below (bel_alloc _))).mono ?_
    rw [hok]
    rintro e w1 ⟨rfl, hb1⟩
    have HK : Hid (Below w.heap.size w w1) := bel_then (bel_alloc _) hb1
    clear h hb1 e0 e1
    go_wp2
    go_ret2
    exact ⟨_, rfl, nil_ownZ _ _, HK.out⟩
  | true =>
    have h100 := zOk_le hok
    have hrow : ∀ k, k < zs.length → (zs.getD k ([], 0)).1.length ≤ 8796093022208 := fun k hk => by have := rowOk_le (zOk_row hok hk).1; omega
    have HOK : Hid (zOkB zs = true) := hok
    go_enter Tryz.func11, Tryz.ntmps11
    go_wp2_with fail
    refine (implZOk_any v zs _ (h.below (bel_alloc _))).mono ?_
    rw [hok]
    rintro e w1 ⟨rfl, hb1⟩
    have HB1 : Hid (Below w.heap.size w w1) := bel_then (bel_alloc _) hb1
    have X1 : Hid (Box10 w1 w.heap.size t) := (Box10.start w t _).below hb1
    have HS : Hid (Sent w1 p) := hs.below HB1.out
    have h1 := h.below HB1.out
    clear h hb1 hok hs
    rcases h1.cases with ⟨a, cap, rfl, rfl⟩ | ⟨b, off, cap, hpos, hlim, rfl, hbw, hc⟩
    · clear h1 hrow
      go_wp2
      refine wp_loop_rounds 1 ?_
      rw [rounds_succ]
      go_wp2
      go_ret2
      refine ⟨_, rfl, ?_, HB1.out⟩
      have e1 : whereOut t [] = [] := by simp [whereOut, whereZ]
      rw [e1]
      exact nil_ownZ _ _
    · clear h1
      have hsz1 := HB1.out.size
      have hg1 : w.heap.size < w1.heap.size := X1.out.1
      obtain ⟨n, hn⟩ : ∃ n, n = zs.length := ⟨_, rfl⟩
      have HN : Hid (n = zs.length) := hn
      rw [← hn] at hpos hlim hc hrow h100 ⊢
      clear hn
      go_wp2
      go_loopw [6, 16] (fun s i wr => ∃ (k : Nat), k ≤ n ∧ i = .int .i64 k ∧ Hid (OwnZ wr w1.heap.size wr.heap.size s (whereZ t (zs.take k))) ∧ Hid (Below w1.heap.size w1 wr) ∧ Hid ((zs.take k).all (fun p => t.toldB p.1) = true)) (fun _ i _ => n - (intOf i).toNat)
      case atStart => exact ⟨0, Nat.zero_le _, rfl, nil_ownZ _ _, Below.refl _ _, by show _ = true; simp⟩
      case round =>
        obtain ⟨k, hk, rfl, HZ, HW, HA⟩ := hrel
        by_cases hlt : k < n
        · have HB := HW.out
          have hlt' : k < zs.length := by rw [← HN.out]; exact hlt
          obtain ⟨rv, hrv0, hwt0, hix0⟩ := hc k hlt
          have hrv := (HB.cell (p := ⟨b, off + k * 2, none⟩) hbw).trans hrv0
          have hwt := (HB.cell (p := ⟨b, off + k * 2 + 1, none⟩) hbw).trans hwt0
          have hix := hix0.below HB
          have hbr : b < wr.heap.size := Nat.lt_of_lt_of_le hbw HB.size
          have hgr : w.heap.size < wr.heap.size := Nat.lt_of_lt_of_le hg1 HB.size
          have hxl := hrow k hlt
          have hpl : (whereZ t (zs.take k)).length ≤ 100 := by have := whereZ_len t (zs.take k); rw [List.length_take] at this; omega
          have HT : Hid _ := whereZ_take (t := t) hlt'
          have hno := where_no (t := t) hlt'
          have hyes := told_take hlt' HA.out
          obtain ⟨⟨c0, c1, c2, c3, c4⟩, c5, c6, c7, c8, c9⟩ := box_cells (X1.out.below HB)
          clear hrv0 hwt0 hix0 hc hrow
          obtain ⟨q, HP⟩ : ∃ q, Hid (q = zs.getD k ([], 0)) := ⟨_, rfl⟩
          rw [← HP.out] at hix hwt hxl HT hno hyes
          obtain ⟨x, y⟩ := q
          obtain ⟨ra, rn, rc, rfl⟩ := hix.shape
          simp only at hix hwt hxl HT hno hyes
          go_wp2_with fail
          refine (implTestOf_any t _ x _ p ((HS.out.below HB).below (below_alloc _)) (hix.alloc _)).mono ?_
          rintro e w2 ⟨rfl, hb2⟩
          clear c0 c1 c2 c3 c4 c5 c6 c7 c8 c9 hrv hwt
          have hk2 : Below wr.heap.size wr w2 := below_then (below_alloc _) hb2
          have hw2 : w2.heap[wr.heap.size]? = some (.cells #[.slice ra rn rc, .int .i64 y] 54) := at_below (alloc_at _ _) hb2
          have d0 : w2.cell? ⟨wr.heap.size, 0, none⟩ = some (.slice ra rn rc) := by simp [World.cell?, hw2]
          have d1 : w2.cell? ⟨wr.heap.size, 1, none⟩ = some (.int .i64 y) := by simp [World.cell?, hw2]
          have hbr2 : wr.heap.size < w2.heap.size := (Array.getElem?_eq_some_iff.1 hw2).1
          have hix2 : IntsAt w2 (.slice ra rn rc) x := hix.below hk2
          clear hb2 hw2 hix
          cases htold : t.toldB x with
          | false =>
            have HE0 : Hid _ := hno htold
            have HE1 : Hid (whereOut t zs = []) := by show _ = _; simp [whereOut, HE0.out]
            have HK : Hid (Below w.heap.size w w2) := HB1.out.trans ((HB.mono hsz1).trans (hk2.mono (by omega)))
            clear HZ HT hno hyes HW HA htold hk2 HB hix2 d0 d1
            go_wp2
            go_ret2
            rw [HE0.out, HE1.out]
            exact ⟨_, rfl, nil_ownZ _ _, HK.out⟩
          | true =>
            have HA2 : Hid _ := hyes htold
            clear hyes hno htold
            cases hval : t.valB x with
            | true =>
              have HTT : Hid (whereZ t (zs.take (k + 1)) = whereZ t (zs.take k) ++ [(x, y)]) := by show _ = _; have := HT.out; rw [hval] at this; exact this
              have hszw := HB.size
              have hszk := hk2.size
              have Z2 : OwnZ w2.drew w1.heap.size wr.heap.size u6 (whereZ t (zs.take k)) := (HZ.out.keep' hk2).keep' (Below.drew (Below.refl _ _))
              have hixd : IntsAt w2.drew (.slice ra rn rc) x := hix2.below (Below.drew (Below.refl _ _))
              have d1d : w2.drew.cell? ⟨wr.heap.size, 1, none⟩ = some (.int .i64 y) := d1
              have HKd : Hid (Below w1.heap.size w1 w2.drew) := (HB.trans (hk2.mono hszw)).drew
              clear HT HZ HW HA hix2 hval hk2 HB
              go_wp2
              go_region_law (first
                | (go_simp; go_at_call 33; (refine (cloneInts_any _ x _ hixd hxl).mono ?_; rintro e w3 ⟨rv3, rfl, O3, hk3⟩; obtain ⟨ra3, rn3, rc3, rfl⟩ := O3.ints.shape; have d13 := cell_is (p := ⟨wr.heap.size, 1, none⟩) hk3 hbr2 d1d; have hsz3 : w2.heap.size ≤ w3.heap.size := hk3.size; obtain ⟨ps, hpsl, hspW, hprW, hfin⟩ := (Z2.keep' hk3).ready y O3 (by (show _ ≤ w2.drew.heap.size); (show _ ≤ w2.heap.size); omega) (by (show _ ≤ w2.heap.size); omega) (by omega) (by omega); have hpl2 : ps.length ≤ 1048576 := (by omega)))
                | ((refine step_append_pairs rfl (.tmp 30) (.tmp 37) 23 rfl w1.heap.size 54 i0 Tryz.underlying23 hi hz0 hz1 hz2 u6 ps (by simp [Act.eval]) hspW ⟨w3.heap.size, 0, none⟩ 1 1 [(.slice ra3 rn3 rc3, y)] (by simp [Act.eval]) rfl (news_lit _ _ _ _) (fun p hp => by simp at hp; subst hp; exact ⟨_, _, _, rfl⟩) (by simp; omega) (by simp; omega) ?_; intro v4 w4 hown4 hg4)))
              all_goals
                obtain ⟨Z4, B4⟩ := hfin v4 w4 hown4 hg4
                have HK : Hid (Below w1.heap.size w1 w4) := HKd.out.trans ((hk3.mono (by (show _ ≤ w2.heap.size); omega)).trans B4)
                clear hfin hown4 hg4 hspW hprW B4 hk3 HKd Z2 hixd O3
                go_wp2
                go_roundw
                case rel => exact ⟨k + 1, by omega, by go_num, by show OwnZ _ _ _ _ _; rw [HTT.out]; exact Z4, HK.out, HA2.out⟩
                case measure => simp [intOf]; omega
            | false =>
              have HTT : Hid (whereZ t (zs.take (k + 1)) = whereZ t (zs.take k)) := by show _ = _; have := HT.out; rw [hval] at this; simpa using this
              have HZ2 : Hid (OwnZ w2 w1.heap.size w2.heap.size u6 (whereZ t (zs.take k))) := (HZ.out.keep' hk2).wide (Nat.le_refl _) hk2.size (Nat.le_refl _)
              have HK : Hid (Below w1.heap.size w1 w2) := HB.trans (hk2.mono HB.size)
              clear HT HZ HB HW HA hix2 hk2
              go_wp2
              go_roundw
              case rel => exact ⟨k + 1, by omega, by go_num, by show OwnZ _ _ _ _ _; rw [HTT.out]; exact HZ2.out, HK.out, HA2.out⟩
              case measure => simp [intOf]; omega
        · have e : k = n := by omega
          subst e
          clear hc hrow
          go_wp2
          go_ret2
          have hT := HA.out
          have hZ := HZ.out
          rw [HN.out, List.take_length] at hT hZ
          have e0 : whereOk t zs = true := by simp only [whereOk, HOK.out, hT, Bool.and_self]
          have e1 : whereOut t zs = whereZ t zs := by simp [whereOut, e0]
          rw [e0, e1]
          exact ⟨_, rfl, hZ.wide hsz1 (Nat.le_refl _) (Nat.le_refl _), HB1.out.trans (HW.out.mono hsz1)⟩

end Go.Proofs.YtehfpceghdaajaaGreatDoor

/-
  The contract of spec.WhereOf: the items of which a test is so, put one by one into a list; none, and false, of items that are not right or of which it can not be told.
-/
namespace Go.Proofs.YtehfpceghdaajaaGreatDoor
set_option maxRecDepth 100000
open Go.RowKit

theorem where_in {t : Tst} {zs : List It} (hok : zOkB zs = true) (k : Nat) : ∀ j, j < (whereZ t (zs.take k)).length → -4611686018427387904 ≤ ((whereZ t (zs.take k)).getD j ([], 0)).2 ∧ ((whereZ t (zs.take k)).getD j ([], 0)).2 ≤ 4611686018427387903 := by
  intro j hj
  have gm : ∀ (l : List It) (j : Nat), j < l.length → l.getD j ([], 0) ∈ l := fun l j h => by simp [List.getD, h]
  obtain ⟨i, hi, e⟩ := mem_getD (d := ([], 0)) (List.mem_of_mem_take (whereZ_mem (gm _ j hj)))
  have := (wB_in (zOk_row hok hi).2).2
  rw [e] at this
  omega
end Go.Proofs.YtehfpceghdaajaaGreatDoor

/-
  What is drawn for the laws of chapter 5: l5Wide, DrawWhereOf.
-/
namespace Go.Proofs.YtehfpceghdaajaaGreatDoor
open Go.RowKit
set_option linter.unusedVariables false

theorem good_of_few {zs : List It} (hl : (zs.length : Int) ≤ 7) (h : GoodB 200 zs) : GoodZ zs := ⟨by omega, h.up (by omega)⟩
set_option maxRecDepth 100000 in
set_option maxHeartbeats 2000000 in
theorem l5Wide_any (g P : Nat) (w : World) (hP : P ≤ 1099511600000) (h : Rd w g P) :
    Calls Tryz.prog 17 #[.pointer (some ⟨g, 0, none⟩)] w fun e w' =>
      ∃ v, ∃ wd : Int, e = .returned (.tuple #[v, .int .i64 wd]) ∧ (1 ≤ wd ∧ wd ≤ 3) ∧ ∃ zs : List It, GoodZ zs ∧ Drawn w' g v zs ∧ Rd w' g (P + 600) ∧ w.grownBy w' (some g) := by
  go_enter Tryz.func17, Tryz.ntmps17
  go_wp2_with fail
  refine (pick_any g P 3 _ (by omega) (by omega) (by omega) h).mono ?_
  rintro e w1 ⟨n, hn0, hn3, rfl, hrd1, hg1⟩
  clear h
  go_wp2_with fail
  refine (pick_any g _ 20 _ (by omega) (by omega) (by omega) hrd1).mono ?_
  rintro e w2 ⟨q, hq0, hq5, rfl, hrd2, hg2⟩
  have hG2 := grown_trans hg1 hg2
  have hgl : g < w2.heap.size := hrd2.lt
  clear hrd1 hg1 hg2
  by_cases hq : q = 0
  · subst hq
    go_wp2_with fail
    refine (l2Bent_any _ _ _ (by omega) hrd2).mono ?_
    rintro e w3 ⟨v3, rfl, zs, hgz, hd3, hrd3, hg3⟩
    have HG : Hid (w.grownBy w3 (some g)) := grown_trans hG2 hg3
    have HR : Hid (Rd w3 g (P + 600)) := hrd3.le (by omega)
    have HD : Hid (Drawn w3 g v3 zs) := hd3
    have HGZ : Hid (GoodZ zs) := hgz
    clear hd3 hrd3 hg3 hG2 hrd2 hgz
    go_wp2
    go_ret2
    exact ⟨_, _, rfl, ⟨by omega, by omega⟩, zs, HGZ.out, HD.out, HR.out, HG.out⟩
  · have hqf : (q == 0) = false := by simp [hq]
    have hne : ¬ q = 0 := hq
    clear hq
    go_wp2_with fail
    refine (l2Z_any _ _ (1 + n) 7 _ (by omega) (by omega) (by omega) (by omega) (by omega) hrd2).mono ?_
    rintro e w3 ⟨v3, rfl, zs, hlen, hgz, hz3, hrd3, hg3⟩
    have HG : Hid (w.grownBy w3 (some g)) := grown_trans hG2 hg3
    have HR : Hid (Rd w3 g (P + 600)) := hrd3.le (by omega)
    have HD : Hid (Drawn w3 g v3 zs) := hz3.drawn hgl
    have HGZ : Hid (GoodZ zs) := good_of_few hlen hgz
    clear hz3 hrd3 hg3 hG2 hrd2 hgz hlen
    go_wp2
    go_ret2
    exact ⟨_, _, rfl, ⟨by omega, by omega⟩, zs, HGZ.out, HD.out, HR.out, HG.out⟩

theorem sets10w (wk : World) (b : Nat) (v0 v1 v2 v3 v4 v5 v6 v7 v8 v9 : Value) : wk.grownBy ((((((((((wk.setCell ⟨b, 0, none⟩ v0).setCell ⟨b, 1, none⟩ v1).setCell ⟨b, 2, none⟩ v2).setCell ⟨b, 3, none⟩ v3).setCell ⟨b, 4, none⟩ v4).setCell ⟨b, 5, none⟩ v5).setCell ⟨b, 6, none⟩ v6).setCell ⟨b, 7, none⟩ v7).setCell ⟨b, 8, none⟩ v8).setCell ⟨b, 9, none⟩ v9) (some b) := grown_trans (grown_trans (grown_trans (grown_trans (grown_trans (grown_trans (grown_trans (grown_trans (grown_trans (grown_trans (grown_refl _ _) (grown_set _ b 0 v0)) (grown_set _ b 1 v1)) (grown_set _ b 2 v2)) (grown_set _ b 3 v3)) (grown_set _ b 4 v4)) (grown_set _ b 5 v5)) (grown_set _ b 6 v6)) (grown_set _ b 7 v7)) (grown_set _ b 8 v8)) (grown_set _ b 9 v9)
set_option maxRecDepth 100000 in
set_option maxHeartbeats 2000000 in
theorem drawWhereOf_any (a : Option Addr) (len cap : Nat) (bs : List Int) (w : World) (h : IsRow .u8 w a len cap bs) :
    Calls Tryz.prog 6 #[.slice a len cap] w fun e w' =>
      ∃ (v : Value) (t : Tst), e = .returned (.tuple #[v, .agg #[.int .i64 t.k, .bool t.no, .int .i64 t.l.k, .int .i64 t.l.a, .int .i64 t.l.b, .int .i64 t.l.n, .int .i64 t.r.k, .int .i64 t.r.a, .int .i64 t.r.b, .int .i64 t.r.n]]) ∧ t.Low ∧ ∃ zs : List It, GoodZ zs ∧ TailZ w' v zs ∧ Below w.heap.size w w' := by
  go_enter Tryz.func6, Tryz.ntmps6
  go_wp2_with fail
  refine (l12Open_any a len cap bs _ (h.below (bel_alloc _))).mono ?_
  rintro e w1 ⟨rfl, hrd1, hb1⟩
  have z1 := at_below (alloc_at w _) hb1
  have B1 : Hid (Below w.heap.size w w1) := bel_then (bel_alloc _) hb1
  have hs1 := hb1.size
  clear hb1 h
  rw [alloc_size] at hrd1 hs1
  simp only [alloc_size]
  obtain ⟨g, hg⟩ : ∃ g, g = w.heap.size + 1 := ⟨_, rfl⟩
  rw [← hg] at hrd1 hs1 ⊢
  have hgw : w.heap.size < g := by omega
  have HG : Hid (g = w.heap.size + 1) := hg
  clear hg
  go_wp2_with fail
  refine (l5Wide_any g _ _ (by omega) hrd1).mono ?_
  rintro e w2 ⟨v, wd, rfl, ⟨hwd1, hwd2⟩, zs, hgz, hd2, hrd2, hg2⟩
  have z2 := kept_at hg2 z1 (by omega)
  have B2 : Hid (Below w.heap.size w w2) := B1.out.grown hg2 B1.out.size (fun k hk => by simp at hk; omega)
  have HGZ : Hid (GoodZ zs) := hgz
  have HD2 : Hid (Drawn w2 g v zs) := hd2
  clear hg2 hrd1 z1 hgz hd2
  go_wp2_with fail
  refine (l3TestBent_any g _ wd _ hwd1 (by omega) (by omega) hrd2).mono ?_
  rintro e w4 ⟨t0, rfl, hlow, hrd4, hg4⟩
  obtain ⟨tk, tn, ⟨lk, la, lb, ln⟩, ⟨rk, ra, rb, rn⟩⟩ := t0
  have HLOW : Hid (Tst.Low ⟨tk, tn, ⟨lk, la, lb, ln⟩, ⟨rk, ra, rb, rn⟩⟩) := hlow
  simp only
  have z4 := kept_at hg4 z2 (by omega)
  have T4 := HD2.out.next hg4
  have B4 : Hid (Below w.heap.size w w4) := B2.out.grown hg4 B2.out.size (fun k hk => by simp at hk; omega)
  clear hrd2 hrd4 hg4 z2 hlow
  have S := sets10w w4 w.heap.size (.int .i64 tk) (.bool tn) (.int .i64 lk) (.int .i64 la) (.int .i64 lb) (.int .i64 ln) (.int .i64 rk) (.int .i64 ra) (.int .i64 rb) (.int .i64 rn)
  have I5 : TailZ _ v zs := T4 _ (only_at S (by omega))
  have B5 := B4.out.grown S B4.out.size (fun k hk => by simp at hk; omega)
  clear S T4
  obtain ⟨⟨c0, c1, c2, c3, c4, c5, c6, c7, c8, c9⟩, f0, f1, f2, f3, f4, f5, f6, f7, f8, f9⟩ := ten_cells z4
  clear z4
  go_wp2
  exact bodyPost_ret (v := .tuple #[v, .agg #[.int .i64 tk, .bool tn, .int .i64 lk, .int .i64 la, .int .i64 lb, .int .i64 ln, .int .i64 rk, .int .i64 ra, .int .i64 rb, .int .i64 rn]]) (by simp [results, Tryz.results6, go_sem, c0, c1, c2, c3, c4, c5, c6, c7, c8, c9]) rfl ⟨_, ⟨tk, tn, ⟨lk, la, lb, ln⟩, ⟨rk, ra, rb, rn⟩⟩, rfl, HLOW.out, zs, HGZ.out, I5, B5⟩

end Go.Proofs.YtehfpceghdaajaaGreatDoor

/-
  Plain facts on items of which something is so, and the contracts of WhereOf at a told answer.
-/
namespace Go.Proofs.YtehfpceghdaajaaGreatDoor
set_option maxRecDepth 100000
open Go.RowKit

theorem zOk_mkW {zs : List It} (hl : zs.length ≤ 100) (hp : ∀ p ∈ zs, rowOkB p.1 = true ∧ wB p.2 = true) (hs : Srt zs) : zOkB zs = true := by
  refine zOk_all hl fun j hj => ?_
  unfold Srt at hs
  rw [List.pairwise_iff_getElem] at hs
  have h1 := hp _ (getZ_mem hj)
  unfold stepB
  rw [h1.1, h1.2]
  by_cases h0 : j = 0
  · simp [h0]
  · have := hs (j - 1) j (by omega) hj (by omega)
    have hjl : j - 1 < zs.length := by omega
    have h2 : rowLessB (zs.getD (j - 1) ([], 0)).1 (zs.getD j ([], 0)).1 = true := less_of (by simpa [List.getD, hj, hjl] using this)
    rw [h2]
    simp
theorem zOk_filterW {zs : List It} (f : It → Bool) (h : zOkB zs = true) : zOkB (zs.filter f) = true :=
  zOk_mkW (by have := zOk_le h; have := List.length_filter_le f zs; omega) (fun p hp => by
    obtain ⟨j, hj, e⟩ := mem_getD (d := ([], 0)) (List.mem_filter.1 hp).1
    rw [← e]
    exact zOk_row h hj) (List.Pairwise.sublist List.filter_sublist (zOk_srt h))
theorem getZ_where (f : List Int → Bool) (q : List Int) : ∀ zs : List It, getZ (zs.filter fun p => f p.1) q = if f q then getZ zs q else 0
  | [] => by simp [getZ_nil]
  | p :: zs => by
    have ih := getZ_where f q zs
    rw [List.filter_cons]
    by_cases hp : f p.1 = true
    · rw [if_pos hp, getZ_cons, getZ_cons, ih]
      by_cases e : p.1 = q
      · rw [if_pos e, if_pos e, if_pos (by rw [← e]; exact hp)]
      · rw [if_neg e, if_neg e]
    · rw [if_neg hp, ih, getZ_cons]
      by_cases e : p.1 = q
      · rw [if_pos e, if_neg (by rw [← e]; exact hp), if_neg (by rw [← e]; exact hp)]
      · rw [if_neg e]
theorem getZ_in_row {zs : List It} {q : List Int} (h : getZ zs q ≠ 0) : ∃ p ∈ zs, p.1 = q := by
  apply Classical.byContradiction
  intro hc
  exact h (getZ_zero fun p hp e => hc ⟨p, hp, e⟩)
theorem getZ_self : ∀ {zs : List It}, Srt zs → ∀ p ∈ zs, getZ zs p.1 = p.2
  | [], _, p, hp => by simp at hp
  | x :: zs, h, p, hp => by
    rw [getZ_cons]
    rcases List.mem_cons.1 hp with rfl | hp
    · simp
    · rw [if_neg (ordL_ne ((Srt.cons.1 h).1 p hp))]
      exact getZ_self (Srt.cons.1 h).2 p hp

theorem where_true {t : Tst} {zs : List It} (h : whereOk t zs = true) : zOkB zs = true ∧ (∀ p ∈ zs, t.toldB p.1 = true) ∧ whereOut t zs = whereZ t zs := by
  have h0 := h
  unfold whereOk at h
  rw [Bool.and_eq_true, List.all_eq_true] at h
  exact ⟨h.1, h.2, by unfold whereOut; rw [h0]; rfl⟩
theorem where_mk {t : Tst} {zs : List It} (h : zOkB zs = true) (ht : ∀ p ∈ zs, t.toldB p.1 = true) : whereOk t zs = true ∧ whereOut t zs = whereZ t zs := by
  have : whereOk t zs = true := by unfold whereOk; rw [h, Bool.true_and, List.all_eq_true]; exact ht
  exact ⟨this, by unfold whereOut; rw [this]; rfl⟩
theorem where_false {t : Tst} {zs : List It} (h : whereOk t zs = false) : whereOut t zs = [] := by unfold whereOut; rw [h]; rfl
theorem whereZ_ok {t : Tst} {zs : List It} (h : zOkB zs = true) : zOkB (whereZ t zs) = true := zOk_filterW _ h
theorem told_not (t : Tst) (r : List Int) : Tst.toldB { t with no := !t.no } r = t.toldB r := rfl
theorem val_not {t : Tst} {r : List Int} (h : t.toldB r = true) : Tst.valB { t with no := !t.no } r = !t.valB r := by
  unfold Tst.valB
  rw [told_not, h, Bool.true_and, Bool.true_and]
  unfold Tst.holdsB
  cases t.no <;> simp
/-- Those of which it is so and those of which it is not are all. -/
theorem where_parts {t : Tst} {zs : List It} (h : whereOk t zs = true) : addZ (whereZ t zs) (whereZ { t with no := !t.no } zs) = zs := by
  obtain ⟨hz, ht, _⟩ := where_true h
  have s1 := zOk_srt (whereZ_ok (t := t) hz)
  have s2 := zOk_srt (whereZ_ok (t := { t with no := !t.no }) hz)
  refine canon (srt_add s1) (nz_add (zOk_nz (whereZ_ok hz))) (zOk_srt hz) (zOk_nz hz) fun q => ?_
  rw [getZ_add s1 s2]
  unfold whereZ
  rw [getZ_where, getZ_where]
  by_cases hq : getZ zs q = 0
  · rw [hq]; simp
  · obtain ⟨p, hp, rfl⟩ := getZ_in_row hq
    rw [val_not (ht p hp)]
    cases t.valB p.1 <;> simp
theorem where_twice (t : Tst) (zs : List It) : whereZ t (whereZ t zs) = whereZ t zs := by
  unfold whereZ
  rw [List.filter_filter]
  congr 1
  funext p
  simp
theorem where_swap (t u : Tst) (zs : List It) : whereZ t (whereZ u zs) = whereZ u (whereZ t zs) := by
  unfold whereZ
  rw [List.filter_filter, List.filter_filter]
  congr 1
  funext p
  exact Bool.and_comm _ _
theorem where_again {t : Tst} {zs : List It} (h : whereOk t zs = true) : whereOk t (whereZ t zs) = true ∧ whereOut t (whereZ t zs) = whereZ t zs := by
  obtain ⟨hz, ht, _⟩ := where_true h
  have := where_mk (whereZ_ok (t := t) hz) (fun p hp => ht p (whereZ_mem hp))
  exact ⟨this.1, this.2.trans (where_twice t zs)⟩
theorem where_row {t : Tst} {zs : List It} (h : whereOk t zs = true) {j : Nat} (hj : j < (whereZ t zs).length) : t.valB ((whereZ t zs).getD j ([], 0)).1 = true ∧ t.toldB ((whereZ t zs).getD j ([], 0)).1 = true ∧ getZ zs ((whereZ t zs).getD j ([], 0)).1 = ((whereZ t zs).getD j ([], 0)).2 := by
  obtain ⟨hz, ht, _⟩ := where_true h
  have hm : (whereZ t zs).getD j ([], 0) ∈ whereZ t zs := getZ_mem hj
  have h1 := List.mem_filter.1 hm
  exact ⟨h1.2, ht _ h1.1, getZ_self (zOk_srt hz) _ h1.1⟩

theorem TailZ.atW {w : World} {a : Option Addr} {n cap : Nat} {zs : List It} (h : TailZ w (.slice a n cap) zs) {k : Nat} (hk : k < zs.length) :
    ∃ b off xa xn xc, a = some ⟨b, off, none⟩ ∧ b < w.heap.size ∧ w.cell? ⟨b, off + k * 2, none⟩ = some (.slice xa xn xc) ∧ w.cell? ⟨b, off + k * 2 + 1, none⟩ = some (.int .i64 (zs.getD k ([], 0)).2) ∧ IntsAt w (.slice xa xn xc) (zs.getD k ([], 0)).1 := by
  obtain ⟨_, a', c', e, _, hc⟩ := h.items
  obtain ⟨b, off, rfl, hb, hcell⟩ := hc (fun e => by rw [e] at hk; simp at hk)
  obtain ⟨rv, c0, c1, c2⟩ := hcell k hk
  obtain ⟨xa, xn, xc, rfl⟩ := c2.shape
  simp at e
  exact ⟨b, off, xa, xn, xc, e.1, hb, c0, c1, c2⟩

theorem where_val {v : Value} {a os : List It} {t : Tst} {c : Bool} {w : World} {p : Addr} (hc : whereOk t a = c) (ho : whereOut t a = os) (hs : Sent w p) (h : TailZ w v a) :
    Calls Tryz.prog 11 #[v, .agg #[.int .i64 t.k, .bool t.no, .int .i64 t.l.k, .int .i64 t.l.a, .int .i64 t.l.b, .int .i64 t.l.n, .int .i64 t.r.k, .int .i64 t.r.a, .int .i64 t.r.b, .int .i64 t.r.n]] w fun e w' => ∃ v', e = .returned (.tuple #[v', .bool c]) ∧ TailZ w' v' os ∧ Below w.heap.size w w' := by
  subst hc ho
  refine (implWhere_any v a t w p hs h.items).mono ?_
  rintro e w' ⟨v', he, hz, hb⟩
  exact ⟨v', he, hz.tail, hb⟩

end Go.Proofs.YtehfpceghdaajaaGreatDoor

/-
  Cells in memory, and the contracts of impl.rowOf and spec.l5Cells: what is reckoned of a row, cell by cell, in memory of its own; nothing, and false, if one can not be. Condition: the error of chapter 3 reads as it was laid.
-/
namespace Go.Proofs.YtehfpceghdaajaaGreatDoor
set_option maxRecDepth 100000
open Go.RowKit

def CelsAt (w : World) (v : Value) (cs : List Cel) : Prop :=
  ∃ (a : Option Addr) (cap : Nat), v = .slice a cs.length cap ∧ (cs ≠ [] → ∃ b off, a = some ⟨b, off, none⟩ ∧ b < w.heap.size ∧ ∀ j, j < cs.length →
    w.cell? ⟨b, off + j * 4, none⟩ = some (.int .i64 (cs.getD j ⟨0, 0, 0, 0⟩).k) ∧ w.cell? ⟨b, off + j * 4 + 1, none⟩ = some (.int .i64 (cs.getD j ⟨0, 0, 0, 0⟩).a) ∧
    w.cell? ⟨b, off + j * 4 + 2, none⟩ = some (.int .i64 (cs.getD j ⟨0, 0, 0, 0⟩).b) ∧ w.cell? ⟨b, off + j * 4 + 3, none⟩ = some (.int .i64 (cs.getD j ⟨0, 0, 0, 0⟩).n))
theorem CelsAt.below {w w' : World} {v : Value} {cs : List Cel} (h : CelsAt w v cs) (hb : Below w.heap.size w w') : CelsAt w' v cs := by
  obtain ⟨a, cap, rfl, hc⟩ := h
  refine ⟨a, cap, rfl, fun hne => ?_⟩
  obtain ⟨b, off, rfl, hbw, hcell⟩ := hc hne
  refine ⟨b, off, rfl, Nat.lt_of_lt_of_le hbw hb.size, fun j hj => ?_⟩
  obtain ⟨c0, c1, c2, c3⟩ := hcell j hj
  exact ⟨(hb.cell (p := ⟨b, off + j * 4, none⟩) hbw).trans c0, (hb.cell (p := ⟨b, off + j * 4 + 1, none⟩) hbw).trans c1, (hb.cell (p := ⟨b, off + j * 4 + 2, none⟩) hbw).trans c2, (hb.cell (p := ⟨b, off + j * 4 + 3, none⟩) hbw).trans c3⟩

def rowC (cs : List Cel) (xs : List Int) : List Int := cs.map fun c => c.valI xs
def toldC (cs : List Cel) (xs : List Int) : Bool := cs.all fun c => c.toldB xs
theorem rowC_take {cs : List Cel} {xs : List Int} {k : Nat} (hk : k < cs.length) : rowC (cs.take (k + 1)) xs = rowC (cs.take k) xs ++ [(cs.getD k ⟨0, 0, 0, 0⟩).valI xs] := by
  unfold rowC
  rw [List.take_succ_eq_append_getElem hk, List.map_append]
  simp [List.getD, hk]
theorem toldC_no {cs : List Cel} {xs : List Int} {k : Nat} (hk : k < cs.length) (h : (cs.getD k ⟨0, 0, 0, 0⟩).toldB xs = false) : toldC cs xs = false := by
  unfold toldC
  rw [List.all_eq_false]
  exact ⟨cs.getD k ⟨0, 0, 0, 0⟩, by simp [List.getD, hk], by rw [h]; simp⟩
theorem toldC_yes {cs : List Cel} {xs : List Int} (h : ∀ k, k < cs.length → (cs.getD k ⟨0, 0, 0, 0⟩).toldB xs = true) : toldC cs xs = true := by
  unfold toldC
  rw [List.all_eq_true]
  intro c hc
  obtain ⟨j, hj, e⟩ := mem_getD (d := (⟨0, 0, 0, 0⟩ : Cel)) hc
  rw [← e]
  exact h j hj
theorem int_lit (w : World) (n : Int) : IntsAt (w.alloc (.cells #[.int .i64 n] 3)) (.slice (some ⟨w.heap.size, 0, none⟩) 1 1) [n] := by
  refine ⟨by simp, _, _, rfl, by simp, fun _ => ⟨_, _, rfl, by simp, fun j hj => ?_⟩⟩
  have : j = 0 := by simp at hj; omega
  subst this
  simp [go_sem]
theorem nil_own (w : World) (lo : Nat) : Own w lo w.heap.size (.slice none 0 0) [] := ⟨⟨rfl, .inl ⟨rfl, rfl⟩⟩, fun k hk => by simp [Value.ownBlock] at hk, by simp, Nat.le_refl _⟩

set_option maxHeartbeats 4000000 in
theorem rowOf_any (v rv : Value) (cs : List Cel) (xs : List Int) (w : World) (p : Addr) (hs : Sent w p) (hc : CelsAt w v cs) (hx : IntsAt w rv xs) (hl0 : 1 ≤ cs.length) (hl : cs.length ≤ 6) :
    Calls Tryz.prog 22 #[v, rv] w fun e w' => ∃ v', e = .returned (.tuple #[v', .bool (toldC cs xs)]) ∧ Own w' w.heap.size w'.heap.size v' (if toldC cs xs then rowC cs xs else []) ∧ Below w.heap.size w w' := by
  obtain ⟨i0, hi, hz0, hz1, hz2⟩ := info_parts infoInt
  obtain ⟨a, cap, rfl, hcc⟩ := hc
  obtain ⟨b, off, rfl, hbw, hcell⟩ := hcc (fun e => by rw [e] at hl0; simp at hl0)
  obtain ⟨n, hn⟩ : ∃ n, n = cs.length := ⟨_, rfl⟩
  have HN : Hid (n = cs.length) := hn
  rw [← hn] at hl0 hl hcell ⊢
  obtain ⟨os, HOS⟩ : ∃ os, Hid (os = if toldC cs xs then rowC cs xs else []) := ⟨_, rfl⟩
  obtain ⟨d, HD⟩ : ∃ d, Hid (d = toldC cs xs) := ⟨_, rfl⟩
  rw [← HOS.out, ← HD.out]
  have HS : Hid (Sent w p) := hs
  have HX : Hid (IntsAt w rv xs) := hx
  clear hn hcc hs hx
  go_enter Tryz.func22, Tryz.ntmps22
  go_wp2_with (at_make; refine wpList_make_own _ rfl _ _ 52 rfl w.heap.size 3 i0 (.int .i64 0) 1 Tryz.underlying52 hi hz0 hz1 _ _ _ n rfl rfl (by omega) (by rw [hz2]; omega) (by unfold maxLen; omega) (Nat.le_refl _) ?_; intro w1 hown1 hgrow1)
  have hb1 : Below w.heap.size w w1 := (Below.refl _ _).grown hgrow1 (Nat.le_refl _) (by simp)
  have HO1 : Hid (Own w1 w.heap.size w1.heap.size (.slice (some ⟨w.heap.size, 0, none⟩) 0 n) (rowC (cs.take 0) xs)) := own_new (xs := []) (by simpa using hown1) (by simp)
  have HB1 : Hid (Below w.heap.size w w1) := hb1
  clear hown1 hgrow1 hb1
  go_wp2
  go_loopw [6, 16] (fun s i wr => ∃ (k : Nat), k ≤ n ∧ i = .int .i64 k ∧ Hid (Own wr w.heap.size wr.heap.size s (rowC (cs.take k) xs)) ∧ Hid (Below w.heap.size w wr) ∧ Hid (∀ j, j < k → (cs.getD j ⟨0, 0, 0, 0⟩).toldB xs = true)) (fun _ i _ => n - (intOf i).toNat)
  case atStart => exact ⟨0, Nat.zero_le _, rfl, HO1.out, HB1.out, fun j hj => by omega⟩
  case round =>
    obtain ⟨k, hk, rfl, HO, HW, HA⟩ := hrel
    clear HO1 HB1
    by_cases hlt : k < n
    · have hk' : k < cs.length := by rw [← HN.out]; exact hlt
      have hbq := HW.out
      obtain ⟨c0, c1, c2, c3⟩ := hcell k hlt
      have HT : Hid _ := rowC_take (xs := xs) hk'
      have hno := toldC_no (xs := xs) hk'
      obtain ⟨c, HC⟩ : ∃ c, Hid (c = cs.getD k ⟨0, 0, 0, 0⟩) := ⟨_, rfl⟩
      rw [← HC.out] at c0 c1 c2 c3 HT hno
      have g0 := (hbq.cell (p := ⟨b, off + k * 4, none⟩) hbw).trans c0
      have g1 := (hbq.cell (p := ⟨b, off + k * 4 + 1, none⟩) hbw).trans c1
      have g2 := (hbq.cell (p := ⟨b, off + k * 4 + 2, none⟩) hbw).trans c2
      have g3 := (hbq.cell (p := ⟨b, off + k * 4 + 3, none⟩) hbw).trans c3
      have hbr : b < wr.heap.size := Nat.lt_of_lt_of_le hbw hbq.size
      have hrl : (rowC (cs.take k) xs).length ≤ 6 := by unfold rowC; rw [List.length_map, List.length_take]; omega
      clear c0 c1 c2 c3 hcell
      go_wp2_with fail
      refine (implCellOf_any c rv xs _ p (HS.out.below (below_then hbq (below_alloc _))) (HX.out.below (below_then hbq (below_alloc _)))).mono ?_
      rintro e w2 ⟨rfl, hb2⟩
      have hk2 : Below wr.heap.size wr w2 := below_then (below_alloc _) hb2
      clear hb2 g0 g1 g2 g3
      cases ht : c.toldB xs with
      | false =>
        have hd : d = false := by rw [HD.out]; exact hno ht
        have hos : os = [] := by rw [HOS.out, hno ht]; rfl
        subst hd hos
        have HK : Hid (Below w.heap.size w w2) := hbq.trans (hk2.mono hbq.size)
        clear hno ht HT HO HW HA hbq hk2
        go_wp2
        go_ret2
        exact ⟨_, rfl, nil_own _ _, HK.out⟩
      | true =>
        have HA2 : Hid (∀ j, j < k + 1 → (cs.getD j ⟨0, 0, 0, 0⟩).toldB xs = true) := fun j hj => by
          rcases Nat.lt_succ_iff_lt_or_eq.1 hj with h | h
          · exact HA.out j h
          · rw [h, ← HC.out]; exact ht
        obtain ⟨z, HZ⟩ : ∃ z, Hid (z = c.valI xs) := ⟨_, rfl⟩
        rw [← HZ.out] at HT ⊢
        have hO2 : Own w2 w.heap.size wr.heap.size u6 (rowC (cs.take k) xs) := HO.out.keep' hk2
        have hal : Below w2.heap.size w2 (w2.alloc (.cells #[.int .i64 z] 3)) := below_alloc _
        have hO3 := hO2.keep' hal
        have hsz2 : w.heap.size ≤ w2.heap.size := Nat.le_trans hbq.size hk2.size
        have HKK : Hid (Below w.heap.size w (w2.alloc (.cells #[.int .i64 z] 3))) := (hbq.trans (hk2.mono hbq.size)).trans (hal.mono hsz2)
        clear hno ht HO HW HA hbq hk2 hO2
        go_wp2_with (at_builtin; refine wpList_append_ints rfl _ _ 52 rfl w.heap.size 3 i0 Tryz.underlying52 hi hz0 hz1 hz2 u6 _ _ rfl hO3.1 _ [z] rfl (int_lit w2 z) (by simp; omega) (by simp; omega) ?_; intro v3 w3 hown3 hg3 _)
        have O3 : Own w3 w.heap.size w3.heap.size v3 (rowC (cs.take k) xs ++ [z]) := own_new (xs := rowC (cs.take k) xs ++ [z]) (by simpa using hown3) (by simp; omega)
        have HO3 : Hid (Own w3 w.heap.size w3.heap.size v3 (rowC (cs.take (k + 1)) xs)) := by rw [Hid, HT.out]; exact O3
        have HK3 : Hid (Below w.heap.size w w3) := HKK.out.grown hg3 HKK.out.size (fun i hi' => (hO3.1.lt i hi').1)
        clear hown3 hg3 O3 hO3 hal HKK
        go_wp2
        go_roundw
        case rel => exact ⟨k + 1, by omega, by go_num, HO3.out, HK3.out, HA2.out⟩
        case measure => simp [intOf]; omega
    · obtain rfl : k = n := by omega
      have hO := HO.out
      rw [HN.out, List.take_length] at hO
      have ht : toldC cs xs = true := toldC_yes (fun j hj => HA.out j (by rw [HN.out]; exact hj))
      have hd : d = true := by rw [HD.out, ht]
      have hos : os = rowC cs xs := by rw [HOS.out, ht]; rfl
      subst hd hos
      clear hcell ht
      go_wp2
      go_ret2
      exact ⟨_, rfl, hO, HW.out⟩
set_option maxHeartbeats 4000000 in
theorem l5Cells_any (v rv : Value) (cs : List Cel) (xs : List Int) (w : World) (hc : CelsAt w v cs) (hx : IntsAt w rv xs) (hl0 : 1 ≤ cs.length) (hl : cs.length ≤ 6) :
    Calls Tryz.prog 26 #[v, rv] w fun e w' => ∃ v', e = .returned (.tuple #[v', .bool (toldC cs xs)]) ∧ Own w' w.heap.size w'.heap.size v' (if toldC cs xs then rowC cs xs else []) ∧ Below w.heap.size w w' := by
  obtain ⟨i0, hi, hz0, hz1, hz2⟩ := info_parts infoInt
  obtain ⟨a, cap, rfl, hcc⟩ := hc
  obtain ⟨b, off, rfl, hbw, hcell⟩ := hcc (fun e => by rw [e] at hl0; simp at hl0)
  obtain ⟨n, hn⟩ : ∃ n, n = cs.length := ⟨_, rfl⟩
  have HN : Hid (n = cs.length) := hn
  rw [← hn] at hl0 hl hcell ⊢
  obtain ⟨os, HOS⟩ : ∃ os, Hid (os = if toldC cs xs then rowC cs xs else []) := ⟨_, rfl⟩
  obtain ⟨d, HD⟩ : ∃ d, Hid (d = toldC cs xs) := ⟨_, rfl⟩
  rw [← HOS.out, ← HD.out]
  have HX : Hid (IntsAt w rv xs) := hx
  clear hn hcc hx
  go_enter Tryz.func26, Tryz.ntmps26
  have HO1 : Hid (Own (w.alloc (.cells #[] 3)) w.heap.size (w.alloc (.cells #[] 3)).heap.size (.slice (some ⟨w.heap.size, 0, none⟩) 0 0) (rowC (cs.take 0) xs)) := own_new (n := 0) (xs := []) (World.ownsRow_lit w #[] 0 (Nat.le_refl _) (by unfold maxLen; omega) rfl) (by simp)
  have HB1 : Hid (Below w.heap.size w (w.alloc (.cells #[] 3))) := below_alloc _
  go_wp2
  go_loopw [6, 7] (fun s i wr => ∃ (k : Nat), k ≤ n ∧ i = .int .i64 k ∧ Hid (Own wr w.heap.size wr.heap.size s (rowC (cs.take k) xs)) ∧ Hid (Below w.heap.size w wr) ∧ Hid (∀ j, j < k → (cs.getD j ⟨0, 0, 0, 0⟩).toldB xs = true)) (fun _ i _ => n - (intOf i).toNat)
  case atStart => exact ⟨0, Nat.zero_le _, rfl, HO1.out, HB1.out, fun j hj => by omega⟩
  case round =>
    obtain ⟨k, hk, rfl, HO, HW, HA⟩ := hrel
    clear HO1 HB1
    by_cases hlt : k < n
    · have hk' : k < cs.length := by rw [← HN.out]; exact hlt
      have hbq := HW.out
      obtain ⟨c0, c1, c2, c3⟩ := hcell k hlt
      have HT : Hid _ := rowC_take (xs := xs) hk'
      have hno := toldC_no (xs := xs) hk'
      obtain ⟨c, HC⟩ : ∃ c, Hid (c = cs.getD k ⟨0, 0, 0, 0⟩) := ⟨_, rfl⟩
      rw [← HC.out] at c0 c1 c2 c3 HT hno
      have g0 := (hbq.cell (p := ⟨b, off + k * 4, none⟩) hbw).trans c0
      have g1 := (hbq.cell (p := ⟨b, off + k * 4 + 1, none⟩) hbw).trans c1
      have g2 := (hbq.cell (p := ⟨b, off + k * 4 + 2, none⟩) hbw).trans c2
      have g3 := (hbq.cell (p := ⟨b, off + k * 4 + 3, none⟩) hbw).trans c3
      have hbr : b < wr.heap.size := Nat.lt_of_lt_of_le hbw hbq.size
      have hrl : (rowC (cs.take k) xs).length ≤ 6 := by unfold rowC; rw [List.length_map, List.length_take]; omega
      clear c0 c1 c2 c3 hcell
      go_wp2_with fail
      refine (specCellOf_any c rv xs _ (HX.out.below hbq)).mono ?_
      rintro e w2 ⟨rfl, hk2⟩
      clear g0 g1 g2 g3
      cases ht : c.toldB xs with
      | false =>
        have hd : d = false := by rw [HD.out]; exact hno ht
        have hos : os = [] := by rw [HOS.out, hno ht]; rfl
        subst hd hos
        have HK : Hid (Below w.heap.size w w2) := hbq.trans (hk2.mono hbq.size)
        clear hno ht HT HO HW HA hbq hk2
        go_wp2
        go_ret2
        exact ⟨_, rfl, nil_own _ _, HK.out⟩
      | true =>
        have HA2 : Hid (∀ j, j < k + 1 → (cs.getD j ⟨0, 0, 0, 0⟩).toldB xs = true) := fun j hj => by
          rcases Nat.lt_succ_iff_lt_or_eq.1 hj with h | h
          · exact HA.out j h
          · rw [h, ← HC.out]; exact ht
        obtain ⟨z, HZ⟩ : ∃ z, Hid (z = c.valI xs) := ⟨_, rfl⟩
        rw [← HZ.out] at HT ⊢
        have hO2 : Own w2 w.heap.size wr.heap.size u6 (rowC (cs.take k) xs) := HO.out.keep' hk2
        have hal : Below w2.heap.size w2 (w2.alloc (.cells #[.int .i64 z] 3)) := below_alloc _
        have hO3 := hO2.keep' hal
        have hsz2 : w.heap.size ≤ w2.heap.size := Nat.le_trans hbq.size hk2.size
        have HKK : Hid (Below w.heap.size w (w2.alloc (.cells #[.int .i64 z] 3))) := (hbq.trans (hk2.mono hbq.size)).trans (hal.mono hsz2)
        clear hno ht HO HW HA hbq hk2 hO2
        go_wp2_with (at_builtin; refine wpList_append_ints rfl _ _ 52 rfl w.heap.size 3 i0 Tryz.underlying52 hi hz0 hz1 hz2 u6 _ _ rfl hO3.1 _ [z] rfl (int_lit w2 z) (by simp; omega) (by simp; omega) ?_; intro v3 w3 hown3 hg3 _)
        have O3 : Own w3 w.heap.size w3.heap.size v3 (rowC (cs.take k) xs ++ [z]) := own_new (xs := rowC (cs.take k) xs ++ [z]) (by simpa using hown3) (by simp; omega)
        have HO3 : Hid (Own w3 w.heap.size w3.heap.size v3 (rowC (cs.take (k + 1)) xs)) := by rw [Hid, HT.out]; exact O3
        have HK3 : Hid (Below w.heap.size w w3) := HKK.out.grown hg3 HKK.out.size (fun i hi' => (hO3.1.lt i hi').1)
        clear hown3 hg3 O3 hO3 hal HKK
        go_wp2
        go_roundw
        case rel => exact ⟨k + 1, by omega, by go_num, HO3.out, HK3.out, HA2.out⟩
        case measure => simp [intOf]; omega
    · obtain rfl : k = n := by omega
      have hO := HO.out
      rw [HN.out, List.take_length] at hO
      have ht : toldC cs xs = true := toldC_yes (fun j hj => HA.out j (by rw [HN.out]; exact hj))
      have hd : d = true := by rw [HD.out, ht]
      have hos : os = rowC cs xs := by rw [HOS.out, ht]; rfl
      subst hd hos
      clear hcell ht
      go_wp2
      go_ret2
      exact ⟨_, rfl, hO, HW.out⟩

end Go.Proofs.YtehfpceghdaajaaGreatDoor

/-
  The contracts of impl.MapOf and spec.MapOf: what is reckoned of items, put together, in memory of its own; none, and false, of items that are not right, of no cells or too many, of what can not be reckoned, or if it is too much. Condition (impl.MapOf): the error of chapter 3 reads as it was laid.
-/
namespace Go.Proofs.YtehfpceghdaajaaGreatDoor
set_option maxRecDepth 100000
open Go.RowKit
attribute [local go_sem ↓] Go.wp_at_zero Go.wp_at_succ

def mapZ (cs : List Cel) (zs : List It) : List It := zs.map fun p => (rowC cs p.1, p.2)
def mapCan (cs : List Cel) (zs : List It) : Bool := zOkB zs && decide (1 ≤ cs.length ∧ cs.length ≤ 6) && zs.all fun p => toldC cs p.1
def mapOk (cs : List Cel) (zs : List It) : Bool := mapCan cs zs && zOkB (addZ [] (mapZ cs zs))
def mapOut (cs : List Cel) (zs : List It) : List It := if mapOk cs zs then addZ [] (mapZ cs zs) else []

theorem mapZ_take {cs : List Cel} {zs : List It} {k : Nat} (hk : k < zs.length) : mapZ cs (zs.take (k + 1)) = mapZ cs (zs.take k) ++ [(rowC cs (zs.getD k ([], 0)).1, (zs.getD k ([], 0)).2)] := by
  unfold mapZ
  rw [List.take_succ_eq_append_getElem hk, List.map_append]
  simp [List.getD, hk]
theorem mapZ_len (cs : List Cel) (zs : List It) : (mapZ cs zs).length = zs.length := by simp [mapZ]
theorem map_not {cs : List Cel} {zs : List It} (h : mapCan cs zs = false) : mapOk cs zs = false ∧ mapOut cs zs = [] := by
  have : mapOk cs zs = false := by unfold mapOk; rw [h, Bool.false_and]
  exact ⟨this, by unfold mapOut; rw [this]; rfl⟩
theorem map_no {cs : List Cel} {zs : List It} {k : Nat} (hk : k < zs.length) (h : toldC cs (zs.getD k ([], 0)).1 = false) : mapCan cs zs = false := by
  have : (zs.all fun p => toldC cs p.1) = false := by
    rw [List.all_eq_false]
    exact ⟨zs.getD k ([], 0), by simp [List.getD, hk], by rw [h]; simp⟩
  unfold mapCan
  rw [this, Bool.and_false]
theorem map_yes {cs : List Cel} {zs : List It} (hz : zOkB zs = true) (hl : 1 ≤ cs.length ∧ cs.length ≤ 6) (h : ∀ k, k < zs.length → toldC cs (zs.getD k ([], 0)).1 = true) : mapCan cs zs = true := by
  have : (zs.all fun p => toldC cs p.1) = true := by
    rw [List.all_eq_true]
    intro p hp
    obtain ⟨j, hj, e⟩ := mem_getD (d := ([], 0)) hp
    rw [← e]
    exact h j hj
  unfold mapCan
  rw [hz, this]
  simp [hl]
theorem map_in {cs : List Cel} {zs : List It} (hz : zOkB zs = true) : ∀ z ∈ mapZ cs zs, -10000 ≤ z.2 ∧ z.2 ≤ 10000 := fun z hzm => by
  obtain ⟨p, hp, rfl⟩ := List.mem_map.1 hzm
  obtain ⟨j, hj, e⟩ := mem_getD (d := ([], 0)) hp
  have := (wB_in (zOk_row hz hj).2).2
  rw [e] at this
  exact this

set_option maxHeartbeats 8000000 in
theorem implMap_any (v u : Value) (zs : List It) (cs : List Cel) (w : World) (p : Addr) (hs : Sent w p) (h : ItemsAt w v zs) (hc : CelsAt w u cs) :
    Calls Tryz.prog 7 #[v, u] w fun e w' => ∃ v', e = .returned (.tuple #[v', .bool (mapOk cs zs)]) ∧ OwnZ w' w.heap.size w'.heap.size v' (mapOut cs zs) ∧ Below w.heap.size w w' := by
  obtain ⟨i0, hi0, hz0, hz1, hz2⟩ := info_parts infoItem
  have HU : Hid (CelsAt w u cs) := hc
  obtain ⟨ua, uc, rfl⟩ : ∃ ua uc, u = .slice ua cs.length uc := by obtain ⟨ua, uc, e, _⟩ := hc; exact ⟨ua, uc, e⟩
  clear hc
  obtain ⟨m, hm⟩ : ∃ m, m = cs.length := ⟨_, rfl⟩
  have HM : Hid (m = cs.length) := hm
  rw [← hm] at HU ⊢
  clear hm
  cases hok : zOkB zs with
  | false =>
    obtain ⟨e0, e1⟩ := map_not (cs := cs) (zs := zs) (by simp [mapCan, hok])
    rw [e0, e1]
    go_enter Tryz.func7, Tryz.ntmps7
    go_wp2_with fail
    refine (implZOk_any v zs _ h).mono ?_
    rw [hok]
    rintro e w1 ⟨rfl, hb1⟩
    have HB1 : Hid (Below w.heap.size w w1) := hb1
    clear h hb1 e0 e1
    go_wp2
    go_ret2
    exact ⟨_, rfl, nil_ownZ _ _, HB1.out⟩
  | true =>
    by_cases hlen : 1 ≤ m ∧ m ≤ 6
    · have h1i : ¬ ((m : Int) < 1) := by omega
      have h6i : ¬ ((m : Int) > 6) := by omega
      have h100 := zOk_le hok
      have HOK : Hid (zOkB zs = true) := hok
      obtain ⟨os, HO⟩ : ∃ os, Hid (os = mapOut cs zs) := ⟨_, rfl⟩
      obtain ⟨d, HD⟩ : ∃ d, Hid (d = mapOk cs zs) := ⟨_, rfl⟩
      rw [← HO.out, ← HD.out]
      go_enter Tryz.func7, Tryz.ntmps7
      go_wp2_with fail
      refine (implZOk_any v zs _ h).mono ?_
      rw [hok]
      rintro e w1 ⟨rfl, hb1⟩
      have HB1 : Hid (Below w.heap.size w w1) := hb1
      have hh := h.below HB1.out
      have HS : Hid (Sent w1 p) := hs.below HB1.out
      have HU1 : Hid (CelsAt w1 (.slice ua m uc) cs) := HU.out.below HB1.out
      have hsz1 := HB1.out.size
      clear h hb1 hok hs
      have HEND : Hid (mapCan cs zs = true → d = zOkB (addZ [] (mapZ cs zs)) ∧ os = if zOkB (addZ [] (mapZ cs zs)) then addZ [] (mapZ cs zs) else []) := fun e => by
        have e0 : mapOk cs zs = zOkB (addZ [] (mapZ cs zs)) := by unfold mapOk; rw [e, Bool.true_and]
        exact ⟨HD.out.trans e0, by rw [HO.out, mapOut, e0]⟩
      have HNOT : Hid (mapCan cs zs = false → d = false ∧ os = []) := fun e => ⟨HD.out.trans (map_not e).1, HO.out.trans (map_not e).2⟩
      rcases hh.cases with ⟨za, zc, rfl, rfl⟩ | ⟨b, off, cap, hpos, hlim, rfl, hbw, hcell⟩
      · obtain ⟨hd, hos⟩ := HEND.out (by unfold mapCan; rw [← HM.out]; simp [hlen, zOkB])
        have hz0' : zOkB (addZ [] (mapZ cs [])) = true := by simp [mapZ, addZ, zOkB]
        have he0 : addZ [] (mapZ cs []) = [] := rfl
        rw [hz0'] at hd hos
        rw [he0] at hos
        simp only [if_true] at hos
        subst hd hos
        clear hh
        go_wp2
        refine wp_loop_rounds 1 ?_
        rw [rounds_succ]
        go_wp2_with fail
        refine (gather_any _ w1.heap.size w1.heap.size [] _ (nil_ownZ w1 _) (Nat.le_refl _) (by simp) (fun p hp => by simp at hp)).mono ?_
        rintro e w2 ⟨v2, rfl, Z2, O2⟩
        have hk2 : Below w.heap.size w w2 := O2.below HB1.out hsz1 HB1.out.size
        have hs2 := O2.size
        go_wp2_with fail
        refine (unlessTooMuch_any v2 [] _ _ _ Z2 (by omega)).mono ?_
        rintro e w3 ⟨v3, rfl, Z3, hb3⟩
        have hzz : zOkB [] = true := by simp [zOkB]
        rw [hzz] at Z3 ⊢
        have HK : Hid (Below w.heap.size w w3) := below_then hk2 hb3
        have R : Hid (OwnZ w3 w.heap.size w3.heap.size v3 []) := Z3.wide hsz1 (Nat.le_refl _) (Nat.le_refl _)
        clear Z2 O2 hk2 Z3 hb3
        go_wp2
        go_ret2
        exact ⟨_, rfl, R.out, HK.out⟩
      · clear hh
        obtain ⟨n, hn⟩ : ∃ n, n = zs.length := ⟨_, rfl⟩
        have HN : Hid (n = zs.length) := hn
        rw [← hn] at hpos hlim hcell h100 ⊢
        clear hn
        go_wp2
        go_loopw [6, 26] (fun s i wr => ∃ (k : Nat), k ≤ n ∧ i = .int .i64 k ∧ Hid (OwnZ wr w1.heap.size wr.heap.size s (mapZ cs (zs.take k))) ∧ Hid (Below w1.heap.size w1 wr) ∧ Hid (∀ j, j < k → toldC cs (zs.getD j ([], 0)).1 = true)) (fun _ i _ => n - (intOf i).toNat)
        case atStart => exact ⟨0, Nat.zero_le _, rfl, nil_ownZ _ _, Below.refl _ _, fun j hj => by omega⟩
        case round =>
          obtain ⟨k, hk, rfl, HZ, HW, HA⟩ := hrel
          by_cases hlt : k < n
          · have hk' : k < zs.length := by rw [← HN.out]; exact hlt
            have hbq := HW.out
            obtain ⟨rv, c0, c1, hix0⟩ := hcell k hlt
            have HT : Hid _ := mapZ_take (cs := cs) hk'
            have hno := map_no (cs := cs) hk'
            have hyw := (wB_in (zOk_row HOK.out hk').2).2
            have hxl := rowOk_le (zOk_row HOK.out hk').1
            obtain ⟨q, HQ⟩ : ∃ q, Hid (q = zs.getD k ([], 0)) := ⟨_, rfl⟩
            rw [← HQ.out] at c1 hix0 HT hno hyw hxl
            obtain ⟨x, y⟩ := q
            simp only at c1 hix0 HT hno hyw hxl
            have hix := hix0.below hbq
            obtain ⟨ra, rn, rc, rfl⟩ := hix.shape
            have g0 := (hbq.cell (p := ⟨b, off + k * 2, none⟩) hbw).trans c0
            have g1 := (hbq.cell (p := ⟨b, off + k * 2 + 1, none⟩) hbw).trans c1
            have hbr : b < wr.heap.size := Nat.lt_of_lt_of_le hbw hbq.size
            have hml : (mapZ cs (zs.take k)).length ≤ 100 := by rw [mapZ_len, List.length_take]; omega
            have hcl : cs.length ≤ 6 := by rw [← HM.out]; omega
            have hcl1 : 1 ≤ cs.length := by rw [← HM.out]; omega
            clear c0 c1 hix0 hcell
            go_wp2_with fail
            refine (rowOf_any _ _ cs x _ p ((HS.out.below hbq).below (below_alloc _)) ((HU1.out.below hbq).below (below_alloc _)) (hix.alloc _) hcl1 hcl).mono ?_
            rintro e w2 ⟨v2, rfl, O2, hb2⟩
            have hk2 : Below wr.heap.size wr w2 := below_then (below_alloc _) hb2
            have hw2 : w2.heap[wr.heap.size]? = some (.cells #[.slice ra rn rc, .int .i64 y] 54) := at_below (alloc_at _ _) hb2
            have d1 : w2.cell? ⟨wr.heap.size, 1, none⟩ = some (.int .i64 y) := by simp [World.cell?, hw2]
            have hbl : wr.heap.size + 1 ≤ w2.heap.size := by have := hb2.size; simpa using this
            clear hb2 hw2 hix g0 g1
            cases ht : toldC cs x with
            | false =>
              obtain ⟨hd, hos⟩ := HNOT.out (hno ht)
              have HK : Hid (Below w.heap.size w w2) := HB1.out.trans ((hbq.mono hsz1).trans (hk2.mono (by have := hbq.size; omega)))
              subst hd hos
              clear hno ht HT HZ HW HA hbq hk2 O2 d1
              go_wp2
              go_ret2
              exact ⟨_, rfl, nil_ownZ _ _, HK.out⟩
            | true =>
              have HA2 : Hid (∀ j, j < k + 1 → toldC cs (zs.getD j ([], 0)).1 = true) := fun j hj => by
                rcases Nat.lt_succ_iff_lt_or_eq.1 hj with h | h
                · exact HA.out j h
                · rw [h, ← HQ.out]; exact ht
              rw [ht] at O2
              simp only [if_true] at O2
              obtain ⟨xr, HXR⟩ : ∃ xr, Hid (xr = rowC cs x) := ⟨_, rfl⟩
              rw [← HXR.out] at O2 HT
              obtain ⟨ra2, rn2, rc2, rfl⟩ := O2.ints.shape
              have hszw := hbq.size
              have O2' : Own w2 wr.heap.size w2.heap.size (.slice ra2 rn2 rc2) xr := O2.wide (by simp) (Nat.le_refl _) (Nat.le_refl _)
              obtain ⟨ps, hpsl, hspW, hprW, hfin⟩ := (HZ.out.keep' hk2).ready y O2' (Nat.le_refl _) (by omega) (by omega) (by omega)
              have hpl2 : ps.length ≤ 100 := by omega
              have HKW : Hid (Below w1.heap.size w1 w2) := hbq.trans (hk2.mono hszw)
              clear hno ht HZ HW HA hbq hk2 O2 O2' hpsl
              go_wp2_with (at_builtin; (refine wpList_append_pairs rfl _ _ 23 rfl w1.heap.size 54 i0 Tryz.underlying23 hi0 hz0 hz1 hz2 u6 ps rfl hspW _ _ rfl hprW (by simp; omega) (by simp; omega) ?_; intro v3 w3 hown3 hg3 _))
              obtain ⟨Z3, B3⟩ := hfin v3 w3 hown3 hg3
              have HZ3 : Hid (OwnZ w3 w1.heap.size w3.heap.size v3 (mapZ cs (zs.take (k + 1)))) := by rw [Hid, HT.out]; exact Z3
              have HK : Hid (Below w1.heap.size w1 w3) := HKW.out.trans B3
              clear hfin hown3 hg3 hspW hprW B3 Z3 HKW
              go_wp2
              go_roundw
              case rel => exact ⟨k + 1, by omega, by go_num, HZ3.out, HK.out, HA2.out⟩
              case measure => simp [intOf]; omega
          · obtain rfl : k = n := by omega
            have hZ := HZ.out
            rw [HN.out, List.take_length] at hZ
            obtain ⟨hd, hos⟩ := HEND.out (map_yes HOK.out (by rw [← HM.out]; exact hlen) (fun j hj => HA.out j (by rw [HN.out]; exact hj)))
            have hbq := HW.out
            have hsq := hbq.size
            clear hcell
            have hin : ∀ z ∈ mapZ cs zs, -1099511627776 ≤ z.2 ∧ z.2 ≤ 1099511627776 := fun z hz => by have := map_in (cs := cs) HOK.out z hz; omega
            have hmln : (mapZ cs zs).length ≤ 1048576 := by rw [mapZ_len, ← HN.out]; omega
            go_wp2_with fail
            refine (gather_any _ w1.heap.size wr.heap.size (mapZ cs zs) _ hZ hsq hmln hin).mono ?_
            rintro e w2 ⟨v2, rfl, Z2, O2⟩
            have hk2 : Below w.heap.size w w2 := O2.below (HB1.out.trans (hbq.mono hsz1)) hsz1 (by omega)
            have hs2 := O2.size
            clear hZ hin O2
            go_wp2_with fail
            refine (unlessTooMuch_any v2 (addZ [] (mapZ cs zs)) _ _ _ Z2 (by omega)).mono ?_
            rw [← hos, ← hd]
            rintro e w3 ⟨v3, rfl, Z3, hb3⟩
            have HK : Hid (Below w.heap.size w w3) := below_then hk2 hb3
            have R : Hid (OwnZ w3 w.heap.size w3.heap.size v3 os) := Z3.wide hsz1 (Nat.le_refl _) (Nat.le_refl _)
            clear Z2 hk2 Z3 hb3 hd hos
            go_wp2
            go_ret2
            exact ⟨_, rfl, R.out, HK.out⟩
    · obtain ⟨e0, e1⟩ := map_not (cs := cs) (zs := zs) (by
        have : decide (1 ≤ cs.length ∧ cs.length ≤ 6) = false := by rw [← HM.out]; simpa using hlen
        unfold mapCan
        rw [this, Bool.and_false, Bool.false_and])
      rw [e0, e1]
      by_cases h1 : m < 1
      · have h1i : (m : Int) < 1 := by omega
        go_enter Tryz.func7, Tryz.ntmps7
        go_wp2_with fail
        refine (implZOk_any v zs _ h).mono ?_
        rw [hok]
        rintro e w1 ⟨rfl, hb1⟩
        have HB1 : Hid (Below w.heap.size w w1) := hb1
        clear h hb1 e0 e1
        go_wp2
        go_ret2
        exact ⟨_, rfl, nil_ownZ _ _, HB1.out⟩
      · have h1i : ¬ ((m : Int) < 1) := by omega
        have h6i : (m : Int) > 6 := by omega
        go_enter Tryz.func7, Tryz.ntmps7
        go_wp2_with fail
        refine (implZOk_any v zs _ h).mono ?_
        rw [hok]
        rintro e w1 ⟨rfl, hb1⟩
        have HB1 : Hid (Below w.heap.size w w1) := hb1
        clear h hb1 e0 e1
        go_wp2
        go_ret2
        exact ⟨_, rfl, nil_ownZ _ _, HB1.out⟩

set_option maxHeartbeats 8000000 in
theorem specMap_any (v u : Value) (zs : List It) (cs : List Cel) (w : World) (h : ItemsAt w v zs) (hc : CelsAt w u cs) :
    Calls Tryz.prog 8 #[v, u] w fun e w' => ∃ v', e = .returned (.tuple #[v', .bool (mapOk cs zs)]) ∧ OwnZ w' w.heap.size w'.heap.size v' (mapOut cs zs) ∧ Below w.heap.size w w' := by
  obtain ⟨i0, hi0, hz0, hz1, hz2⟩ := info_parts infoItem
  have HU : Hid (CelsAt w u cs) := hc
  obtain ⟨ua, uc, rfl⟩ : ∃ ua uc, u = .slice ua cs.length uc := by obtain ⟨ua, uc, e, _⟩ := hc; exact ⟨ua, uc, e⟩
  clear hc
  obtain ⟨m, hm⟩ : ∃ m, m = cs.length := ⟨_, rfl⟩
  have HM : Hid (m = cs.length) := hm
  rw [← hm] at HU ⊢
  clear hm
  cases hok : zOkB zs with
  | false =>
    obtain ⟨e0, e1⟩ := map_not (cs := cs) (zs := zs) (by simp [mapCan, hok])
    rw [e0, e1]
    go_enter Tryz.func8, Tryz.ntmps8
    go_wp2_with fail
    refine (specZOk_any v zs _ h).mono ?_
    rw [hok]
    rintro e w1 ⟨rfl, hd1⟩
    have HB1 : Hid (Below w.heap.size w w1) := hd1.below
    clear h hd1 e0 e1
    go_wp2
    go_ret2
    exact ⟨_, rfl, (lit_ownZ w1).wide HB1.out.size (Nat.le_refl _) (Nat.le_refl _), below_then HB1.out (below_alloc _)⟩
  | true =>
    by_cases hlen : 1 ≤ m ∧ m ≤ 6
    · have h1i : ¬ ((m : Int) < 1) := by omega
      have h6i : ¬ ((m : Int) > 6) := by omega
      have h100 := zOk_le hok
      have HOK : Hid (zOkB zs = true) := hok
      obtain ⟨os, HO⟩ : ∃ os, Hid (os = mapOut cs zs) := ⟨_, rfl⟩
      obtain ⟨d, HD⟩ : ∃ d, Hid (d = mapOk cs zs) := ⟨_, rfl⟩
      rw [← HO.out, ← HD.out]
      go_enter Tryz.func8, Tryz.ntmps8
      go_wp2_with fail
      refine (specZOk_any v zs _ h).mono ?_
      rw [hok]
      rintro e w1 ⟨rfl, hd1⟩
      have HB1 : Hid (Below w.heap.size w w1) := hd1.below
      have hh := h.below HB1.out
      have HU1 : Hid (CelsAt w1 (.slice ua m uc) cs) := HU.out.below HB1.out
      have hsz1 := HB1.out.size
      clear h hd1 hok
      have HEND : Hid (mapCan cs zs = true → d = zOkB (addZ [] (mapZ cs zs)) ∧ os = if zOkB (addZ [] (mapZ cs zs)) then addZ [] (mapZ cs zs) else []) := fun e => by
        have e0 : mapOk cs zs = zOkB (addZ [] (mapZ cs zs)) := by unfold mapOk; rw [e, Bool.true_and]
        exact ⟨HD.out.trans e0, by rw [HO.out, mapOut, e0]⟩
      have HNOT : Hid (mapCan cs zs = false → d = false ∧ os = []) := fun e => ⟨HD.out.trans (map_not e).1, HO.out.trans (map_not e).2⟩
      rcases hh.cases with ⟨za, zc, rfl, rfl⟩ | ⟨b, off, cap, hpos, hlim, rfl, hbw, hcell⟩
      · obtain ⟨hd, hos⟩ := HEND.out (by unfold mapCan; rw [← HM.out]; simp [hlen, zOkB])
        have hz0' : zOkB (addZ [] (mapZ cs [])) = true := by simp [mapZ, addZ, zOkB]
        have he0 : addZ [] (mapZ cs []) = [] := rfl
        rw [hz0'] at hd hos
        rw [he0] at hos
        simp only [if_true] at hos
        subst hd hos
        clear hh
        go_wp2
        refine wp_loop_rounds 1 ?_
        rw [rounds_succ]
        go_wp2_with fail
        refine (l2Told_any _ [] _ _ _ (lit_ownZ w1) (by simp)).mono ?_
        rintro e w3 ⟨v3, rfl, Z3, hb3⟩
        have hzz : zOkB [] = true := by simp [zOkB]
        rw [hzz] at Z3 ⊢
        have HK : Hid (Below w.heap.size w w3) := below_then (below_then HB1.out (below_alloc _)) hb3
        have R : Hid (OwnZ w3 w.heap.size w3.heap.size v3 []) := Z3.wide hsz1 (Nat.le_refl _) (Nat.le_refl _)
        clear Z3 hb3
        go_wp2
        go_ret2
        exact ⟨_, rfl, R.out, HK.out⟩
      · clear hh
        obtain ⟨n, hn⟩ : ∃ n, n = zs.length := ⟨_, rfl⟩
        have HN : Hid (n = zs.length) := hn
        rw [← hn] at hpos hlim hcell h100 ⊢
        clear hn
        go_wp2
        go_loopw [6, 7] (fun s i wr => ∃ (k : Nat), k ≤ n ∧ i = .int .i64 k ∧ Hid (OwnZ wr w1.heap.size wr.heap.size s (addZ [] (mapZ cs (zs.take k)))) ∧ Hid (Below w1.heap.size w1 wr) ∧ Hid (∀ j, j < k → toldC cs (zs.getD j ([], 0)).1 = true)) (fun _ i _ => n - (intOf i).toNat)
        case atStart => exact ⟨0, Nat.zero_le _, rfl, lit_ownZ w1, below_alloc _, fun j hj => by omega⟩
        case round =>
          obtain ⟨k, hk, rfl, HZ, HW, HA⟩ := hrel
          by_cases hlt : k < n
          · have hk' : k < zs.length := by rw [← HN.out]; exact hlt
            have hbq := HW.out
            obtain ⟨rv, c0, c1, hix0⟩ := hcell k hlt
            have HT : Hid _ := mapZ_take (cs := cs) hk'
            have hno := map_no (cs := cs) hk'
            have hyw := (wB_in (zOk_row HOK.out hk').2).2
            have hxl := rowOk_le (zOk_row HOK.out hk').1
            obtain ⟨q, HQ⟩ : ∃ q, Hid (q = zs.getD k ([], 0)) := ⟨_, rfl⟩
            rw [← HQ.out] at c1 hix0 HT hno hyw hxl
            obtain ⟨x, y⟩ := q
            simp only at c1 hix0 HT hno hyw hxl
            have hix := hix0.below hbq
            obtain ⟨ra, rn, rc, rfl⟩ := hix.shape
            have g0 := (hbq.cell (p := ⟨b, off + k * 2, none⟩) hbw).trans c0
            have g1 := (hbq.cell (p := ⟨b, off + k * 2 + 1, none⟩) hbw).trans c1
            have hbr : b < wr.heap.size := Nat.lt_of_lt_of_le hbw hbq.size
            have hml : (mapZ cs (zs.take k)).length ≤ 100 := by rw [mapZ_len, List.length_take]; omega
            have hcl : cs.length ≤ 6 := by rw [← HM.out]; omega
            have hcl1 : 1 ≤ cs.length := by rw [← HM.out]; omega
            clear c0 c1 hix0 hcell
            go_wp2_with fail
            refine (l5Cells_any _ _ cs x _ (HU1.out.below hbq) hix hcl1 hcl).mono ?_
            rintro e w2 ⟨v2, rfl, O2, hk2⟩
            have g1' := cell_is (p := ⟨b, off + k * 2 + 1, none⟩) hk2 hbr g1
            clear hix g0 g1
            cases ht : toldC cs x with
            | false =>
              obtain ⟨hd, hos⟩ := HNOT.out (hno ht)
              have HK : Hid (Below w.heap.size w w2) := HB1.out.trans ((hbq.mono hsz1).trans (hk2.mono (by have := hbq.size; omega)))
              subst hd hos
              clear hno ht HT HZ HW HA hbq hk2 O2 g1'
              go_wp2
              go_ret2
              exact ⟨_, rfl, (lit_ownZ w2).wide HK.out.size (Nat.le_refl _) (Nat.le_refl _), below_then HK.out (below_alloc _)⟩
            | true =>
              have HA2 : Hid (∀ j, j < k + 1 → toldC cs (zs.getD j ([], 0)).1 = true) := fun j hj => by
                rcases Nat.lt_succ_iff_lt_or_eq.1 hj with h | h
                · exact HA.out j h
                · rw [h, ← HQ.out]; exact ht
              rw [ht] at O2
              simp only [if_true] at O2
              obtain ⟨xr, HXR⟩ : ∃ xr, Hid (xr = rowC cs x) := ⟨_, rfl⟩
              have hxr : xr.length ≤ 6 := by rw [HXR.out]; unfold rowC; rw [List.length_map]; exact hcl
              rw [← HXR.out] at O2 HT
              have hszw := hbq.size
              have hszk := hk2.size
              have ZB := (HZ.out.keep' hk2).wide (Nat.le_refl _) hk2.size (Nat.le_refl _)
              have hal := add_len (mapZ cs (zs.take k)) []
              have hwz : ∀ j, j < (addZ [] (mapZ cs (zs.take k))).length → -4611686018427387904 ≤ ((addZ [] (mapZ cs (zs.take k))).getD j ([], 0)).2 ∧ ((addZ [] (mapZ cs (zs.take k))).getD j ([], 0)).2 ≤ 4611686018427387903 := fun j hj => by
                have t1 := add_bound (B := 0) (C := 10000) (by omega) (by omega) (mapZ cs (zs.take k)) (a := []) (k := 0) (by omega) (fun p hp => by simp at hp) (fun z hz => map_in (cs := cs) HOK.out z (by
                  obtain ⟨p, hp, e⟩ := List.mem_map.1 hz
                  exact List.mem_map.2 ⟨p, List.mem_of_mem_take hp, e⟩)) _ (getZ_mem hj)
                have t2 : (((mapZ cs (zs.take k)).length : Nat) : Int) ≤ 100 := by omega
                omega
              have hal' : (addZ [] (mapZ cs (zs.take k))).length ≤ 100 := by
                rw [List.length_nil, Nat.zero_add] at hal
                omega
              have HKW : Hid (Below w1.heap.size w1 w2) := hbq.trans (hk2.mono hszw)
              obtain ⟨acc, HACC⟩ : ∃ acc, Hid (acc = addZ [] (mapZ cs (zs.take k))) := ⟨_, rfl⟩
              rw [← HACC.out] at ZB hwz hal'
              have hri := O2.ints
              clear hno ht HZ HW HA hbq hk2 O2 hal
              go_wp2_with fail
              refine (l2Put_any _ w1.heap.size w2.heap.size acc _ xr y _ ZB (by omega) hri (by omega) (by omega) hwz (by omega)).mono ?_
              rintro e w3 ⟨v3, rfl, Z3, O3⟩
              have HZ3 : Hid (OwnZ w3 w1.heap.size w3.heap.size v3 (addZ [] (mapZ cs (zs.take (k + 1))))) := by rw [Hid, HT.out, addZ_snoc, ← HACC.out]; exact Z3
              have HK : Hid (Below w1.heap.size w1 w3) := O3.below HKW.out (Nat.le_refl _) (by omega)
              clear Z3 O3 ZB hri HKW hwz g1'
              go_wp2
              go_roundw
              case rel => exact ⟨k + 1, by omega, by go_num, HZ3.out, HK.out, HA2.out⟩
              case measure => simp [intOf]; omega
          · obtain rfl : k = n := by omega
            have hZ := HZ.out
            rw [HN.out, List.take_length] at hZ
            obtain ⟨hd, hos⟩ := HEND.out (map_yes HOK.out (by rw [← HM.out]; exact hlen) (fun j hj => HA.out j (by rw [HN.out]; exact hj)))
            have hbq := HW.out
            have hsq := hbq.size
            clear hcell
            go_wp2_with fail
            refine (l2Told_any _ (addZ [] (mapZ cs zs)) _ _ _ hZ hsq).mono ?_
            rw [← hos, ← hd]
            rintro e w3 ⟨v3, rfl, Z3, hb3⟩
            have HK : Hid (Below w.heap.size w w3) := below_then (HB1.out.trans (hbq.mono hsz1)) hb3
            have R : Hid (OwnZ w3 w.heap.size w3.heap.size v3 os) := Z3.wide hsz1 (Nat.le_refl _) (Nat.le_refl _)
            clear hZ Z3 hb3 hd hos
            go_wp2
            go_ret2
            exact ⟨_, rfl, R.out, HK.out⟩
    · obtain ⟨e0, e1⟩ := map_not (cs := cs) (zs := zs) (by
        have : decide (1 ≤ cs.length ∧ cs.length ≤ 6) = false := by rw [← HM.out]; simpa using hlen
        unfold mapCan
        rw [this, Bool.and_false, Bool.false_and])
      rw [e0, e1]
      by_cases h1 : m < 1
      · have h1i : (m : Int) < 1 := by omega
        go_enter Tryz.func8, Tryz.ntmps8
        go_wp2_with fail
        refine (specZOk_any v zs _ h).mono ?_
        rw [hok]
        rintro e w1 ⟨rfl, hd1⟩
        have HB1 : Hid (Below w.heap.size w w1) := hd1.below
        clear h hd1 e0 e1
        go_wp2
        go_ret2
        exact ⟨_, rfl, (lit_ownZ w1).wide HB1.out.size (Nat.le_refl _) (Nat.le_refl _), below_then HB1.out (below_alloc _)⟩
      · have h1i : ¬ ((m : Int) < 1) := by omega
        have h6i : (m : Int) > 6 := by omega
        go_enter Tryz.func8, Tryz.ntmps8
        go_wp2_with fail
        refine (specZOk_any v zs _ h).mono ?_
        rw [hok]
        rintro e w1 ⟨rfl, hd1⟩
        have HB1 : Hid (Below w.heap.size w w1) := hd1.below
        clear h hd1 e0 e1
        go_wp2
        go_ret2
        exact ⟨_, rfl, (lit_ownZ w1).wide HB1.out.size (Nat.le_refl _) (Nat.le_refl _), below_then HB1.out (below_alloc _)⟩

end Go.Proofs.YtehfpceghdaajaaGreatDoor

/-
  Facts on what is reckoned of items: weights add up, there are not more of them, all places of it are what it is, and what is reckoned of what was reckoned is reckoned at once; the contracts at a told answer.
-/
namespace Go.Proofs.YtehfpceghdaajaaGreatDoor
open Go.RowKit
set_option linter.unusedVariables false

/-- The sum of the weights of those rows. -/
def sumP (f : List Int → Bool) : List It → Int
  | [] => 0
  | p :: zs => (if f p.1 then p.2 else 0) + sumP f zs
theorem sumP_put (f : List Int → Bool) (r : List Int) (y : Int) : ∀ zs : List It, sumP f (putZ zs r y) = sumP f zs + if f r then y else 0
  | [] => by
    unfold putZ
    by_cases h : y = 0
    · rw [if_pos h]; simp [sumP, h]
    · rw [if_neg h]; simp [sumP]
  | p :: zs => by
    have ih := sumP_put f r y zs
    unfold putZ
    by_cases h1 : ordL p.1 r = -1
    · rw [if_pos h1, sumP, sumP, ih]; omega
    · rw [if_neg h1]
      by_cases h2 : p.1 = r
      · rw [if_pos h2]
        by_cases h3 : p.2 + y = 0
        · rw [if_pos h3, sumP, h2]; by_cases hf : f r = true <;> simp [hf] <;> omega
        · rw [if_neg h3, sumP, sumP]; simp only [h2]; by_cases hf : f r = true <;> simp [hf] <;> omega
      · rw [if_neg h2]
        by_cases h3 : y = 0
        · rw [if_pos h3, h3]; simp
        · rw [if_neg h3]
          show (if f r then y else 0) + sumP f (p :: zs) = _
          omega
theorem sumP_add (f : List Int → Bool) : ∀ (b a : List It), sumP f (addZ a b) = sumP f a + sumP f b
  | [], a => by simp [addZ_nil, sumP]
  | p :: b, a => by rw [addZ_cons, sumP_add f b, sumP_put, sumP]; omega
theorem mem_add {x : It} : ∀ (b a : List It), x ∈ addZ a b → x ∈ a ∨ (∃ p ∈ a, x.1 = p.1) ∨ ∃ p ∈ b, x.1 = p.1
  | [], a, h => .inl h
  | p :: b, a, h => by
    rw [addZ_cons] at h
    rcases mem_add b _ h with h | ⟨q, hq, e⟩ | ⟨q, hq, e⟩
    · rcases mem_put h with h | h
      · exact .inl h
      · exact .inr (.inr ⟨p, by simp, h⟩)
    · rcases mem_put hq with h | h
      · exact .inr (.inl ⟨q, h, e⟩)
      · exact .inr (.inr ⟨p, by simp, e.trans h⟩)
    · exact .inr (.inr ⟨q, by simp [hq], e⟩)
theorem mem_all {x : It} {b : List It} (h : x ∈ addZ [] b) : ∃ p ∈ b, x.1 = p.1 := by
  rcases mem_add b [] h with h | ⟨q, hq, _⟩ | h
  · simp at h
  · simp at hq
  · exact h
theorem sumP_map (f : List Int → Bool) (cs : List Cel) : ∀ zs : List It, sumP f (mapZ cs zs) = sumP (fun r => f (rowC cs r)) zs
  | [] => rfl
  | p :: zs => by
    have ih := sumP_map f cs zs
    unfold mapZ at *
    rw [List.map_cons, sumP, sumP, ih]
theorem sumP_congr {f g : List Int → Bool} : ∀ {zs : List It}, (∀ p ∈ zs, f p.1 = g p.1) → sumP f zs = sumP g zs
  | [], _ => rfl
  | p :: zs, h => by rw [sumP, sumP, h p (by simp), sumP_congr fun q hq => h q (by simp [hq])]
theorem sumZ_is (q : List Int) : ∀ zs : List It, sumZ zs q = sumP (fun r => decide (r = q)) zs
  | [] => rfl
  | p :: zs => by rw [sumZ, sumP, sumZ_is q zs]; simp
theorem getZ_all (L : List It) (q : List Int) : getZ (addZ [] L) q = sumP (fun r => decide (r = q)) L := by
  rw [getZ_addAll L [] Srt.nil, getZ_nil, sumZ_is]; omega
theorem nz_none : Nz [] := fun p hp => by simp at hp
/-- What is reckoned of what was reckoned is reckoned at once. -/
theorem map_map {cs ds es : List Cel} {zs : List It} (h : ∀ p ∈ zs, rowC ds (rowC cs p.1) = rowC es p.1) : addZ [] (mapZ ds (addZ [] (mapZ cs zs))) = addZ [] (mapZ es zs) := by
  refine canon (srt_add Srt.nil) (nz_add nz_none) (srt_add Srt.nil) (nz_add nz_none) fun q => ?_
  rw [getZ_all, getZ_all, sumP_map, sumP_add, sumP_map, sumP_map, sumP]
  rw [sumP_congr (g := fun r => decide (rowC es r = q)) (fun p hp => by rw [h p hp])]
  omega
theorem all_put {m : List It} (h : zOkB m = true) : addZ [] m = m := by
  refine canon (srt_add Srt.nil) (nz_add nz_none) (zOk_srt h) (zOk_nz h) fun q => ?_
  rw [getZ_add Srt.nil (zOk_srt h), getZ_nil]; omega

theorem map_true {cs : List Cel} {zs : List It} (h : mapOk cs zs = true) : zOkB zs = true ∧ (1 ≤ cs.length ∧ cs.length ≤ 6) ∧ (∀ p ∈ zs, toldC cs p.1 = true) ∧ zOkB (addZ [] (mapZ cs zs)) = true ∧ mapOut cs zs = addZ [] (mapZ cs zs) := by
  have h0 := h
  unfold mapOk mapCan at h0
  simp only [Bool.and_eq_true, decide_eq_true_eq, List.all_eq_true] at h0
  exact ⟨h0.1.1.1, h0.1.1.2, h0.1.2, h0.2, by unfold mapOut; rw [h]; rfl⟩
theorem map_false {cs : List Cel} {zs : List It} (h : mapOk cs zs = false) : mapOut cs zs = [] := by unfold mapOut; rw [h]; rfl
/-- The places of a row, one by one. -/
def colsC (n : Nat) : List Cel := (List.range n).map fun (i : Nat) => ⟨1, (i : Int), 0, 0⟩
theorem colsC_len (n : Nat) : (colsC n).length = n := by simp [colsC]
theorem colsC_succ (n : Nat) : colsC (n + 1) = colsC n ++ [⟨1, n, 0, 0⟩] := by simp [colsC, List.range_succ]
theorem row_parts {x : List Int} (h : rowOkB x = true) : (1 ≤ x.length ∧ x.length ≤ 6) ∧ ∀ i, i < x.length → cellB (x.getD i 0) = true := by
  simp only [rowOkB, Bool.and_eq_true, decide_eq_true_eq, List.all_eq_true] at h
  refine ⟨h.1, fun i hi => h.2 _ ?_⟩
  simp [List.getD, hi]
theorem col_told {x : List Int} {i : Nat} (h : rowOkB x = true) (hi : i < x.length) : Cel.toldB ⟨1, i, 0, 0⟩ x = true := by
  obtain ⟨h1, h2⟩ := row_parts h
  have hk : Cel.okB ⟨1, i, 0, 0⟩ x.length = true := by
    unfold Cel.okB
    rw [decide_eq_true_eq]
    exact .inl ⟨rfl, ⟨by show (0 : Int) ≤ (i : Int); omega, by show (i : Int) < (x.length : Int); omega, by show (i : Int) < 6; omega⟩, rfl, rfl⟩
  have h3 : Cel.num ⟨1, i, 0, 0⟩ x = x.getD i 0 := by simp [Cel.num]
  unfold Cel.toldB
  rw [h, hk, h3, h2 i hi]; rfl
theorem col_val {x : List Int} {i : Nat} (h : rowOkB x = true) (hi : i < x.length) : Cel.valI ⟨1, i, 0, 0⟩ x = x.getD i 0 := by
  unfold Cel.valI
  rw [col_told h hi]
  simp [Cel.num]
theorem cols_told {x : List Int} (h : rowOkB x = true) : toldC (colsC x.length) x = true := by
  unfold toldC colsC
  rw [List.all_eq_true]
  intro c hc
  obtain ⟨i, hi, rfl⟩ := List.mem_map.1 hc
  exact col_told h (List.mem_range.1 hi)
theorem cols_row {x : List Int} (h : rowOkB x = true) : rowC (colsC x.length) x = x := by
  unfold rowC colsC
  rw [List.map_map]
  refine List.ext_getElem (by simp) fun i h1 h2 => ?_
  have hi : i < x.length := h2
  simp only [List.getElem_map, List.getElem_range, Function.comp]
  rw [col_val h hi]
  simp [List.getD, hi]
theorem rowC_len (cs : List Cel) (x : List Int) : (rowC cs x).length = cs.length := by simp [rowC]
theorem told_row {cs : List Cel} {x : List Int} (hl : 1 ≤ cs.length ∧ cs.length ≤ 6) (h : toldC cs x = true) : rowOkB (rowC cs x) = true := by
  simp only [rowOkB, Bool.and_eq_true, decide_eq_true_eq, List.all_eq_true, rowC_len]
  refine ⟨hl, fun y hy => ?_⟩
  obtain ⟨c, hc, rfl⟩ := List.mem_map.1 hy
  have h1 : c.toldB x = true := List.all_eq_true.1 h c hc
  have h2 := h1
  unfold Cel.toldB at h2
  simp only [Bool.and_eq_true] at h2
  unfold Cel.valI
  rw [h1]
  exact h2.2
/-- All places of what was reckoned are what it is. -/
theorem map_cols {cs : List Cel} {zs : List It} (h : mapOk cs zs = true) : mapOk (colsC cs.length) (mapOut cs zs) = true ∧ mapOut (colsC cs.length) (mapOut cs zs) = mapOut cs zs := by
  obtain ⟨h1, h2, h3, h4, h5⟩ := map_true h
  rw [h5]
  obtain ⟨m, hm⟩ : ∃ m, m = addZ [] (mapZ cs zs) := ⟨_, rfl⟩
  rw [← hm] at h4 ⊢
  have hrow : ∀ p ∈ m, rowOkB p.1 = true ∧ p.1.length = cs.length := fun p hp => by
    obtain ⟨j, hj, e⟩ := mem_getD (d := ([], 0)) hp
    refine ⟨by rw [← e]; exact (zOk_row h4 hj).1, ?_⟩
    rw [hm] at hp
    obtain ⟨q, hq, e2⟩ := mem_all hp
    obtain ⟨r, hr, rfl⟩ := List.mem_map.1 hq
    rw [e2, rowC_len]
  have e1 : mapZ (colsC cs.length) m = m := by
    unfold mapZ
    conv => rhs; rw [← List.map_id m]
    refine List.map_congr_left fun p hp => ?_
    obtain ⟨a, b⟩ := hrow p hp
    rw [← b, cols_row a]; rfl
  have e2 : mapCan (colsC cs.length) m = true := by
    unfold mapCan
    simp only [Bool.and_eq_true, decide_eq_true_eq, List.all_eq_true, colsC_len]
    refine ⟨⟨h4, h2⟩, fun p hp => ?_⟩
    obtain ⟨a, b⟩ := hrow p hp
    rw [← b]; exact cols_told a
  have e3 : mapOk (colsC cs.length) m = true := by unfold mapOk; rw [e2, e1, all_put h4, h4]; rfl
  exact ⟨e3, by unfold mapOut; rw [e3, e1, all_put h4]; rfl⟩
theorem map_first {cs : List Cel} {zs : List It} (h : mapOk cs zs = true) (hq : mapOk (colsC 1) (mapOut cs zs) = true) (hr : mapOk (cs.take 1) zs = true) : mapOut (colsC 1) (mapOut cs zs) = mapOut (cs.take 1) zs := by
  obtain ⟨h1, h2, h3, h4, h5⟩ := map_true h
  rw [(map_true hq).2.2.2.2, (map_true hr).2.2.2.2, h5]
  refine map_map fun p hp => ?_
  have hk := told_row h2 (h3 p hp)
  have hl : 0 < (rowC cs p.1).length := by rw [rowC_len]; omega
  have e1 : rowC (colsC 1) (rowC cs p.1) = [(rowC cs p.1).getD 0 0] := by
    show [Cel.valI ⟨1, ((0 : Nat) : Int), 0, 0⟩ _] = _
    rw [col_val hk hl]
  rw [e1]
  match cs, h2 with
  | c :: r, _ => rfl
def sumW (zs : List It) : Int := sumP (fun _ => true) zs
theorem map_weights {cs : List Cel} {zs : List It} (h : mapOk cs zs = true) : sumW (mapOut cs zs) = sumW zs := by
  unfold sumW
  rw [(map_true h).2.2.2.2, sumP_add, sumP_map, sumP]
  omega
theorem map_few {cs : List Cel} {zs : List It} (h : mapOk cs zs = true) : (mapOut cs zs).length ≤ zs.length := by
  rw [(map_true h).2.2.2.2]
  have := add_len (mapZ cs zs) []
  rw [mapZ_len] at this
  simpa using this
theorem sumW_snoc (a : List It) (p : It) : sumW (a ++ [p]) = sumW a + p.2 := by
  induction a with
  | nil => simp [sumW, sumP]
  | cons x a ih => unfold sumW at *; rw [List.cons_append, sumP, sumP, ih]; simp; omega
theorem sumW_take {zs : List It} {k : Nat} (hk : k < zs.length) : sumW (zs.take (k + 1)) = sumW (zs.take k) + (zs.getD k ([], 0)).2 := by
  rw [List.take_succ_eq_append_getElem hk, sumW_snoc]
  simp [List.getD, hk]
theorem sumW_in {zs : List It} (h : zOkB zs = true) : ∀ k, k ≤ zs.length → -(10000 * (k : Int)) ≤ sumW (zs.take k) ∧ sumW (zs.take k) ≤ 10000 * (k : Int)
  | 0, _ => by simp [sumW, sumP]
  | k + 1, hk => by
    have ih := sumW_in h k (by omega)
    rw [sumW_take (by omega)]
    have := (wB_in (zOk_row h (show k < zs.length by omega)).2).2
    omega

theorem TailZ.atM {w : World} {a : Option Addr} {n cap : Nat} {zs : List It} (h : TailZ w (.slice a n cap) zs) {k : Nat} (hk : k < zs.length) :
    ∃ b off xa xn xc, a = some ⟨b, off, none⟩ ∧ b < w.heap.size ∧ w.cell? ⟨b, off + k * 2, none⟩ = some (.slice xa xn xc) ∧ w.cell? ⟨b, off + k * 2 + 1, none⟩ = some (.int .i64 (zs.getD k ([], 0)).2) ∧ IntsAt w (.slice xa xn xc) (zs.getD k ([], 0)).1 := by
  obtain ⟨_, a', c', e, _, hc⟩ := h.items
  obtain ⟨b, off, rfl, hb, hcell⟩ := hc (fun e => by rw [e] at hk; simp at hk)
  obtain ⟨rv, c0, c1, c2⟩ := hcell k hk
  obtain ⟨xa, xn, xc, rfl⟩ := c2.shape
  simp at e
  exact ⟨b, off, xa, xn, xc, e.1, hb, c0, c1, c2⟩


theorem map_val {v u : Value} {a os : List It} {cs : List Cel} {c : Bool} {w : World} {p : Addr} (hc : mapOk cs a = c) (ho : mapOut cs a = os) (hs : Sent w p) (h : TailZ w v a) (hu : CelsAt w u cs) :
    Calls Tryz.prog 7 #[v, u] w fun e w' => ∃ v', e = .returned (.tuple #[v', .bool c]) ∧ TailZ w' v' os ∧ Below w.heap.size w w' := by
  subst hc ho
  refine (implMap_any v u a cs w p hs h.items hu).mono ?_
  rintro e w' ⟨v', he, hz, hb⟩
  exact ⟨v', he, hz.tail, hb⟩
theorem specMap_val {v u : Value} {a os : List It} {cs : List Cel} {c : Bool} {w : World} (hc : mapOk cs a = c) (ho : mapOut cs a = os) (h : TailZ w v a) (hu : CelsAt w u cs) :
    Calls Tryz.prog 8 #[v, u] w fun e w' => ∃ v', e = .returned (.tuple #[v', .bool c]) ∧ TailZ w' v' os ∧ Below w.heap.size w w' := by
  subst hc ho
  refine (specMap_any v u a cs w h.items hu).mono ?_
  rintro e w' ⟨v', he, hz, hb⟩
  exact ⟨v', he, hz.tail, hb⟩

end Go.Proofs.YtehfpceghdaajaaGreatDoor

/-
  What is drawn for FnMapTwice: DrawMapOf; and cells in a slice that is grown one by one.
-/
namespace Go.Proofs.YtehfpceghdaajaaGreatDoor
open Go.RowKit
set_option linter.unusedVariables false

def celV (cs : List Cel) : List Value := cs.flatMap fun c => [.int .i64 c.k, .int .i64 c.a, .int .i64 c.b, .int .i64 c.n]
theorem celV_snoc (cs : List Cel) (c : Cel) : celV (cs ++ [c]) = celV cs ++ [.int .i64 c.k, .int .i64 c.a, .int .i64 c.b, .int .i64 c.n] := by simp [celV]
theorem celV_at : ∀ (cs : List Cel) (j : Nat), j < cs.length → (celV cs)[j * 4]? = some (.int .i64 (cs.getD j ⟨0, 0, 0, 0⟩).k) ∧ (celV cs)[j * 4 + 1]? = some (.int .i64 (cs.getD j ⟨0, 0, 0, 0⟩).a) ∧ (celV cs)[j * 4 + 2]? = some (.int .i64 (cs.getD j ⟨0, 0, 0, 0⟩).b) ∧ (celV cs)[j * 4 + 3]? = some (.int .i64 (cs.getD j ⟨0, 0, 0, 0⟩).n)
  | [], _, h => by simp at h
  | c :: cs, 0, _ => by simp [celV]
  | c :: cs, j + 1, h => by
    obtain ⟨h0, h1, h2, h3⟩ := celV_at cs j (by simpa using h)
    have e : celV (c :: cs) = [.int .i64 c.k, .int .i64 c.a, .int .i64 c.b, .int .i64 c.n] ++ celV cs := by simp [celV]
    rw [e]
    have k : ∀ i, ([.int .i64 c.k, .int .i64 c.a, .int .i64 c.b, .int .i64 c.n] ++ celV cs)[(j + 1) * 4 + i]? = (celV cs)[j * 4 + i]? := fun i => by
      rw [List.getElem?_append_right (by simp; omega)]
      congr 1
      simp; omega
    refine ⟨(k 0).trans (by simpa [List.getD] using h0), (k 1).trans (by simpa [List.getD] using h1), (k 2).trans (by simpa [List.getD] using h2), (k 3).trans (by simpa [List.getD] using h3)⟩
theorem owns_cels {w : World} {base : Nat} {v : Value} {cs : List Cel} (h : w.ownsRow base 28 4 v cs.length (celV cs)) : CelsAt w v cs := by
  have h0 := h
  obtain ⟨_, h2⟩ := h0
  rcases h2 with ⟨rfl, hn⟩ | ⟨g, cap, cur, rfl, _⟩
  · have : cs = [] := List.length_eq_zero_iff.1 hn
    subst this
    exact ⟨none, 0, rfl, fun e => absurd rfl e⟩
  · refine ⟨_, cap, rfl, fun _ => ⟨g, 0, rfl, (h.lt g rfl).2, fun j hj => ?_⟩⟩
    obtain ⟨h0, h1, h2, h3⟩ := celV_at cs j hj
    simp only [Nat.zero_add]
    exact ⟨(h.cellAt _ (by omega)).trans h0, (h.cellAt _ (by omega)).trans h1, (h.cellAt _ (by omega)).trans h2, (h.cellAt _ (by omega)).trans h3⟩
theorem infoC4 : (Tryz.prog.info? 28).map (fun i => (i.zero, i.size, i.bytes)) = some (some (.agg #[.int .i64 0, .int .i64 0, .int .i64 0, .int .i64 0]), 4, 32) := by kernel_rfl
theorem CelsAt.first {w : World} {a : Option Addr} {n cap cap' : Nat} {cs : List Cel} (h : CelsAt w (.slice a n cap) cs) (h1 : 1 ≤ cs.length) : CelsAt w (.slice a 1 cap') (cs.take 1) := by
  obtain ⟨a', c', e, hc⟩ := h
  simp at e
  have hl : (cs.take 1).length = 1 := by rw [List.length_take]; omega
  refine ⟨a, cap', by rw [hl], fun _ => ?_⟩
  obtain ⟨b, off, e2, hb, hcell⟩ := hc (fun e => by rw [e] at h1; simp at h1)
  refine ⟨b, off, e.1.trans e2, hb, fun j hj => ?_⟩
  rw [hl] at hj
  obtain rfl : j = 0 := by omega
  have := hcell 0 (by omega)
  have e3 : (cs.take 1).getD 0 ⟨0, 0, 0, 0⟩ = cs.getD 0 ⟨0, 0, 0, 0⟩ := by
    match cs, h1 with
    | c :: r, _ => rfl
  rw [e3]
  exact this

set_option maxRecDepth 100000 in
set_option maxHeartbeats 4000000 in
theorem drawMapOf_any (a : Option Addr) (len cap : Nat) (bs : List Int) (w : World) (h : IsRow .u8 w a len cap bs) :
    Calls Tryz.prog 5 #[.slice a len cap] w fun e w' =>
      ∃ (v : Value) (ua : Option Addr) (uc : Nat) (cs : List Cel) (zs : List It), e = .returned (.tuple #[v, .slice ua cs.length uc]) ∧ cs.length ≤ 3 ∧ cs.length ≤ uc ∧ uc ≤ maxLen ∧ GoodZ zs ∧ TailZ w' v zs ∧ CelsAt w' (.slice ua cs.length uc) cs ∧ Below w.heap.size w w' := by
  obtain ⟨i0, hi, hz0, hz1, hz2⟩ := info_parts infoC4
  go_enter Tryz.func5, Tryz.ntmps5
  go_wp2_with fail
  refine (l12Open_any a len cap bs _ h).mono ?_
  rintro e w1 ⟨rfl, hrd1, hb1⟩
  have B1 : Hid (Below w.heap.size w w1) := hb1
  have hs1 := hb1.size
  clear hb1 h
  obtain ⟨g, hg⟩ : ∃ g, g = w.heap.size := ⟨_, rfl⟩
  rw [← hg] at hrd1 hs1 ⊢
  have HG : Hid (g = w.heap.size) := hg
  clear hg
  go_wp2_with fail
  refine (l5Wide_any g _ _ (by omega) hrd1).mono ?_
  rintro e w2 ⟨v, wd, rfl, ⟨hwd1, hwd2⟩, zs, hgz, hd2, hrd2, hg2⟩
  have hgl := hrd2.lt
  have B2 : Hid (Below w.heap.size w w2) := B1.out.grown hg2 B1.out.size (fun k hk => by simp at hk; have := HG.out; omega)
  have HGZ : Hid (GoodZ zs) := hgz
  have HD2 : Hid (Drawn w2 g v zs) := hd2
  clear hg2 hrd1 hgz hd2
  have ho1 : (w2.alloc (.cells #[] 28)).ownsRow w2.heap.size 28 4 (.slice (some ⟨w2.heap.size, 0, none⟩) 0 0) 0 [] := World.ownsRow_lit w2 #[] 0 (Nat.le_refl _) (by unfold maxLen; omega) rfl
  have hr1 := hrd2.below (bel_alloc (.cells #[] 28))
  have hg1 : w2.grownBy (w2.alloc (.cells #[] 28)) (some g) := World.grownBy_alloc w2 _ _
  clear hrd2
  go_wp2_with fail
  refine (pick_any g _ 3 _ (by omega) (by omega) (by omega) hr1).mono ?_
  rintro e w3 ⟨n, hn0, hn3, rfl, hrd3, hg3⟩
  obtain ⟨n, rfl⟩ := Int.eq_ofNat_of_zero_le hn0
  have HR3 : Hid (Rd w3 g 700) := hrd3.le (by omega)
  have ho3 := ho1.kept hg3 (.inr fun e => by have := (ho1.lt g e).1; omega)
  have hG3 := grown_trans hg1 hg3
  clear hrd3 hr1 ho1 hg1 hg3
  go_wp2
  go_loopw [7, 8] (fun s i wr => ∃ (k : Nat) (cs : List Cel), k ≤ 3 ∧ cs.length + k ≤ 3 ∧ i = .int .i64 k ∧ wr.ownsRow w2.heap.size 28 4 s cs.length (celV cs) ∧ Rd wr g (700 + 5 * cs.length) ∧ w2.grownBy wr (some g)) (fun _ i _ => (intOf i).toNat)
  case atStart => exact ⟨n + 1, [], by omega, by simp; omega, by go_num, ho3, HR3.out, hG3⟩
  case round =>
    obtain ⟨k, cs, hk3, hck, rfl, ho, hr, hg⟩ := hrel
    clear ho3 HR3 hG3
    by_cases hlt : 0 < k
    · go_wp2_with fail
      refine (l3CellBent_any g _ wd _ hwd1 (by omega) (by omega) hr).mono ?_
      rintro e w4 ⟨⟨ck, ca, cb, cn⟩, rfl, _, hrd4, hg4⟩
      have ho4 := ho.kept hg4 (.inr fun e => by have := (ho.lt g e).1; omega)
      have hg5 := grown_alloc (grown_trans hg hg4) (.cells #[.int .i64 ck, .int .i64 ca, .int .i64 cb, .int .i64 cn] 28)
      have ho5 := ho4.alloc (.cells #[.int .i64 ck, .int .i64 ca, .int .i64 cb, .int .i64 cn] 28)
      have hr5 := hrd4.below (bel_alloc (.cells #[.int .i64 ck, .int .i64 ca, .int .i64 cb, .int .i64 cn] 28))
      have hsz : w2.heap.size ≤ w4.heap.size := (grown_trans hg hg4).size
      clear ho4 hrd4 hg4 ho hr hg
      go_wp2_with (at_builtin; refine wpList_append_own _ rfl (.tmp 24) (.tmp 28) 24 rfl w2.heap.size 28 i0 (.agg #[.int .i64 0, .int .i64 0, .int .i64 0, .int .i64 0]) 4 32 Tryz.underlying24 hi hz0 hz1 hz2 rfl (by decide) u7 cs.length _ rfl ho5 ⟨w4.heap.size, 0, none⟩ 1 1 [.int .i64 ck, .int .i64 ca, .int .i64 cb, .int .i64 cn] rfl rfl (fun j u hj => by match j, hj with | 0, hj => simp at hj; subst hj; simp [Addr.add] | 1, hj => simp at hj; subst hj; simp [Addr.add] | 2, hj => simp at hj; subst hj; simp [Addr.add] | 3, hj => simp at hj; subst hj; simp [Addr.add] | j + 4, hj => simp at hj) (fun u hu => by simp at hu; rcases hu with rfl | rfl | rfl | rfl <;> rfl) (by unfold maxLen; omega) (by omega) (by simp; omega) ?_; intro v' w5 hown5 hgrow5 _)
      have ho6 : w5.ownsRow w2.heap.size 28 4 v' (cs ++ [(⟨ck, ca, cb, cn⟩ : Cel)]).length (celV (cs ++ [⟨ck, ca, cb, cn⟩])) := by rw [celV_snoc]; simpa using hown5
      have hr6 : Rd w5 g (700 + 5 * (cs ++ [(⟨ck, ca, cb, cn⟩ : Cel)]).length) := (hr5.grown hgrow5 (fun b e => by have := (ho5.lt b e).1; omega)).le (by simp; omega)
      have hg6 : w2.grownBy w5 (some g) := grown_via hg5 hgrow5 (fun i hi' => (ho5.lt i hi').1)
      clear hown5 hgrow5 ho5 hr5 hg5
      go_wp2
      go_roundw
      case rel => exact ⟨k - 1, cs ++ [⟨ck, ca, cb, cn⟩], by omega, by simp; omega, by go_num, ho6, hr6, hg6⟩
      case measure => simp [intOf]; omega
    · obtain rfl : k = 0 := by omega
      go_wp2_with fail
      refine (pick_any g _ 16 _ (by omega) (by omega) (by omega) hr).mono ?_
      rintro e w4 ⟨q, hq0, hq5, rfl, hrd4, hg4⟩
      have ho4 := ho.kept hg4 (.inr fun e => by have := (ho.lt g e).1; omega)
      have hG4 := grown_trans hg hg4
      have T4 : Hid (TailZ w4 v zs) := (HD2.out.next hG4).now
      have B4 : Hid (Below w.heap.size w w4) := B2.out.grown hG4 B2.out.size (fun k hk => by simp at hk; have := HG.out; omega)
      have HC4 : Hid (CelsAt w4 u7 cs) := owns_cels ho4
      obtain ⟨ua, uc, HUU, HUC⟩ : ∃ ua uc, Hid (u7 = .slice ua cs.length uc) ∧ Hid (cs.length ≤ uc ∧ uc ≤ maxLen) := by
        rcases ho4.2 with ⟨e, h0⟩ | ⟨g, c, cur, e, _, _, h1, h2, _⟩
        · exact ⟨none, 0, by rw [Hid, h0]; exact e, by omega, by unfold maxLen; omega⟩
        · exact ⟨_, c, e, h1, h2⟩
      have hue := HUU.out
      subst hue
      clear HUU hrd4 hg4 ho4 hG4 ho hr hg HD2 B2 hi hz0 hz1 hz2
      by_cases hq : q = 0
      · subst hq
        go_wp2
        go_ret2
        exact ⟨v, _, _, [], zs, rfl, by simp, by simp, by unfold maxLen; omega, HGZ.out, T4.out.below (bel_alloc _), ⟨_, _, rfl, fun e => absurd rfl e⟩, bel_then B4.out (bel_alloc _)⟩
      · have hqf : (q == 0) = false := by simp [hq]
        clear hq
        go_wp2
        go_ret2
        exact ⟨v, ua, uc, cs, zs, rfl, by omega, HUC.out.1, HUC.out.2, HGZ.out, T4.out, HC4.out, B4.out⟩

end Go.Proofs.YtehfpceghdaajaaGreatDoor

/-
  Plain facts: what is so of two lists together is what is so of each, together.
-/
namespace Go.Proofs.YtehfpceghdaajaaGreatDoor
open Go.RowKit

theorem whereZ_add {t : Tst} {a b : List It} (ha : Srt a) (hna : Nz a) (hb : Srt b) : whereZ t (addZ a b) = addZ (whereZ t a) (whereZ t b) := by
  have s1 : Srt (whereZ t a) := ha.sublist List.filter_sublist
  have s2 : Srt (whereZ t b) := hb.sublist List.filter_sublist
  have n1 : Nz (whereZ t a) := fun p hp => hna p (List.mem_filter.1 hp).1
  refine canon ((srt_add ha).sublist List.filter_sublist) (fun p hp => nz_add hna p (List.mem_filter.1 hp).1) (srt_add s1) (nz_add n1) fun q => ?_
  rw [getZ_add s1 s2]
  unfold whereZ
  rw [getZ_where, getZ_where, getZ_where, getZ_add ha hb]
  by_cases h : t.valB q = true
  · rw [if_pos h, if_pos h, if_pos h]
  · rw [if_neg h, if_neg h, if_neg h]; rfl
theorem where_sum {t : Tst} {a b : List It} (h0 : addOk a b = true) (h1 : whereOk t a = true) (h2 : whereOk t b = true) (h3 : whereOk t (addOut a b) = true) (h4 : addOk (whereOut t a) (whereOut t b) = true) :
    whereOut t (addOut a b) = addOut (whereOut t a) (whereOut t b) := by
  obtain ⟨ha, hb, _, e0⟩ := addOk_true h0
  rw [(addOk_true h4).2.2.2, (where_true h3).2.2, (where_true h1).2.2, (where_true h2).2.2, e0]
  exact whereZ_add (zOk_srt ha) (zOk_nz ha) (zOk_srt hb)

end Go.Proofs.YtehfpceghdaajaaGreatDoor

/-
  Plain facts: what is reckoned of two lists together is what is reckoned of each, together.
-/
namespace Go.Proofs.YtehfpceghdaajaaGreatDoor
open Go.RowKit

theorem sumP_neg (f : List Int → Bool) : ∀ a : List It, sumP f (negZ a) = - sumP f a
  | [] => rfl
  | p :: a => by
    have ih := sumP_neg f a
    unfold negZ at *
    rw [List.map_cons, sumP, sumP, ih]
    show (if f p.1 then -p.2 else 0) + _ = _
    by_cases h : f p.1 = true
    · rw [if_pos h, if_pos h]; omega
    · rw [if_neg h, if_neg h]; omega
theorem map_sumZ (cs : List Cel) (a b : List It) : addZ (addZ [] (mapZ cs a)) (addZ [] (mapZ cs b)) = addZ [] (mapZ cs (addZ a b)) := by
  refine canon (srt_add (srt_add Srt.nil)) (nz_add (nz_add nz_none)) (srt_add Srt.nil) (nz_add nz_none) fun q => ?_
  rw [getZ_add (srt_add Srt.nil) (srt_add Srt.nil), getZ_all, getZ_all, getZ_all, sumP_map, sumP_map, sumP_map, sumP_add]
theorem map_sum {cs : List Cel} {a b : List It} (h0 : addOk a b = true) (h1 : mapOk cs a = true) (h2 : mapOk cs b = true) (h3 : mapOk cs (addOut a b) = true) (h4 : addOk (mapOut cs a) (mapOut cs b) = true) :
    addOut (mapOut cs a) (mapOut cs b) = mapOut cs (addOut a b) := by
  rw [(addOk_true h4).2.2.2, (map_true h1).2.2.2.2, (map_true h2).2.2.2.2, (map_true h3).2.2.2.2, (addOk_true h0).2.2.2]
  exact map_sumZ cs a b
theorem map_negZ (cs : List Cel) (a : List It) : addZ [] (mapZ cs (negZ a)) = negZ (addZ [] (mapZ cs a)) := by
  refine canon (srt_add Srt.nil) (nz_add nz_none) (srt_neg (srt_add Srt.nil)) (nz_neg (nz_add nz_none)) fun q => ?_
  rw [getZ_neg, getZ_all, getZ_all, sumP_map, sumP_map, sumP_neg]
theorem map_neg {cs : List Cel} {a : List It} (h : mapOk cs a = true) : mapOk cs (if zOkB a then negZ a else []) = true ∧ mapOut cs (if zOkB a then negZ a else []) = if zOkB (mapOut cs a) then negZ (mapOut cs a) else [] := by
  obtain ⟨ha, hl, ht, hz, e⟩ := map_true h
  rw [ha, e, hz]
  simp only [if_true]
  have hok : mapOk cs (negZ a) = true := by
    unfold mapOk mapCan
    rw [zOk_neg, ha, map_negZ, zOk_neg, hz, decide_eq_true hl]
    have : ((negZ a).all fun p => toldC cs p.1) = true := by
      rw [List.all_eq_true]
      intro p hp
      unfold negZ at hp
      obtain ⟨q, hq, rfl⟩ := List.mem_map.1 hp
      exact ht q hq
    rw [this]; rfl
  exact ⟨hok, by rw [(map_true hok).2.2.2.2, map_negZ]⟩

end Go.Proofs.YtehfpceghdaajaaGreatDoor

/-
  The walk of laws.FnLinear, out of the contracts: whatever the bytes are, it answers true, and nothing that was there is written. Condition: the error of chapter 3 reads as it was laid.
-/
namespace Go.Proofs.YtehfpceghdaajaaGreatDoor
open Go.RowKit
set_option linter.unusedVariables false

set_option maxRecDepth 100000 in
set_option maxHeartbeats 16000000 in
theorem lawFnLinear (a : Option Addr) (len cap : Nat) (bs : List Int) (a2 : Option Addr) (len2 cap2 : Nat) (bs2 : List Int) (w : World) (h : IsRow .u8 w a len cap bs) (h2 : IsRow .u8 w a2 len2 cap2 bs2) (hs : HasSent w) :
    Calls Tryz.prog 3 #[.slice a len cap, .slice a2 len2 cap2] w fun e w' => e = .returned (.bool true) ∧ Below w.heap.size w w' := by
  by_cases hbig : (1048576 : Int) < (len : Int)
  · go_enter Tryz.func3, Tryz.ntmps3
    go_wp2
    go_ret
    exact ⟨rfl, Below.refl _ _⟩
  by_cases hbig2 : (1048576 : Int) < (len2 : Int)
  · go_enter Tryz.func3, Tryz.ntmps3
    go_wp2
    go_ret
    exact ⟨rfl, Below.refl _ _⟩
  obtain ⟨p, hp⟩ := hs
  have HP : Hid (Sent w p) := hp
  have H1 : Hid (IsRow .u8 w a len cap bs) := h
  have H2 : Hid (IsRow .u8 w a2 len2 cap2 bs2) := h2
  clear hp h2
  go_enter Tryz.func3, Tryz.ntmps3
  go_wp2_with fail
  refine (drawMapOf_any a len cap bs _ h).mono ?_
  rintro e w1 ⟨va, ua, uc, cs, za, rfl, hcl, huc, hum, hgz, TA1, U1, hk1⟩
  clear h hgz huc hum
  go_wp2_with fail
  refine (drawWhereOf_any a len cap bs _ (H1.out.below hk1)).mono ?_
  rintro e w2 ⟨vo, ⟨tk, tn, ⟨lk, la, lb, ln⟩, ⟨rk, ra, rb, rn⟩⟩, rfl, hlow, zo, hgo, TO2, hb2⟩
  simp only
  have hk2 := below_then hk1 hb2
  have TA2 := TA1.below hb2
  have U2 := U1.below hb2
  have hka := below_then hk2 (below_alloc (.cells #[.int .i64 tk, .bool tn, .int .i64 lk, .int .i64 la, .int .i64 lb, .int .i64 ln, .int .i64 rk, .int .i64 ra, .int .i64 rb, .int .i64 rn] 30))
  clear hlow hgo TO2 hb2 hk1 TA1 U1
  go_wp2_with fail
  refine (drawMapOf_any a2 len2 cap2 bs2 _ (H2.out.below hka)).mono ?_
  rintro e w3 ⟨vb, ub, ud, cs2, zb, rfl, hcl2, huc2, hum2, hgy, TB, U3b, hb3⟩
  have hk3 := below_then hka hb3
  have TA3 := (TA2.below (below_alloc _)).below hb3
  have U3 := (U2.below (below_alloc _)).below hb3
  have X3 : Box10 w3 w2.heap.size ⟨tk, tn, ⟨lk, la, lb, ln⟩, ⟨rk, ra, rb, rn⟩⟩ := (Box10.start w2 ⟨tk, tn, ⟨lk, la, lb, ln⟩, ⟨rk, ra, rb, rn⟩⟩ _).below hb3
  clear hb3 hk2 hka TA2 U2 U3b hcl2 huc2 hum2 hgy
  obtain ⟨c0, Hc0⟩ : ∃ c : Bool, Hid (c = mapOk cs za) := ⟨_, rfl⟩
  obtain ⟨c1, Hc1⟩ : ∃ c : Bool, Hid (c = addOk za zb) := ⟨_, rfl⟩
  obtain ⟨c2, Hc2⟩ : ∃ c : Bool, Hid (c = mapOk cs zb) := ⟨_, rfl⟩
  obtain ⟨c3, Hc3⟩ : ∃ c : Bool, Hid (c = mapOk cs (addOut za zb)) := ⟨_, rfl⟩
  obtain ⟨c4, Hc4⟩ : ∃ c : Bool, Hid (c = addOk (mapOut cs za) (mapOut cs zb)) := ⟨_, rfl⟩
  obtain ⟨c5, Hc5⟩ : ∃ c : Bool, Hid (c = whereOk ⟨tk, tn, ⟨lk, la, lb, ln⟩, ⟨rk, ra, rb, rn⟩⟩ za) := ⟨_, rfl⟩
  obtain ⟨c6, Hc6⟩ : ∃ c : Bool, Hid (c = whereOk ⟨tk, tn, ⟨lk, la, lb, ln⟩, ⟨rk, ra, rb, rn⟩⟩ zb) := ⟨_, rfl⟩
  obtain ⟨c7, Hc7⟩ : ∃ c : Bool, Hid (c = whereOk ⟨tk, tn, ⟨lk, la, lb, ln⟩, ⟨rk, ra, rb, rn⟩⟩ (addOut za zb)) := ⟨_, rfl⟩
  obtain ⟨c8, Hc8⟩ : ∃ c : Bool, Hid (c = addOk (whereOut ⟨tk, tn, ⟨lk, la, lb, ln⟩, ⟨rk, ra, rb, rn⟩⟩ za) (whereOut ⟨tk, tn, ⟨lk, la, lb, ln⟩, ⟨rk, ra, rb, rn⟩⟩ zb)) := ⟨_, rfl⟩
  obtain ⟨c9, Hc9⟩ : ∃ c : Bool, Hid (c = mapOk cs (if zOkB za then negZ za else [])) := ⟨_, rfl⟩
  go_wp2_with fail
  refine (map_val Hc0.out.symm rfl (HP.out.below hk3) TA3 U3).mono ?_
  rintro e w4 ⟨vx, rfl, TX, hb4⟩
  have hk4 := below_then hk3 hb4
  have A_4 := TA3.below hb4
  have B_4 := TB.below hb4
  have U_4 := U3.below hb4
  have X_4 := X3.below hb4
  clear hb4 hk3 TA3 TB U3 X3
  go_wp2_with fail
  refine (specMap_val Hc0.out.symm rfl A_4 U_4).mono ?_
  rintro e w5 ⟨vy, rfl, TY, hb5⟩
  have hk5 := below_then hk4 hb5
  have A_5 := A_4.below hb5
  have B_5 := B_4.below hb5
  have U_5 := U_4.below hb5
  have X_5 := X_4.below hb5
  have M_5 := TX.below hb5
  clear hb5 hk4 A_4 B_4 U_4 X_4 TX
  go_wp2_with fail
  refine (zsame_val (zsB_refl _) M_5 TY).mono ?_
  rintro e w6 ⟨rfl, hb6⟩
  have hk6 := below_then hk5 hb6
  have A_6 := A_5.below hb6
  have B_6 := B_5.below hb6
  have U_6 := U_5.below hb6
  have X_6 := X_5.below hb6
  have M_6 := M_5.below hb6
  have Y_6 := TY.below hb6
  clear hb6 hk5 A_5 B_5 U_5 X_5 M_5 TY
  clear Y_6
  go_wp2_with fail
  refine (add_val Hc1.out.symm rfl A_6 B_6).mono ?_
  rintro e w7 ⟨vc, rfl, TC, hb7⟩
  have hk7 := below_then hk6 hb7
  have A_7 := A_6.below hb7
  have B_7 := B_6.below hb7
  have U_7 := U_6.below hb7
  have X_7 := X_6.below hb7
  have M_7 := M_6.below hb7
  clear hb7 hk6 A_6 B_6 U_6 X_6 M_6
  go_wp2_with fail
  refine (map_val Hc2.out.symm rfl (HP.out.below hk7) B_7 U_7).mono ?_
  rintro e w8 ⟨vmb, rfl, TMB, hb8⟩
  have hk8 := below_then hk7 hb8
  have A_8 := A_7.below hb8
  have B_8 := B_7.below hb8
  have U_8 := U_7.below hb8
  have X_8 := X_7.below hb8
  have M_8 := M_7.below hb8
  have C_8 := TC.below hb8
  clear hb8 hk7 A_7 B_7 U_7 X_7 M_7 TC
  go_wp2_with fail
  refine (map_val Hc3.out.symm rfl (HP.out.below hk8) C_8 U_8).mono ?_
  rintro e w9 ⟨vmc, rfl, TMC, hb9⟩
  have hk9 := below_then hk8 hb9
  have A_9 := A_8.below hb9
  have B_9 := B_8.below hb9
  have U_9 := U_8.below hb9
  have X_9 := X_8.below hb9
  have M_9 := M_8.below hb9
  have C_9 := C_8.below hb9
  have MB_9 := TMB.below hb9
  clear hb9 hk8 A_8 B_8 U_8 X_8 M_8 C_8 TMB
  go_wp2_with fail
  refine (add_val Hc4.out.symm rfl M_9 MB_9).mono ?_
  rintro e w10 ⟨vs, rfl, TS, hb10⟩
  have hk10 := below_then hk9 hb10
  have A_10 := A_9.below hb10
  have B_10 := B_9.below hb10
  have U_10 := U_9.below hb10
  have X_10 := X_9.below hb10
  have M_10 := M_9.below hb10
  have C_10 := C_9.below hb10
  have MB_10 := MB_9.below hb10
  have MC_10 := TMC.below hb10
  clear hb10 hk9 A_9 B_9 U_9 X_9 M_9 C_9 MB_9 TMC
  go_upto_region 14 with fail
  go_cut [119] (fun c wx => c = .bool false ∧ Hid (Below w10.heap.size w10 wx))
  case first =>
    cases c1 with
    | false =>
      clear A_10 B_10 U_10 X_10 M_10 C_10 MB_10 MC_10 TS
      go_wp2_with fail
      go_meet
      case rel => exact ⟨rfl, Below.refl _ _⟩
    | true =>
      cases c0 with
      | false =>
        clear A_10 B_10 U_10 X_10 M_10 C_10 MB_10 MC_10 TS
        go_wp2_with fail
        go_meet
        case rel => exact ⟨rfl, Below.refl _ _⟩
      | true =>
        cases c2 with
        | false =>
          clear A_10 B_10 U_10 X_10 M_10 C_10 MB_10 MC_10 TS
          go_wp2_with fail
          go_meet
          case rel => exact ⟨rfl, Below.refl _ _⟩
        | true =>
          cases c3 with
          | false =>
            clear A_10 B_10 U_10 X_10 M_10 C_10 MB_10 MC_10 TS
            go_wp2_with fail
            go_meet
            case rel => exact ⟨rfl, Below.refl _ _⟩
          | true =>
            cases c4 with
            | false =>
              clear A_10 B_10 U_10 X_10 M_10 C_10 MB_10 MC_10 TS
              go_wp2_with fail
              go_meet
              case rel => exact ⟨rfl, Below.refl _ _⟩
            | true =>
              have hs : zsB (addOut (mapOut cs za) (mapOut cs zb)) (mapOut cs (addOut za zb)) = true := by rw [map_sum Hc1.out.symm Hc0.out.symm Hc2.out.symm Hc3.out.symm Hc4.out.symm]; exact zsB_refl _
              go_wp2_with fail
              refine (zsame_val hs TS MC_10).mono ?_
              rintro e wz ⟨rfl, hbz⟩
              clear A_10 B_10 U_10 X_10 M_10 C_10 MB_10 MC_10 TS
              go_wp2_with fail
              go_meet
              case rel => exact ⟨rfl, hbz⟩
  case rest =>
    obtain ⟨rfl, hcb⟩ := hcut
    have hb11 := hcb.out
    have hk11 := below_then hk10 hb11
    have A_11 := A_10.below hb11
    have B_11 := B_10.below hb11
    have U_11 := U_10.below hb11
    have X_11 := X_10.below hb11
    have M_11 := M_10.below hb11
    have C_11 := C_10.below hb11
    have MB_11 := MB_10.below hb11
    have MC_11 := MC_10.below hb11
    have S_11 := TS.below hb11
    clear hb11 hcb hk10 A_10 B_10 U_10 X_10 M_10 C_10 MB_10 MC_10 TS
    clear MB_11
    clear MC_11
    clear S_11
    obtain ⟨⟨c0, c1, c2, c3, c4⟩, c5, c6, c7, c8, c9⟩ := box_cells X_11
    simp only at c0 c1 c2 c3 c4 c5 c6 c7 c8 c9
    go_wp2_with fail
    refine (where_val (t := ⟨tk, tn, ⟨lk, la, lb, ln⟩, ⟨rk, ra, rb, rn⟩⟩) Hc5.out.symm rfl (HP.out.below hk11) A_11).mono ?_
    rintro e w12 ⟨vd, rfl, TD, hb12⟩
    clear c0 c1 c2 c3 c4 c5 c6 c7 c8 c9
    have hk12 := below_then hk11 hb12
    have A_12 := A_11.below hb12
    have B_12 := B_11.below hb12
    have U_12 := U_11.below hb12
    have X_12 := X_11.below hb12
    have M_12 := M_11.below hb12
    have C_12 := C_11.below hb12
    clear hb12 hk11 A_11 B_11 U_11 X_11 M_11 C_11
    obtain ⟨⟨c0, c1, c2, c3, c4⟩, c5, c6, c7, c8, c9⟩ := box_cells X_12
    simp only at c0 c1 c2 c3 c4 c5 c6 c7 c8 c9
    go_wp2_with fail
    refine (where_val (t := ⟨tk, tn, ⟨lk, la, lb, ln⟩, ⟨rk, ra, rb, rn⟩⟩) Hc6.out.symm rfl (HP.out.below hk12) B_12).mono ?_
    rintro e w13 ⟨ve, rfl, TE, hb13⟩
    clear c0 c1 c2 c3 c4 c5 c6 c7 c8 c9
    have hk13 := below_then hk12 hb13
    have A_13 := A_12.below hb13
    have B_13 := B_12.below hb13
    have U_13 := U_12.below hb13
    have X_13 := X_12.below hb13
    have M_13 := M_12.below hb13
    have C_13 := C_12.below hb13
    have D_13 := TD.below hb13
    clear hb13 hk12 A_12 B_12 U_12 X_12 M_12 C_12 TD
    obtain ⟨⟨c0, c1, c2, c3, c4⟩, c5, c6, c7, c8, c9⟩ := box_cells X_13
    simp only at c0 c1 c2 c3 c4 c5 c6 c7 c8 c9
    go_wp2_with fail
    refine (where_val (t := ⟨tk, tn, ⟨lk, la, lb, ln⟩, ⟨rk, ra, rb, rn⟩⟩) Hc7.out.symm rfl (HP.out.below hk13) C_13).mono ?_
    rintro e w14 ⟨vh, rfl, TH, hb14⟩
    clear c0 c1 c2 c3 c4 c5 c6 c7 c8 c9
    have hk14 := below_then hk13 hb14
    have A_14 := A_13.below hb14
    have B_14 := B_13.below hb14
    have U_14 := U_13.below hb14
    have X_14 := X_13.below hb14
    have M_14 := M_13.below hb14
    have C_14 := C_13.below hb14
    have D_14 := D_13.below hb14
    have E_14 := TE.below hb14
    clear hb14 hk13 A_13 B_13 U_13 X_13 M_13 C_13 D_13 TE
    clear X_14
    clear C_14
    clear B_14
    go_wp2_with fail
    refine (add_val Hc8.out.symm rfl D_14 E_14).mono ?_
    rintro e w15 ⟨vk, rfl, TK, hb15⟩
    have hk15 := below_then hk14 hb15
    have A_15 := A_14.below hb15
    have U_15 := U_14.below hb15
    have M_15 := M_14.below hb15
    have D_15 := D_14.below hb15
    have E_15 := E_14.below hb15
    have H_15 := TH.below hb15
    clear hb15 hk14 A_14 U_14 M_14 D_14 E_14 TH
    go_upto_region 20 with fail
    go_cut [162] (fun c wx => c = .bool false ∧ Hid (Below w15.heap.size w15 wx))
    case first =>
      cases c1 with
      | false =>
        clear A_15 U_15 M_15 D_15 E_15 H_15 TK
        go_wp2_with fail
        go_meet
        case rel => exact ⟨rfl, Below.refl _ _⟩
      | true =>
        cases c5 with
        | false =>
          clear A_15 U_15 M_15 D_15 E_15 H_15 TK
          go_wp2_with fail
          go_meet
          case rel => exact ⟨rfl, Below.refl _ _⟩
        | true =>
          cases c6 with
          | false =>
            clear A_15 U_15 M_15 D_15 E_15 H_15 TK
            go_wp2_with fail
            go_meet
            case rel => exact ⟨rfl, Below.refl _ _⟩
          | true =>
            cases c7 with
            | false =>
              clear A_15 U_15 M_15 D_15 E_15 H_15 TK
              go_wp2_with fail
              go_meet
              case rel => exact ⟨rfl, Below.refl _ _⟩
            | true =>
              cases c8 with
              | false =>
                clear A_15 U_15 M_15 D_15 E_15 H_15 TK
                go_wp2_with fail
                go_meet
                case rel => exact ⟨rfl, Below.refl _ _⟩
              | true =>
                have hs : zsB (whereOut ⟨tk, tn, ⟨lk, la, lb, ln⟩, ⟨rk, ra, rb, rn⟩⟩ (addOut za zb)) (addOut (whereOut ⟨tk, tn, ⟨lk, la, lb, ln⟩, ⟨rk, ra, rb, rn⟩⟩ za) (whereOut ⟨tk, tn, ⟨lk, la, lb, ln⟩, ⟨rk, ra, rb, rn⟩⟩ zb)) = true := by rw [where_sum Hc1.out.symm Hc5.out.symm Hc6.out.symm Hc7.out.symm Hc8.out.symm]; exact zsB_refl _
                go_wp2_with fail
                refine (zsame_val hs H_15 TK).mono ?_
                rintro e wz ⟨rfl, hbz⟩
                clear A_15 U_15 M_15 D_15 E_15 H_15 TK
                go_wp2_with fail
                go_meet
                case rel => exact ⟨rfl, hbz⟩
    case rest =>
      obtain ⟨rfl, hcb⟩ := hcut
      have hb16 := hcb.out
      have hk16 := below_then hk15 hb16
      have A_16 := A_15.below hb16
      have U_16 := U_15.below hb16
      have M_16 := M_15.below hb16
      have D_16 := D_15.below hb16
      have E_16 := E_15.below hb16
      have H_16 := H_15.below hb16
      have K_16 := TK.below hb16
      clear hb16 hcb hk15 A_15 U_15 M_15 D_15 E_15 H_15 TK
      clear D_16
      clear E_16
      clear H_16
      clear K_16
      go_wp2_with fail
      refine (neg_val rfl A_16).mono ?_
      rintro e w17 ⟨vn, rfl, TN, hb17⟩
      have hk17 := below_then hk16 hb17
      have A_17 := A_16.below hb17
      have U_17 := U_16.below hb17
      have M_17 := M_16.below hb17
      clear hb17 hk16 A_16 U_16 M_16
      go_wp2_with fail
      refine (map_val Hc9.out.symm rfl (HP.out.below hk17) TN U_17).mono ?_
      rintro e w18 ⟨vq, rfl, TQ, hb18⟩
      have hk18 := below_then hk17 hb18
      have A_18 := A_17.below hb18
      have U_18 := U_17.below hb18
      have M_18 := M_17.below hb18
      have N_18 := TN.below hb18
      clear hb18 hk17 A_17 U_17 M_17 TN
      clear N_18
      clear U_18
      obtain ⟨aa, ac, rfl⟩ := A_18.shape
      cases c0 with
      | false =>
        clear A_18 M_18 TQ
        go_wp2
        go_ret
        exact ⟨rfl, hk18⟩
      | true =>
        by_cases ha0 : za.length = 0
        · have hz0 : ((za.length : Int) == 0) = true := by rw [ha0]; rfl
          clear A_18 M_18 TQ
          go_wp2
          go_ret
          exact ⟨rfl, hk18⟩
        · have hz1 : ((za.length : Int) == 0) = false := by simp [ha0]
          obtain ⟨f1, f2⟩ := map_neg Hc0.out.symm
          obtain rfl : c9 = true := Hc9.out.trans f1
          have hs : zsB (mapOut cs (if zOkB za then negZ za else [])) (if zOkB (mapOut cs za) then negZ (mapOut cs za) else []) = true := by rw [f2]; exact zsB_refl _
          clear f1 f2
          go_wp2_with fail
          refine (neg_val rfl M_18).mono ?_
          rintro e w19 ⟨vr, rfl, TR, hb19⟩
          have hk19 := below_then hk18 hb19
          have A_19 := A_18.below hb19
          have M_19 := M_18.below hb19
          have Q_19 := TQ.below hb19
          clear hb19 hk18 A_18 M_18 TQ
          go_wp2_with fail
          refine (zsame_val hs Q_19 TR).mono ?_
          rintro e w20 ⟨rfl, hb20⟩
          have hk20 := below_then hk19 hb20
          have A_20 := A_19.below hb20
          have M_20 := M_19.below hb20
          have Q_20 := Q_19.below hb20
          have R_20 := TR.below hb20
          clear hb20 hk19 A_19 M_19 Q_19 TR
          clear A_20 M_20 Q_20 R_20
          clear hs
          go_wp2
          go_ret
          exact ⟨rfl, hk20⟩

end Go.Proofs.YtehfpceghdaajaaGreatDoor
