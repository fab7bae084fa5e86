/-
  Texts of this claim put behind one another: WhereMath, WhereImpl, WhereSpec, DrawW, WhereFacts, JoinMath, MapMem, JoinHave, Joined, SpecJoin, JoinOf, JoinFacts, WhereLin, WhereJoinFacts, DrawJoin2, LawFnWhereJoin.
-/
import Derived.Test.YtehfpceghdaajaaGreatDoorPutMath
import Derived.Test.YtehfpceghdaajaaGreatDoorCellMath
import Derived.Test.YtehfpceghdaajaaGreatDoorTestImpl
import Derived.Test.YtehfpceghdaajaaGreatDoorStep
import Derived.Test.YtehfpceghdaajaaGreatDoorZOk
import Derived.Test.YtehfpceghdaajaaGreatDoorTestSpec2
import Derived.Test.YtehfpceghdaajaaGreatDoorCellBox
import Derived.Test.YtehfpceghdaajaaGreatDoorPutWalk
import Derived.Test.YtehfpceghdaajaaGreatDoorZNeg
import Derived.Test.YtehfpceghdaajaaGreatDoorDrawZ2
import Derived.Test.YtehfpceghdaajaaGreatDoorDrawT
import Derived.Test.YtehfpceghdaajaaGreatDoorZVals
import Derived.Test.YtehfpceghdaajaaGreatDoorGatherMath
import Derived.Maps.Own
import Derived.Maps.Views
import Derived.Maps.Keyed
import Derived.Test.YtehfpceghdaajaaGreatDoorMerge
import Derived.Test.YtehfpceghdaajaaGreatDoorJoin
import Derived.Carry
import Derived.Test.YtehfpceghdaajaaGreatDoorAddSpec
import Derived.Deep.RegionHeld
import Derived.Test.YtehfpceghdaajaaGreatDoorGather
import Derived.Test.YtehfpceghdaajaaGreatDoorZFacts
import Derived.Test.YtehfpceghdaajaaGreatDoorLaidSent

/-
  Plain facts on items of which something is so: those of which a test is so, in their order; put one by one into a list they come out so.
-/
namespace Go.Proofs.YtehfpceghdaajaaGreatDoor

def whereZ (t : Tst) (zs : List It) : List It := zs.filter fun p => t.valB p.1
def whereOk (t : Tst) (zs : List It) : Bool := zOkB zs && zs.all fun p => t.toldB p.1
def whereOut (t : Tst) (zs : List It) : List It := if whereOk t zs then whereZ t zs else []

theorem whereZ_len (t : Tst) (zs : List It) : (whereZ t zs).length ≤ zs.length := List.length_filter_le _ _
theorem whereZ_take {t : Tst} {zs : List It} {k : Nat} (hk : k < zs.length) : whereZ t (zs.take (k + 1)) = whereZ t (zs.take k) ++ (if t.valB (zs.getD k ([], 0)).1 then [((zs.getD k ([], 0)).1, (zs.getD k ([], 0)).2)] else []) := by
  unfold whereZ
  rw [List.take_succ_eq_append_getElem hk, List.filter_append]
  congr 1
  simp [List.getD, hk]
  split <;> simp_all
theorem told_take {t : Tst} {zs : List It} {k : Nat} (hk : k < zs.length) (h : (zs.take k).all (fun p => t.toldB p.1) = true) (hx : t.toldB (zs.getD k ([], 0)).1 = true) : (zs.take (k + 1)).all (fun p => t.toldB p.1) = true := by
  rw [List.take_succ_eq_append_getElem hk, List.all_append, h]
  simp [List.getD, hk] at hx ⊢
  exact hx
theorem where_no {t : Tst} {zs : List It} {k : Nat} (hk : k < zs.length) (hx : t.toldB (zs.getD k ([], 0)).1 = false) : whereOk t zs = false := by
  unfold whereOk
  have : (zs.all fun p => t.toldB p.1) = false := by
    rw [List.all_eq_false]
    refine ⟨zs[k], by simp, ?_⟩
    simp [List.getD, hk] at hx
    simp [hx]
  rw [this, Bool.and_false]
theorem putZ_last {zs : List It} {r : List Int} {y : Int} (h : ∀ p ∈ zs, ordL p.1 r = -1) (hy : y ≠ 0) : putZ zs r y = zs ++ [(r, y)] := by
  rw [putZ_new (k := zs.length) hy (fun j hj => h _ (by simp [List.getD, hj])) (Nat.le_refl _) (fun hc => by omega)]
  simp
theorem srt_ahead {zs : List It} (h : Srt zs) {k : Nat} (hk : k < zs.length) : ∀ p ∈ zs.take k, ordL p.1 (zs.getD k ([], 0)).1 = -1 := by
  intro p hp
  obtain ⟨j, hj, rfl⟩ := List.mem_iff_getElem.1 hp
  rw [List.length_take] at hj
  rw [List.getElem_take]
  have := List.pairwise_iff_getElem.1 h j k (by omega) hk (by omega)
  simpa [List.getD, hk] using this
theorem where_put {t : Tst} {zs : List It} (hok : zOkB zs = true) {k : Nat} (hk : k < zs.length) (hx : t.valB (zs.getD k ([], 0)).1 = true) : putZ (whereZ t (zs.take k)) (zs.getD k ([], 0)).1 (zs.getD k ([], 0)).2 = whereZ t (zs.take (k + 1)) := by
  rw [whereZ_take hk, if_pos hx]
  refine putZ_last (fun p hp => srt_ahead (zOk_srt hok) hk p (List.mem_filter.1 hp).1) (zOk_nz hok _ ?_)
  simp [List.getD, hk]
theorem whereZ_mem {t : Tst} {zs : List It} {p : It} (h : p ∈ whereZ t zs) : p ∈ zs := (List.mem_filter.1 h).1
end Go.Proofs.YtehfpceghdaajaaGreatDoor

/-
  The contract of impl.WhereOf: the items of which a test is so, in memory of their own; none, and false, of items that are not right or of which it can not be told. Condition: the error of chapter 3 reads as it was laid.
-/
namespace Go.Proofs.YtehfpceghdaajaaGreatDoor
set_option maxRecDepth 100000
open Go.RowKit

theorem box_cells {w : World} {g : Nat} {t : Tst} (h : Box10 w g t) : (w.cell? ⟨g, 0, none⟩ = some (.int .i64 t.k) ∧ w.cell? ⟨g, 1, none⟩ = some (.bool t.no) ∧ w.cell? ⟨g, 2, none⟩ = some (.int .i64 t.l.k) ∧ w.cell? ⟨g, 3, none⟩ = some (.int .i64 t.l.a) ∧ w.cell? ⟨g, 4, none⟩ = some (.int .i64 t.l.b)) ∧ (w.cell? ⟨g, 5, none⟩ = some (.int .i64 t.l.n) ∧ w.cell? ⟨g, 6, none⟩ = some (.int .i64 t.r.k) ∧ w.cell? ⟨g, 7, none⟩ = some (.int .i64 t.r.a) ∧ w.cell? ⟨g, 8, none⟩ = some (.int .i64 t.r.b) ∧ w.cell? ⟨g, 9, none⟩ = some (.int .i64 t.r.n)) := by
  obtain ⟨_, c0, c1, ⟨c2, c3, c4, c5⟩, c6, c7, c8, c9⟩ := h
  exact ⟨⟨c0, c1, c2, c3, c4⟩, c5, c6, c7, c8, c9⟩

set_option maxHeartbeats 4000000 in
theorem implWhere_any (v : Value) (zs : List It) (t : Tst) (w : World) (p : Addr) (hs : Sent w p) (h : ItemsAt w v zs) :
    Calls Tryz.prog 11 #[v, .agg #[.int .i64 t.k, .bool t.no, .int .i64 t.l.k, .int .i64 t.l.a, .int .i64 t.l.b, .int .i64 t.l.n, .int .i64 t.r.k, .int .i64 t.r.a, .int .i64 t.r.b, .int .i64 t.r.n]] w fun e w' => ∃ v', e = .returned (.tuple #[v', .bool (whereOk t zs)]) ∧ OwnZ w' w.heap.size w'.heap.size v' (whereOut t zs) ∧ Below w.heap.size w w' := by
  obtain ⟨i0, hi, hz0, hz1, hz2⟩ := info_parts infoItem
  cases hok : zOkB zs with
  | false =>
    have e0 : whereOk t zs = false := by simp [whereOk, hok]
    have e1 : whereOut t zs = [] := by simp [whereOut, e0]
    rw [e0, e1]
    go_enter Tryz.func11, Tryz.ntmps11
    go_wp2_with fail
    refine (implZOk_any v zs _ (h.below (bel_alloc _))).mono ?_
    rw [hok]
    rintro e w1 ⟨rfl, hb1⟩
    have HK : Hid (Below w.heap.size w w1) := bel_then (bel_alloc _) hb1
    clear h hb1 e0 e1
    go_wp2
    go_ret2
    exact ⟨_, rfl, nil_ownZ _ _, HK.out⟩
  | true =>
    have h100 := zOk_le hok
    have hrow : ∀ k, k < zs.length → (zs.getD k ([], 0)).1.length ≤ 8796093022208 := fun k hk => by have := rowOk_le (zOk_row hok hk).1; omega
    have HOK : Hid (zOkB zs = true) := hok
    go_enter Tryz.func11, Tryz.ntmps11
    go_wp2_with fail
    refine (implZOk_any v zs _ (h.below (bel_alloc _))).mono ?_
    rw [hok]
    rintro e w1 ⟨rfl, hb1⟩
    have HB1 : Hid (Below w.heap.size w w1) := bel_then (bel_alloc _) hb1
    have X1 : Hid (Box10 w1 w.heap.size t) := (Box10.start w t _).below hb1
    have HS : Hid (Sent w1 p) := hs.below HB1.out
    have h1 := h.below HB1.out
    clear h hb1 hok hs
    rcases h1.cases with ⟨a, cap, rfl, rfl⟩ | ⟨b, off, cap, hpos, hlim, rfl, hbw, hc⟩
    · clear h1 hrow
      go_wp2
      refine wp_loop_rounds 1 ?_
      rw [rounds_succ]
      go_wp2
      go_ret2
      refine ⟨_, rfl, ?_, HB1.out⟩
      have e1 : whereOut t [] = [] := by simp [whereOut, whereZ]
      rw [e1]
      exact nil_ownZ _ _
    · clear h1
      have hsz1 := HB1.out.size
      have hg1 : w.heap.size < w1.heap.size := X1.out.1
      obtain ⟨n, hn⟩ : ∃ n, n = zs.length := ⟨_, rfl⟩
      have HN : Hid (n = zs.length) := hn
      rw [← hn] at hpos hlim hc hrow h100 ⊢
      clear hn
      go_wp2
      go_loopw [6, 16] (fun s i wr => ∃ (k : Nat), k ≤ n ∧ i = .int .i64 k ∧ Hid (OwnZ wr w1.heap.size wr.heap.size s (whereZ t (zs.take k))) ∧ Hid (Below w1.heap.size w1 wr) ∧ Hid ((zs.take k).all (fun p => t.toldB p.1) = true)) (fun _ i _ => n - (intOf i).toNat)
      case atStart => exact ⟨0, Nat.zero_le _, rfl, nil_ownZ _ _, Below.refl _ _, by show _ = true; simp⟩
      case round =>
        obtain ⟨k, hk, rfl, HZ, HW, HA⟩ := hrel
        by_cases hlt : k < n
        · have HB := HW.out
          have hlt' : k < zs.length := by rw [← HN.out]; exact hlt
          obtain ⟨rv, hrv0, hwt0, hix0⟩ := hc k hlt
          have hrv := (HB.cell (p := ⟨b, off + k * 2, none⟩) hbw).trans hrv0
          have hwt := (HB.cell (p := ⟨b, off + k * 2 + 1, none⟩) hbw).trans hwt0
          have hix := hix0.below HB
          have hbr : b < wr.heap.size := Nat.lt_of_lt_of_le hbw HB.size
          have hgr : w.heap.size < wr.heap.size := Nat.lt_of_lt_of_le hg1 HB.size
          have hxl := hrow k hlt
          have hpl : (whereZ t (zs.take k)).length ≤ 100 := by have := whereZ_len t (zs.take k); rw [List.length_take] at this; omega
          have HT : Hid _ := whereZ_take (t := t) hlt'
          have hno := where_no (t := t) hlt'
          have hyes := told_take hlt' HA.out
          obtain ⟨⟨c0, c1, c2, c3, c4⟩, c5, c6, c7, c8, c9⟩ := box_cells (X1.out.below HB)
          clear hrv0 hwt0 hix0 hc hrow
          obtain ⟨q, HP⟩ : ∃ q, Hid (q = zs.getD k ([], 0)) := ⟨_, rfl⟩
          rw [← HP.out] at hix hwt hxl HT hno hyes
          obtain ⟨x, y⟩ := q
          obtain ⟨ra, rn, rc, rfl⟩ := hix.shape
          simp only at hix hwt hxl HT hno hyes
          go_wp2_with fail
          refine (implTestOf_any t _ x _ p ((HS.out.below HB).below (below_alloc _)) (hix.alloc _)).mono ?_
          rintro e w2 ⟨rfl, hb2⟩
          clear c0 c1 c2 c3 c4 c5 c6 c7 c8 c9 hrv hwt
          have hk2 : Below wr.heap.size wr w2 := below_then (below_alloc _) hb2
          have hw2 : w2.heap[wr.heap.size]? = some (.cells #[.slice ra rn rc, .int .i64 y] 54) := at_below (alloc_at _ _) hb2
          have d0 : w2.cell? ⟨wr.heap.size, 0, none⟩ = some (.slice ra rn rc) := by simp [World.cell?, hw2]
          have d1 : w2.cell? ⟨wr.heap.size, 1, none⟩ = some (.int .i64 y) := by simp [World.cell?, hw2]
          have hbr2 : wr.heap.size < w2.heap.size := (Array.getElem?_eq_some_iff.1 hw2).1
          have hix2 : IntsAt w2 (.slice ra rn rc) x := hix.below hk2
          clear hb2 hw2 hix
          cases htold : t.toldB x with
          | false =>
            have HE0 : Hid _ := hno htold
            have HE1 : Hid (whereOut t zs = []) := by show _ = _; simp [whereOut, HE0.out]
            have HK : Hid (Below w.heap.size w w2) := HB1.out.trans ((HB.mono hsz1).trans (hk2.mono (by omega)))
            clear HZ HT hno hyes HW HA htold hk2 HB hix2 d0 d1
            go_wp2
            go_ret2
            rw [HE0.out, HE1.out]
            exact ⟨_, rfl, nil_ownZ _ _, HK.out⟩
          | true =>
            have HA2 : Hid _ := hyes htold
            clear hyes hno htold
            cases hval : t.valB x with
            | true =>
              have HTT : Hid (whereZ t (zs.take (k + 1)) = whereZ t (zs.take k) ++ [(x, y)]) := by show _ = _; have := HT.out; rw [hval] at this; exact this
              have hszw := HB.size
              have hszk := hk2.size
              have Z2 : OwnZ w2.drew w1.heap.size wr.heap.size u6 (whereZ t (zs.take k)) := (HZ.out.keep' hk2).keep' (Below.drew (Below.refl _ _))
              have hixd : IntsAt w2.drew (.slice ra rn rc) x := hix2.below (Below.drew (Below.refl _ _))
              have d1d : w2.drew.cell? ⟨wr.heap.size, 1, none⟩ = some (.int .i64 y) := d1
              have HKd : Hid (Below w1.heap.size w1 w2.drew) := (HB.trans (hk2.mono hszw)).drew
              clear HT HZ HW HA hix2 hval hk2 HB
              go_wp2
              go_region_law (first
                | (go_simp; go_at_call 33; (refine (cloneInts_any _ x _ hixd hxl).mono ?_; rintro e w3 ⟨rv3, rfl, O3, hk3⟩; obtain ⟨ra3, rn3, rc3, rfl⟩ := O3.ints.shape; have d13 := cell_is (p := ⟨wr.heap.size, 1, none⟩) hk3 hbr2 d1d; have hsz3 : w2.heap.size ≤ w3.heap.size := hk3.size; obtain ⟨ps, hpsl, hspW, hprW, hfin⟩ := (Z2.keep' hk3).ready y O3 (by (show _ ≤ w2.drew.heap.size); (show _ ≤ w2.heap.size); omega) (by (show _ ≤ w2.heap.size); omega) (by omega) (by omega); have hpl2 : ps.length ≤ 1048576 := (by omega)))
                | ((refine step_append_pairs rfl (.tmp 30) (.tmp 37) 23 rfl w1.heap.size 54 i0 Tryz.underlying23 hi hz0 hz1 hz2 u6 ps (by simp [Act.eval]) hspW ⟨w3.heap.size, 0, none⟩ 1 1 [(.slice ra3 rn3 rc3, y)] (by simp [Act.eval]) rfl (news_lit _ _ _ _) (fun p hp => by simp at hp; subst hp; exact ⟨_, _, _, rfl⟩) (by simp; omega) (by simp; omega) ?_; intro v4 w4 hown4 hg4)))
              all_goals
                obtain ⟨Z4, B4⟩ := hfin v4 w4 hown4 hg4
                have HK : Hid (Below w1.heap.size w1 w4) := HKd.out.trans ((hk3.mono (by (show _ ≤ w2.heap.size); omega)).trans B4)
                clear hfin hown4 hg4 hspW hprW B4 hk3 HKd Z2 hixd O3
                go_wp2
                go_roundw
                case rel => exact ⟨k + 1, by omega, by go_num, by show OwnZ _ _ _ _ _; rw [HTT.out]; exact Z4, HK.out, HA2.out⟩
                case measure => simp [intOf]; omega
            | false =>
              have HTT : Hid (whereZ t (zs.take (k + 1)) = whereZ t (zs.take k)) := by show _ = _; have := HT.out; rw [hval] at this; simpa using this
              have HZ2 : Hid (OwnZ w2 w1.heap.size w2.heap.size u6 (whereZ t (zs.take k))) := (HZ.out.keep' hk2).wide (Nat.le_refl _) hk2.size (Nat.le_refl _)
              have HK : Hid (Below w1.heap.size w1 w2) := HB.trans (hk2.mono HB.size)
              clear HT HZ HB HW HA hix2 hk2
              go_wp2
              go_roundw
              case rel => exact ⟨k + 1, by omega, by go_num, by show OwnZ _ _ _ _ _; rw [HTT.out]; exact HZ2.out, HK.out, HA2.out⟩
              case measure => simp [intOf]; omega
        · have e : k = n := by omega
          subst e
          clear hc hrow
          go_wp2
          go_ret2
          have hT := HA.out
          have hZ := HZ.out
          rw [HN.out, List.take_length] at hT hZ
          have e0 : whereOk t zs = true := by simp only [whereOk, HOK.out, hT, Bool.and_self]
          have e1 : whereOut t zs = whereZ t zs := by simp [whereOut, e0]
          rw [e0, e1]
          exact ⟨_, rfl, hZ.wide hsz1 (Nat.le_refl _) (Nat.le_refl _), HB1.out.trans (HW.out.mono hsz1)⟩

end Go.Proofs.YtehfpceghdaajaaGreatDoor

/-
  The contract of spec.WhereOf: the items of which a test is so, put one by one into a list; none, and false, of items that are not right or of which it can not be told.
-/
namespace Go.Proofs.YtehfpceghdaajaaGreatDoor
set_option maxRecDepth 100000
open Go.RowKit

theorem where_in {t : Tst} {zs : List It} (hok : zOkB zs = true) (k : Nat) : ∀ j, j < (whereZ t (zs.take k)).length → -4611686018427387904 ≤ ((whereZ t (zs.take k)).getD j ([], 0)).2 ∧ ((whereZ t (zs.take k)).getD j ([], 0)).2 ≤ 4611686018427387903 := by
  intro j hj
  have gm : ∀ (l : List It) (j : Nat), j < l.length → l.getD j ([], 0) ∈ l := fun l j h => by simp [List.getD, h]
  obtain ⟨i, hi, e⟩ := mem_getD (d := ([], 0)) (List.mem_of_mem_take (whereZ_mem (gm _ j hj)))
  have := (wB_in (zOk_row hok hi).2).2
  rw [e] at this
  omega
end Go.Proofs.YtehfpceghdaajaaGreatDoor

/-
  What is drawn for the laws of chapter 5: l5Wide, DrawWhereOf.
-/
namespace Go.Proofs.YtehfpceghdaajaaGreatDoor
open Go.RowKit
set_option linter.unusedVariables false

theorem good_of_few {zs : List It} (hl : (zs.length : Int) ≤ 7) (h : GoodB 200 zs) : GoodZ zs := ⟨by omega, h.up (by omega)⟩
set_option maxRecDepth 100000 in
set_option maxHeartbeats 2000000 in
theorem l5Wide_any (g P : Nat) (w : World) (hP : P ≤ 1099511600000) (h : Rd w g P) :
    Calls Tryz.prog 17 #[.pointer (some ⟨g, 0, none⟩)] w fun e w' =>
      ∃ v, ∃ wd : Int, e = .returned (.tuple #[v, .int .i64 wd]) ∧ (1 ≤ wd ∧ wd ≤ 3) ∧ ∃ zs : List It, GoodZ zs ∧ Drawn w' g v zs ∧ Rd w' g (P + 600) ∧ w.grownBy w' (some g) := by
  go_enter Tryz.func17, Tryz.ntmps17
  go_wp2_with fail
  refine (pick_any g P 3 _ (by omega) (by omega) (by omega) h).mono ?_
  rintro e w1 ⟨n, hn0, hn3, rfl, hrd1, hg1⟩
  clear h
  go_wp2_with fail
  refine (pick_any g _ 20 _ (by omega) (by omega) (by omega) hrd1).mono ?_
  rintro e w2 ⟨q, hq0, hq5, rfl, hrd2, hg2⟩
  have hG2 := grown_trans hg1 hg2
  have hgl : g < w2.heap.size := hrd2.lt
  clear hrd1 hg1 hg2
  by_cases hq : q = 0
  · subst hq
    go_wp2_with fail
    refine (l2Bent_any _ _ _ (by omega) hrd2).mono ?_
    rintro e w3 ⟨v3, rfl, zs, hgz, hd3, hrd3, hg3⟩
    have HG : Hid (w.grownBy w3 (some g)) := grown_trans hG2 hg3
    have HR : Hid (Rd w3 g (P + 600)) := hrd3.le (by omega)
    have HD : Hid (Drawn w3 g v3 zs) := hd3
    have HGZ : Hid (GoodZ zs) := hgz
    clear hd3 hrd3 hg3 hG2 hrd2 hgz
    go_wp2
    go_ret2
    exact ⟨_, _, rfl, ⟨by omega, by omega⟩, zs, HGZ.out, HD.out, HR.out, HG.out⟩
  · have hqf : (q == 0) = false := by simp [hq]
    have hne : ¬ q = 0 := hq
    clear hq
    go_wp2_with fail
    refine (l2Z_any _ _ (1 + n) 7 _ (by omega) (by omega) (by omega) (by omega) (by omega) hrd2).mono ?_
    rintro e w3 ⟨v3, rfl, zs, hlen, hgz, hz3, hrd3, hg3⟩
    have HG : Hid (w.grownBy w3 (some g)) := grown_trans hG2 hg3
    have HR : Hid (Rd w3 g (P + 600)) := hrd3.le (by omega)
    have HD : Hid (Drawn w3 g v3 zs) := hz3.drawn hgl
    have HGZ : Hid (GoodZ zs) := good_of_few hlen hgz
    clear hz3 hrd3 hg3 hG2 hrd2 hgz hlen
    go_wp2
    go_ret2
    exact ⟨_, _, rfl, ⟨by omega, by omega⟩, zs, HGZ.out, HD.out, HR.out, HG.out⟩

theorem sets10w (wk : World) (b : Nat) (v0 v1 v2 v3 v4 v5 v6 v7 v8 v9 : Value) : wk.grownBy ((((((((((wk.setCell ⟨b, 0, none⟩ v0).setCell ⟨b, 1, none⟩ v1).setCell ⟨b, 2, none⟩ v2).setCell ⟨b, 3, none⟩ v3).setCell ⟨b, 4, none⟩ v4).setCell ⟨b, 5, none⟩ v5).setCell ⟨b, 6, none⟩ v6).setCell ⟨b, 7, none⟩ v7).setCell ⟨b, 8, none⟩ v8).setCell ⟨b, 9, none⟩ v9) (some b) := grown_trans (grown_trans (grown_trans (grown_trans (grown_trans (grown_trans (grown_trans (grown_trans (grown_trans (grown_trans (grown_refl _ _) (grown_set _ b 0 v0)) (grown_set _ b 1 v1)) (grown_set _ b 2 v2)) (grown_set _ b 3 v3)) (grown_set _ b 4 v4)) (grown_set _ b 5 v5)) (grown_set _ b 6 v6)) (grown_set _ b 7 v7)) (grown_set _ b 8 v8)) (grown_set _ b 9 v9)
set_option maxRecDepth 100000 in
set_option maxHeartbeats 2000000 in
theorem drawWhereOf_any (a : Option Addr) (len cap : Nat) (bs : List Int) (w : World) (h : IsRow .u8 w a len cap bs) :
    Calls Tryz.prog 6 #[.slice a len cap] w fun e w' =>
      ∃ (v : Value) (t : Tst), e = .returned (.tuple #[v, .agg #[.int .i64 t.k, .bool t.no, .int .i64 t.l.k, .int .i64 t.l.a, .int .i64 t.l.b, .int .i64 t.l.n, .int .i64 t.r.k, .int .i64 t.r.a, .int .i64 t.r.b, .int .i64 t.r.n]]) ∧ t.Low ∧ ∃ zs : List It, GoodZ zs ∧ TailZ w' v zs ∧ Below w.heap.size w w' := by
  go_enter Tryz.func6, Tryz.ntmps6
  go_wp2_with fail
  refine (l12Open_any a len cap bs _ (h.below (bel_alloc _))).mono ?_
  rintro e w1 ⟨rfl, hrd1, hb1⟩
  have z1 := at_below (alloc_at w _) hb1
  have B1 : Hid (Below w.heap.size w w1) := bel_then (bel_alloc _) hb1
  have hs1 := hb1.size
  clear hb1 h
  rw [alloc_size] at hrd1 hs1
  simp only [alloc_size]
  obtain ⟨g, hg⟩ : ∃ g, g = w.heap.size + 1 := ⟨_, rfl⟩
  rw [← hg] at hrd1 hs1 ⊢
  have hgw : w.heap.size < g := by omega
  have HG : Hid (g = w.heap.size + 1) := hg
  clear hg
  go_wp2_with fail
  refine (l5Wide_any g _ _ (by omega) hrd1).mono ?_
  rintro e w2 ⟨v, wd, rfl, ⟨hwd1, hwd2⟩, zs, hgz, hd2, hrd2, hg2⟩
  have z2 := kept_at hg2 z1 (by omega)
  have B2 : Hid (Below w.heap.size w w2) := B1.out.grown hg2 B1.out.size (fun k hk => by simp at hk; omega)
  have HGZ : Hid (GoodZ zs) := hgz
  have HD2 : Hid (Drawn w2 g v zs) := hd2
  clear hg2 hrd1 z1 hgz hd2
  go_wp2_with fail
  refine (l3TestBent_any g _ wd _ hwd1 (by omega) (by omega) hrd2).mono ?_
  rintro e w4 ⟨t0, rfl, hlow, hrd4, hg4⟩
  obtain ⟨tk, tn, ⟨lk, la, lb, ln⟩, ⟨rk, ra, rb, rn⟩⟩ := t0
  have HLOW : Hid (Tst.Low ⟨tk, tn, ⟨lk, la, lb, ln⟩, ⟨rk, ra, rb, rn⟩⟩) := hlow
  simp only
  have z4 := kept_at hg4 z2 (by omega)
  have T4 := HD2.out.next hg4
  have B4 : Hid (Below w.heap.size w w4) := B2.out.grown hg4 B2.out.size (fun k hk => by simp at hk; omega)
  clear hrd2 hrd4 hg4 z2 hlow
  have S := sets10w w4 w.heap.size (.int .i64 tk) (.bool tn) (.int .i64 lk) (.int .i64 la) (.int .i64 lb) (.int .i64 ln) (.int .i64 rk) (.int .i64 ra) (.int .i64 rb) (.int .i64 rn)
  have I5 : TailZ _ v zs := T4 _ (only_at S (by omega))
  have B5 := B4.out.grown S B4.out.size (fun k hk => by simp at hk; omega)
  clear S T4
  obtain ⟨⟨c0, c1, c2, c3, c4, c5, c6, c7, c8, c9⟩, f0, f1, f2, f3, f4, f5, f6, f7, f8, f9⟩ := ten_cells z4
  clear z4
  go_wp2
  exact bodyPost_ret (v := .tuple #[v, .agg #[.int .i64 tk, .bool tn, .int .i64 lk, .int .i64 la, .int .i64 lb, .int .i64 ln, .int .i64 rk, .int .i64 ra, .int .i64 rb, .int .i64 rn]]) (by simp [results, Tryz.results6, go_sem, c0, c1, c2, c3, c4, c5, c6, c7, c8, c9]) rfl ⟨_, ⟨tk, tn, ⟨lk, la, lb, ln⟩, ⟨rk, ra, rb, rn⟩⟩, rfl, HLOW.out, zs, HGZ.out, I5, B5⟩

end Go.Proofs.YtehfpceghdaajaaGreatDoor

/-
  Plain facts on items of which something is so, and the contracts of WhereOf at a told answer.
-/
namespace Go.Proofs.YtehfpceghdaajaaGreatDoor
set_option maxRecDepth 100000
open Go.RowKit

theorem zOk_mkW {zs : List It} (hl : zs.length ≤ 100) (hp : ∀ p ∈ zs, rowOkB p.1 = true ∧ wB p.2 = true) (hs : Srt zs) : zOkB zs = true := by
  refine zOk_all hl fun j hj => ?_
  unfold Srt at hs
  rw [List.pairwise_iff_getElem] at hs
  have h1 := hp _ (getZ_mem hj)
  unfold stepB
  rw [h1.1, h1.2]
  by_cases h0 : j = 0
  · simp [h0]
  · have := hs (j - 1) j (by omega) hj (by omega)
    have hjl : j - 1 < zs.length := by omega
    have h2 : rowLessB (zs.getD (j - 1) ([], 0)).1 (zs.getD j ([], 0)).1 = true := less_of (by simpa [List.getD, hj, hjl] using this)
    rw [h2]
    simp
theorem zOk_filterW {zs : List It} (f : It → Bool) (h : zOkB zs = true) : zOkB (zs.filter f) = true :=
  zOk_mkW (by have := zOk_le h; have := List.length_filter_le f zs; omega) (fun p hp => by
    obtain ⟨j, hj, e⟩ := mem_getD (d := ([], 0)) (List.mem_filter.1 hp).1
    rw [← e]
    exact zOk_row h hj) (List.Pairwise.sublist List.filter_sublist (zOk_srt h))
theorem getZ_where (f : List Int → Bool) (q : List Int) : ∀ zs : List It, getZ (zs.filter fun p => f p.1) q = if f q then getZ zs q else 0
  | [] => by simp [getZ_nil]
  | p :: zs => by
    have ih := getZ_where f q zs
    rw [List.filter_cons]
    by_cases hp : f p.1 = true
    · rw [if_pos hp, getZ_cons, getZ_cons, ih]
      by_cases e : p.1 = q
      · rw [if_pos e, if_pos e, if_pos (by rw [← e]; exact hp)]
      · rw [if_neg e, if_neg e]
    · rw [if_neg hp, ih, getZ_cons]
      by_cases e : p.1 = q
      · rw [if_pos e, if_neg (by rw [← e]; exact hp), if_neg (by rw [← e]; exact hp)]
      · rw [if_neg e]
theorem getZ_in_row {zs : List It} {q : List Int} (h : getZ zs q ≠ 0) : ∃ p ∈ zs, p.1 = q := by
  apply Classical.byContradiction
  intro hc
  exact h (getZ_zero fun p hp e => hc ⟨p, hp, e⟩)
theorem getZ_self : ∀ {zs : List It}, Srt zs → ∀ p ∈ zs, getZ zs p.1 = p.2
  | [], _, p, hp => by simp at hp
  | x :: zs, h, p, hp => by
    rw [getZ_cons]
    rcases List.mem_cons.1 hp with rfl | hp
    · simp
    · rw [if_neg (ordL_ne ((Srt.cons.1 h).1 p hp))]
      exact getZ_self (Srt.cons.1 h).2 p hp

theorem where_true {t : Tst} {zs : List It} (h : whereOk t zs = true) : zOkB zs = true ∧ (∀ p ∈ zs, t.toldB p.1 = true) ∧ whereOut t zs = whereZ t zs := by
  have h0 := h
  unfold whereOk at h
  rw [Bool.and_eq_true, List.all_eq_true] at h
  exact ⟨h.1, h.2, by unfold whereOut; rw [h0]; rfl⟩
theorem where_mk {t : Tst} {zs : List It} (h : zOkB zs = true) (ht : ∀ p ∈ zs, t.toldB p.1 = true) : whereOk t zs = true ∧ whereOut t zs = whereZ t zs := by
  have : whereOk t zs = true := by unfold whereOk; rw [h, Bool.true_and, List.all_eq_true]; exact ht
  exact ⟨this, by unfold whereOut; rw [this]; rfl⟩
theorem where_false {t : Tst} {zs : List It} (h : whereOk t zs = false) : whereOut t zs = [] := by unfold whereOut; rw [h]; rfl
theorem whereZ_ok {t : Tst} {zs : List It} (h : zOkB zs = true) : zOkB (whereZ t zs) = true := zOk_filterW _ h
theorem told_not (t : Tst) (r : List Int) : Tst.toldB { t with no := !t.no } r = t.toldB r := rfl
theorem val_not {t : Tst} {r : List Int} (h : t.toldB r = true) : Tst.valB { t with no := !t.no } r = !t.valB r := by
  unfold Tst.valB
  rw [told_not, h, Bool.true_and, Bool.true_and]
  unfold Tst.holdsB
  cases t.no <;> simp
/-- Those of which it is so and those of which it is not are all. -/
theorem where_parts {t : Tst} {zs : List It} (h : whereOk t zs = true) : addZ (whereZ t zs) (whereZ { t with no := !t.no } zs) = zs := by
  obtain ⟨hz, ht, _⟩ := where_true h
  have s1 := zOk_srt (whereZ_ok (t := t) hz)
  have s2 := zOk_srt (whereZ_ok (t := { t with no := !t.no }) hz)
  refine canon (srt_add s1) (nz_add (zOk_nz (whereZ_ok hz))) (zOk_srt hz) (zOk_nz hz) fun q => ?_
  rw [getZ_add s1 s2]
  unfold whereZ
  rw [getZ_where, getZ_where]
  by_cases hq : getZ zs q = 0
  · rw [hq]; simp
  · obtain ⟨p, hp, rfl⟩ := getZ_in_row hq
    rw [val_not (ht p hp)]
    cases t.valB p.1 <;> simp
theorem where_twice (t : Tst) (zs : List It) : whereZ t (whereZ t zs) = whereZ t zs := by
  unfold whereZ
  rw [List.filter_filter]
  congr 1
  funext p
  simp
theorem where_swap (t u : Tst) (zs : List It) : whereZ t (whereZ u zs) = whereZ u (whereZ t zs) := by
  unfold whereZ
  rw [List.filter_filter, List.filter_filter]
  congr 1
  funext p
  exact Bool.and_comm _ _
theorem where_again {t : Tst} {zs : List It} (h : whereOk t zs = true) : whereOk t (whereZ t zs) = true ∧ whereOut t (whereZ t zs) = whereZ t zs := by
  obtain ⟨hz, ht, _⟩ := where_true h
  have := where_mk (whereZ_ok (t := t) hz) (fun p hp => ht p (whereZ_mem hp))
  exact ⟨this.1, this.2.trans (where_twice t zs)⟩
theorem where_row {t : Tst} {zs : List It} (h : whereOk t zs = true) {j : Nat} (hj : j < (whereZ t zs).length) : t.valB ((whereZ t zs).getD j ([], 0)).1 = true ∧ t.toldB ((whereZ t zs).getD j ([], 0)).1 = true ∧ getZ zs ((whereZ t zs).getD j ([], 0)).1 = ((whereZ t zs).getD j ([], 0)).2 := by
  obtain ⟨hz, ht, _⟩ := where_true h
  have hm : (whereZ t zs).getD j ([], 0) ∈ whereZ t zs := getZ_mem hj
  have h1 := List.mem_filter.1 hm
  exact ⟨h1.2, ht _ h1.1, getZ_self (zOk_srt hz) _ h1.1⟩

theorem TailZ.atW {w : World} {a : Option Addr} {n cap : Nat} {zs : List It} (h : TailZ w (.slice a n cap) zs) {k : Nat} (hk : k < zs.length) :
    ∃ b off xa xn xc, a = some ⟨b, off, none⟩ ∧ b < w.heap.size ∧ w.cell? ⟨b, off + k * 2, none⟩ = some (.slice xa xn xc) ∧ w.cell? ⟨b, off + k * 2 + 1, none⟩ = some (.int .i64 (zs.getD k ([], 0)).2) ∧ IntsAt w (.slice xa xn xc) (zs.getD k ([], 0)).1 := by
  obtain ⟨_, a', c', e, _, hc⟩ := h.items
  obtain ⟨b, off, rfl, hb, hcell⟩ := hc (fun e => by rw [e] at hk; simp at hk)
  obtain ⟨rv, c0, c1, c2⟩ := hcell k hk
  obtain ⟨xa, xn, xc, rfl⟩ := c2.shape
  simp at e
  exact ⟨b, off, xa, xn, xc, e.1, hb, c0, c1, c2⟩

theorem where_val {v : Value} {a os : List It} {t : Tst} {c : Bool} {w : World} {p : Addr} (hc : whereOk t a = c) (ho : whereOut t a = os) (hs : Sent w p) (h : TailZ w v a) :
    Calls Tryz.prog 11 #[v, .agg #[.int .i64 t.k, .bool t.no, .int .i64 t.l.k, .int .i64 t.l.a, .int .i64 t.l.b, .int .i64 t.l.n, .int .i64 t.r.k, .int .i64 t.r.a, .int .i64 t.r.b, .int .i64 t.r.n]] w fun e w' => ∃ v', e = .returned (.tuple #[v', .bool c]) ∧ TailZ w' v' os ∧ Below w.heap.size w w' := by
  subst hc ho
  refine (implWhere_any v a t w p hs h.items).mono ?_
  rintro e w' ⟨v', he, hz, hb⟩
  exact ⟨v', he, hz.tail, hb⟩

end Go.Proofs.YtehfpceghdaajaaGreatDoor

/-
  Plain facts on items that are joined: for each row of the one and each row of the other that have the same in a cell each, both cells, both weights multiplied.
-/
namespace Go.Proofs.YtehfpceghdaajaaGreatDoor

def hasAt (x : Int) (zs : List It) : Bool := zs.all fun p => decide (0 ≤ x ∧ x < (p.1.length : Int))
def placeB (x : Int) : Bool := decide (0 ≤ x ∧ x < 6)
def canB (a b : List It) (x y : Int) : Bool := placeB x && placeB y && (decide (a.length = 0) || decide (b.length = 0) || (hasAt x a && hasAt y b))
def meetZ (b : List It) (y : Nat) (c : Int) : List It := b.filter fun q => decide (q.1.getD y 0 = c)
def withZ (p : It) (qs : List It) : List It := qs.map fun q => (p.1 ++ q.1, p.2 * q.2)
def joinZ (a b : List It) (x y : Nat) : List It := a.flatMap fun p => withZ p (meetZ b y (p.1.getD x 0))
def joinOk (a b : List It) (x y : Int) : Bool := zOkB a && zOkB b && canB a b x y && zOkB (addZ [] (joinZ a b x.toNat y.toNat))
def joinOut (a b : List It) (x y : Int) : List It := if joinOk a b x y then addZ [] (joinZ a b x.toNat y.toNat) else []

theorem joinZ_nil (b : List It) (x y : Nat) : joinZ [] b x y = [] := rfl
theorem joinZ_take {a : List It} (b : List It) (x y : Nat) {k : Nat} (hk : k < a.length) : joinZ (a.take (k + 1)) b x y = joinZ (a.take k) b x y ++ withZ (a.getD k ([], 0)) (meetZ b y ((a.getD k ([], 0)).1.getD x 0)) := by
  unfold joinZ
  rw [List.take_succ_eq_append_getElem hk, List.flatMap_append]
  simp [List.getD, hk]
theorem meetZ_take {b : List It} (y : Nat) (c : Int) {k : Nat} (hk : k < b.length) : meetZ (b.take (k + 1)) y c = meetZ (b.take k) y c ++ (if (b.getD k ([], 0)).1.getD y 0 = c then [b.getD k ([], 0)] else []) := by
  unfold meetZ
  rw [List.take_succ_eq_append_getElem hk, List.filter_append]
  congr 1
  have e : b.getD k ([], 0) = b[k] := by simp [List.getD, hk]
  rw [e, List.filter_cons, List.filter_nil]
  by_cases h : b[k].1.getD y 0 = c
  · rw [if_pos h, if_pos (by simpa using h)]
  · rw [if_neg h, if_neg (by simpa using h)]
theorem withZ_append (p : It) (qs rs : List It) : withZ p (qs ++ rs) = withZ p qs ++ withZ p rs := by simp [withZ]
theorem withZ_take {p : It} {qs : List It} {j : Nat} (hj : j < qs.length) : withZ p (qs.take (j + 1)) = withZ p (qs.take j) ++ [(p.1 ++ (qs.getD j ([], 0)).1, p.2 * (qs.getD j ([], 0)).2)] := by
  unfold withZ
  rw [List.take_succ_eq_append_getElem hj, List.map_append]
  simp [List.getD, hj]
theorem meetZ_len (b : List It) (y : Nat) (c : Int) : (meetZ b y c).length ≤ b.length := List.length_filter_le _ _
theorem withZ_len (p : It) (qs : List It) : (withZ p qs).length = qs.length := by simp [withZ]
theorem joinZ_len (b : List It) (x y : Nat) : ∀ a : List It, (joinZ a b x y).length ≤ a.length * b.length
  | [] => by simp [joinZ]
  | p :: a => by
    have ih := joinZ_len b x y a
    have h2 := meetZ_len b y (p.1.getD x 0)
    unfold joinZ at *
    rw [List.flatMap_cons, List.length_append, withZ_len, List.length_cons, Nat.add_mul]
    omega
theorem mem_with {p z : It} {qs : List It} (h : z ∈ withZ p qs) : ∃ q ∈ qs, z = (p.1 ++ q.1, p.2 * q.2) := by
  obtain ⟨q, hq, rfl⟩ := List.mem_map.1 h
  exact ⟨q, hq, rfl⟩
theorem mem_join {a b : List It} {x y : Nat} {z : It} (h : z ∈ joinZ a b x y) : ∃ p ∈ a, ∃ q ∈ b, z = (p.1 ++ q.1, p.2 * q.2) := by
  unfold joinZ at h
  obtain ⟨p, hp, hz⟩ := List.mem_flatMap.1 h
  obtain ⟨q, hq, e⟩ := mem_with hz
  exact ⟨p, hp, q, (List.mem_filter.1 hq).1, e⟩
theorem zOk_in {zs : List It} (h : zOkB zs = true) {p : It} (hp : p ∈ zs) : p.1.length ≤ 6 ∧ -10000 ≤ p.2 ∧ p.2 ≤ 10000 := by
  refine ⟨zOk_mem h hp, ?_⟩
  obtain ⟨j, hj, e⟩ := mem_getD (d := ([], 0)) hp
  have := (wB_in (zOk_row h hj).2).2
  rw [e] at this
  exact this
theorem mul_in {a b A B : Int} (ha : -A ≤ a ∧ a ≤ A) (hb : -B ≤ b ∧ b ≤ B) (hA : 0 ≤ A) (hB : 0 ≤ B) : -(A * B) ≤ a * b ∧ a * b ≤ A * B := by
  have h1 : a.natAbs ≤ A.natAbs := by omega
  have h2 : b.natAbs ≤ B.natAbs := by omega
  have h3 : (a * b).natAbs ≤ (A * B).natAbs := by
    rw [Int.natAbs_mul, Int.natAbs_mul]
    exact Nat.mul_le_mul h1 h2
  have h4 : 0 ≤ A * B := Int.mul_nonneg hA hB
  omega
theorem join_in {a b : List It} (ha : zOkB a = true) (hb : zOkB b = true) {x y : Nat} {z : It} (h : z ∈ joinZ a b x y) : z.1.length ≤ 12 ∧ -100000000 ≤ z.2 ∧ z.2 ≤ 100000000 := by
  obtain ⟨p, hp, q, hq, rfl⟩ := mem_join h
  have h1 := zOk_in ha hp
  have h2 := zOk_in hb hq
  have h3 := mul_in (A := 10000) (B := 10000) h1.2 h2.2 (by omega) (by omega)
  refine ⟨?_, by show -100000000 ≤ p.2 * q.2; omega, by show p.2 * q.2 ≤ 100000000; omega⟩
  show (p.1 ++ q.1).length ≤ 12
  rw [List.length_append]
  omega
theorem join_few {a b : List It} (ha : zOkB a = true) (hb : zOkB b = true) (x y : Nat) : (joinZ a b x y).length ≤ 10000 := by
  have h1 := joinZ_len b x y a
  have h2 := zOk_le ha
  have h3 := zOk_le hb
  have h4 : a.length * b.length ≤ 100 * 100 := Nat.mul_le_mul h2 h3
  omega
theorem can_at {a b : List It} {x y : Int} (h : canB a b x y = true) (ha : 0 < a.length) (hb : 0 < b.length) : (0 ≤ x ∧ x < 6) ∧ (0 ≤ y ∧ y < 6) ∧ (∀ k, k < a.length → x < ((a.getD k ([], 0)).1.length : Int)) ∧ ∀ k, k < b.length → y < ((b.getD k ([], 0)).1.length : Int) := by
  unfold canB placeB at h
  simp only [Bool.and_eq_true, Bool.or_eq_true, decide_eq_true_eq] at h
  obtain ⟨⟨hx, hy⟩, h3⟩ := h
  have h4 : hasAt x a = true ∧ hasAt y b = true := by
    rcases h3 with (h3 | h3) | h3
    · omega
    · omega
    · exact h3
  have at_of : ∀ {zs : List It} {x : Int}, hasAt x zs = true → ∀ k, k < zs.length → x < ((zs.getD k ([], 0)).1.length : Int) := fun {zs x} h k hk => by
    unfold hasAt at h
    rw [List.all_eq_true] at h
    have := h (zs.getD k ([], 0)) (by simp [List.getD, hk])
    simpa using (of_decide_eq_true this).2
  exact ⟨hx, hy, at_of h4.1, at_of h4.2⟩

end Go.Proofs.YtehfpceghdaajaaGreatDoor

/-
  A map from a number to items of the call's own: for each key the triples that lie in its slice; no two keys' slices lie in one block; what is looked up, and what a store behind an append leaves.
-/
namespace Go.Proofs.YtehfpceghdaajaaGreatDoor
set_option maxRecDepth 100000
open Go.RowKit Go.Maps

/-- An element is held as it is. -/
def heldV (v : Value) : Option (DataW Value × List MemPlace) := some (.held v, [])
def cKey (c : Int) : Lit := .int .i64 c

def GMap (w : World) (t : TypeId) (mb lo n : Nat) (G : Int → List Rw) : Prop :=
  ∃ (D : DataW Value) (V : Int → Value), w.ownsMap Tryz.prog 3 heldV mb n D ∧ (∀ c, D.atKey (cKey c) (.held vn) = .held (V c)) ∧ (∀ c, Spine w lo w.heap.size (V c) (prs (G c))) ∧
    (∀ c d, c ≠ d → (V c).ownBlock = none ∨ (V c).ownBlock ≠ (V d).ownBlock) ∧ mb < lo ∧ Tryz.prog.underlying t = some (.map 3 23)

theorem isMap_of {w : World} {mb n : Nat} {D : DataW Value} (h : w.ownsMap Tryz.prog 3 heldV mb n D) : IsMap D := by
  obtain ⟨es, _, _, _, _, hD⟩ := h
  exact ⟨_, hD⟩
theorem spine_nil (w : World) (lo : Nat) : Spine w lo w.heap.size vn (prs []) := ⟨⟨rfl, .inl ⟨rfl, rfl⟩⟩, fun k hk => by simp [vn, Value.ownBlock] at hk, by simp [prs], Nat.le_refl _⟩
theorem gmap_made (w : World) (t : TypeId) (ht : Tryz.prog.underlying t = some (.map 3 23)) : GMap (w.alloc (.map #[] 0)) t w.heap.size (w.heap.size + 1) 0 (fun _ => []) :=
  ⟨.map [], fun _ => vn, World.ownsMap_made w _ _ _, fun _ => rfl, fun _ => spine_nil _ _, fun _ _ _ => .inl rfl, Nat.lt_succ_self _, ht⟩
theorem GMap.grown {w w' : World} {t : TypeId} {mb lo n : Nat} {G : Int → List Rw} (h : GMap w t mb lo n G) (hb : Below w.heap.size w w') : GMap w' t mb lo n G := by
  obtain ⟨D, V, h1, h2, h3, h4, h5, h6⟩ := h
  have hg : w.grownBy w' none := ⟨hb.os, hb.tape, hb.output, hb.size, fun k hk _ => hb.block k hk⟩
  exact ⟨D, V, h1.kept hg (by simp), h2, fun c => ((h3 c).keep' hb).wide (Nat.le_refl _) hb.size (Nat.le_refl _), h4, h5, h6⟩
theorem wf_key {c : Int} (h : -9223372036854775808 ≤ c ∧ c ≤ 9223372036854775807) : (Lit.int .i64 c).wf = true := by
  have h1 : IntKind.i64.min = -9223372036854775808 := by decide
  have h2 : IntKind.i64.max = 9223372036854775807 := by decide
  simp [Lit.wf, h1, h2]
  omega

/-- What is looked up at a key, and the way back behind an append. -/
theorem GMap.look {w : World} {t : TypeId} {mb lo n : Nat} {G : Int → List Rw} (h : GMap w t mb lo n G) {c : Int} (hc : -9223372036854775808 ≤ c ∧ c ≤ 9223372036854775807) (hn : n < maxLen) :
    ∃ v, (∀ w', w.grownBy w' none → (Instr.lookup t (.map (some mb)) (.int .i64 c) false).run Tryz.prog w' = .ok v w') ∧ Spine w lo w.heap.size v (prs (G c)) ∧
      ∀ (w1 : World) (v' : Value) (L : List Rw), w.grownBy w1 v.ownBlock → Spine w1 lo w1.heap.size v' (prs L) → (v'.ownBlock = v.ownBlock ∨ ∃ g, v'.ownBlock = some g ∧ w.heap.size ≤ g) →
        ∃ w2, (Instr.mapUpdate t (.map (some mb)) (.int .i64 c) v').run Tryz.prog w1 = .ok () w2 ∧ GMap w2 t mb lo (n + 1) (fun d => if d = c then L else G d) ∧ w1.grownBy w2 (some mb) := by
  obtain ⟨D, V, h1, h2, h3, h4, h5, h6⟩ := h
  have K : Keyed Tryz.prog 3 := int_keyed Tryz.underlying3
  have hk : keyOf Tryz.prog 3 (.int .i64 c) = some (cKey c) := keyOf_int_mk Tryz.underlying3 (wf_key hc)
  refine ⟨V c, fun w' hg => ?_, h3 c, fun w1 v' L hg hs hloc => ?_⟩
  · have h1' := h1.kept hg (by simp)
    obtain ⟨v, ps, hrun, hv⟩ := h1'.lookup K h6 (z := vn) (Tryz.zeroValue23 _) (zd := .held vn) (zp := []) rfl hk
    have : v = V c := by
      simp only [heldV, h2 c] at hv
      injection hv with hv
      injection hv with hv _
      injection hv
    rw [hrun, this]
  · have hne : some mb ≠ (V c).ownBlock := fun e => by
      have := ((h3 c).1.lt mb e.symm).1
      omega
    have h1' := h1.kept hg hne
    obtain ⟨w2, hrun, hm2, hg2⟩ := h1'.update K h6 hn hk (val := v') (d := .held v') (ps := []) rfl
    have own_lo : ∀ {u : Value} {ps : List (Value × Int)} {W : World}, Spine W lo W.heap.size u ps → u.ownBlock = none ∨ u.ownBlock ≠ some mb := fun {u ps W} ho => by
      cases hu : u.ownBlock with
      | none => exact .inl rfl
      | some g =>
        refine .inr (fun e => ?_)
        have := (ho.1.lt g hu).1
        simp at e
        omega
    have old_new : ∀ d, d ≠ c → (V d).ownBlock = none ∨ (V d).ownBlock ≠ v'.ownBlock := fun d hd => by
      rcases hloc with e | ⟨g, e, hgl⟩
      · rw [e]; exact h4 d c hd
      · cases hd' : (V d).ownBlock with
        | none => exact .inl rfl
        | some gd =>
          refine .inr (fun e1 => ?_)
          have := (h3 d).2.1 gd hd'
          rw [e] at e1
          simp at e1
          omega
    refine ⟨w2, hrun, ⟨D.put (cKey c) (.held v'), fun d => if d = c then v' else V d, hm2, fun d => ?_, fun d => ?_, fun d f hdf => ?_, h5, h6⟩, hg2⟩
    · show _ = DataW.held (if d = c then v' else V d)
      by_cases hd : d = c
      · subst hd
        rw [if_pos rfl]
        exact atKey_put_same (k := cKey d) (isMap_of h1) (by simp [cKey, WideAt.IsKeyLit]) _ _
      · rw [if_neg hd, ← h2 d]
        exact atKey_put_other (fun e => hd (by simpa [cKey] using e)) _ _
    · by_cases hd : d = c
      · simp only [if_pos hd]
        exact (hs.kept hg2 (own_lo hs)).wide (Nat.le_refl _) hg2.size (Nat.le_refl _)
      · simp only [if_neg hd]
        have s1 : Spine w1 lo w1.heap.size (V d) (prs (G d)) := ((h3 d).kept hg (h4 d c hd)).wide (Nat.le_refl _) hg.size (Nat.le_refl _)
        exact (s1.kept hg2 (own_lo s1)).wide (Nat.le_refl _) hg2.size (Nat.le_refl _)
    · by_cases hd : d = c
      · by_cases hf : f = c
        · exact absurd (hd.trans hf.symm) hdf
        · simp only [if_pos hd, if_neg hf]
          rcases old_new f hf with e | e
          · cases hv : v'.ownBlock with
            | none => exact .inl rfl
            | some g => exact .inr (fun e2 => by rw [e] at e2; cases e2)
          · exact .inr (fun e2 => e e2.symm)
      · by_cases hf : f = c
        · simp only [if_neg hd, if_pos hf]
          exact old_new d hd
        · simp only [if_neg hd, if_neg hf]
          exact h4 d f hdf

/-- A store into a map, as one step of a region that draws its order. -/
theorem step_mapUpdate {P : Program} {ops : Array Oper} {o : Oper} {a : Act} {w : World} {K : Act → World → Prop} {Q : Exit → Act → World → Prop} {E : Prop}
    (hg : o.guard = none) (m x v : Operand) (t : TypeId) (hop : o.op = Op.mapUpdate t m x v) (mv xv vv : Value) (hm : a.eval m = mv) (hx : a.eval x = xv) (hv : a.eval v = vv)
    {w2 : World} (hrun : (Instr.mapUpdate t mv xv vv).run P w = .ok () w2) (hK : K (a.put o.dst undef) w2) :
    if Region.wanted o (yielded ops a.tmps) = true then Oper.wp P o a w K Q else E := by
  have hw : Region.wanted o (yielded ops a.tmps) = true := by simp [Region.wanted, hg]
  rw [if_pos hw]
  unfold Oper.wp
  simp [execOp, hop, hm, hx, hv, hrun, Result.andThen]
  exact hK

end Go.Proofs.YtehfpceghdaajaaGreatDoor

/-
  The contracts of impl.isPlace, impl.allHave (with slices.IndexFunc and slices.ContainsFunc at its closure) and impl.canJoin.
-/
namespace Go.Proofs.YtehfpceghdaajaaGreatDoor
set_option maxRecDepth 100000
open Go.RowKit
attribute [local go_sem ↓] Go.wp_at_zero Go.wp_at_succ

theorem retb {b c : Bool} (h : b = c) : Ending.returned (.bool b) = Ending.returned (.bool c) := by rw [h]
theorem isPlace_any (n wide : Int) (w : World) : Calls Tryz.prog 64 #[.int .i64 n, .int .i64 wide] w fun e w' => e = .returned (.bool (decide (0 ≤ n ∧ n < wide))) ∧ w' = w := by
  by_cases h1 : 0 ≤ n
  · by_cases h2 : n < wide
    · go_enter Tryz.func64, Tryz.ntmps64
      go_wp2
      go_ret
      exact ⟨retb (by simp; omega), rfl⟩
    · go_enter Tryz.func64, Tryz.ntmps64
      go_wp2
      go_ret
      exact ⟨retb (by simp; omega), rfl⟩
  · go_enter Tryz.func64, Tryz.ntmps64
    go_wp2
    go_ret
    exact ⟨retb (by simp; omega), rfl⟩

set_option maxHeartbeats 1000000 in
theorem lacks_any (a : Option Addr) (n c : Nat) (y x : Int) (g : Nat) (w : World) (hg : g < w.heap.size) (hx : w.cell? ⟨g, 0, none⟩ = some (.int .i64 x)) :
    Calls Tryz.prog 83 #[.agg #[.slice a n c, .int .i64 y], .pointer (some ⟨g, 0, none⟩)] w fun e w' => e = .returned (.bool (!decide (0 ≤ x ∧ x < (n : Int)))) ∧ Below w.heap.size w w' := by
  obtain ⟨d, HD⟩ : ∃ d, Hid (d = decide (0 ≤ x ∧ x < (n : Int))) := ⟨_, rfl⟩
  rw [← HD.out]
  go_enter Tryz.func83, Tryz.ntmps83
  go_wp2_with fail
  refine (isPlace_any x n _).mono ?_
  rw [← HD.out]
  rintro e w1 ⟨rfl, rfl⟩
  go_wp2
  go_ret
  exact ⟨rfl, below_alloc _⟩

theorem has_miss {x : Int} {zs : List It} {k : Nat} (hk : k < zs.length) (h : decide (0 ≤ x ∧ x < ((zs.getD k ([], 0)).1.length : Int)) = false) : hasAt x zs = false := by
  unfold hasAt
  rw [List.all_eq_false]
  exact ⟨zs.getD k ([], 0), by simp [List.getD, hk], by simpa using h⟩
theorem has_all {x : Int} {zs : List It} (h : ∀ k, k < zs.length → decide (0 ≤ x ∧ x < ((zs.getD k ([], 0)).1.length : Int)) = true) : hasAt x zs = true := by
  unfold hasAt
  rw [List.all_eq_true]
  intro p hp
  obtain ⟨j, hj, e⟩ := mem_getD (d := ([], 0)) hp
  rw [← e]
  exact h j hj

set_option maxHeartbeats 4000000 in
theorem indexHave_any (v : Value) (zs : List It) (x : Int) (g : Nat) (w : World) (h : ItemsAt w v zs) (hg : g < w.heap.size) (hx : w.cell? ⟨g, 0, none⟩ = some (.int .i64 x)) :
    Calls Tryz.prog 75 #[v, .func (.func 83) #[] #[.pointer (some ⟨g, 0, none⟩)]] w fun e w' => ∃ i : Int, e = .returned (.int .i64 i) ∧ ((i = -1 ∧ hasAt x zs = true) ∨ (0 ≤ i ∧ hasAt x zs = false)) ∧ Below w.heap.size w w' := by
  rcases h.cases with ⟨a, cap, rfl, rfl⟩ | ⟨b, off, cap, hpos, hlim, rfl, hbw, hc⟩
  · clear h
    go_enter Tryz.func75, Tryz.ntmps75
    go_wp2
    refine wp_loop_rounds 1 ?_
    rw [rounds_succ]
    go_wp2
    go_ret
    exact ⟨-1, rfl, .inl ⟨rfl, rfl⟩, Below.refl _ _⟩
  · clear h
    obtain ⟨n, hn⟩ : ∃ n, n = zs.length := ⟨_, rfl⟩
    have HN : Hid (n = zs.length) := hn
    rw [← hn] at hpos hlim hc ⊢
    clear hn
    go_enter Tryz.func75, Tryz.ntmps75
    go_wp2
    go_loopw [8] (fun i wr => ∃ k : Nat, k ≤ n ∧ i = .int .i64 k ∧ Hid (∀ j, j < k → decide (0 ≤ x ∧ x < ((zs.getD j ([], 0)).1.length : Int)) = true) ∧ Hid (Below w.heap.size w wr)) (fun i _ => n - (intOf i).toNat)
    case atStart => exact ⟨0, Nat.zero_le _, rfl, fun j hj => by omega, Below.refl _ _⟩
    case round =>
      obtain ⟨k, hk, rfl, HA, HW⟩ := hrel
      by_cases hlt : k < n
      · have HB := HW.out
        have hlt' : k < zs.length := by rw [← HN.out]; exact hlt
        obtain ⟨rv, hrv0, hwt0, hix0⟩ := hc k hlt
        have hrv := (HB.cell (p := ⟨b, off + k * 2, none⟩) hbw).trans hrv0
        have hwt := (HB.cell (p := ⟨b, off + k * 2 + 1, none⟩) hbw).trans hwt0
        have hxw := (HB.cell (p := ⟨g, 0, none⟩) hg).trans hx
        have hgw : g < wr.heap.size := Nat.lt_of_lt_of_le hg HB.size
        obtain ⟨_, ra, rc, rfl, _⟩ := hix0
        have hmiss := has_miss (x := x) hlt'
        obtain ⟨m, HM⟩ : ∃ m, Hid (m = (zs.getD k ([], 0)).1.length) := ⟨_, rfl⟩
        obtain ⟨y, HY⟩ : ∃ y, Hid (y = (zs.getD k ([], 0)).2) := ⟨_, rfl⟩
        rw [← HM.out] at hrv hmiss
        rw [← HY.out] at hwt
        clear hrv0 hwt0 hc
        obtain ⟨d, HD⟩ : ∃ d, Hid (d = decide (0 ≤ x ∧ x < (m : Int))) := ⟨_, rfl⟩
        rw [← HD.out] at hmiss
        go_wp2_with fail
        refine (lacks_any ra m rc y x g _ hgw hxw).mono ?_
        rw [← HD.out]
        rintro e w2 ⟨rfl, hb2⟩
        have HK : Hid (Below w.heap.size w w2) := below_then HB hb2
        clear hb2 hrv hwt hxw HB
        cases hd : d with
        | false =>
          have HF : Hid (hasAt x zs = false) := hmiss hd
          subst hd
          clear hmiss
          go_wp2
          go_ret
          exact ⟨k, rfl, .inr ⟨by omega, HF.out⟩, HK.out⟩
        | true =>
          have HA2 : Hid (∀ j, j < k + 1 → decide (0 ≤ x ∧ x < ((zs.getD j ([], 0)).1.length : Int)) = true) := fun j hj => by
            rcases Nat.lt_succ_iff_lt_or_eq.1 hj with h | h
            · exact HA.out j h
            · rw [h, ← HM.out, ← HD.out, hd]
          subst hd
          clear hmiss
          go_wp2
          go_roundw
          case rel => exact ⟨k + 1, by omega, by go_num, HA2.out, HK.out⟩
          case measure => simp [intOf]; omega
      · have e : k = n := by omega
        subst e
        clear hc
        go_wp2
        go_ret
        exact ⟨-1, rfl, .inl ⟨rfl, has_all (fun j hj => HA.out j (by rw [HN.out]; exact hj))⟩, HW.out⟩

set_option maxHeartbeats 1000000 in
theorem allHave_any (v : Value) (zs : List It) (x : Int) (w : World) (h : ItemsAt w v zs) :
    Calls Tryz.prog 65 #[v, .int .i64 x] w fun e w' => e = .returned (.bool (hasAt x zs)) ∧ Below w.heap.size w w' := by
  have hA : ItemsAt (w.alloc (.cells #[.int .i64 x] 3)) v zs := h.below (below_alloc _)
  have hcon := indexHave_any v zs x w.heap.size (w.alloc (.cells #[.int .i64 x] 3)) hA (by simp) (by simp [go_sem])
  clear h hA
  have hcon2 : Calls Tryz.prog 82 #[v, .func (.func 83) #[] #[.pointer (some ⟨w.heap.size, 0, none⟩)]] (w.alloc (.cells #[.int .i64 x] 3)) fun e w' => e = .returned (.bool (!hasAt x zs)) ∧ Below w.heap.size w w' := by
    go_enter Tryz.func82, Tryz.ntmps82
    go_wp2_with fail
    refine hcon.mono ?_
    rintro e w1 ⟨i, rfl, hi, hb1⟩
    have HK : Hid (Below w.heap.size w w1) := below_then (below_alloc _) hb1
    clear hb1
    rcases hi with ⟨rfl, hh⟩ | ⟨hi0, hh⟩
    · have HH : Hid (hasAt x zs = true) := hh
      clear hh
      go_wp2
      go_ret
      exact ⟨by rw [HH.out]; rfl, HK.out⟩
    · have HH : Hid (hasAt x zs = false) := hh
      clear hh
      go_wp2
      go_ret
      exact ⟨by rw [HH.out]; rfl, HK.out⟩
  clear hcon
  obtain ⟨d, HD⟩ : ∃ d, Hid (d = hasAt x zs) := ⟨_, rfl⟩
  rw [← HD.out] at hcon2 ⊢
  go_enter Tryz.func65, Tryz.ntmps65
  go_wp2_with fail
  refine hcon2.mono ?_
  rintro e w1 ⟨rfl, hb1⟩
  have HK : Hid (Below w.heap.size w w1) := hb1
  clear hb1 hcon2
  go_wp2
  go_ret
  exact ⟨by simp, HK.out⟩

set_option maxHeartbeats 2000000 in
theorem canJoin_any (v u : Value) (a b : List It) (x y : Int) (w : World) (h : ItemsAt w v a) (h2 : ItemsAt w u b) :
    Calls Tryz.prog 35 #[v, u, .int .i64 x, .int .i64 y] w fun e w' => e = .returned (.bool (canB a b x y)) ∧ Below w.heap.size w w' := by
  have H1 : Hid (ItemsAt w v a) := h
  have H2 : Hid (ItemsAt w u b) := h2
  obtain ⟨va, vc, rfl⟩ : ∃ va vc, v = .slice va a.length vc := by obtain ⟨_, va, vc, hv, _⟩ := h; exact ⟨va, vc, hv⟩
  obtain ⟨ua, uc, rfl⟩ : ∃ ua uc, u = .slice ua b.length uc := by obtain ⟨_, ua, uc, hu, _⟩ := h2; exact ⟨ua, uc, hu⟩
  clear h h2
  obtain ⟨c, HC⟩ : ∃ c, Hid (c = canB a b x y) := ⟨_, rfl⟩
  rw [← HC.out]
  obtain ⟨n, HN⟩ : ∃ n, Hid (n = a.length) := ⟨_, rfl⟩
  obtain ⟨m, HM⟩ : ∃ m, Hid (m = b.length) := ⟨_, rfl⟩
  rw [← HN.out, ← HM.out]
  rw [← HN.out] at H1
  rw [← HM.out] at H2
  obtain ⟨d1, HD1⟩ : ∃ d, Hid (d = decide (0 ≤ x ∧ x < 6)) := ⟨_, rfl⟩
  obtain ⟨d2, HD2⟩ : ∃ d, Hid (d = decide (0 ≤ y ∧ y < 6)) := ⟨_, rfl⟩
  have HCC : Hid (c = (d1 && d2 && (decide (n = 0) || decide (m = 0) || (hasAt x a && hasAt y b)))) := by
    show _ = _
    rw [HC.out, HD1.out, HD2.out, HN.out, HM.out]
    rfl
  clear HC
  go_enter Tryz.func35, Tryz.ntmps35
  go_wp2_with fail
  refine (isPlace_any x 6 _).mono ?_
  rw [← HD1.out]
  rintro e w1 ⟨rfl, rfl⟩
  cases h1 : d1 with
  | false =>
    have hc : c = false := by rw [HCC.out, h1]; rfl
    subst h1 hc
    go_wp2
    go_ret
    exact ⟨rfl, Below.refl _ _⟩
  | true =>
    subst h1
    go_wp2_with fail
    refine (isPlace_any y 6 _).mono ?_
    rw [← HD2.out]
    rintro e w1 ⟨rfl, rfl⟩
    cases h2 : d2 with
    | false =>
      have hc : c = false := by rw [HCC.out, h2]; rfl
      subst h2 hc
      go_wp2
      go_ret
      exact ⟨rfl, Below.refl _ _⟩
    | true =>
      subst h2
      by_cases hn : n = 0
      · have hc : c = true := by rw [HCC.out]; simp [hn]
        subst hc hn
        go_wp2
        go_ret
        exact ⟨rfl, Below.refl _ _⟩
      · by_cases hm : m = 0
        · have hc : c = true := by rw [HCC.out]; simp [hm]
          subst hc hm
          have hnf : ((n : Int) == 0) = false := by simp; omega
          go_wp2
          go_ret
          exact ⟨rfl, Below.refl _ _⟩
        · have hcc : c = (hasAt x a && hasAt y b) := by rw [HCC.out]; simp [hn, hm]
          have hnf : ((n : Int) == 0) = false := by simp; omega
          have hmf : ((m : Int) == 0) = false := by simp; omega
          have HCD : Hid (c = (hasAt x a && hasAt y b)) := hcc
          clear hcc
          go_wp2_with fail
          refine (allHave_any _ a x _ H1.out).mono ?_
          rintro e w2 ⟨rfl, hb2⟩
          cases h3 : hasAt x a with
          | false =>
            have hc : c = false := by rw [HCD.out, h3]; rfl
            subst hc
            go_wp2
            go_ret
            exact ⟨rfl, hb2⟩
          | true =>
            have hc : hasAt y b = c := by rw [HCD.out, h3]; rfl
            go_wp2_with fail
            refine (allHave_any _ b y _ (H2.out.below hb2)).mono ?_
            rw [hc]
            rintro e w3 ⟨rfl, hb3⟩
            have HK : Hid (Below w1.heap.size w1 w3) := below_then hb2 hb3
            clear hb2 hb3
            go_wp2
            go_ret
            exact ⟨rfl, HK.out⟩

end Go.Proofs.YtehfpceghdaajaaGreatDoor

/-
  The contract of impl.joined: rows of two lists that have the same in a cell each, looked up in a map by that cell, in memory of their own.
-/
namespace Go.Proofs.YtehfpceghdaajaaGreatDoor
set_option maxRecDepth 100000
open Go.RowKit
attribute [local go_sem ↓] Go.wp_at_zero Go.wp_at_succ

def grpR (l : List Rw) (y : Nat) (c : Int) : List Rw := l.filter fun r => decide (r.2.1.getD y 0 = c)
theorem its_grp (l : List Rw) (y : Nat) (c : Int) : its (grpR l y c) = meetZ (its l) y c := by
  unfold grpR meetZ its
  rw [List.filter_map]
  rfl
theorem grp_take {l : List Rw} (y : Nat) {k : Nat} (hk : k < l.length) : (fun c => grpR (l.take (k + 1)) y c) = fun d => if d = (l.getD k (vn, ([], 0))).2.1.getD y 0 then grpR (l.take k) y ((l.getD k (vn, ([], 0))).2.1.getD y 0) ++ [l.getD k (vn, ([], 0))] else grpR (l.take k) y d := by
  funext d
  have e : l.getD k (vn, ([], 0)) = l[k] := by simp [List.getD, hk]
  rw [e]
  unfold grpR
  rw [List.take_succ_eq_append_getElem hk, List.filter_append, List.filter_cons, List.filter_nil]
  by_cases h : d = l[k].2.1.getD y 0
  · rw [if_pos h, if_pos (by simp [h]), h]
  · rw [if_neg h, if_neg (by simpa using fun e => h e.symm), List.append_nil]
theorem grp_len (l : List Rw) (y : Nat) (c : Int) : (grpR l y c).length ≤ l.length := List.length_filter_le _ _
theorem mapType : Tryz.prog.underlying 90 = some (.map 3 23) := Tryz.underlying90
theorem row_at {w : World} {v : Value} {xs : List Int} (h : IntsAt w v xs) {j : Nat} (hj : j < xs.length) : ∃ b off cap, v = .slice (some ⟨b, off, none⟩) xs.length cap ∧ b < w.heap.size ∧ w.cell? ⟨b, off + j, none⟩ = some (.int .i64 (xs.getD j 0)) := by
  obtain ⟨_, a, cap, rfl, _, hc⟩ := h
  obtain ⟨b, off, rfl, hb, hcell⟩ := hc (fun e => by rw [e] at hj; simp at hj)
  exact ⟨b, off, cap, rfl, hb, hcell j hj⟩

theorem grown_cell {w w' : World} {row : Option Nat} {p : Addr} {u : Value} (hg : w.grownBy w' row) (hp : p.block < w.heap.size) (hne : some p.block ≠ row) (hv : w.cell? p = some u) : w'.cell? p = some u := (World.cell?_of_block (hg.block p.block hp hne)).trans hv
/-- What an append to a looked-up slice and the store behind it leave. -/
theorem GMap.put {w w1 : World} {t : TypeId} {mb lo n : Nat} {G : Int → List Rw} (h : GMap w t mb lo n G) (hb1 : Below w.heap.size w w1) {c : Int} (hc : -9223372036854775808 ≤ c ∧ c ≤ 9223372036854775807) (hn : n < maxLen) (xv : Value) (x : List Int) (y : Int) (hs : ∃ a n c, xv = Value.slice a n c) (hlo : lo ≤ w.heap.size) (hlen : (G c).length ≤ 1048576) :
    ∃ v, (∀ w', w.grownBy w' none → (Instr.lookup t (.map (some mb)) (.int .i64 c) false).run Tryz.prog w' = .ok v w') ∧ (∀ g, v.ownBlock = some g → lo ≤ g ∧ g < w.heap.size) ∧
      (w1.alloc (.cells #[xv, .int .i64 y] 54)).ownsRow lo 54 2 v (prs (G c)).length (cells2 (prs (G c))) ∧ PairsAt (w1.alloc (.cells #[xv, .int .i64 y] 54)) (.slice (some ⟨w1.heap.size, 0, none⟩) 1 1) [(xv, y)] ∧
      ∀ v' w', w'.ownsRow lo 54 2 v' (prs (G c) ++ [(xv, y)]).length (cells2 (prs (G c) ++ [(xv, y)])) → (w1.alloc (.cells #[xv, .int .i64 y] 54)).grownBy w' v.ownBlock → (v'.ownBlock = v.ownBlock ∨ v'.ownBlock = some (w1.alloc (.cells #[xv, .int .i64 y] 54)).heap.size) →
        ∃ w2, (Instr.mapUpdate t (.map (some mb)) (.int .i64 c) v').run Tryz.prog w' = .ok () w2 ∧ GMap w2 t mb lo (n + 1) (fun d => if d = c then G c ++ [(xv, (x, y))] else G d) ∧ Below mb w1 w2 ∧ w'.grownBy w2 (some mb) := by
  have hmb : mb < lo := by obtain ⟨_, _, _, _, _, _, h5, _⟩ := h; exact h5
  obtain ⟨v, hrun, S, back⟩ := h.look hc hn
  have hga : w.grownBy (w1.alloc (.cells #[xv, .int .i64 y] 54)) v.ownBlock := grown_trans ⟨hb1.os, hb1.tape, hb1.output, hb1.size, fun k hk _ => hb1.block k hk⟩ (World.grownBy_alloc _ _ _)
  obtain ⟨r1, r2, r3⟩ := merge_ready (xv := xv) y (S.keep' hb1) hs (Nat.le_trans hlo hb1.size) (by omega)
  refine ⟨v, hrun, fun g hg => S.1.lt g hg, r1, r2, fun v' w' hown hg hat => ?_⟩
  obtain ⟨S3, B3⟩ := r3 v' w' x hown hg
  have hloc : v'.ownBlock = v.ownBlock ∨ ∃ g, v'.ownBlock = some g ∧ w.heap.size ≤ g := by
    rcases hat with e | e
    · exact .inl e
    · exact .inr ⟨_, e, by have := hb1.size; simp; omega⟩
  obtain ⟨w2, hr2, G2, hg2⟩ := back w' v' (G c ++ [(xv, (x, y))]) (grown_trans hga hg) S3 hloc
  refine ⟨w2, hr2, G2, ?_, hg2⟩
  exact (B3.mono (by omega)).trans ⟨hg2.os, hg2.tape, hg2.output, hg2.size, fun k hk => hg2.block k (by have := B3.size; have := hb1.size; omega) (fun e => by simp at e; omega)⟩

set_option maxHeartbeats 16000000 in
theorem joined_some (v u : Value) (a b : List It) (x y : Nat) (w : World) (h : ItemsAt w v a) (h2 : ItemsAt w u b) (hpa : 0 < a.length) (hpb : 0 < b.length) (ha : a.length ≤ 100) (hb : b.length ≤ 100) (hx : ∀ k, k < a.length → x < (a.getD k ([], 0)).1.length) (hy : ∀ k, k < b.length → y < (b.getD k ([], 0)).1.length)
    (hla : ∀ p ∈ a, p.1.length ≤ 6 ∧ -10000 ≤ p.2 ∧ p.2 ≤ 10000) (hlb : ∀ p ∈ b, p.1.length ≤ 6 ∧ -10000 ≤ p.2 ∧ p.2 ≤ 10000) (hca : ∀ k, k < a.length → -9223372036854775808 ≤ (a.getD k ([], 0)).1.getD x 0 ∧ (a.getD k ([], 0)).1.getD x 0 ≤ 9223372036854775807) (hcb : ∀ k, k < b.length → -9223372036854775808 ≤ (b.getD k ([], 0)).1.getD y 0 ∧ (b.getD k ([], 0)).1.getD y 0 ≤ 9223372036854775807) :
    Calls Tryz.prog 36 #[v, u, .int .i64 x, .int .i64 y] w fun e w' => ∃ v', e = .returned v' ∧ OwnZ w' w.heap.size w'.heap.size v' (joinZ a b x y) ∧ Below w.heap.size w w' := by
  obtain ⟨i0, hi0, hz0, hz1, hz2⟩ := info_parts infoItem
  obtain ⟨la, ea, PA, RA⟩ := h.opened
  obtain ⟨lb, eb, PB, RB⟩ := h2.opened
  have hna : la.length = a.length := by rw [ea, its_length]
  have hnb : lb.length = b.length := by rw [eb, its_length]
  obtain ⟨hpla, hpsa, aa, ac, rfl, _, hca'⟩ := PA
  obtain ⟨hplb, hpsb, ba, bc, rfl, _, hcb'⟩ := PB
  rw [prs_length, hna] at hpla hca' ⊢
  rw [prs_length, hnb] at hplb hcb' ⊢
  obtain ⟨ab, aoff, rfl, habw, hacell⟩ := hca' (by intro e; have h5 := prs_length la; rw [e] at h5; simp at h5; omega)
  obtain ⟨bb, boff, rfl, hbbw, hbcell⟩ := hcb' (by intro e; have h5 := prs_length lb; rw [e] at h5; simp at h5; omega)
  obtain ⟨n, hn⟩ : ∃ n, n = a.length := ⟨_, rfl⟩
  obtain ⟨m, hm⟩ : ∃ m, m = b.length := ⟨_, rfl⟩
  rw [← hn] at hpa ha hx hca hna hpla hacell ⊢
  rw [← hm] at hpb hb hy hcb hnb hplb hbcell ⊢
  have HN : Hid (n = a.length) := hn
  have HM : Hid (m = b.length) := hm
  have HA : Hid (a = its la) := ea
  have HB : Hid (b = its lb) := eb
  have hnf : ((n : Int) == 0) = false := by simp; omega
  have hmf : ((m : Int) == 0) = false := by simp; omega
  have HMADE : Hid (GMap (w.alloc (.map #[] 0)) 90 w.heap.size (w.heap.size + 1) 0 (fun c => grpR (lb.take 0) y c)) := gmap_made w _ mapType
  clear hn hm h h2 hca' hcb' hpsa hpsb
  have hmm := @run_makeMap Tryz.prog
  go_enter Tryz.func36, Tryz.ntmps36
  go_wp2
  clear hmm
  go_loopw [28] (fun i wr => ∃ k : Nat, k ≤ m ∧ i = .int .i64 k ∧ Hid (GMap wr 90 w.heap.size (w.heap.size + 1) k (fun c => grpR (lb.take k) y c)) ∧ Hid (Below w.heap.size w wr) ∧ w.heap.size + 1 ≤ wr.heap.size) (fun i _ => m - (intOf i).toNat)
  case atStart => exact ⟨0, Nat.zero_le _, rfl, HMADE.out, below_alloc _, by simp⟩
  case round =>
    obtain ⟨k, hk, rfl, HG, HW, hws⟩ := hrel
    clear HMADE
    by_cases hlt : k < m
    · have hk' : k < lb.length := by omega
      have HBW := HW.out
      obtain ⟨c0, c1⟩ := hbcell k hlt
      rw [prs_getD hk'] at c0 c1
      have e1 : b.getD k ([], 0) = (lb.getD k (vn, ([], 0))).2 := by have := its_getD hk'; rw [← HB.out] at this; exact this
      have hyk := hy k hlt
      have hck := hcb k hlt
      rw [e1] at hyk hck
      have hix0 := RB (lb.getD k (vn, ([], 0))) (by simp [List.getD, hk'])
      have HT : Hid _ := grp_take (l := lb) y hk'
      obtain ⟨r, HR⟩ : ∃ r, Hid (r = lb.getD k (vn, ([], 0))) := ⟨_, rfl⟩
      rw [← HR.out] at c0 c1 hyk hck hix0 HT
      obtain ⟨rv, rx, ry⟩ := r
      simp only at c0 c1 hyk hck hix0 HT
      have hix := hix0.below HBW
      obtain ⟨rb, roff, rcap, rfl, hrbw, hcy0⟩ := row_at hix0 hyk
      have hcy := (HBW.cell (p := ⟨rb, roff + y, none⟩) hrbw).trans hcy0
      have hrb : rb < wr.heap.size := Nat.lt_of_lt_of_le hrbw HBW.size
      have g0 := (HBW.cell (p := ⟨bb, boff + k * 2, none⟩) hbbw).trans c0
      have g1 := (HBW.cell (p := ⟨bb, boff + k * 2 + 1, none⟩) hbbw).trans c1
      have hbr : bb < wr.heap.size := Nat.lt_of_lt_of_le hbbw HBW.size
      obtain ⟨wa, hwa⟩ : ∃ wa, wa = wr.alloc (.cells #[.slice (some ⟨rb, roff, none⟩) rx.length rcap, .int .i64 ry] 54) := ⟨_, rfl⟩
      have hba : Below wr.heap.size wr wa := by rw [hwa]; exact below_alloc _
      have hwl : wr.heap.size < wa.heap.size := by rw [hwa]; simp
      have t0 : wa.cell? ⟨wr.heap.size, 0, none⟩ = some (.slice (some ⟨rb, roff, none⟩) rx.length rcap) := by rw [hwa]; simp [go_sem]
      have t1 : wa.cell? ⟨wr.heap.size, 1, none⟩ = some (.int .i64 ry) := by rw [hwa]; simp [go_sem]
      have hcy' := cell_is (p := ⟨rb, roff + y, none⟩) hba hrb hcy
      have hrba : rb < wa.heap.size := by omega
      have hbd : Below wr.heap.size wr wa.drew := hba.drew
      have hgl : (grpR (lb.take k) y (rx.getD y 0)).length ≤ 100 := by have := grp_len (lb.take k) y (rx.getD y 0); rw [List.length_take] at this; omega
      obtain ⟨vc, hlook, hvb, hspW, hprW, hback⟩ := HG.out.put hbd hck (by unfold maxLen; omega) (.slice (some ⟨rb, roff, none⟩) rx.length rcap) rx ry ⟨_, _, _, rfl⟩ hws (by omega)
      have hpl : (prs (grpR (lb.take k) y (rx.getD y 0))).length ≤ 100 := by rw [prs_length]; exact hgl
      have hl1 := hlook wa.drew ⟨hbd.os, hbd.tape, hbd.output, hbd.size, fun k hk _ => hbd.block k hk⟩
      have hl2 : (Instr.lookup 90 (.map (some w.heap.size)) (.int .i64 (rx.getD y 0)) false).run Tryz.prog (wa.alloc (.cells #[.slice (some ⟨rb, roff, none⟩) rx.length rcap, .int .i64 ry] 54)).drew = .ok vc (wa.alloc (.cells #[.slice (some ⟨rb, roff, none⟩) rx.length rcap, .int .i64 ry] 54)).drew := hlook _ (grown_trans ⟨hbd.os, hbd.tape, hbd.output, hbd.size, fun k hk _ => hbd.block k hk⟩ (World.grownBy_alloc wa.drew _ _))
      clear hlook
      have hal : Below wa.drew.heap.size wa.drew (wa.drew.alloc (.cells #[.slice (some ⟨rb, roff, none⟩) rx.length rcap, .int .i64 ry] 54)) := below_alloc _
      have u0 := cell_is (p := ⟨wr.heap.size, 0, none⟩) hal hwl t0
      have u1 := cell_is (p := ⟨rb, roff + y, none⟩) hal hrba hcy'
      have u2 := cell_is (p := ⟨wr.heap.size, 1, none⟩) hal hwl t1
      have hs0 : wr.heap.size < (wa.drew.alloc (.cells #[.slice (some ⟨rb, roff, none⟩) rx.length rcap, .int .i64 ry] 54)).heap.size := Nat.lt_of_lt_of_le hwl hal.size
      have hs1 : rb < (wa.drew.alloc (.cells #[.slice (some ⟨rb, roff, none⟩) rx.length rcap, .int .i64 ry] 54)).heap.size := Nat.lt_of_lt_of_le hrba hal.size
      have hne0 : some wr.heap.size ≠ vc.ownBlock := fun e => by have := hvb _ e.symm; omega
      have hne1 : some rb ≠ vc.ownBlock := fun e => by have := hvb _ e.symm; omega
      have HBA : Hid (Below w.heap.size w wa.drew) := (HBW.trans (hba.mono HBW.size)).drew
      obtain ⟨G0, HG0⟩ : ∃ G0, Hid (G0 = grpR (lb.take k) y (rx.getD y 0)) := ⟨_, rfl⟩
      rw [← HG0.out] at hspW hback hpl HT
      obtain ⟨cc, HCC⟩ : ∃ cc, Hid (cc = rx.getD y 0) := ⟨_, rfl⟩
      rw [← HCC.out] at hcy hcy' hl1 hl2 hback HT u1
      clear c0 c1 hix0 hix hbcell HG HW HBW hba hbd hgl hcy hal hvb
      have Y0 : wa.drew.cell? ⟨wr.heap.size, 0, none⟩ = some (.slice (some ⟨rb, roff, none⟩) rx.length rcap) ∧ wa.drew.cell? ⟨wr.heap.size, 1, none⟩ = some (.int .i64 ry) ∧ wa.drew.cell? ⟨rb, roff + y, none⟩ = some (.int .i64 cc) := ⟨t0, t1, hcy'⟩
      have YB : (wa.drew.alloc (.cells #[.slice (some ⟨rb, roff, none⟩) rx.length rcap, .int .i64 ry] 54)).cell? ⟨wr.heap.size, 0, none⟩ = some (.slice (some ⟨rb, roff, none⟩) rx.length rcap) ∧ (wa.drew.alloc (.cells #[.slice (some ⟨rb, roff, none⟩) rx.length rcap, .int .i64 ry] 54)).cell? ⟨wr.heap.size, 1, none⟩ = some (.int .i64 ry) ∧ (wa.drew.alloc (.cells #[.slice (some ⟨rb, roff, none⟩) rx.length rcap, .int .i64 ry] 54)).cell? ⟨rb, roff + y, none⟩ = some (.int .i64 cc) := ⟨u0, u2, u1⟩
      go_wp2
      rw [← hwa]
      clear hwa g0 g1
      refine wp_region_held_drew (S := (fun w' => w'.cell? ⟨wr.heap.size, 0, none⟩ = some (.slice (some ⟨rb, roff, none⟩) rx.length rcap) ∧ w'.cell? ⟨wr.heap.size, 1, none⟩ = some (.int .i64 ry) ∧ w'.cell? ⟨rb, roff + y, none⟩ = some (.int .i64 cc))) (by kernel_rfl) ?_ (fun hHeld => ?_)
      · (try dsimp only); exact Y0
      refine wpAnyH_take (i := 0) (v := ?_) rfl (by kernel_rfl) (by kernel_rfl) (by kernel_rfl) (fun _ _ _ h => h) (Or.inl ⟨by rfl, ?_⟩) (by assumption) ?_
      rotate_left 1
      · intro w hSw; (try dsimp only at hSw); go_simp; try with_reducible rfl
      simp only [Act.put, List.getElem_toArray, List.getElem_cons_zero, List.setIfInBounds_toArray, List.set_cons_zero, List.set_cons_succ]
      refine wpAnyH_take (i := 1) (v := ?_) rfl (by kernel_rfl) (by kernel_rfl) (by kernel_rfl) (fun _ _ _ h => h) (Or.inl ⟨by rfl, ?_⟩) (by assumption) ?_
      rotate_left 1
      · intro w hSw; (try dsimp only at hSw); go_simp; try with_reducible rfl
      simp only [Act.put, List.getElem_toArray, List.getElem_cons_succ, List.getElem_cons_zero, List.setIfInBounds_toArray, List.set_cons_zero, List.set_cons_succ]
      refine wpAnyH_take (i := 2) (v := ?_) rfl (by kernel_rfl) (by kernel_rfl) (by kernel_rfl) (fun _ _ _ h => h) (Or.inl ⟨by rfl, ?_⟩) (by assumption) ?_
      rotate_left 1
      · intro w hSw; (try dsimp only at hSw); go_simp; try with_reducible rfl
      simp only [Act.put, List.getElem_toArray, List.getElem_cons_succ, List.getElem_cons_zero, List.setIfInBounds_toArray, List.set_cons_zero, List.set_cons_succ]
      refine wpAnyH_take (i := 3) (v := ?_) rfl (by kernel_rfl) (by kernel_rfl) (by kernel_rfl) (fun _ _ _ h => h) (Or.inl ⟨by rfl, ?_⟩) (by assumption) ?_
      rotate_left 1
      · intro w hSw; (try dsimp only at hSw); go_simp; try with_reducible rfl
      simp only [Act.put, List.getElem_toArray, List.getElem_cons_succ, List.getElem_cons_zero, List.setIfInBounds_toArray, List.set_cons_zero, List.set_cons_succ]
      refine wpAnyH_take (i := 4) (v := ?_) rfl (by kernel_rfl) (by kernel_rfl) (by kernel_rfl) (fun _ _ _ h => h) (Or.inl ⟨by rfl, ?_⟩) (by assumption) ?_
      rotate_left 1
      · intro w hSw; (try dsimp only at hSw); go_simp; try with_reducible rfl
      simp only [Act.put, List.getElem_toArray, List.getElem_cons_succ, List.getElem_cons_zero, List.setIfInBounds_toArray, List.set_cons_zero, List.set_cons_succ]
      refine wpAnyH_take (i := 5) (v := ?_) rfl (by kernel_rfl) (by kernel_rfl) (by kernel_rfl) (fun _ _ _ h => h) (Or.inl ⟨by rfl, ?_⟩) (by assumption) ?_
      rotate_left 1
      · intro w hSw; (try dsimp only at hSw); go_simp; try with_reducible rfl
      simp only [Act.put, List.getElem_toArray, List.getElem_cons_succ, List.getElem_cons_zero, List.setIfInBounds_toArray, List.set_cons_zero, List.set_cons_succ]
      refine wpAnyH_take (i := 6) (v := ?_) rfl (by kernel_rfl) (by kernel_rfl) (by kernel_rfl) (fun _ _ _ h => h) (Or.inl ⟨by rfl, ?_⟩) (by assumption) ?_
      rotate_left 1
      · intro w hSw; (try dsimp only at hSw); go_simp; try with_reducible rfl
      simp only [Act.put, List.getElem_toArray, List.getElem_cons_succ, List.getElem_cons_zero, List.setIfInBounds_toArray, List.set_cons_zero, List.set_cons_succ]
      refine wpAnyH_take (i := 7) (v := ?_) rfl (by kernel_rfl) (by kernel_rfl) (by kernel_rfl) (fun _ _ _ h => h) (Or.inl ⟨by rfl, ?_⟩) (by assumption) ?_
      rotate_left 1
      · intro w hSw; (try dsimp only at hSw); go_simp; try with_reducible rfl
      simp only [Act.put, List.getElem_toArray, List.getElem_cons_succ, List.getElem_cons_zero, List.setIfInBounds_toArray, List.set_cons_zero, List.set_cons_succ]
      refine wpAnyH_take (i := 8) (v := ?_) rfl (by kernel_rfl) (by kernel_rfl) (by kernel_rfl) (fun _ _ _ h => h) (Or.inl ⟨by rfl, ?_⟩) (by assumption) ?_
      rotate_left 1
      · intro w hSw; (try dsimp only at hSw); go_simp; try with_reducible rfl
      simp only [Act.put, List.getElem_toArray, List.getElem_cons_succ, List.getElem_cons_zero, List.setIfInBounds_toArray, List.set_cons_zero, List.set_cons_succ]
      refine wpAnyH_take (i := 9) (v := ?_) rfl (by kernel_rfl) (by kernel_rfl) (by kernel_rfl) (fun _ _ _ h => h) (Or.inl ⟨by rfl, ?_⟩) (by assumption) ?_
      rotate_left 1
      · intro w hSw; (try dsimp only at hSw); go_simp; try with_reducible rfl
      simp only [Act.put, List.getElem_toArray, List.getElem_cons_succ, List.getElem_cons_zero, List.setIfInBounds_toArray, List.set_cons_zero, List.set_cons_succ]
      refine wpAnyH_take (i := 10) (v := ?_) rfl (by kernel_rfl) (by kernel_rfl) (by kernel_rfl) (fun _ _ _ h => h) (Or.inl ⟨by rfl, ?_⟩) (by assumption) ?_
      rotate_left 1
      · intro w hSw; (try dsimp only at hSw); go_simp; try with_reducible rfl
      simp only [Act.put, List.getElem_toArray, List.getElem_cons_succ, List.getElem_cons_zero, List.setIfInBounds_toArray, List.set_cons_zero, List.set_cons_succ]
      refine wpAnyH_take (i := 11) (v := ?_) rfl (by kernel_rfl) (by kernel_rfl) (by kernel_rfl) (fun _ _ _ h => h) (Or.inl ⟨by rfl, ?_⟩) (by assumption) ?_
      rotate_left 1
      · intro w hSw; (try dsimp only at hSw); go_simp; try with_reducible rfl
      simp only [Act.put, List.getElem_toArray, List.getElem_cons_succ, List.getElem_cons_zero, List.setIfInBounds_toArray, List.set_cons_zero, List.set_cons_succ]
      refine wpAnyH_take (i := 13) (v := ?_) rfl (by kernel_rfl) (by kernel_rfl) (by kernel_rfl) (fun _ _ _ h => h) (Or.inl ⟨by rfl, ?_⟩) (by assumption) ?_
      rotate_left 1
      · intro w hSw; (try dsimp only at hSw); go_simp; try with_reducible rfl
      simp only [Act.put, List.getElem_toArray, List.getElem_cons_succ, List.getElem_cons_zero, List.setIfInBounds_toArray, List.set_cons_zero, List.set_cons_succ]
      refine wpAnyH_ready (rs := [12, 14]) (by kernel_rfl) (by simp) ?_
      refine AllReadyH.cons rfl (fun K hK => ?_) (AllReadyH.cons rfl (fun K hK => ?_) AllReadyH.nil)
      · go_simp
        refine hK.out _ _ ?_ (fun hHeld => ?_)
        · (try dsimp only); exact Y0
        clear hK K
        try simp only [Act.put, List.getElem_toArray, List.getElem_cons_succ, List.getElem_cons_zero, List.setIfInBounds_toArray, List.set_cons_zero, List.set_cons_succ]
        refine wpAnyH_ready (rs := [14]) (by kernel_rfl) (by simp) ?_
        refine AllReadyH.cons rfl (fun K hK => ?_) AllReadyH.nil
        go_simp
        refine hK.out _ _ ?_ (fun hHeld => ?_)
        · (try dsimp only); exact YB
        clear hK K
        try simp only [Act.put, List.getElem_toArray, List.getElem_cons_succ, List.getElem_cons_zero, List.setIfInBounds_toArray, List.set_cons_zero, List.set_cons_succ]
        refine wpAnyH_ready (rs := [15]) (by kernel_rfl) (by simp) ?_
        refine AllReadyH.cons rfl (fun K hK => ?_) AllReadyH.nil
        refine step_append_at rfl (.tmp 44) (.tmp 46) 23 rfl (w.heap.size + 1) 54 i0 Tryz.underlying23 hi0 hz0 hz1 hz2 vc (prs G0) (by simp [Act.eval]) hspW ⟨wa.heap.size, 0, none⟩ 1 1 [(.slice (some ⟨rb, roff, none⟩) rx.length rcap, ry)] (by simp [Act.eval]) hprW (by simp; omega) (by simp; omega) ?_
        intro v3 w3 hown3 hg3 hat3
        have Y3 : w3.cell? ⟨wr.heap.size, 0, none⟩ = some (.slice (some ⟨rb, roff, none⟩) rx.length rcap) ∧ w3.cell? ⟨wr.heap.size, 1, none⟩ = some (.int .i64 ry) ∧ w3.cell? ⟨rb, roff + y, none⟩ = some (.int .i64 cc) := ⟨grown_cell (p := ⟨wr.heap.size, 0, none⟩) hg3 hs0 hne0 u0, grown_cell (p := ⟨wr.heap.size, 1, none⟩) hg3 hs0 hne0 u2, grown_cell (p := ⟨rb, roff + y, none⟩) hg3 hs1 hne1 u1⟩
        obtain ⟨w4, hrun4, G4, B4, hg4⟩ := hback v3 w3 hown3 hg3 hat3
        have hs3 := hg3.size
        have Y4 : w4.cell? ⟨wr.heap.size, 0, none⟩ = some (.slice (some ⟨rb, roff, none⟩) rx.length rcap) ∧ w4.cell? ⟨wr.heap.size, 1, none⟩ = some (.int .i64 ry) ∧ w4.cell? ⟨rb, roff + y, none⟩ = some (.int .i64 cc) := ⟨grown_cell (p := ⟨wr.heap.size, 0, none⟩) hg4 (Nat.lt_of_lt_of_le hs0 hs3) (fun e => by simp at e; omega) Y3.1, grown_cell (p := ⟨wr.heap.size, 1, none⟩) hg4 (Nat.lt_of_lt_of_le hs0 hs3) (fun e => by simp at e; omega) Y3.2.1, grown_cell (p := ⟨rb, roff + y, none⟩) hg4 (Nat.lt_of_lt_of_le hs1 hs3) (fun e => by simp at e; omega) Y3.2.2⟩
        refine hK.out _ _ ?_ (fun hHeld => ?_)
        · (try dsimp only); exact Y3
        clear hK K
        try simp only [Act.put, List.getElem_toArray, List.getElem_cons_succ, List.getElem_cons_zero, List.setIfInBounds_toArray, List.set_cons_zero, List.set_cons_succ]
        refine wpAnyH_ready (rs := [16]) (by kernel_rfl) (by simp) ?_
        refine AllReadyH.cons rfl (fun K hK => ?_) AllReadyH.nil
        refine step_mapUpdate rfl (.tmp 32) (.tmp 37) (.tmp 47) 90 rfl _ _ _ (by simp [Act.eval]) (by simp [Act.eval]) (by simp [Act.eval]) hrun4 ?_
        refine hK.out _ _ ?_ (fun hHeld => ?_)
        · (try dsimp only); exact Y4
        clear hK K
        try simp only [Act.put]
        refine wpAnyH_done (by kernel_rfl) ?_ _
        have HK : Hid (Below w.heap.size w w4) := HBA.out.trans B4
        have HG4 : Hid (GMap w4 90 w.heap.size (w.heap.size + 1) (k + 1) (fun c => grpR (lb.take (k + 1)) y c)) := by
          show GMap _ _ _ _ _ _
          rw [HT.out]
          exact G4
        have hs4 : w.heap.size + 1 ≤ w4.heap.size := by have h5 : wa.heap.size ≤ w4.heap.size := B4.size; omega
        clear hback hown3 hg3 hat3 hspW hprW B4 G4 hl1 hl2 hrun4 HBA t0 t1 Y0 YB Y3 Y4 hg4 u0 u1 u2
        go_wp2
        go_roundw
        case rel => exact ⟨k + 1, by omega, by go_num, HG4.out, HK.out, hs4⟩
        case measure => simp [intOf]; omega
      · go_simp
        refine hK.out _ _ ?_ (fun hHeld => ?_)
        · (try dsimp only); exact YB
        clear hK K
        try simp only [Act.put, List.getElem_toArray, List.getElem_cons_succ, List.getElem_cons_zero, List.setIfInBounds_toArray, List.set_cons_zero, List.set_cons_succ]
        refine wpAnyH_ready (rs := [12]) (by kernel_rfl) (by simp) ?_
        refine AllReadyH.cons rfl (fun K hK => ?_) AllReadyH.nil
        go_simp
        refine hK.out _ _ ?_ (fun hHeld => ?_)
        · (try dsimp only); exact YB
        clear hK K
        try simp only [Act.put, List.getElem_toArray, List.getElem_cons_succ, List.getElem_cons_zero, List.setIfInBounds_toArray, List.set_cons_zero, List.set_cons_succ]
        refine wpAnyH_ready (rs := [15]) (by kernel_rfl) (by simp) ?_
        refine AllReadyH.cons rfl (fun K hK => ?_) AllReadyH.nil
        refine step_append_at rfl (.tmp 44) (.tmp 46) 23 rfl (w.heap.size + 1) 54 i0 Tryz.underlying23 hi0 hz0 hz1 hz2 vc (prs G0) (by simp [Act.eval]) hspW ⟨wa.heap.size, 0, none⟩ 1 1 [(.slice (some ⟨rb, roff, none⟩) rx.length rcap, ry)] (by simp [Act.eval]) hprW (by simp; omega) (by simp; omega) ?_
        intro v3 w3 hown3 hg3 hat3
        have Y3 : w3.cell? ⟨wr.heap.size, 0, none⟩ = some (.slice (some ⟨rb, roff, none⟩) rx.length rcap) ∧ w3.cell? ⟨wr.heap.size, 1, none⟩ = some (.int .i64 ry) ∧ w3.cell? ⟨rb, roff + y, none⟩ = some (.int .i64 cc) := ⟨grown_cell (p := ⟨wr.heap.size, 0, none⟩) hg3 hs0 hne0 u0, grown_cell (p := ⟨wr.heap.size, 1, none⟩) hg3 hs0 hne0 u2, grown_cell (p := ⟨rb, roff + y, none⟩) hg3 hs1 hne1 u1⟩
        obtain ⟨w4, hrun4, G4, B4, hg4⟩ := hback v3 w3 hown3 hg3 hat3
        have hs3 := hg3.size
        have Y4 : w4.cell? ⟨wr.heap.size, 0, none⟩ = some (.slice (some ⟨rb, roff, none⟩) rx.length rcap) ∧ w4.cell? ⟨wr.heap.size, 1, none⟩ = some (.int .i64 ry) ∧ w4.cell? ⟨rb, roff + y, none⟩ = some (.int .i64 cc) := ⟨grown_cell (p := ⟨wr.heap.size, 0, none⟩) hg4 (Nat.lt_of_lt_of_le hs0 hs3) (fun e => by simp at e; omega) Y3.1, grown_cell (p := ⟨wr.heap.size, 1, none⟩) hg4 (Nat.lt_of_lt_of_le hs0 hs3) (fun e => by simp at e; omega) Y3.2.1, grown_cell (p := ⟨rb, roff + y, none⟩) hg4 (Nat.lt_of_lt_of_le hs1 hs3) (fun e => by simp at e; omega) Y3.2.2⟩
        refine hK.out _ _ ?_ (fun hHeld => ?_)
        · (try dsimp only); exact Y3
        clear hK K
        try simp only [Act.put, List.getElem_toArray, List.getElem_cons_succ, List.getElem_cons_zero, List.setIfInBounds_toArray, List.set_cons_zero, List.set_cons_succ]
        refine wpAnyH_ready (rs := [16]) (by kernel_rfl) (by simp) ?_
        refine AllReadyH.cons rfl (fun K hK => ?_) AllReadyH.nil
        refine step_mapUpdate rfl (.tmp 32) (.tmp 37) (.tmp 47) 90 rfl _ _ _ (by simp [Act.eval]) (by simp [Act.eval]) (by simp [Act.eval]) hrun4 ?_
        refine hK.out _ _ ?_ (fun hHeld => ?_)
        · (try dsimp only); exact Y4
        clear hK K
        try simp only [Act.put]
        refine wpAnyH_done (by kernel_rfl) ?_ _
        have HK : Hid (Below w.heap.size w w4) := HBA.out.trans B4
        have HG4 : Hid (GMap w4 90 w.heap.size (w.heap.size + 1) (k + 1) (fun c => grpR (lb.take (k + 1)) y c)) := by
          show GMap _ _ _ _ _ _
          rw [HT.out]
          exact G4
        have hs4 : w.heap.size + 1 ≤ w4.heap.size := by have h5 : wa.heap.size ≤ w4.heap.size := B4.size; omega
        clear hback hown3 hg3 hat3 hspW hprW B4 G4 hl1 hl2 hrun4 HBA t0 t1 Y0 YB Y3 Y4 hg4 u0 u1 u2
        go_wp2
        go_roundw
        case rel => exact ⟨k + 1, by omega, by go_num, HG4.out, HK.out, hs4⟩
        case measure => simp [intOf]; omega
    · obtain rfl : k = m := by omega
      obtain ⟨w2, hw2⟩ : ∃ w2, w2 = wr := ⟨_, rfl⟩
      rw [← hw2] at HG HW hws ⊢
      have HG2 : Hid (GMap w2 90 w.heap.size (w.heap.size + 1) k (fun c => grpR lb y c)) := by
        have := HG.out
        rw [← hnb, List.take_length] at this
        rw [← hnb]
        exact this
      clear HG hw2 hbcell hcb hy
      go_wp2
      go_loopw [12, 51] (fun s i wr => ∃ (j : Nat), j ≤ n ∧ i = .int .i64 j ∧ Hid (OwnZ wr w2.heap.size wr.heap.size s (joinZ (a.take j) b x y)) ∧ Hid (Below w2.heap.size w2 wr)) (fun _ i _ => n - (intOf i).toNat)
      case atStart => exact ⟨0, Nat.zero_le _, rfl, nil_ownZ _ _, Below.refl _ _⟩
      case round =>
        obtain ⟨j, hj, rfl, HZ, HW2⟩ := hrel
        by_cases hltj : j < n
        · have hj' : j < la.length := by omega
          have HBW := HW2.out
          have hww : Below w.heap.size w wr := HW.out.trans (HBW.mono (by omega))
          obtain ⟨c0, c1⟩ := hacell j hltj
          rw [prs_getD hj'] at c0 c1
          have e1 : a.getD j ([], 0) = (la.getD j (vn, ([], 0))).2 := by have := its_getD hj'; rw [← HA.out] at this; exact this
          have hxk := hx j hltj
          have hck := hca j hltj
          have hpin := hla (a.getD j ([], 0)) (by simp [List.getD, show j < a.length by rw [← HN.out]; exact hltj])
          have HT : Hid _ := joinZ_take (a := a) b x y (k := j) (by rw [← HN.out]; exact hltj)
          rw [e1] at hxk hck hpin HT
          have hix0 := RA (la.getD j (vn, ([], 0))) (by simp [List.getD, hj'])
          obtain ⟨r, HR⟩ : ∃ r, Hid (r = la.getD j (vn, ([], 0))) := ⟨_, rfl⟩
          rw [← HR.out] at c0 c1 hxk hck hpin hix0 HT
          obtain ⟨pv, px, pw⟩ := r
          simp only at c0 c1 hxk hck hpin hix0 HT
          have hix := hix0.below hww
          obtain ⟨rb, roff, rcap, rfl, hrb, hcx⟩ := row_at hix hxk
          have g0 := (hww.cell (p := ⟨ab, aoff + j * 2, none⟩) habw).trans c0
          have g1 := (hww.cell (p := ⟨ab, aoff + j * 2 + 1, none⟩) habw).trans c1
          have hbr : ab < wr.heap.size := Nat.lt_of_lt_of_le habw hww.size
          obtain ⟨wa, hwa⟩ : ∃ wa, wa = wr.alloc (.cells #[.slice (some ⟨rb, roff, none⟩) px.length rcap, .int .i64 pw] 54) := ⟨_, rfl⟩
          have hba : Below wr.heap.size wr wa := by rw [hwa]; exact below_alloc _
          have hwl : wr.heap.size < wa.heap.size := by rw [hwa]; simp
          have t0 : wa.cell? ⟨wr.heap.size, 0, none⟩ = some (.slice (some ⟨rb, roff, none⟩) px.length rcap) := by rw [hwa]; simp [go_sem]
          have t1 : wa.cell? ⟨wr.heap.size, 1, none⟩ = some (.int .i64 pw) := by rw [hwa]; simp [go_sem]
          have hcx' := cell_is (p := ⟨rb, roff + x, none⟩) hba hrb hcx
          have HIX : Hid (IntsAt w (.slice (some ⟨rb, roff, none⟩) px.length rcap) px) := hix0
          have hb2a : Below w2.heap.size w2 wa := HBW.trans (hba.mono HBW.size)
          obtain ⟨vc, hlook, SV, -⟩ := HG2.out.look hck (by unfold maxLen; omega)
          have hl1 := hlook wa ⟨hb2a.os, hb2a.tape, hb2a.output, hb2a.size, fun k hk _ => hb2a.block k hk⟩
          have hsh : ∃ va vcp, vc = .slice va (grpR lb y (px.getD x 0)).length vcp := by
            rcases SV.1.2 with ⟨rfl, h0⟩ | ⟨g, cp, cu, rfl, _⟩
            · rw [prs_length] at h0
              exact ⟨none, 0, by rw [h0]⟩
            · exact ⟨_, _, by rw [prs_length]⟩
          obtain ⟨va, vcp, rfl⟩ := hsh
          have hgl : (grpR lb y (px.getD x 0)).length ≤ 100 := by have := grp_len lb y (px.getD x 0); omega
          have HITS : Hid (its (grpR lb y (px.getD x 0)) = meetZ b y (px.getD x 0)) := by rw [Hid, its_grp, HB.out]
          have HROW : Hid (∀ q ∈ grpR lb y (px.getD x 0), IntsAt w q.1 q.2.1 ∧ q.2.1.length ≤ 6 ∧ -10000 ≤ q.2.2 ∧ q.2.2 ≤ 10000) := fun q hq => by
            have hq' := (List.mem_filter.1 hq).1
            exact ⟨RB q hq', hlb q.2 (by rw [HB.out]; exact List.mem_map.2 ⟨q, hq', rfl⟩)⟩
          obtain ⟨cc, HCC⟩ : ∃ cc, Hid (cc = px.getD x 0) := ⟨_, rfl⟩
          rw [← HCC.out] at hcx hcx' hl1 SV hgl HITS HROW HT
          obtain ⟨G0, HG0⟩ : ∃ G0, Hid (G0 = grpR lb y cc) := ⟨_, rfl⟩
          rw [← HG0.out] at hl1 SV hgl HITS HROW
          obtain ⟨L, hL⟩ : ∃ L, L = G0.length := ⟨_, rfl⟩
          have HL : Hid (L = G0.length) := hL
          rw [← hL] at hl1 SV hgl
          have HZA : Hid (OwnZ wa w2.heap.size wa.heap.size u12 (joinZ (a.take j) b x y ++ withZ (px, pw) ((meetZ b y cc).take 0))) := by
            have := (HZ.out.keep' hba).wide (Nat.le_refl _) hba.size (Nat.le_refl _)
            simpa [withZ, Hid] using this
          have hjl : (joinZ (a.take j) b x y).length ≤ 10000 := by
            have h5 := joinZ_len b x y (a.take j)
            have h6 : (a.take j).length * b.length ≤ 100 * 100 := Nat.mul_le_mul (by rw [List.length_take]; omega) (by rw [← HM.out]; omega)
            omega
          have hl1' : (Instr.lookup 90 (.map (some w.heap.size)) (.int .i64 cc) false).run Tryz.prog (wr.alloc (.cells #[.slice (some ⟨rb, roff, none⟩) px.length rcap, .int .i64 pw] 54)) = .ok (.slice va L vcp) (wr.alloc (.cells #[.slice (some ⟨rb, roff, none⟩) px.length rcap, .int .i64 pw] 54)) := by rw [← hwa]; exact hl1
          have HNE : Hid (some wr.heap.size ≠ u12.ownBlock) := fun e => by
            obtain ⟨ps, _, hsp, _⟩ := HZ.out
            have := hsp.2.1 _ e.symm
            omega
          have hw2a : w2.heap.size ≤ wa.heap.size := by have := HBW.size; omega
          have HWA2 : Hid (Below w2.heap.size w2 wa) := hb2a
          clear hL c0 c1 hix0 hix hacell hx hca HZ HW2 HBW hba hww hlook hb2a
          go_wp2
          rw [← hwa]
          clear hwa g0 g1 hl1' hl1 hcx hcx'
          obtain ⟨fb, hfb⟩ : ∃ fb, fb = wr.heap.size := ⟨_, rfl⟩
          rw [← hfb] at t0 t1 hwl HNE ⊢
          clear hfb
          go_loopw [12, 63] (fun s i wr => ∃ (l : Nat), l ≤ L ∧ i = .int .i64 l ∧ Hid (OwnZ wr w2.heap.size wr.heap.size s (joinZ (a.take j) b x y ++ withZ (px, pw) ((meetZ b y cc).take l))) ∧ Hid (Below w2.heap.size w2 wr) ∧ Hid (some fb ≠ s.ownBlock) ∧ Hid (fb < wr.heap.size ∧ wr.cell? ⟨fb, 0, none⟩ = some (.slice (some ⟨rb, roff, none⟩) px.length rcap) ∧ wr.cell? ⟨fb, 1, none⟩ = some (.int .i64 pw))) (fun _ i _ => L - (intOf i).toNat)
          case atStart => exact ⟨0, Nat.zero_le _, rfl, HZA.out, HWA2.out, HNE.out, ⟨hwl, t0, t1⟩⟩
          case round =>
            obtain ⟨l, hl, rfl, HZQ, HWQ, HSN, HFC⟩ := hrel
            clear HZA HNE t0 t1 hwl
            by_cases hltl : l < L
            · have hl' : l < G0.length := by rw [← HL.out]; exact hltl
              obtain ⟨gv, gcp, hve, hgv1, hgv2, -, -⟩ := SV.shape (by rw [prs_length]; omega)
              simp only [Value.slice.injEq] at hve
              obtain ⟨rfl, -, rfl⟩ := hve
              have hbq := HWQ.out
              have d0 := (hbq.cell (p := ⟨gv, l * 2, none⟩) hgv2).trans (SV.cell0 (j := l) (by rw [prs_length]; exact hl'))
              have d1 := (hbq.cell (p := ⟨gv, l * 2 + 1, none⟩) hgv2).trans (SV.cell1 (j := l) (by rw [prs_length]; exact hl'))
              rw [prs_getD hl'] at d0 d1
              obtain ⟨hqi0, hq6, hqw1, hqw2⟩ := HROW.out (G0.getD l (vn, ([], 0))) (by simp [List.getD, hl'])
              have hmg : (meetZ b y cc).getD l ([], 0) = (G0.getD l (vn, ([], 0))).2 := by rw [← HITS.out]; exact its_getD hl'
              have HTW : Hid _ := withZ_take (p := (px, pw)) (qs := meetZ b y cc) (j := l) (by rw [← HITS.out, its_length]; exact hl')
              rw [hmg] at HTW
              obtain ⟨q, HQ⟩ : ∃ q, Hid (q = G0.getD l (vn, ([], 0))) := ⟨_, rfl⟩
              rw [← HQ.out] at d0 d1 hqi0 hq6 hqw1 hqw2 HTW
              obtain ⟨qv, qx, qw⟩ := q
              simp only at d0 d1 hqi0 hq6 hqw1 hqw2 HTW
              have hwq : Below w.heap.size w wr := HW.out.trans (hbq.mono (by omega))
              have hqi := hqi0.below hwq
              obtain ⟨qa, qn, qc, rfl⟩ := hqi.shape
              obtain ⟨hfl, f0, f1⟩ := HFC.out
              have hgq : gv < wr.heap.size := Nat.lt_of_lt_of_le hgv2 hbq.size
              have hixq := HIX.out.below hwq
              obtain ⟨wb, hwb⟩ : ∃ wb, wb = wr.alloc (.cells #[.slice qa qn qc, .int .i64 qw] 54) := ⟨_, rfl⟩
              have hbb2 : Below wr.heap.size wr wb := by rw [hwb]; exact below_alloc _
              have hsl : wr.heap.size < wb.heap.size := by rw [hwb]; simp
              have s0 : wb.cell? ⟨wr.heap.size, 0, none⟩ = some (.slice qa qn qc) := by rw [hwb]; simp [go_sem]
              have s1 : wb.cell? ⟨wr.heap.size, 1, none⟩ = some (.int .i64 qw) := by rw [hwb]; simp [go_sem]
              have f0b := cell_is (p := ⟨fb, 0, none⟩) hbb2 hfl f0
              have f1b := cell_is (p := ⟨fb, 1, none⟩) hbb2 hfl f1
              have hflb : fb < wb.heap.size := by omega
              have i1 : IntsAt wb.drew (.slice (some ⟨rb, roff, none⟩) px.length rcap) px := (hixq.below hbb2).below (Below.drew (Below.refl _ _))
              have i2 : IntsAt wb.drew (.slice qa qn qc) qx := (hqi.below hbb2).below (Below.drew (Below.refl _ _))
              have ZB : OwnZ wb.drew w2.heap.size wr.heap.size u12 (joinZ (a.take j) b x y ++ withZ (px, pw) ((meetZ b y cc).take l)) := (HZQ.out.keep' hbb2).keep' (Below.drew (Below.refl _ _))
              have hmul := mul_in (A := 10000) (B := 10000) (a := pw) (b := qw) hpin.2 ⟨hqw1, hqw2⟩ (by omega) (by omega)
              obtain ⟨pq, HPQ⟩ : ∃ pq, Hid (pq = pw * qw) := ⟨_, rfl⟩
              have hwrap : IntKind.i64.wrap (pw * qw) = pq := by rw [HPQ.out, IntKind.wrap_i64]; omega
              have hacl : (joinZ (a.take j) b x y ++ withZ (px, pw) ((meetZ b y cc).take l)).length ≤ 10100 := by rw [List.length_append, withZ_len, List.length_take]; omega
              have hne1 : some fb ≠ u12.ownBlock := HSN.out
              have hne2 : some wr.heap.size ≠ u12.ownBlock := fun e => by
                obtain ⟨ps, _, hsp, _⟩ := HZQ.out
                have := hsp.2.1 _ e.symm
                omega
              have HBB : Hid (Below w2.heap.size w2 wb.drew) := (hbq.trans (hbb2.mono hbq.size)).drew
              have hw2b : w2.heap.size ≤ wr.heap.size := by have := hbq.size; omega
              have Y0 : wb.drew.cell? ⟨fb, 0, none⟩ = some (.slice (some ⟨rb, roff, none⟩) px.length rcap) ∧ wb.drew.cell? ⟨fb, 1, none⟩ = some (.int .i64 pw) ∧ wb.drew.cell? ⟨wr.heap.size, 0, none⟩ = some (.slice qa qn qc) ∧ wb.drew.cell? ⟨wr.heap.size, 1, none⟩ = some (.int .i64 qw) := ⟨f0b, f1b, s0, s1⟩
              obtain ⟨acc, HACC⟩ : ∃ acc, Hid (acc = joinZ (a.take j) b x y ++ withZ (px, pw) ((meetZ b y cc).take l)) := ⟨_, rfl⟩
              rw [← HACC.out] at ZB hacl
              rw [← HPQ.out] at HTW
              have hjn : px.length + qx.length ≤ 8796093022208 := by omega
              clear hqi0 hqi hixq hmg HZQ HSN HWQ hbq hbb2 s0 s1 f0b f1b hmul hwq HFC
              go_wp2
              rw [← hwb]
              clear hwb d0 d1 f0 f1
              refine wp_region_held_drew (S := (fun w' => w'.cell? ⟨fb, 0, none⟩ = some (.slice (some ⟨rb, roff, none⟩) px.length rcap) ∧ w'.cell? ⟨fb, 1, none⟩ = some (.int .i64 pw) ∧ w'.cell? ⟨wr.heap.size, 0, none⟩ = some (.slice qa qn qc) ∧ w'.cell? ⟨wr.heap.size, 1, none⟩ = some (.int .i64 qw))) (by kernel_rfl) ?_ (fun hHeld => ?_)
              · (try dsimp only); exact Y0
              refine wpAnyH_take (i := 0) (v := ?_) rfl (by kernel_rfl) (by kernel_rfl) (by kernel_rfl) (fun _ _ _ h => h) (Or.inl ⟨by rfl, ?_⟩) (by assumption) ?_
              rotate_left 1
              · intro w hSw; (try dsimp only at hSw); go_simp; try with_reducible rfl
              simp only [Act.put, List.getElem_toArray, List.getElem_cons_zero, List.setIfInBounds_toArray, List.set_cons_zero, List.set_cons_succ]
              refine wpAnyH_take (i := 1) (v := ?_) rfl (by kernel_rfl) (by kernel_rfl) (by kernel_rfl) (fun _ _ _ h => h) (Or.inl ⟨by rfl, ?_⟩) (by assumption) ?_
              rotate_left 1
              · intro w hSw; (try dsimp only at hSw); go_simp; try with_reducible rfl
              simp only [Act.put, List.getElem_toArray, List.getElem_cons_succ, List.getElem_cons_zero, List.setIfInBounds_toArray, List.set_cons_zero, List.set_cons_succ]
              refine wpAnyH_take (i := 2) (v := ?_) rfl (by kernel_rfl) (by kernel_rfl) (by kernel_rfl) (fun _ _ _ h => h) (Or.inl ⟨by rfl, ?_⟩) (by assumption) ?_
              rotate_left 1
              · intro w hSw; (try dsimp only at hSw); go_simp; try with_reducible rfl
              simp only [Act.put, List.getElem_toArray, List.getElem_cons_succ, List.getElem_cons_zero, List.setIfInBounds_toArray, List.set_cons_zero, List.set_cons_succ]
              refine wpAnyH_take (i := 3) (v := ?_) rfl (by kernel_rfl) (by kernel_rfl) (by kernel_rfl) (fun _ _ _ h => h) (Or.inl ⟨by rfl, ?_⟩) (by assumption) ?_
              rotate_left 1
              · intro w hSw; (try dsimp only at hSw); go_simp; try with_reducible rfl
              simp only [Act.put, List.getElem_toArray, List.getElem_cons_succ, List.getElem_cons_zero, List.setIfInBounds_toArray, List.set_cons_zero, List.set_cons_succ]
              refine wpAnyH_take (i := 4) (v := ?_) rfl (by kernel_rfl) (by kernel_rfl) (by kernel_rfl) (fun _ _ _ h => h) (Or.inl ⟨by rfl, ?_⟩) (by assumption) ?_
              rotate_left 1
              · intro w hSw; (try dsimp only at hSw); go_simp; try with_reducible rfl
              simp only [Act.put, List.getElem_toArray, List.getElem_cons_succ, List.getElem_cons_zero, List.setIfInBounds_toArray, List.set_cons_zero, List.set_cons_succ]
              refine wpAnyH_take (i := 6) (v := ?_) rfl (by kernel_rfl) (by kernel_rfl) (by kernel_rfl) (fun _ _ _ h => h) (Or.inl ⟨by rfl, ?_⟩) (by assumption) ?_
              rotate_left 1
              · intro w hSw; (try dsimp only at hSw); go_simp; try with_reducible rfl
              simp only [Act.put, List.getElem_toArray, List.getElem_cons_succ, List.getElem_cons_zero, List.setIfInBounds_toArray, List.set_cons_zero, List.set_cons_succ]
              refine wpAnyH_take (i := 7) (v := ?_) rfl (by kernel_rfl) (by kernel_rfl) (by kernel_rfl) (fun _ _ _ h => h) (Or.inl ⟨by rfl, ?_⟩) (by assumption) ?_
              rotate_left 1
              · intro w hSw; (try dsimp only at hSw); go_simp; try with_reducible rfl
              simp only [Act.put, List.getElem_toArray, List.getElem_cons_succ, List.getElem_cons_zero, List.setIfInBounds_toArray, List.set_cons_zero, List.set_cons_succ]
              refine wpAnyH_take (i := 8) (v := ?_) rfl (by kernel_rfl) (by kernel_rfl) (by kernel_rfl) (fun _ _ _ h => h) (Or.inl ⟨by rfl, ?_⟩) (by assumption) ?_
              rotate_left 1
              · intro w hSw; (try dsimp only at hSw); go_simp; try with_reducible rfl
              simp only [Act.put, List.getElem_toArray, List.getElem_cons_succ, List.getElem_cons_zero, List.setIfInBounds_toArray, List.set_cons_zero, List.set_cons_succ]
              refine wpAnyH_take (i := 9) (v := ?_) rfl (by kernel_rfl) (by kernel_rfl) (by kernel_rfl) (fun _ _ _ h => h) (Or.inl ⟨by rfl, ?_⟩) (by assumption) ?_
              rotate_left 1
              · intro w hSw; (try dsimp only at hSw); go_simp; try with_reducible rfl
              simp only [Act.put, List.getElem_toArray, List.getElem_cons_succ, List.getElem_cons_zero, List.setIfInBounds_toArray, List.set_cons_zero, List.set_cons_succ]
              refine wpAnyH_take (i := 10) (v := ?_) rfl (by kernel_rfl) (by kernel_rfl) (by kernel_rfl) (fun _ _ _ h => h) (Or.inl ⟨by rfl, ?_⟩) (by assumption) ?_
              rotate_left 1
              · intro w hSw; (try dsimp only at hSw); go_simp; try with_reducible rfl
              simp only [Act.put, List.getElem_toArray, List.getElem_cons_succ, List.getElem_cons_zero, List.setIfInBounds_toArray, List.set_cons_zero, List.set_cons_succ]
              refine wpAnyH_ready (rs := [5]) (by kernel_rfl) (by simp) ?_
              refine AllReadyH.cons rfl (fun K hK => ?_) AllReadyH.nil
              go_simp
              (go_at_call 66; refine (implRowJoin_any _ _ px qx _ i1 i2 hjn).mono ?_; rintro e w3 ⟨v3, rfl, O3, hb3, -⟩)
              have hk3 : Below wb.heap.size wb w3 := (Below.drew (Below.refl _ wb)).trans hb3
              obtain ⟨va3, vn3, vc3, rfl⟩ := O3.ints.shape
              have Y3 : w3.cell? ⟨fb, 0, none⟩ = some (.slice (some ⟨rb, roff, none⟩) px.length rcap) ∧ w3.cell? ⟨fb, 1, none⟩ = some (.int .i64 pw) ∧ w3.cell? ⟨wr.heap.size, 0, none⟩ = some (.slice qa qn qc) ∧ w3.cell? ⟨wr.heap.size, 1, none⟩ = some (.int .i64 qw) := ⟨cell_is (p := ⟨fb, 0, none⟩) hk3 hflb Y0.1, cell_is (p := ⟨fb, 1, none⟩) hk3 hflb Y0.2.1, cell_is (p := ⟨wr.heap.size, 0, none⟩) hk3 hsl Y0.2.2.1, cell_is (p := ⟨wr.heap.size, 1, none⟩) hk3 hsl Y0.2.2.2⟩
              have hs3 : wb.heap.size ≤ w3.heap.size := hk3.size
              obtain ⟨ps, hpsl, hspW, hprW, hfin⟩ := (ZB.keep' hb3).ready pq O3 (by (show _ ≤ wb.heap.size); omega) (by (show _ ≤ wb.heap.size); omega) (by omega) (by omega)
              have hpl2 : ps.length ≤ 1048576 := by omega
              have hf3 : fb < w3.heap.size := by omega
              have hq3 : wr.heap.size < w3.heap.size := by omega
              have hal : Below w3.heap.size w3 (w3.alloc (.cells #[.slice va3 vn3 vc3, .int .i64 pq] 54)) := below_alloc _
              have Y5 : (w3.alloc (.cells #[.slice va3 vn3 vc3, .int .i64 pq] 54)).cell? ⟨fb, 0, none⟩ = some (.slice (some ⟨rb, roff, none⟩) px.length rcap) ∧ (w3.alloc (.cells #[.slice va3 vn3 vc3, .int .i64 pq] 54)).cell? ⟨fb, 1, none⟩ = some (.int .i64 pw) ∧ (w3.alloc (.cells #[.slice va3 vn3 vc3, .int .i64 pq] 54)).cell? ⟨wr.heap.size, 0, none⟩ = some (.slice qa qn qc) ∧ (w3.alloc (.cells #[.slice va3 vn3 vc3, .int .i64 pq] 54)).cell? ⟨wr.heap.size, 1, none⟩ = some (.int .i64 qw) := ⟨cell_is (p := ⟨fb, 0, none⟩) hal hf3 Y3.1, cell_is (p := ⟨fb, 1, none⟩) hal hf3 Y3.2.1, cell_is (p := ⟨wr.heap.size, 0, none⟩) hal hq3 Y3.2.2.1, cell_is (p := ⟨wr.heap.size, 1, none⟩) hal hq3 Y3.2.2.2⟩
              have hf4 := Nat.lt_of_lt_of_le hf3 hal.size
              have hq4 := Nat.lt_of_lt_of_le hq3 hal.size
              refine hK.out _ _ ?_ (fun hHeld => ?_)
              · (try dsimp only); exact Y3
              clear hK K
              try simp only [Act.put, List.getElem_toArray, List.getElem_cons_succ, List.getElem_cons_zero, List.setIfInBounds_toArray, List.set_cons_zero, List.set_cons_succ]
              refine wpAnyH_take (i := 11) (v := ?_) rfl (by kernel_rfl) (by kernel_rfl) (by kernel_rfl) (fun _ _ _ h => h) (Or.inl ⟨by rfl, ?_⟩) (by assumption) ?_
              rotate_left 1
              · intro w hSw; (try dsimp only at hSw); go_simp; try with_reducible rfl
              simp only [Act.put, List.getElem_toArray, List.getElem_cons_succ, List.getElem_cons_zero, List.setIfInBounds_toArray, List.set_cons_zero, List.set_cons_succ]
              refine wpAnyH_ready (rs := [12]) (by kernel_rfl) (by simp) ?_
              refine AllReadyH.cons rfl (fun K hK => ?_) AllReadyH.nil
              go_simp
              refine hK.out _ _ ?_ (fun hHeld => ?_)
              · (try dsimp only); exact Y5
              clear hK K
              try simp only [Act.put, List.getElem_toArray, List.getElem_cons_succ, List.getElem_cons_zero, List.setIfInBounds_toArray, List.set_cons_zero, List.set_cons_succ]
              refine wpAnyH_ready (rs := [13]) (by kernel_rfl) (by simp) ?_
              refine AllReadyH.cons rfl (fun K hK => ?_) AllReadyH.nil
              refine step_append_at rfl (.tmp 67) (.tmp 79) 23 rfl w2.heap.size 54 i0 Tryz.underlying23 hi0 hz0 hz1 hz2 u12 ps (by simp [Act.eval]) hspW ⟨w3.heap.size, 0, none⟩ 1 1 [(.slice va3 vn3 vc3, pq)] (by simp [Act.eval]) hprW (by simp; omega) (by simp; omega) ?_
              intro v4 w4 hown4 hg4 hat4
              have Y6 : w4.cell? ⟨fb, 0, none⟩ = some (.slice (some ⟨rb, roff, none⟩) px.length rcap) ∧ w4.cell? ⟨fb, 1, none⟩ = some (.int .i64 pw) ∧ w4.cell? ⟨wr.heap.size, 0, none⟩ = some (.slice qa qn qc) ∧ w4.cell? ⟨wr.heap.size, 1, none⟩ = some (.int .i64 qw) := ⟨grown_cell (p := ⟨fb, 0, none⟩) hg4 hf4 hne1 Y5.1, grown_cell (p := ⟨fb, 1, none⟩) hg4 hf4 hne1 Y5.2.1, grown_cell (p := ⟨wr.heap.size, 0, none⟩) hg4 hq4 hne2 Y5.2.2.1, grown_cell (p := ⟨wr.heap.size, 1, none⟩) hg4 hq4 hne2 Y5.2.2.2⟩
              obtain ⟨Z4, B4⟩ := hfin v4 w4 hown4 hg4
              have HN4 : Hid (some fb ≠ v4.ownBlock) := by
                rcases hat4 with e | e
                · rw [Hid, e]; exact hne1
                · rw [Hid, e]; intro e2; injection e2 with e2; omega
              refine hK.out _ _ ?_ (fun hHeld => ?_)
              · (try dsimp only); exact Y6
              clear hK K
              try simp only [Act.put, List.getElem_toArray, List.getElem_cons_succ, List.getElem_cons_zero, List.setIfInBounds_toArray, List.set_cons_zero, List.set_cons_succ]
              refine wpAnyH_take (i := 14) (v := ?_) rfl (by kernel_rfl) (by kernel_rfl) (by kernel_rfl) (fun _ _ _ h => h) (Or.inl ⟨by rfl, ?_⟩) (by assumption) ?_
              rotate_left 1
              · intro w hSw; (try dsimp only at hSw); go_simp; try with_reducible rfl
              simp only [Act.put, List.getElem_toArray, List.getElem_cons_succ, List.getElem_cons_zero, List.setIfInBounds_toArray, List.set_cons_zero, List.set_cons_succ]
              refine wpAnyH_done (by kernel_rfl) ?_ _
              have HK : Hid (Below w2.heap.size w2 w4) := HBB.out.trans ((hb3.mono (by (show _ ≤ wb.heap.size); omega)).trans B4)
              have HF4 : Hid (fb < w4.heap.size ∧ w4.cell? ⟨fb, 0, none⟩ = some (.slice (some ⟨rb, roff, none⟩) px.length rcap) ∧ w4.cell? ⟨fb, 1, none⟩ = some (.int .i64 pw)) := ⟨Nat.lt_of_lt_of_le hf4 hg4.size, Y6.1, Y6.2.1⟩
              have HZ4 : Hid (OwnZ w4 w2.heap.size w4.heap.size v4 (joinZ (a.take j) b x y ++ withZ (px, pw) ((meetZ b y cc).take (l + 1)))) := by
                show OwnZ _ _ _ _ _
                rw [HTW.out, ← List.append_assoc, ← HACC.out]
                exact Z4
              clear hfin hown4 hg4 hat4 hspW hprW B4 Z4 Y0 Y3 Y5 Y6 hb3 hk3 O3 ZB i1 i2 hal
              go_wp2
              go_roundw
              case rel => exact ⟨l + 1, by omega, by go_num, HZ4.out, HK.out, HN4.out, HF4.out⟩
              case measure => simp [intOf]; omega
            · obtain rfl : l = L := by omega
              have hZ := HZQ.out
              have hml : (meetZ b y cc).length = l := by rw [← HITS.out, its_length, ← HL.out]
              have htk : (meetZ b y cc).take l = meetZ b y cc := List.take_of_length_le (by omega)
              rw [htk] at hZ
              have HK2 : Hid (Below w2.heap.size w2 wr) := HWQ.out
              have HZ2 : Hid (OwnZ wr w2.heap.size wr.heap.size u12 (joinZ (a.take (j + 1)) b x y)) := by
                show OwnZ _ _ _ _ _
                rw [HT.out]
                exact hZ
              clear hZ
              go_wp2
              go_roundw
              case rel => exact ⟨j + 1, by omega, by go_num, HZ2.out, HK2.out⟩
              case measure => simp [intOf]; omega
        · obtain rfl : j = n := by omega
          have hZ := HZ.out
          rw [HN.out, List.take_length] at hZ
          clear hacell hx hca
          go_wp2
          go_ret
          exact ⟨_, rfl, hZ.wide (by omega) (Nat.le_refl _) (Nat.le_refl _), HW.out.trans (HW2.out.mono (by omega))⟩

end Go.Proofs.YtehfpceghdaajaaGreatDoor

/-
  The contract of spec.l5Join: for each row of the one and each row of the other that have the same in a cell each, both put into a list; false at two rows of which one has no such place.
-/
namespace Go.Proofs.YtehfpceghdaajaaGreatDoor
set_option maxRecDepth 100000
open Go.RowKit
attribute [local go_sem ↓] Go.wp_at_zero Go.wp_at_succ

theorem row_at' {w : World} {v : Value} {xs : List Int} (h : IntsAt w v xs) {j : Nat} (hj : j < xs.length) : ∃ b off cap, v = .slice (some ⟨b, off, none⟩) xs.length cap ∧ b < w.heap.size ∧ w.cell? ⟨b, off + j, none⟩ = some (.int .i64 (xs.getD j 0)) := by
  obtain ⟨_, a, cap, rfl, _, hc⟩ := h
  obtain ⟨b, off, rfl, hb, hcell⟩ := hc (fun e => by rw [e] at hj; simp at hj)
  exact ⟨b, off, cap, rfl, hb, hcell j hj⟩
/-- Each two rows have their places. -/
def bothHave (a b : List It) (x y : Nat) : Bool := a.all fun p => b.all fun q => decide (x < p.1.length ∧ y < q.1.length)
theorem both_no {a b : List It} {x y i k : Nat} (hi : i < a.length) (hk : k < b.length) (h : ¬ (x < (a.getD i ([], 0)).1.length ∧ y < (b.getD k ([], 0)).1.length)) : bothHave a b x y = false := by
  unfold bothHave
  rw [List.all_eq_false]
  refine ⟨a.getD i ([], 0), by simp [List.getD, hi], ?_⟩
  rw [Bool.not_eq_true, List.all_eq_false]
  exact ⟨b.getD k ([], 0), by simp [List.getD, hk], by simpa using h⟩
theorem both_yes {a b : List It} {x y : Nat} (h : ∀ i, i < a.length → ∀ k, k < b.length → x < (a.getD i ([], 0)).1.length ∧ y < (b.getD k ([], 0)).1.length) : bothHave a b x y = true := by
  unfold bothHave
  rw [List.all_eq_true]
  intro p hp
  rw [List.all_eq_true]
  intro q hq
  obtain ⟨i, hi, e1⟩ := mem_getD (d := ([], 0)) hp
  obtain ⟨k, hk, e2⟩ := mem_getD (d := ([], 0)) hq
  rw [← e1, ← e2]
  simpa using h i hi k hk

set_option maxHeartbeats 16000000 in
theorem l5Join_some (v u : Value) (a b : List It) (x y : Nat) (w : World) (h : ItemsAt w v a) (h2 : ItemsAt w u b) (hpa : 0 < a.length) (hpb : 0 < b.length) (ha : a.length ≤ 100) (hb : b.length ≤ 100)
    (hla : ∀ p ∈ a, p.1.length ≤ 6 ∧ -10000 ≤ p.2 ∧ p.2 ≤ 10000) (hlb : ∀ p ∈ b, p.1.length ≤ 6 ∧ -10000 ≤ p.2 ∧ p.2 ≤ 10000) (hin : ∀ z ∈ joinZ a b x y, -100000000 ≤ z.2 ∧ z.2 ≤ 100000000) :
    Calls Tryz.prog 38 #[v, u, .int .i64 x, .int .i64 y] w fun e w' => ∃ v', e = .returned (.tuple #[v', .bool (bothHave a b x y)]) ∧ (bothHave a b x y = true → OwnZ w' w.heap.size w'.heap.size v' (addZ [] (joinZ a b x y))) ∧ Below w.heap.size w w' := by
  rcases h.cases with ⟨aa, ac, rfl, rfl⟩ | ⟨ab, aoff, ac, _, _, rfl, habw, hca⟩
  · simp at hpa
  rcases h2.cases with ⟨ba, bc, rfl, rfl⟩ | ⟨bb, boff, bc, _, _, rfl, hbbw, hcb⟩
  · simp at hpb
  obtain ⟨n, hn⟩ : ∃ n, n = a.length := ⟨_, rfl⟩
  obtain ⟨m, hm⟩ : ∃ m, m = b.length := ⟨_, rfl⟩
  rw [← hn] at hpa ha hca ⊢
  rw [← hm] at hpb hb hcb ⊢
  have HN : Hid (n = a.length) := hn
  have HM : Hid (m = b.length) := hm
  have hsum : ∀ L : List It, (∀ z ∈ L, -100000000 ≤ z.2 ∧ z.2 ≤ 100000000) → L.length ≤ 20000 → ∀ j, j < (addZ [] L).length → -4611686018427387904 ≤ ((addZ [] L).getD j ([], 0)).2 ∧ ((addZ [] L).getD j ([], 0)).2 ≤ 4611686018427387903 := fun L hL hl j hj => by
    have h1 := add_bound (B := 0) (C := 100000000) (by omega) (by omega) L (a := []) (k := 0) (by omega) (fun p hp => by simp at hp) hL _ (getZ_mem hj)
    have h2 : ((L.length : Nat) : Int) ≤ 20000 := by omega
    omega
  have HSUM : Hid _ := hsum
  clear hn hm h h2 hsum
  go_enter Tryz.func38, Tryz.ntmps38
  go_wp2
  go_loopw [10, 11] (fun s t wr => ∃ (i : Nat), i ≤ n ∧ t = .int .i64 i ∧ Hid (OwnZ wr w.heap.size wr.heap.size s (addZ [] (joinZ (a.take i) b x y))) ∧ Hid (Below w.heap.size w wr) ∧ Hid (∀ i', i' < i → ∀ k, k < m → x < (a.getD i' ([], 0)).1.length ∧ y < (b.getD k ([], 0)).1.length)) (fun _ t _ => n - (intOf t).toNat)
  case atStart => exact ⟨0, Nat.zero_le _, rfl, lit_ownZ w, below_alloc _, fun i' hi' => by omega⟩
  case round =>
    obtain ⟨i, hi, rfl, HZ, HW, HALL⟩ := hrel
    by_cases hlti : i < n
    · have hia : i < a.length := by rw [← HN.out]; exact hlti
      obtain ⟨pv, c0, c1, hpi⟩ := hca i hlti
      have hpin := hla _ (getZ_mem hia)
      have HT : Hid _ := joinZ_take (a := a) b x y hia
      have hno := fun k => both_no (a := a) (b := b) (x := x) (y := y) (i := i) (k := k) hia
      obtain ⟨p, HP⟩ : ∃ p, Hid (p = a.getD i ([], 0)) := ⟨_, rfl⟩
      rw [← HP.out] at c1 hpi hpin HT hno
      obtain ⟨px, pw⟩ := p
      simp only at c1 hpi hpin HT hno
      obtain ⟨pa, pn, pc, rfl⟩ := hpi.shape
      have HPN : Hid (pn = px.length) := by obtain ⟨_, _, _, e, _⟩ := hpi; simp at e; exact e.2.1
      have HPI : Hid (IntsAt w (.slice pa pn pc) px) := hpi
      obtain ⟨cx, HCX⟩ : ∃ cx, Hid (cx = px.getD x 0) := ⟨_, rfl⟩
      rw [← HCX.out] at HT
      have HZ0 : Hid (OwnZ wr w.heap.size wr.heap.size u10 (addZ [] (joinZ (a.take i) b x y ++ withZ (px, pw) (meetZ (b.take 0) y cx)))) := by
        have := HZ.out
        simpa [withZ, meetZ, Hid] using this
      have HW0 := HW
      clear hpi HZ HW
      go_wp2
      go_loopw [10, 12] (fun s t wr => ∃ (k : Nat), k ≤ m ∧ t = .int .i64 k ∧ Hid (OwnZ wr w.heap.size wr.heap.size s (addZ [] (joinZ (a.take i) b x y ++ withZ (px, pw) (meetZ (b.take k) y cx)))) ∧ Hid (Below w.heap.size w wr) ∧ Hid (∀ k', k' < k → x < px.length ∧ y < (b.getD k' ([], 0)).1.length)) (fun _ t _ => m - (intOf t).toNat)
      case atStart => exact ⟨0, Nat.zero_le _, rfl, HZ0.out, HW0.out, fun k' hk' => by omega⟩
      case round =>
        obtain ⟨k, hk, rfl, HZ, HW, HA⟩ := hrel
        clear HZ0 HW0
        by_cases hltk : k < m
        · have hkb : k < b.length := by rw [← HM.out]; exact hltk
          have hbq := HW.out
          obtain ⟨qv, d0, d1, hqi0⟩ := hcb k hltk
          have hqin := hlb _ (getZ_mem hkb)
          have HTM : Hid _ := meetZ_take (b := b) y cx hkb
          have hnok := hno k hkb
          obtain ⟨q, HQ⟩ : ∃ q, Hid (q = b.getD k ([], 0)) := ⟨_, rfl⟩
          rw [← HQ.out] at d1 hqi0 hqin HTM hnok
          obtain ⟨qx, qw⟩ := q
          simp only at d1 hqi0 hqin HTM hnok
          obtain ⟨qa, qn, qc, rfl⟩ := hqi0.shape
          have hqn : qn = qx.length := by obtain ⟨_, _, _, e, _⟩ := hqi0; simp at e; exact e.2.1
          have g0 := (hbq.cell (p := ⟨ab, aoff + i * 2, none⟩) habw).trans c0
          have g1 := (hbq.cell (p := ⟨bb, boff + k * 2, none⟩) hbbw).trans d0
          have habr : ab < wr.heap.size := Nat.lt_of_lt_of_le habw hbq.size
          have hbbr : bb < wr.heap.size := Nat.lt_of_lt_of_le hbbw hbq.size
          by_cases hxx : x < pn
          · by_cases hyy : y < qn
            · have hxp : x < px.length := by rw [← HPN.out]; exact hxx
              have hyq : y < qx.length := by rw [← hqn]; exact hyy
              obtain ⟨ra, roa, rca, e1, hraw, hcx0⟩ := row_at' HPI.out hxp
              obtain ⟨rb, rob, rcb, e2, hrbw, hcy0⟩ := row_at' hqi0 hyq
              simp only [Value.slice.injEq] at e1 e2
              obtain ⟨rfl, rfl, rfl⟩ := e1
              obtain ⟨rfl, rfl, rfl⟩ := e2
              rw [← HCX.out] at hcx0
              obtain ⟨cy, HCY⟩ : ∃ cy, Hid (cy = qx.getD y 0) := ⟨_, rfl⟩
              rw [← HCY.out] at hcy0 HTM
              have hcx := (hbq.cell (p := ⟨ra, roa + x, none⟩) hraw).trans hcx0
              have hcy := (hbq.cell (p := ⟨rb, rob + y, none⟩) hrbw).trans hcy0
              have Y0 : wr.cell? ⟨ab, aoff + i * 2, none⟩ = some (.slice (some ⟨ra, roa, none⟩) px.length pc) ∧ wr.cell? ⟨bb, boff + k * 2, none⟩ = some (.slice (some ⟨rb, rob, none⟩) qx.length qc) ∧ wr.cell? ⟨ra, roa + x, none⟩ = some (.int .i64 cx) ∧ wr.cell? ⟨rb, rob + y, none⟩ = some (.int .i64 cy) := ⟨g0, g1, hcx, hcy⟩
              have HA2 : Hid (∀ k', k' < k + 1 → x < px.length ∧ y < (b.getD k' ([], 0)).1.length) := fun k' hk' => by
                rcases Nat.lt_succ_iff_lt_or_eq.1 hk' with h | h
                · exact HA.out k' h
                · rw [h, ← HQ.out]; exact ⟨hxp, hyq⟩
              have hxge : ¬ ((x : Int) ≥ (px.length : Int)) := by omega
              have hyge : ¬ ((y : Int) ≥ (qx.length : Int)) := by omega
              have HWD : Hid (Below w.heap.size w wr.drew.drew) := hbq.drew.drew
              have hwd : w.heap.size ≤ wr.drew.drew.heap.size := hbq.size
              have i1 : IntsAt wr.drew.drew (.slice (some ⟨ra, roa, none⟩) px.length pc) px := HPI.out.below HWD.out
              have i2 : IntsAt wr.drew.drew (.slice (some ⟨rb, rob, none⟩) qx.length qc) qx := hqi0.below HWD.out
              have hjn : px.length + qx.length ≤ 8796093022208 := by omega
              have hjl : (joinZ (a.take i) b x y ++ withZ (px, pw) (meetZ (b.take k) y cx)).length ≤ 10100 := by
                have h5 := joinZ_len b x y (a.take i)
                have h6 : (a.take i).length * b.length ≤ 100 * 100 := Nat.mul_le_mul (by rw [List.length_take]; omega) (by rw [← HM.out]; omega)
                have h7 := meetZ_len (b.take k) y cx
                rw [List.length_append, withZ_len]
                rw [List.length_take] at h7
                omega
              by_cases hc : cx = cy
              · have HTT : Hid (joinZ (a.take i) b x y ++ withZ (px, pw) (meetZ (b.take (k + 1)) y cx) = (joinZ (a.take i) b x y ++ withZ (px, pw) (meetZ (b.take k) y cx)) ++ [(px ++ qx, pw * qw)]) := by
                  show _ = _
                  rw [HTM.out, if_pos hc.symm, withZ_append, ← List.append_assoc]
                  rfl
                have hmul := mul_in (A := 10000) (B := 10000) (a := pw) (b := qw) hpin.2 hqin.2 (by omega) (by omega)
                obtain ⟨pq, HPQ⟩ : ∃ pq, Hid (pq = pw * qw) := ⟨_, rfl⟩
                have hwrap : IntKind.i64.wrap (pw * qw) = pq := by rw [HPQ.out, IntKind.wrap_i64]; omega
                rw [← HPQ.out] at hmul
                have hwz := HSUM.out (joinZ (a.take i) b x y ++ withZ (px, pw) (meetZ (b.take k) y cx)) (fun z hz => by
                  rcases List.mem_append.1 hz with h | h
                  · obtain ⟨p', hp', q', hq', e⟩ := mem_join h
                    rw [e]
                    have t1 := hla p' (List.mem_of_mem_take hp')
                    have t2 := hlb q' hq'
                    have := mul_in (A := 10000) (B := 10000) t1.2 t2.2 (by omega) (by omega)
                    exact ⟨by show -100000000 ≤ p'.2 * q'.2; omega, by show p'.2 * q'.2 ≤ 100000000; omega⟩
                  · obtain ⟨q', hq', e⟩ := mem_with h
                    rw [e]
                    have t2 := hlb q' (List.mem_of_mem_take (List.mem_filter.1 hq').1)
                    have := mul_in (A := 10000) (B := 10000) hpin.2 t2.2 (by omega) (by omega)
                    exact ⟨by show -100000000 ≤ pw * q'.2; omega, by show pw * q'.2 ≤ 100000000; omega⟩) (by omega)
                have hal := add_len (joinZ (a.take i) b x y ++ withZ (px, pw) (meetZ (b.take k) y cx)) []
                have ZB : OwnZ wr.drew.drew w.heap.size wr.heap.size u10 (addZ [] (joinZ (a.take i) b x y ++ withZ (px, pw) (meetZ (b.take k) y cx))) := (HZ.out.keep' (Below.drew (Below.refl _ _))).keep' (Below.drew (Below.refl _ _))
                obtain ⟨acc, HACC⟩ : ∃ acc, Hid (acc = addZ [] (joinZ (a.take i) b x y ++ withZ (px, pw) (meetZ (b.take k) y cx))) := ⟨_, rfl⟩
                rw [← HACC.out] at ZB hwz hal
                have hal' : acc.length ≤ 10100 := by
                  have h9 := hal
                  rw [List.length_nil, Nat.zero_add] at h9
                  exact Nat.le_trans h9 hjl
                have hce : (cx == cy) = true := by simp [hc]
                clear hnok hno HZ HW HA hal hcx0 hcy0 hcx hcy
                go_wp2
                refine wp_region_held_drew (S := (fun w' => w'.cell? ⟨ab, aoff + i * 2, none⟩ = some (.slice (some ⟨ra, roa, none⟩) px.length pc) ∧ w'.cell? ⟨bb, boff + k * 2, none⟩ = some (.slice (some ⟨rb, rob, none⟩) qx.length qc) ∧ w'.cell? ⟨ra, roa + x, none⟩ = some (.int .i64 cx) ∧ w'.cell? ⟨rb, rob + y, none⟩ = some (.int .i64 cy))) (by kernel_rfl) ?_ (fun hHeld => ?_)
                · (try dsimp only); exact Y0
                refine wpAnyH_take (i := 0) (v := ?_) rfl (by kernel_rfl) (by kernel_rfl) (by kernel_rfl) (fun _ _ _ h => h) (Or.inl ⟨by rfl, ?_⟩) (by assumption) ?_
                rotate_left 1
                · intro w hSw; (try dsimp only at hSw); go_simp; try with_reducible rfl
                simp only [Act.put, List.getElem_toArray, List.getElem_cons_zero, List.setIfInBounds_toArray, List.set_cons_zero, List.set_cons_succ]
                refine wpAnyH_take (i := 1) (v := ?_) rfl (by kernel_rfl) (by kernel_rfl) (by kernel_rfl) (fun _ _ _ h => h) (Or.inl ⟨by rfl, ?_⟩) (by assumption) ?_
                rotate_left 1
                · intro w hSw; (try dsimp only at hSw); go_simp; try with_reducible rfl
                simp only [Act.put, List.getElem_toArray, List.getElem_cons_succ, List.getElem_cons_zero, List.setIfInBounds_toArray, List.set_cons_zero, List.set_cons_succ]
                refine wpAnyH_take (i := 2) (v := ?_) rfl (by kernel_rfl) (by kernel_rfl) (by kernel_rfl) (fun _ _ _ h => h) (Or.inl ⟨by rfl, ?_⟩) (by assumption) ?_
                rotate_left 1
                · intro w hSw; (try dsimp only at hSw); go_simp; try with_reducible rfl
                simp only [Act.put, List.getElem_toArray, List.getElem_cons_succ, List.getElem_cons_zero, List.setIfInBounds_toArray, List.set_cons_zero, List.set_cons_succ]
                refine wpAnyH_take (i := 3) (v := ?_) rfl (by kernel_rfl) (by kernel_rfl) (by kernel_rfl) (fun _ _ _ h => h) (Or.inl ⟨by rfl, ?_⟩) (by assumption) ?_
                rotate_left 1
                · intro w hSw; (try dsimp only at hSw); go_simp; try with_reducible rfl
                simp only [Act.put, List.getElem_toArray, List.getElem_cons_succ, List.getElem_cons_zero, List.setIfInBounds_toArray, List.set_cons_zero, List.set_cons_succ]
                refine wpAnyH_take (i := 4) (v := ?_) rfl (by kernel_rfl) (by kernel_rfl) (by kernel_rfl) (fun _ _ _ h => h) (Or.inl ⟨by rfl, ?_⟩) (by assumption) ?_
                rotate_left 1
                · intro w hSw; (try dsimp only at hSw); go_simp; try with_reducible rfl
                simp only [Act.put, List.getElem_toArray, List.getElem_cons_succ, List.getElem_cons_zero, List.setIfInBounds_toArray, List.set_cons_zero, List.set_cons_succ]
                refine wpAnyH_take (i := 5) (v := ?_) rfl (by kernel_rfl) (by kernel_rfl) (by kernel_rfl) (fun _ _ _ h => h) (Or.inl ⟨by rfl, ?_⟩) (by assumption) ?_
                rotate_left 1
                · intro w hSw; (try dsimp only at hSw); go_simp; try with_reducible rfl
                simp only [Act.put, List.getElem_toArray, List.getElem_cons_succ, List.getElem_cons_zero, List.setIfInBounds_toArray, List.set_cons_zero, List.set_cons_succ]
                refine wpAnyH_take (i := 6) (v := ?_) rfl (by kernel_rfl) (by kernel_rfl) (by kernel_rfl) (fun _ _ _ h => h) (Or.inl ⟨by rfl, ?_⟩) (by assumption) ?_
                rotate_left 1
                · intro w hSw; (try dsimp only at hSw); go_simp; try with_reducible rfl
                simp only [Act.put, List.getElem_toArray, List.getElem_cons_succ, List.getElem_cons_zero, List.setIfInBounds_toArray, List.set_cons_zero, List.set_cons_succ]
                refine wpAnyH_take (i := 7) (v := ?_) rfl (by kernel_rfl) (by kernel_rfl) (by kernel_rfl) (fun _ _ _ h => h) (Or.inl ⟨by rfl, ?_⟩) (by assumption) ?_
                rotate_left 1
                · intro w hSw; (try dsimp only at hSw); go_simp; try with_reducible rfl
                simp only [Act.put, List.getElem_toArray, List.getElem_cons_succ, List.getElem_cons_zero, List.setIfInBounds_toArray, List.set_cons_zero, List.set_cons_succ]
                refine wpAnyH_take (i := 8) (v := ?_) rfl (by kernel_rfl) (by kernel_rfl) (by kernel_rfl) (fun _ _ _ h => h) (Or.inl ⟨by rfl, ?_⟩) (by assumption) ?_
                rotate_left 1
                · intro w hSw; (try dsimp only at hSw); go_simp; try with_reducible rfl
                simp only [Act.put, List.getElem_toArray, List.getElem_cons_succ, List.getElem_cons_zero, List.setIfInBounds_toArray, List.set_cons_zero, List.set_cons_succ]
                refine wpAnyH_take (i := 9) (v := ?_) rfl (by kernel_rfl) (by kernel_rfl) (by kernel_rfl) (fun _ _ _ h => h) (Or.inl ⟨by rfl, ?_⟩) (by assumption) ?_
                rotate_left 1
                · intro w hSw; (try dsimp only at hSw); go_simp; try with_reducible rfl
                simp only [Act.put, List.getElem_toArray, List.getElem_cons_succ, List.getElem_cons_zero, List.setIfInBounds_toArray, List.set_cons_zero, List.set_cons_succ]
                refine wpAnyH_take (i := 10) (v := ?_) rfl (by kernel_rfl) (by kernel_rfl) (by kernel_rfl) (fun _ _ _ h => h) (Or.inl ⟨by rfl, ?_⟩) (by assumption) ?_
                rotate_left 1
                · intro w hSw; (try dsimp only at hSw); go_simp; try with_reducible rfl
                simp only [Act.put, List.getElem_toArray, List.getElem_cons_succ, List.getElem_cons_zero, List.setIfInBounds_toArray, List.set_cons_zero, List.set_cons_succ]
                refine wpAnyH_take (i := 11) (v := ?_) rfl (by kernel_rfl) (by kernel_rfl) (by kernel_rfl) (fun _ _ _ h => h) (Or.inl ⟨by rfl, ?_⟩) (by assumption) ?_
                rotate_left 1
                · intro w hSw; (try dsimp only at hSw); go_simp; try with_reducible rfl
                simp only [Act.put, List.getElem_toArray, List.getElem_cons_succ, List.getElem_cons_zero, List.setIfInBounds_toArray, List.set_cons_zero, List.set_cons_succ]
                refine wpAnyH_take (i := 12) (v := ?_) rfl (by kernel_rfl) (by kernel_rfl) (by kernel_rfl) (fun _ _ _ h => h) (Or.inl ⟨by rfl, ?_⟩) (by assumption) ?_
                rotate_left 1
                · intro w hSw; (try dsimp only at hSw); go_simp; try with_reducible rfl
                simp only [Act.put, List.getElem_toArray, List.getElem_cons_succ, List.getElem_cons_zero, List.setIfInBounds_toArray, List.set_cons_zero, List.set_cons_succ]
                refine wpAnyH_take (i := 13) (v := ?_) rfl (by kernel_rfl) (by kernel_rfl) (by kernel_rfl) (fun _ _ _ h => h) (Or.inl ⟨by rfl, ?_⟩) (by assumption) ?_
                rotate_left 1
                · intro w hSw; (try dsimp only at hSw); go_simp; try with_reducible rfl
                simp only [Act.put, List.getElem_toArray, List.getElem_cons_succ, List.getElem_cons_zero, List.setIfInBounds_toArray, List.set_cons_zero, List.set_cons_succ]
                refine wpAnyH_take (i := 14) (v := ?_) rfl (by kernel_rfl) (by kernel_rfl) (by kernel_rfl) (fun _ _ _ h => h) (Or.inl ⟨by rfl, ?_⟩) (by assumption) ?_
                rotate_left 1
                · intro w hSw; (try dsimp only at hSw); go_simp; try with_reducible rfl
                simp only [Act.put, List.getElem_toArray, List.getElem_cons_succ, List.getElem_cons_zero, List.setIfInBounds_toArray, List.set_cons_zero, List.set_cons_succ]
                refine wpAnyH_take (i := 15) (v := ?_) rfl (by kernel_rfl) (by kernel_rfl) (by kernel_rfl) (fun _ _ _ h => h) (Or.inl ⟨by rfl, ?_⟩) (by assumption) ?_
                rotate_left 1
                · intro w hSw; (try dsimp only at hSw); go_simp; try with_reducible rfl
                simp only [Act.put, List.getElem_toArray, List.getElem_cons_succ, List.getElem_cons_zero, List.setIfInBounds_toArray, List.set_cons_zero, List.set_cons_succ]
                refine wpAnyH_take (i := 16) (v := ?_) rfl (by kernel_rfl) (by kernel_rfl) (by kernel_rfl) (fun _ _ _ h => h) (Or.inl ⟨by rfl, ?_⟩) (by assumption) ?_
                rotate_left 1
                · intro w hSw; (try dsimp only at hSw); go_simp; try with_reducible rfl
                simp only [Act.put, List.getElem_toArray, List.getElem_cons_succ, List.getElem_cons_zero, List.setIfInBounds_toArray, List.set_cons_zero, List.set_cons_succ]
                refine wpAnyH_done (by kernel_rfl) ?_ _
                clear Y0
                have Y0 : wr.drew.drew.cell? ⟨ab, aoff + i * 2, none⟩ = some (.slice (some ⟨ra, roa, none⟩) px.length pc) ∧ wr.drew.drew.cell? ⟨ab, aoff + i * 2 + 1, none⟩ = some (.int .i64 pw) ∧ wr.drew.drew.cell? ⟨bb, boff + k * 2, none⟩ = some (.slice (some ⟨rb, rob, none⟩) qx.length qc) ∧ wr.drew.drew.cell? ⟨bb, boff + k * 2 + 1, none⟩ = some (.int .i64 qw) := ⟨(HWD.out.cell (p := ⟨ab, aoff + i * 2, none⟩) habw).trans c0, (HWD.out.cell (p := ⟨ab, aoff + i * 2 + 1, none⟩) habw).trans c1, (HWD.out.cell (p := ⟨bb, boff + k * 2, none⟩) hbbw).trans d0, (HWD.out.cell (p := ⟨bb, boff + k * 2 + 1, none⟩) hbbw).trans d1⟩
                clear hbq g0 g1
                go_wp2
                refine wp_region_held_drew (S := (fun w' => w'.cell? ⟨ab, aoff + i * 2, none⟩ = some (.slice (some ⟨ra, roa, none⟩) px.length pc) ∧ w'.cell? ⟨ab, aoff + i * 2 + 1, none⟩ = some (.int .i64 pw) ∧ w'.cell? ⟨bb, boff + k * 2, none⟩ = some (.slice (some ⟨rb, rob, none⟩) qx.length qc) ∧ w'.cell? ⟨bb, boff + k * 2 + 1, none⟩ = some (.int .i64 qw))) (by kernel_rfl) ?_ (fun hHeld => ?_)
                · (try dsimp only); exact Y0
                refine wpAnyH_take (i := 0) (v := ?_) rfl (by kernel_rfl) (by kernel_rfl) (by kernel_rfl) (fun _ _ _ h => h) (Or.inl ⟨by rfl, ?_⟩) (by assumption) ?_
                rotate_left 1
                · intro w hSw; (try dsimp only at hSw); go_simp; try with_reducible rfl
                simp only [Act.put, List.getElem_toArray, List.getElem_cons_zero, List.setIfInBounds_toArray, List.set_cons_zero, List.set_cons_succ]
                refine wpAnyH_take (i := 1) (v := ?_) rfl (by kernel_rfl) (by kernel_rfl) (by kernel_rfl) (fun _ _ _ h => h) (Or.inl ⟨by rfl, ?_⟩) (by assumption) ?_
                rotate_left 1
                · intro w hSw; (try dsimp only at hSw); go_simp; try with_reducible rfl
                simp only [Act.put, List.getElem_toArray, List.getElem_cons_succ, List.getElem_cons_zero, List.setIfInBounds_toArray, List.set_cons_zero, List.set_cons_succ]
                refine wpAnyH_take (i := 2) (v := ?_) rfl (by kernel_rfl) (by kernel_rfl) (by kernel_rfl) (fun _ _ _ h => h) (Or.inl ⟨by rfl, ?_⟩) (by assumption) ?_
                rotate_left 1
                · intro w hSw; (try dsimp only at hSw); go_simp; try with_reducible rfl
                simp only [Act.put, List.getElem_toArray, List.getElem_cons_succ, List.getElem_cons_zero, List.setIfInBounds_toArray, List.set_cons_zero, List.set_cons_succ]
                refine wpAnyH_take (i := 3) (v := ?_) rfl (by kernel_rfl) (by kernel_rfl) (by kernel_rfl) (fun _ _ _ h => h) (Or.inl ⟨by rfl, ?_⟩) (by assumption) ?_
                rotate_left 1
                · intro w hSw; (try dsimp only at hSw); go_simp; try with_reducible rfl
                simp only [Act.put, List.getElem_toArray, List.getElem_cons_succ, List.getElem_cons_zero, List.setIfInBounds_toArray, List.set_cons_zero, List.set_cons_succ]
                refine wpAnyH_take (i := 4) (v := ?_) rfl (by kernel_rfl) (by kernel_rfl) (by kernel_rfl) (fun _ _ _ h => h) (Or.inl ⟨by rfl, ?_⟩) (by assumption) ?_
                rotate_left 1
                · intro w hSw; (try dsimp only at hSw); go_simp; try with_reducible rfl
                simp only [Act.put, List.getElem_toArray, List.getElem_cons_succ, List.getElem_cons_zero, List.setIfInBounds_toArray, List.set_cons_zero, List.set_cons_succ]
                refine wpAnyH_take (i := 5) (v := ?_) rfl (by kernel_rfl) (by kernel_rfl) (by kernel_rfl) (fun _ _ _ h => h) (Or.inl ⟨by rfl, ?_⟩) (by assumption) ?_
                rotate_left 1
                · intro w hSw; (try dsimp only at hSw); go_simp; try with_reducible rfl
                simp only [Act.put, List.getElem_toArray, List.getElem_cons_succ, List.getElem_cons_zero, List.setIfInBounds_toArray, List.set_cons_zero, List.set_cons_succ]
                refine wpAnyH_take (i := 6) (v := ?_) rfl (by kernel_rfl) (by kernel_rfl) (by kernel_rfl) (fun _ _ _ h => h) (Or.inl ⟨by rfl, ?_⟩) (by assumption) ?_
                rotate_left 1
                · intro w hSw; (try dsimp only at hSw); go_simp; try with_reducible rfl
                simp only [Act.put, List.getElem_toArray, List.getElem_cons_succ, List.getElem_cons_zero, List.setIfInBounds_toArray, List.set_cons_zero, List.set_cons_succ]
                refine wpAnyH_take (i := 7) (v := ?_) rfl (by kernel_rfl) (by kernel_rfl) (by kernel_rfl) (fun _ _ _ h => h) (Or.inl ⟨by rfl, ?_⟩) (by assumption) ?_
                rotate_left 1
                · intro w hSw; (try dsimp only at hSw); go_simp; try with_reducible rfl
                simp only [Act.put, List.getElem_toArray, List.getElem_cons_succ, List.getElem_cons_zero, List.setIfInBounds_toArray, List.set_cons_zero, List.set_cons_succ]
                refine wpAnyH_take (i := 8) (v := ?_) rfl (by kernel_rfl) (by kernel_rfl) (by kernel_rfl) (fun _ _ _ h => h) (Or.inl ⟨by rfl, ?_⟩) (by assumption) ?_
                rotate_left 1
                · intro w hSw; (try dsimp only at hSw); go_simp; try with_reducible rfl
                simp only [Act.put, List.getElem_toArray, List.getElem_cons_succ, List.getElem_cons_zero, List.setIfInBounds_toArray, List.set_cons_zero, List.set_cons_succ]
                refine wpAnyH_take (i := 9) (v := ?_) rfl (by kernel_rfl) (by kernel_rfl) (by kernel_rfl) (fun _ _ _ h => h) (Or.inl ⟨by rfl, ?_⟩) (by assumption) ?_
                rotate_left 1
                · intro w hSw; (try dsimp only at hSw); go_simp; try with_reducible rfl
                simp only [Act.put, List.getElem_toArray, List.getElem_cons_succ, List.getElem_cons_zero, List.setIfInBounds_toArray, List.set_cons_zero, List.set_cons_succ]
                refine wpAnyH_take (i := 10) (v := ?_) rfl (by kernel_rfl) (by kernel_rfl) (by kernel_rfl) (fun _ _ _ h => h) (Or.inl ⟨by rfl, ?_⟩) (by assumption) ?_
                rotate_left 1
                · intro w hSw; (try dsimp only at hSw); go_simp; try with_reducible rfl
                simp only [Act.put, List.getElem_toArray, List.getElem_cons_succ, List.getElem_cons_zero, List.setIfInBounds_toArray, List.set_cons_zero, List.set_cons_succ]
                refine wpAnyH_take (i := 12) (v := ?_) rfl (by kernel_rfl) (by kernel_rfl) (by kernel_rfl) (fun _ _ _ h => h) (Or.inl ⟨by rfl, ?_⟩) (by assumption) ?_
                rotate_left 1
                · intro w hSw; (try dsimp only at hSw); go_simp; try with_reducible rfl
                simp only [Act.put, List.getElem_toArray, List.getElem_cons_succ, List.getElem_cons_zero, List.setIfInBounds_toArray, List.set_cons_zero, List.set_cons_succ]
                refine wpAnyH_take (i := 13) (v := ?_) rfl (by kernel_rfl) (by kernel_rfl) (by kernel_rfl) (fun _ _ _ h => h) (Or.inl ⟨by rfl, ?_⟩) (by assumption) ?_
                rotate_left 1
                · intro w hSw; (try dsimp only at hSw); go_simp; try with_reducible rfl
                simp only [Act.put, List.getElem_toArray, List.getElem_cons_succ, List.getElem_cons_zero, List.setIfInBounds_toArray, List.set_cons_zero, List.set_cons_succ]
                refine wpAnyH_take (i := 14) (v := ?_) rfl (by kernel_rfl) (by kernel_rfl) (by kernel_rfl) (fun _ _ _ h => h) (Or.inl ⟨by rfl, ?_⟩) (by assumption) ?_
                rotate_left 1
                · intro w hSw; (try dsimp only at hSw); go_simp; try with_reducible rfl
                simp only [Act.put, List.getElem_toArray, List.getElem_cons_succ, List.getElem_cons_zero, List.setIfInBounds_toArray, List.set_cons_zero, List.set_cons_succ]
                refine wpAnyH_take (i := 15) (v := ?_) rfl (by kernel_rfl) (by kernel_rfl) (by kernel_rfl) (fun _ _ _ h => h) (Or.inl ⟨by rfl, ?_⟩) (by assumption) ?_
                rotate_left 1
                · intro w hSw; (try dsimp only at hSw); go_simp; try with_reducible rfl
                simp only [Act.put, List.getElem_toArray, List.getElem_cons_succ, List.getElem_cons_zero, List.setIfInBounds_toArray, List.set_cons_zero, List.set_cons_succ]
                refine wpAnyH_take (i := 16) (v := ?_) rfl (by kernel_rfl) (by kernel_rfl) (by kernel_rfl) (fun _ _ _ h => h) (Or.inl ⟨by rfl, ?_⟩) (by assumption) ?_
                rotate_left 1
                · intro w hSw; (try dsimp only at hSw); go_simp; try with_reducible rfl
                simp only [Act.put, List.getElem_toArray, List.getElem_cons_succ, List.getElem_cons_zero, List.setIfInBounds_toArray, List.set_cons_zero, List.set_cons_succ]
                refine wpAnyH_take (i := 17) (v := ?_) rfl (by kernel_rfl) (by kernel_rfl) (by kernel_rfl) (fun _ _ _ h => h) (Or.inl ⟨by rfl, ?_⟩) (by assumption) ?_
                rotate_left 1
                · intro w hSw; (try dsimp only at hSw); go_simp; try with_reducible rfl
                simp only [Act.put, List.getElem_toArray, List.getElem_cons_succ, List.getElem_cons_zero, List.setIfInBounds_toArray, List.set_cons_zero, List.set_cons_succ]
                refine wpAnyH_take (i := 18) (v := ?_) rfl (by kernel_rfl) (by kernel_rfl) (by kernel_rfl) (fun _ _ _ h => h) (Or.inl ⟨by rfl, ?_⟩) (by assumption) ?_
                rotate_left 1
                · intro w hSw; (try dsimp only at hSw); go_simp; try with_reducible rfl
                simp only [Act.put, List.getElem_toArray, List.getElem_cons_succ, List.getElem_cons_zero, List.setIfInBounds_toArray, List.set_cons_zero, List.set_cons_succ]
                refine wpAnyH_take (i := 19) (v := ?_) rfl (by kernel_rfl) (by kernel_rfl) (by kernel_rfl) (fun _ _ _ h => h) (Or.inl ⟨by rfl, ?_⟩) (by assumption) ?_
                rotate_left 1
                · intro w hSw; (try dsimp only at hSw); go_simp; try with_reducible rfl
                simp only [Act.put, List.getElem_toArray, List.getElem_cons_succ, List.getElem_cons_zero, List.setIfInBounds_toArray, List.set_cons_zero, List.set_cons_succ]
                refine wpAnyH_take (i := 20) (v := ?_) rfl (by kernel_rfl) (by kernel_rfl) (by kernel_rfl) (fun _ _ _ h => h) (Or.inl ⟨by rfl, ?_⟩) (by assumption) ?_
                rotate_left 1
                · intro w hSw; (try dsimp only at hSw); go_simp; try with_reducible rfl
                simp only [Act.put, List.getElem_toArray, List.getElem_cons_succ, List.getElem_cons_zero, List.setIfInBounds_toArray, List.set_cons_zero, List.set_cons_succ]
                refine wpAnyH_take (i := 21) (v := ?_) rfl (by kernel_rfl) (by kernel_rfl) (by kernel_rfl) (fun _ _ _ h => h) (Or.inl ⟨by rfl, ?_⟩) (by assumption) ?_
                rotate_left 1
                · intro w hSw; (try dsimp only at hSw); go_simp; try with_reducible rfl
                simp only [Act.put, List.getElem_toArray, List.getElem_cons_succ, List.getElem_cons_zero, List.setIfInBounds_toArray, List.set_cons_zero, List.set_cons_succ]
                refine wpAnyH_take (i := 22) (v := ?_) rfl (by kernel_rfl) (by kernel_rfl) (by kernel_rfl) (fun _ _ _ h => h) (Or.inl ⟨by rfl, ?_⟩) (by assumption) ?_
                rotate_left 1
                · intro w hSw; (try dsimp only at hSw); go_simp; try with_reducible rfl
                simp only [Act.put, List.getElem_toArray, List.getElem_cons_succ, List.getElem_cons_zero, List.setIfInBounds_toArray, List.set_cons_zero, List.set_cons_succ]
                refine wpAnyH_ready (rs := [11]) (by kernel_rfl) (by simp) ?_
                refine AllReadyH.cons rfl (fun K hK => ?_) AllReadyH.nil
                go_simp
                (go_at_call 67; refine (specRowJoin_any _ _ px qx _ i1 i2 hjn).mono ?_; rintro e w3 ⟨v3, rfl, O3, hb3⟩)
                have hk3 : Below w.heap.size w w3 := HWD.out.trans (hb3.mono hwd)
                obtain ⟨va3, vn3, vc3, rfl⟩ := O3.ints.shape
                have Y3 : w3.cell? ⟨ab, aoff + i * 2, none⟩ = some (.slice (some ⟨ra, roa, none⟩) px.length pc) ∧ w3.cell? ⟨ab, aoff + i * 2 + 1, none⟩ = some (.int .i64 pw) ∧ w3.cell? ⟨bb, boff + k * 2, none⟩ = some (.slice (some ⟨rb, rob, none⟩) qx.length qc) ∧ w3.cell? ⟨bb, boff + k * 2 + 1, none⟩ = some (.int .i64 qw) := ⟨(hk3.cell (p := ⟨ab, aoff + i * 2, none⟩) habw).trans c0, (hk3.cell (p := ⟨ab, aoff + i * 2 + 1, none⟩) habw).trans c1, (hk3.cell (p := ⟨bb, boff + k * 2, none⟩) hbbw).trans d0, (hk3.cell (p := ⟨bb, boff + k * 2 + 1, none⟩) hbbw).trans d1⟩
                have ZB3 := (ZB.keep' hb3).wide (Nat.le_refl _) hb3.size (Nat.le_refl _)
                refine hK.out _ _ ?_ (fun hHeld => ?_)
                · (try dsimp only); exact Y3
                clear hK K
                try simp only [Act.put, List.getElem_toArray, List.getElem_cons_succ, List.getElem_cons_zero, List.setIfInBounds_toArray, List.set_cons_zero, List.set_cons_succ]
                refine wpAnyH_ready (rs := [23]) (by kernel_rfl) (by simp) ?_
                refine AllReadyH.cons rfl (fun K hK => ?_) AllReadyH.nil
                go_simp
                (go_at_call 27; refine (l2Put_any _ w.heap.size w3.heap.size acc _ (px ++ qx) pq _ ZB3 hk3.size O3.ints (by omega) (by rw [List.length_append]; omega) hwz (by omega)).mono ?_; rintro e w4 ⟨v4, rfl, Z4, O4⟩)
                have hk4 : Below w.heap.size w w4 := O4.below hk3 (Nat.le_refl _) hk3.size
                have Y4 : w4.cell? ⟨ab, aoff + i * 2, none⟩ = some (.slice (some ⟨ra, roa, none⟩) px.length pc) ∧ w4.cell? ⟨ab, aoff + i * 2 + 1, none⟩ = some (.int .i64 pw) ∧ w4.cell? ⟨bb, boff + k * 2, none⟩ = some (.slice (some ⟨rb, rob, none⟩) qx.length qc) ∧ w4.cell? ⟨bb, boff + k * 2 + 1, none⟩ = some (.int .i64 qw) := ⟨(hk4.cell (p := ⟨ab, aoff + i * 2, none⟩) habw).trans c0, (hk4.cell (p := ⟨ab, aoff + i * 2 + 1, none⟩) habw).trans c1, (hk4.cell (p := ⟨bb, boff + k * 2, none⟩) hbbw).trans d0, (hk4.cell (p := ⟨bb, boff + k * 2 + 1, none⟩) hbbw).trans d1⟩
                refine hK.out _ _ ?_ (fun hHeld => ?_)
                · (try dsimp only); exact Y4
                clear hK K
                try simp only [Act.put, List.getElem_toArray, List.getElem_cons_succ, List.getElem_cons_zero, List.setIfInBounds_toArray, List.set_cons_zero, List.set_cons_succ]
                refine wpAnyH_take (i := 24) (v := ?_) rfl (by kernel_rfl) (by kernel_rfl) (by kernel_rfl) (fun _ _ _ h => h) (Or.inl ⟨by rfl, ?_⟩) (by assumption) ?_
                rotate_left 1
                · intro w hSw; (try dsimp only at hSw); go_simp; try with_reducible rfl
                simp only [Act.put, List.getElem_toArray, List.getElem_cons_succ, List.getElem_cons_zero, List.setIfInBounds_toArray, List.set_cons_zero, List.set_cons_succ]
                refine wpAnyH_done (by kernel_rfl) ?_ _
                have HK : Hid (Below w.heap.size w w4) := hk4
                have HZ4 : Hid (OwnZ w4 w.heap.size w4.heap.size v4 (addZ [] (joinZ (a.take i) b x y ++ withZ (px, pw) (meetZ (b.take (k + 1)) y cx)))) := by
                  show OwnZ _ _ _ _ _
                  rw [HTT.out, addZ_snoc, ← HACC.out, ← HPQ.out]
                  exact Z4
                clear Z4 O4 hk4 Y0 Y3 Y4 hb3 hk3 O3 ZB ZB3 i1 i2 hwz
                go_wp2
                go_roundw
                case rel => exact ⟨k + 1, by omega, by go_num, HZ4.out, HK.out, HA2.out⟩
                case measure => simp [intOf]; omega
              · have HTT : Hid (joinZ (a.take i) b x y ++ withZ (px, pw) (meetZ (b.take (k + 1)) y cx) = joinZ (a.take i) b x y ++ withZ (px, pw) (meetZ (b.take k) y cx)) := by
                  show _ = _
                  rw [HTM.out, if_neg (fun e => hc e.symm), List.append_nil]
                have hcf : (cx == cy) = false := by simp [hc]
                have HZ4 : Hid (OwnZ wr.drew w.heap.size wr.drew.heap.size u10 (addZ [] (joinZ (a.take i) b x y ++ withZ (px, pw) (meetZ (b.take (k + 1)) y cx)))) := by
                  show OwnZ _ _ _ _ _
                  rw [HTT.out]
                  exact HZ.out.keep' (Below.drew (Below.refl _ _))
                have HK : Hid (Below w.heap.size w wr.drew) := hbq.drew
                clear hnok hno HZ HW HA hcx0 hcy0 hcx hcy hbq i1 i2 HWD
                go_wp2
                refine wp_region_held_drew (S := (fun w' => w'.cell? ⟨ab, aoff + i * 2, none⟩ = some (.slice (some ⟨ra, roa, none⟩) px.length pc) ∧ w'.cell? ⟨bb, boff + k * 2, none⟩ = some (.slice (some ⟨rb, rob, none⟩) qx.length qc) ∧ w'.cell? ⟨ra, roa + x, none⟩ = some (.int .i64 cx) ∧ w'.cell? ⟨rb, rob + y, none⟩ = some (.int .i64 cy))) (by kernel_rfl) ?_ (fun hHeld => ?_)
                · (try dsimp only); exact Y0
                refine wpAnyH_take (i := 0) (v := ?_) rfl (by kernel_rfl) (by kernel_rfl) (by kernel_rfl) (fun _ _ _ h => h) (Or.inl ⟨by rfl, ?_⟩) (by assumption) ?_
                rotate_left 1
                · intro w hSw; (try dsimp only at hSw); go_simp; try with_reducible rfl
                simp only [Act.put, List.getElem_toArray, List.getElem_cons_zero, List.setIfInBounds_toArray, List.set_cons_zero, List.set_cons_succ]
                refine wpAnyH_take (i := 1) (v := ?_) rfl (by kernel_rfl) (by kernel_rfl) (by kernel_rfl) (fun _ _ _ h => h) (Or.inl ⟨by rfl, ?_⟩) (by assumption) ?_
                rotate_left 1
                · intro w hSw; (try dsimp only at hSw); go_simp; try with_reducible rfl
                simp only [Act.put, List.getElem_toArray, List.getElem_cons_succ, List.getElem_cons_zero, List.setIfInBounds_toArray, List.set_cons_zero, List.set_cons_succ]
                refine wpAnyH_take (i := 2) (v := ?_) rfl (by kernel_rfl) (by kernel_rfl) (by kernel_rfl) (fun _ _ _ h => h) (Or.inl ⟨by rfl, ?_⟩) (by assumption) ?_
                rotate_left 1
                · intro w hSw; (try dsimp only at hSw); go_simp; try with_reducible rfl
                simp only [Act.put, List.getElem_toArray, List.getElem_cons_succ, List.getElem_cons_zero, List.setIfInBounds_toArray, List.set_cons_zero, List.set_cons_succ]
                refine wpAnyH_take (i := 3) (v := ?_) rfl (by kernel_rfl) (by kernel_rfl) (by kernel_rfl) (fun _ _ _ h => h) (Or.inl ⟨by rfl, ?_⟩) (by assumption) ?_
                rotate_left 1
                · intro w hSw; (try dsimp only at hSw); go_simp; try with_reducible rfl
                simp only [Act.put, List.getElem_toArray, List.getElem_cons_succ, List.getElem_cons_zero, List.setIfInBounds_toArray, List.set_cons_zero, List.set_cons_succ]
                refine wpAnyH_take (i := 4) (v := ?_) rfl (by kernel_rfl) (by kernel_rfl) (by kernel_rfl) (fun _ _ _ h => h) (Or.inl ⟨by rfl, ?_⟩) (by assumption) ?_
                rotate_left 1
                · intro w hSw; (try dsimp only at hSw); go_simp; try with_reducible rfl
                simp only [Act.put, List.getElem_toArray, List.getElem_cons_succ, List.getElem_cons_zero, List.setIfInBounds_toArray, List.set_cons_zero, List.set_cons_succ]
                refine wpAnyH_take (i := 5) (v := ?_) rfl (by kernel_rfl) (by kernel_rfl) (by kernel_rfl) (fun _ _ _ h => h) (Or.inl ⟨by rfl, ?_⟩) (by assumption) ?_
                rotate_left 1
                · intro w hSw; (try dsimp only at hSw); go_simp; try with_reducible rfl
                simp only [Act.put, List.getElem_toArray, List.getElem_cons_succ, List.getElem_cons_zero, List.setIfInBounds_toArray, List.set_cons_zero, List.set_cons_succ]
                refine wpAnyH_take (i := 6) (v := ?_) rfl (by kernel_rfl) (by kernel_rfl) (by kernel_rfl) (fun _ _ _ h => h) (Or.inl ⟨by rfl, ?_⟩) (by assumption) ?_
                rotate_left 1
                · intro w hSw; (try dsimp only at hSw); go_simp; try with_reducible rfl
                simp only [Act.put, List.getElem_toArray, List.getElem_cons_succ, List.getElem_cons_zero, List.setIfInBounds_toArray, List.set_cons_zero, List.set_cons_succ]
                refine wpAnyH_take (i := 7) (v := ?_) rfl (by kernel_rfl) (by kernel_rfl) (by kernel_rfl) (fun _ _ _ h => h) (Or.inl ⟨by rfl, ?_⟩) (by assumption) ?_
                rotate_left 1
                · intro w hSw; (try dsimp only at hSw); go_simp; try with_reducible rfl
                simp only [Act.put, List.getElem_toArray, List.getElem_cons_succ, List.getElem_cons_zero, List.setIfInBounds_toArray, List.set_cons_zero, List.set_cons_succ]
                refine wpAnyH_take (i := 8) (v := ?_) rfl (by kernel_rfl) (by kernel_rfl) (by kernel_rfl) (fun _ _ _ h => h) (Or.inl ⟨by rfl, ?_⟩) (by assumption) ?_
                rotate_left 1
                · intro w hSw; (try dsimp only at hSw); go_simp; try with_reducible rfl
                simp only [Act.put, List.getElem_toArray, List.getElem_cons_succ, List.getElem_cons_zero, List.setIfInBounds_toArray, List.set_cons_zero, List.set_cons_succ]
                refine wpAnyH_take (i := 9) (v := ?_) rfl (by kernel_rfl) (by kernel_rfl) (by kernel_rfl) (fun _ _ _ h => h) (Or.inl ⟨by rfl, ?_⟩) (by assumption) ?_
                rotate_left 1
                · intro w hSw; (try dsimp only at hSw); go_simp; try with_reducible rfl
                simp only [Act.put, List.getElem_toArray, List.getElem_cons_succ, List.getElem_cons_zero, List.setIfInBounds_toArray, List.set_cons_zero, List.set_cons_succ]
                refine wpAnyH_take (i := 10) (v := ?_) rfl (by kernel_rfl) (by kernel_rfl) (by kernel_rfl) (fun _ _ _ h => h) (Or.inl ⟨by rfl, ?_⟩) (by assumption) ?_
                rotate_left 1
                · intro w hSw; (try dsimp only at hSw); go_simp; try with_reducible rfl
                simp only [Act.put, List.getElem_toArray, List.getElem_cons_succ, List.getElem_cons_zero, List.setIfInBounds_toArray, List.set_cons_zero, List.set_cons_succ]
                refine wpAnyH_take (i := 11) (v := ?_) rfl (by kernel_rfl) (by kernel_rfl) (by kernel_rfl) (fun _ _ _ h => h) (Or.inl ⟨by rfl, ?_⟩) (by assumption) ?_
                rotate_left 1
                · intro w hSw; (try dsimp only at hSw); go_simp; try with_reducible rfl
                simp only [Act.put, List.getElem_toArray, List.getElem_cons_succ, List.getElem_cons_zero, List.setIfInBounds_toArray, List.set_cons_zero, List.set_cons_succ]
                refine wpAnyH_take (i := 12) (v := ?_) rfl (by kernel_rfl) (by kernel_rfl) (by kernel_rfl) (fun _ _ _ h => h) (Or.inl ⟨by rfl, ?_⟩) (by assumption) ?_
                rotate_left 1
                · intro w hSw; (try dsimp only at hSw); go_simp; try with_reducible rfl
                simp only [Act.put, List.getElem_toArray, List.getElem_cons_succ, List.getElem_cons_zero, List.setIfInBounds_toArray, List.set_cons_zero, List.set_cons_succ]
                refine wpAnyH_take (i := 13) (v := ?_) rfl (by kernel_rfl) (by kernel_rfl) (by kernel_rfl) (fun _ _ _ h => h) (Or.inl ⟨by rfl, ?_⟩) (by assumption) ?_
                rotate_left 1
                · intro w hSw; (try dsimp only at hSw); go_simp; try with_reducible rfl
                simp only [Act.put, List.getElem_toArray, List.getElem_cons_succ, List.getElem_cons_zero, List.setIfInBounds_toArray, List.set_cons_zero, List.set_cons_succ]
                refine wpAnyH_take (i := 14) (v := ?_) rfl (by kernel_rfl) (by kernel_rfl) (by kernel_rfl) (fun _ _ _ h => h) (Or.inl ⟨by rfl, ?_⟩) (by assumption) ?_
                rotate_left 1
                · intro w hSw; (try dsimp only at hSw); go_simp; try with_reducible rfl
                simp only [Act.put, List.getElem_toArray, List.getElem_cons_succ, List.getElem_cons_zero, List.setIfInBounds_toArray, List.set_cons_zero, List.set_cons_succ]
                refine wpAnyH_take (i := 15) (v := ?_) rfl (by kernel_rfl) (by kernel_rfl) (by kernel_rfl) (fun _ _ _ h => h) (Or.inl ⟨by rfl, ?_⟩) (by assumption) ?_
                rotate_left 1
                · intro w hSw; (try dsimp only at hSw); go_simp; try with_reducible rfl
                simp only [Act.put, List.getElem_toArray, List.getElem_cons_succ, List.getElem_cons_zero, List.setIfInBounds_toArray, List.set_cons_zero, List.set_cons_succ]
                refine wpAnyH_take (i := 16) (v := ?_) rfl (by kernel_rfl) (by kernel_rfl) (by kernel_rfl) (fun _ _ _ h => h) (Or.inl ⟨by rfl, ?_⟩) (by assumption) ?_
                rotate_left 1
                · intro w hSw; (try dsimp only at hSw); go_simp; try with_reducible rfl
                simp only [Act.put, List.getElem_toArray, List.getElem_cons_succ, List.getElem_cons_zero, List.setIfInBounds_toArray, List.set_cons_zero, List.set_cons_succ]
                refine wpAnyH_done (by kernel_rfl) ?_ _
                clear Y0
                go_wp2
                go_roundw
                case rel => exact ⟨k + 1, by omega, by go_num, HZ4.out, HK.out, HA2.out⟩
                case measure => simp [intOf]; omega
            · have HF : Hid (bothHave a b x y = false) := hnok (fun e => hyy (by rw [hqn]; exact e.2))
              have hyge : (y : Int) ≥ (qn : Int) := by omega
              have HK : Hid (Below w.heap.size w wr) := hbq
              clear hnok hno HZ HW HA hbq
              go_wp2
              go_ret2
              rw [HF.out]
              exact ⟨_, rfl, fun e => by simp at e, HK.out⟩
          · have HF : Hid (bothHave a b x y = false) := hnok (fun e => hxx (by rw [HPN.out]; exact e.1))
            have hxge : (x : Int) ≥ (pn : Int) := by omega
            have HK : Hid (Below w.heap.size w wr) := hbq
            clear hnok hno HZ HW HA hbq
            go_wp2
            go_ret2
            rw [HF.out]
            exact ⟨_, rfl, fun e => by simp at e, HK.out⟩
        · obtain rfl : k = m := by omega
          have hZ := HZ.out
          rw [HM.out, List.take_length] at hZ
          have HZ2 : Hid (OwnZ wr w.heap.size wr.heap.size u10 (addZ [] (joinZ (a.take (i + 1)) b x y))) := by
            show OwnZ _ _ _ _ _
            rw [HT.out]
            exact hZ
          have HALL2 : Hid (∀ i', i' < i + 1 → ∀ k', k' < k → x < (a.getD i' ([], 0)).1.length ∧ y < (b.getD k' ([], 0)).1.length) := fun i' hi' k' hk' => by
            rcases Nat.lt_succ_iff_lt_or_eq.1 hi' with h | h
            · exact HALL.out i' h k' hk'
            · rw [h, ← HP.out]; exact HA.out k' hk'
          clear hno hZ
          go_wp2
          go_roundw
          case rel => exact ⟨i + 1, by omega, by go_num, HZ2.out, HW.out, HALL2.out⟩
          case measure => simp [intOf]; omega
    · obtain rfl : i = n := by omega
      have hZ := HZ.out
      rw [HN.out, List.take_length] at hZ
      have HT : Hid (bothHave a b x y = true) := both_yes (fun i' hi' k' hk' => HALL.out i' (by rw [HN.out]; exact hi') k' (by rw [HM.out]; exact hk'))
      clear hca hcb
      go_wp2
      go_ret2
      rw [HT.out]
      exact ⟨_, rfl, fun _ => hZ, HW.out⟩

end Go.Proofs.YtehfpceghdaajaaGreatDoor

/-
  The contracts of impl.JoinOf and spec.JoinOf: what is joined of two lists, in memory of its own; none, and false, if one is not right, a place is none, or it is too much.
-/
namespace Go.Proofs.YtehfpceghdaajaaGreatDoor
set_option maxRecDepth 100000
open Go.RowKit
attribute [local go_sem ↓] Go.wp_at_zero Go.wp_at_succ

theorem colJ_any (n : Int) (w : World) : Calls Tryz.prog 37 #[.int .i64 n, .int .i64 6] w fun e w' => e = .returned (.bool (placeB n)) ∧ w' = w := by
  by_cases h1 : 0 ≤ n
  · by_cases h2 : n < 6
    · go_enter Tryz.func37, Tryz.ntmps37
      go_wp2
      go_ret
      exact ⟨retb (by simp [placeB]; omega), rfl⟩
    · go_enter Tryz.func37, Tryz.ntmps37
      go_wp2
      go_ret
      exact ⟨retb (by simp [placeB]; omega), rfl⟩
  · go_enter Tryz.func37, Tryz.ntmps37
    go_wp2
    go_ret
    exact ⟨retb (by simp [placeB]; omega), rfl⟩

theorem joinZ_none {a b : List It} (x y : Nat) (h : a.length = 0 ∨ b.length = 0) : joinZ a b x y = [] := by
  rcases h with h | h
  · rw [List.length_eq_zero_iff.1 h]; rfl
  · rw [List.length_eq_zero_iff.1 h]
    unfold joinZ meetZ withZ
    simp
theorem row_in {xs : List Int} (h : rowOkB xs = true) (j : Nat) : -1000000000 ≤ xs.getD j 0 ∧ xs.getD j 0 ≤ 1000000000 := by
  by_cases hj : j < xs.length
  · simp only [rowOkB, Bool.and_eq_true, List.all_eq_true] at h
    have := h.2 xs[j] (List.getElem_mem hj)
    simp [cellB] at this
    simpa [List.getD, hj] using this
  · have : xs.getD j 0 = 0 := by simp [List.getD, List.getElem?_eq_none (Nat.le_of_not_lt hj)]
    rw [this]; omega
theorem keys_in {zs : List It} (h : zOkB zs = true) (x : Nat) : ∀ k, k < zs.length → -9223372036854775808 ≤ (zs.getD k ([], 0)).1.getD x 0 ∧ (zs.getD k ([], 0)).1.getD x 0 ≤ 9223372036854775807 := fun k hk => by
  have := row_in (zOk_row h hk).1 x
  omega
theorem zOk_all_in {zs : List It} (h : zOkB zs = true) : ∀ p ∈ zs, p.1.length ≤ 6 ∧ -10000 ≤ p.2 ∧ p.2 ≤ 10000 := fun _ hp => zOk_in h hp

set_option maxHeartbeats 2000000 in
theorem joined_none (v u : Value) (a b : List It) (x y : Int) (w : World) (h : ItemsAt w v a) (h2 : ItemsAt w u b) (h0 : a.length = 0 ∨ b.length = 0) :
    Calls Tryz.prog 36 #[v, u, .int .i64 x, .int .i64 y] w fun e w' => e = .returned (.slice none 0 0) ∧ w' = w := by
  obtain ⟨va, vc, rfl⟩ : ∃ va vc, v = .slice va a.length vc := by obtain ⟨_, va, vc, hv, _⟩ := h; exact ⟨va, vc, hv⟩
  obtain ⟨ua, uc, rfl⟩ : ∃ ua uc, u = .slice ua b.length uc := by obtain ⟨_, ua, uc, hu, _⟩ := h2; exact ⟨ua, uc, hu⟩
  clear h h2
  by_cases ha : a.length = 0
  · rw [ha]
    go_enter Tryz.func36, Tryz.ntmps36
    go_wp2
    go_ret
    exact ⟨rfl, rfl⟩
  · have hb : b.length = 0 := by omega
    have hnf : ((a.length : Int) == 0) = false := by rw [beq_eq_false_iff_ne]; omega
    rw [hb]
    go_enter Tryz.func36, Tryz.ntmps36
    go_wp2
    go_ret
    exact ⟨rfl, rfl⟩
theorem joined_any (v u : Value) (a b : List It) (x y : Nat) (w : World) (h : ItemsAt w v a) (h2 : ItemsAt w u b) (ha : zOkB a = true) (hb : zOkB b = true) (hc : canB a b x y = true) :
    Calls Tryz.prog 36 #[v, u, .int .i64 x, .int .i64 y] w fun e w' => ∃ v', e = .returned v' ∧ OwnZ w' w.heap.size w'.heap.size v' (joinZ a b x y) ∧ Below w.heap.size w w' := by
  by_cases h0 : a.length = 0 ∨ b.length = 0
  · refine (joined_none v u a b x y w h h2 h0).mono ?_
    rintro e w' ⟨rfl, rfl⟩
    exact ⟨_, rfl, by rw [joinZ_none x y h0]; exact nil_ownZ _ _, Below.refl _ _⟩
  · have hpa : 0 < a.length := by omega
    have hpb : 0 < b.length := by omega
    obtain ⟨_, _, hx, hy⟩ := can_at hc hpa hpb
    exact joined_some v u a b x y w h h2 hpa hpb (zOk_le ha) (zOk_le hb) (fun k hk => by have := hx k hk; omega) (fun k hk => by have := hy k hk; omega) (zOk_all_in ha) (zOk_all_in hb) (keys_in ha x) (keys_in hb y)

theorem join_not {a b : List It} {x y : Int} (h : (zOkB a && zOkB b && canB a b x y) = false) : joinOk a b x y = false ∧ joinOut a b x y = [] := by
  have : joinOk a b x y = false := by unfold joinOk; rw [h, Bool.false_and]
  exact ⟨this, by unfold joinOut; rw [this]; rfl⟩

set_option maxHeartbeats 2000000 in
theorem implJoin_any (v u : Value) (a b : List It) (x y : Int) (w : World) (h : ItemsAt w v a) (h2 : ItemsAt w u b) :
    Calls Tryz.prog 14 #[v, u, .int .i64 x, .int .i64 y] w fun e w' => ∃ v', e = .returned (.tuple #[v', .bool (joinOk a b x y)]) ∧ OwnZ w' w.heap.size w'.heap.size v' (joinOut a b x y) ∧ Below w.heap.size w w' := by
  cases ha : zOkB a with
  | false =>
    obtain ⟨e0, e1⟩ := join_not (a := a) (b := b) (x := x) (y := y) (by rw [ha]; rfl)
    rw [e0, e1]
    go_enter Tryz.func14, Tryz.ntmps14
    go_wp2_with fail
    refine (implZOk_any v a _ h).mono ?_
    rw [ha]
    rintro e w1 ⟨rfl, hb1⟩
    have HK : Hid (Below w.heap.size w w1) := hb1
    clear h h2 hb1 e0 e1
    go_wp2
    go_ret2
    exact ⟨_, rfl, nil_ownZ _ _, HK.out⟩
  | true =>
    cases hb : zOkB b with
    | false =>
      obtain ⟨e0, e1⟩ := join_not (a := a) (b := b) (x := x) (y := y) (by rw [hb, Bool.and_false]; rfl)
      rw [e0, e1]
      go_enter Tryz.func14, Tryz.ntmps14
      go_wp2_with fail
      refine (implZOk_any v a _ h).mono ?_
      rw [ha]
      rintro e w1 ⟨rfl, hb1⟩
      go_wp2_with fail
      refine (implZOk_any u b _ (h2.below hb1)).mono ?_
      rw [hb]
      rintro e w2 ⟨rfl, hb2⟩
      have HK : Hid (Below w.heap.size w w2) := below_then hb1 hb2
      clear h h2 hb1 hb2 e0 e1
      go_wp2
      go_ret2
      exact ⟨_, rfl, nil_ownZ _ _, HK.out⟩
    | true =>
      cases hc : canB a b x y with
      | false =>
        obtain ⟨e0, e1⟩ := join_not (a := a) (b := b) (x := x) (y := y) (by rw [hc, Bool.and_false])
        rw [e0, e1]
        go_enter Tryz.func14, Tryz.ntmps14
        go_wp2_with fail
        refine (implZOk_any v a _ h).mono ?_
        rw [ha]
        rintro e w1 ⟨rfl, hb1⟩
        go_wp2_with fail
        refine (implZOk_any u b _ (h2.below hb1)).mono ?_
        rw [hb]
        rintro e w2 ⟨rfl, hb2⟩
        have hk2 := below_then hb1 hb2
        go_wp2_with fail
        refine (canJoin_any v u a b x y _ (h.below hk2) (h2.below hk2)).mono ?_
        rw [hc]
        rintro e w3 ⟨rfl, hb3⟩
        have HK : Hid (Below w.heap.size w w3) := below_then hk2 hb3
        clear h h2 hb1 hb2 hb3 hk2 e0 e1
        go_wp2
        go_ret2
        exact ⟨_, rfl, nil_ownZ _ _, HK.out⟩
      | true =>
        have hxy : 0 ≤ x ∧ 0 ≤ y := by
          have := hc
          unfold canB placeB at this
          simp only [Bool.and_eq_true, decide_eq_true_eq] at this
          exact ⟨this.1.1.1, this.1.2.1⟩
        obtain ⟨xn, rfl⟩ := Int.eq_ofNat_of_zero_le hxy.1
        obtain ⟨yn, rfl⟩ := Int.eq_ofNat_of_zero_le hxy.2
        have e0 : joinOk a b xn yn = zOkB (addZ [] (joinZ a b xn yn)) := by simp [joinOk, ha, hb, hc]
        have e1 : joinOut a b xn yn = if zOkB (addZ [] (joinZ a b xn yn)) then addZ [] (joinZ a b xn yn) else [] := by simp [joinOut, e0]
        rw [e0, e1]
        obtain ⟨os, HO⟩ : ∃ os, Hid (os = if zOkB (addZ [] (joinZ a b xn yn)) then addZ [] (joinZ a b xn yn) else []) := ⟨_, rfl⟩
        obtain ⟨c, HC⟩ : ∃ c, Hid (c = zOkB (addZ [] (joinZ a b xn yn))) := ⟨_, rfl⟩
        rw [← HO.out, ← HC.out]
        have hfew := join_few ha hb xn yn
        have hin : ∀ z ∈ joinZ a b xn yn, -1099511627776 ≤ z.2 ∧ z.2 ≤ 1099511627776 := fun z hz => by have := (join_in ha hb hz).2; omega
        go_enter Tryz.func14, Tryz.ntmps14
        go_wp2_with fail
        refine (implZOk_any v a _ h).mono ?_
        rw [ha]
        rintro e w1 ⟨rfl, hb1⟩
        go_wp2_with fail
        refine (implZOk_any u b _ (h2.below hb1)).mono ?_
        rw [hb]
        rintro e w2 ⟨rfl, hb2⟩
        have hk2 := below_then hb1 hb2
        go_wp2_with fail
        refine (canJoin_any v u a b xn yn _ (h.below hk2) (h2.below hk2)).mono ?_
        rw [hc]
        rintro e w3 ⟨rfl, hb3⟩
        have hk3 := below_then hk2 hb3
        go_wp2_with fail
        refine (joined_any v u a b xn yn _ (h.below hk3) (h2.below hk3) ha hb hc).mono ?_
        rintro e w4 ⟨v4, rfl, Z4, hb4⟩
        have hk4 := below_then hk3 hb4
        have s3 := hk3.size
        have s4 := hb4.size
        clear h h2 hb1 hb2 hb3 hk2 e0 e1 hxy
        go_wp2_with fail
        refine (gather_any v4 _ _ (joinZ a b xn yn) _ Z4 hb4.size (by omega) hin).mono ?_
        rintro e w5 ⟨v5, rfl, Z5, O5⟩
        have hk5 : Below w.heap.size w w5 := O5.below hk4 (by omega) hk4.size
        have s5 := O5.size
        clear Z4 hb4 hk3 hk4 O5 hin
        go_wp2_with fail
        refine (unlessTooMuch_any v5 (addZ [] (joinZ a b xn yn)) _ _ _ Z5 (by omega)).mono ?_
        rw [← HO.out, ← HC.out]
        rintro e w6 ⟨v6, rfl, Z6, hb6⟩
        have HK : Hid (Below w.heap.size w w6) := below_then hk5 hb6
        have R : Hid (OwnZ w6 w.heap.size w6.heap.size v6 os) := Z6.wide s3 (Nat.le_refl _) (Nat.le_refl _)
        clear Z5 Z6 hb6 hk5
        go_wp2
        go_ret2
        exact ⟨_, rfl, R.out, HK.out⟩

set_option maxHeartbeats 4000000 in
theorem l5Join_none (v u : Value) (a b : List It) (x y : Int) (w : World) (h : ItemsAt w v a) (h2 : ItemsAt w u b) (h0 : a.length = 0 ∨ b.length = 0) (hal : a.length ≤ 100) :
    Calls Tryz.prog 38 #[v, u, .int .i64 x, .int .i64 y] w fun e w' => ∃ v', e = .returned (.tuple #[v', .bool true]) ∧ OwnZ w' w.heap.size w'.heap.size v' [] ∧ Below w.heap.size w w' := by
  obtain ⟨va, vc, rfl⟩ : ∃ va vc, v = .slice va a.length vc := by obtain ⟨_, va, vc, hv, _⟩ := h; exact ⟨va, vc, hv⟩
  obtain ⟨ua, uc, rfl⟩ : ∃ ua uc, u = .slice ua b.length uc := by obtain ⟨_, ua, uc, hu, _⟩ := h2; exact ⟨ua, uc, hu⟩
  clear h h2
  by_cases ha : a.length = 0
  · rw [ha]
    go_enter Tryz.func38, Tryz.ntmps38
    go_wp2
    refine wp_loop_rounds 1 ?_
    rw [rounds_succ]
    go_wp2
    go_ret2
    exact ⟨_, rfl, lit_ownZ w, below_alloc _⟩
  · have hb : b.length = 0 := by omega
    rw [hb]
    obtain ⟨n, hn⟩ : ∃ n, n = a.length := ⟨_, rfl⟩
    rw [← hn] at hal ⊢
    clear hn ha h0
    go_enter Tryz.func38, Tryz.ntmps38
    go_wp2
    go_loopw [10, 11] (fun s t wr => ∃ (i : Nat), i ≤ n ∧ t = .int .i64 i ∧ s = .slice (some ⟨w.heap.size, 0, none⟩) 0 0 ∧ wr = w.alloc (.cells #[] 54)) (fun _ t _ => n - (intOf t).toNat)
    case atStart => exact ⟨0, Nat.zero_le _, rfl, rfl, rfl⟩
    case round =>
      obtain ⟨i, hi, rfl, rfl, rfl⟩ := hrel
      by_cases hlti : i < n
      · go_wp2
        refine wp_loop_rounds 1 ?_
        rw [rounds_succ]
        go_wp2
        go_roundw
        case rel => exact ⟨i + 1, by omega, by go_num, by first | rfl | trivial, by first | rfl | trivial⟩
        case measure => simp [intOf]; omega
      · obtain rfl : i = n := by omega
        go_wp2
        go_ret2
        exact ⟨_, rfl, lit_ownZ w, below_alloc _⟩

theorem both_can {a b : List It} {x y : Nat} (hx : x < 6) (hy : y < 6) : canB a b x y = bothHave a b x y := by
  have hxy : (placeB (x : Int) && placeB (y : Int)) = true := by simp [placeB]; omega
  unfold canB
  rw [hxy, Bool.true_and]
  by_cases h0 : a.length = 0
  · rw [List.length_eq_zero_iff.1 h0]; simp [bothHave]
  · by_cases h1 : b.length = 0
    · rw [List.length_eq_zero_iff.1 h1]; simp [bothHave]
    · simp only [h0, h1, decide_false, Bool.false_or]
      cases hb : bothHave a b x y with
      | true =>
        unfold bothHave at hb
        rw [List.all_eq_true] at hb
        have hall : ∀ p ∈ a, ∀ q ∈ b, x < p.1.length ∧ y < q.1.length := fun p hp q hq => by
          have := hb p hp
          rw [List.all_eq_true] at this
          simpa using this q hq
        obtain ⟨p0, hp0⟩ := List.exists_mem_of_length_pos (show 0 < a.length by omega)
        obtain ⟨q0, hq0⟩ := List.exists_mem_of_length_pos (show 0 < b.length by omega)
        have e1 : hasAt x a = true := by
          unfold hasAt; rw [List.all_eq_true]; intro p hp
          have := (hall p hp q0 hq0).1
          simp; omega
        have e2 : hasAt y b = true := by
          unfold hasAt; rw [List.all_eq_true]; intro q hq
          have := (hall p0 hp0 q hq).2
          simp; omega
        rw [e1, e2]; rfl
      | false =>
        cases h3 : (hasAt (x : Int) a && hasAt (y : Int) b) with
        | false => rfl
        | true =>
          rw [Bool.and_eq_true] at h3
          have : bothHave a b x y = true := by
            unfold bothHave
            rw [List.all_eq_true]; intro p hp
            rw [List.all_eq_true]; intro q hq
            unfold hasAt at h3
            rw [List.all_eq_true, List.all_eq_true] at h3
            have t1 := h3.1 p hp
            have t2 := h3.2 q hq
            simp at t1 t2 ⊢
            omega
          rw [this] at hb
          cases hb
theorem l5Join_any (v u : Value) (a b : List It) (x y : Nat) (w : World) (h : ItemsAt w v a) (h2 : ItemsAt w u b) (ha : zOkB a = true) (hb : zOkB b = true) :
    Calls Tryz.prog 38 #[v, u, .int .i64 x, .int .i64 y] w fun e w' => ∃ v', e = .returned (.tuple #[v', .bool (bothHave a b x y)]) ∧ (bothHave a b x y = true → OwnZ w' w.heap.size w'.heap.size v' (addZ [] (joinZ a b x y))) ∧ Below w.heap.size w w' := by
  by_cases h0 : a.length = 0 ∨ b.length = 0
  · have hbt : bothHave a b x y = true := by
      rcases h0 with e | e
      · rw [List.length_eq_zero_iff.1 e]; simp [bothHave]
      · rw [List.length_eq_zero_iff.1 e]; simp [bothHave]
    refine (l5Join_none v u a b x y w h h2 h0 (zOk_le ha)).mono ?_
    rintro e w' ⟨v', rfl, hz, hk⟩
    exact ⟨v', by rw [hbt], fun _ => by rw [joinZ_none x y h0]; exact hz, hk⟩
  · exact l5Join_some v u a b x y w h h2 (by omega) (by omega) (zOk_le ha) (zOk_le hb) (zOk_all_in ha) (zOk_all_in hb) (fun z hz => (join_in ha hb hz).2)

set_option maxHeartbeats 4000000 in
theorem specJoin_any (v u : Value) (a b : List It) (x y : Int) (w : World) (h : ItemsAt w v a) (h2 : ItemsAt w u b) :
    Calls Tryz.prog 15 #[v, u, .int .i64 x, .int .i64 y] w fun e w' => ∃ v', e = .returned (.tuple #[v', .bool (joinOk a b x y)]) ∧ OwnZ w' w.heap.size w'.heap.size v' (joinOut a b x y) ∧ Below w.heap.size w w' := by
  cases ha : zOkB a with
  | false =>
    obtain ⟨e0, e1⟩ := join_not (a := a) (b := b) (x := x) (y := y) (by rw [ha]; rfl)
    rw [e0, e1]
    go_enter Tryz.func15, Tryz.ntmps15
    go_wp2_with fail
    refine (specZOk_any v a _ h).mono ?_
    rw [ha]
    rintro e w1 ⟨rfl, hd1⟩
    have HK : Hid (Below w.heap.size w w1) := hd1.below
    clear h h2 hd1 e0 e1
    go_wp2
    go_ret2
    exact ⟨_, rfl, (lit_ownZ w1).wide HK.out.size (Nat.le_refl _) (Nat.le_refl _), below_then HK.out (below_alloc _)⟩
  | true =>
    cases hb : zOkB b with
    | false =>
      obtain ⟨e0, e1⟩ := join_not (a := a) (b := b) (x := x) (y := y) (by rw [hb, Bool.and_false]; rfl)
      rw [e0, e1]
      go_enter Tryz.func15, Tryz.ntmps15
      go_wp2_with fail
      refine (specZOk_any v a _ h).mono ?_
      rw [ha]
      rintro e w1 ⟨rfl, hd1⟩
      go_wp2_with fail
      refine (specZOk_any u b _ (h2.below hd1.below)).mono ?_
      rw [hb]
      rintro e w2 ⟨rfl, hd2⟩
      have HK : Hid (Below w.heap.size w w2) := below_then hd1.below hd2.below
      clear h h2 hd1 hd2 e0 e1
      go_wp2
      go_ret2
      exact ⟨_, rfl, (lit_ownZ w2).wide HK.out.size (Nat.le_refl _) (Nat.le_refl _), below_then HK.out (below_alloc _)⟩
    | true =>
      cases hx : placeB x with
      | false =>
        obtain ⟨e0, e1⟩ := join_not (a := a) (b := b) (x := x) (y := y) (by simp [canB, hx])
        rw [e0, e1]
        go_enter Tryz.func15, Tryz.ntmps15
        go_wp2_with fail
        refine (specZOk_any v a _ h).mono ?_
        rw [ha]
        rintro e w1 ⟨rfl, hd1⟩
        go_wp2_with fail
        refine (specZOk_any u b _ (h2.below hd1.below)).mono ?_
        rw [hb]
        rintro e w2 ⟨rfl, hd2⟩
        have HK : Hid (Below w.heap.size w w2) := below_then hd1.below hd2.below
        clear h h2 hd1 hd2 e0 e1
        go_wp2_with fail
        refine (colJ_any x _).mono ?_
        rw [hx]
        rintro e w3 ⟨rfl, rfl⟩
        go_wp2
        go_ret2
        exact ⟨_, rfl, (lit_ownZ w3).wide HK.out.size (Nat.le_refl _) (Nat.le_refl _), below_then HK.out (below_alloc _)⟩
      | true =>
        cases hy : placeB y with
        | false =>
          obtain ⟨e0, e1⟩ := join_not (a := a) (b := b) (x := x) (y := y) (by simp [canB, hy])
          rw [e0, e1]
          go_enter Tryz.func15, Tryz.ntmps15
          go_wp2_with fail
          refine (specZOk_any v a _ h).mono ?_
          rw [ha]
          rintro e w1 ⟨rfl, hd1⟩
          go_wp2_with fail
          refine (specZOk_any u b _ (h2.below hd1.below)).mono ?_
          rw [hb]
          rintro e w2 ⟨rfl, hd2⟩
          have HK : Hid (Below w.heap.size w w2) := below_then hd1.below hd2.below
          clear h h2 hd1 hd2 e0 e1
          go_wp2_with fail
          refine (colJ_any x _).mono ?_
          rw [hx]
          rintro e w3 ⟨rfl, rfl⟩
          go_wp2_with fail
          refine (colJ_any y _).mono ?_
          rw [hy]
          rintro e w3 ⟨rfl, rfl⟩
          go_wp2
          go_ret2
          exact ⟨_, rfl, (lit_ownZ w3).wide HK.out.size (Nat.le_refl _) (Nat.le_refl _), below_then HK.out (below_alloc _)⟩
        | true =>
          have hx' := hx
          have hy' := hy
          unfold placeB at hx' hy'
          simp only [decide_eq_true_eq] at hx' hy'
          obtain ⟨xn, rfl⟩ := Int.eq_ofNat_of_zero_le hx'.1
          obtain ⟨yn, rfl⟩ := Int.eq_ofNat_of_zero_le hy'.1
          have hcan : canB a b xn yn = bothHave a b xn yn := both_can (by omega) (by omega)
          obtain ⟨os, HO⟩ : ∃ os, Hid (os = joinOut a b xn yn) := ⟨_, rfl⟩
          obtain ⟨c, HC⟩ : ∃ c, Hid (c = joinOk a b xn yn) := ⟨_, rfl⟩
          rw [← HO.out, ← HC.out]
          go_enter Tryz.func15, Tryz.ntmps15
          go_wp2_with fail
          refine (specZOk_any v a _ h).mono ?_
          rw [ha]
          rintro e w1 ⟨rfl, hd1⟩
          go_wp2_with fail
          refine (specZOk_any u b _ (h2.below hd1.below)).mono ?_
          rw [hb]
          rintro e w2 ⟨rfl, hd2⟩
          have hk2 := below_then hd1.below hd2.below
          go_wp2_with fail
          refine (colJ_any xn _).mono ?_
          rw [hx]
          rintro e w3 ⟨rfl, rfl⟩
          go_wp2_with fail
          refine (colJ_any yn _).mono ?_
          rw [hy]
          rintro e w3 ⟨rfl, rfl⟩
          go_wp2_with fail
          refine (l5Join_any v u a b xn yn _ (h.below hk2) (h2.below hk2) ha hb).mono ?_
          rintro e w4 ⟨v4, rfl, hz4, hb4⟩
          have hk4 := below_then hk2 hb4
          have s2 := hk2.size
          have s4 := hb4.size
          clear h h2 hd1 hd2
          cases hbh : bothHave a b xn yn with
          | false =>
            obtain ⟨e0, e1⟩ := join_not (a := a) (b := b) (x := xn) (y := yn) (by rw [hcan, hbh, Bool.and_false])
            have HE0 : Hid (c = false) := HC.out.trans e0
            have HE1 : Hid (os = []) := HO.out.trans e1
            have HK : Hid (Below w.heap.size w w4) := hk4
            clear hz4 hb4 hk2 hk4 e0 e1
            go_wp2
            go_ret2
            rw [HE0.out, HE1.out]
            exact ⟨_, rfl, (lit_ownZ w4).wide HK.out.size (Nat.le_refl _) (Nat.le_refl _), below_then HK.out (below_alloc _)⟩
          | true =>
            have Z4 := hz4 hbh
            have e0 : zOkB (addZ [] (joinZ a b xn yn)) = c := by rw [HC.out]; simp [joinOk, ha, hb, hcan, hbh]
            have e1 : (if zOkB (addZ [] (joinZ a b xn yn)) then addZ [] (joinZ a b xn yn) else []) = os := by rw [HO.out]; simp [joinOut, joinOk, ha, hb, hcan, hbh]
            go_wp2_with fail
            refine (l2Told_any v4 (addZ [] (joinZ a b xn yn)) _ _ _ Z4 hb4.size).mono ?_
            rw [e0] at *
            rw [e1]
            rintro e w5 ⟨v5, rfl, Z5, hb5⟩
            have HK : Hid (Below w.heap.size w w5) := below_then hk4 hb5
            have R : Hid (OwnZ w5 w.heap.size w5.heap.size v5 os) := Z5.wide s2 (Nat.le_refl _) (Nat.le_refl _)
            clear Z4 Z5 hb4 hb5 hk2 hk4 hz4 e0 e1
            go_wp2
            go_ret2
            exact ⟨_, rfl, R.out, HK.out⟩

end Go.Proofs.YtehfpceghdaajaaGreatDoor

/-
  Facts on what is joined: it is linear on both sides; what it is of no items; how many; the contracts at a told answer.
-/
namespace Go.Proofs.YtehfpceghdaajaaGreatDoor
open Go.RowKit
set_option linter.unusedVariables false

/-- The sum of the weights, each as often as its row says. -/
def sumG (f : List Int → Int) : List It → Int
  | [] => 0
  | p :: zs => f p.1 * p.2 + sumG f zs
theorem sumG_put (f : List Int → Int) (r : List Int) (y : Int) : ∀ zs : List It, sumG f (putZ zs r y) = sumG f zs + f r * y
  | [] => by
    unfold putZ
    by_cases h : y = 0
    · rw [if_pos h]; simp [sumG, h]
    · rw [if_neg h]; simp [sumG]
  | p :: zs => by
    have ih := sumG_put f r y zs
    unfold putZ
    by_cases h1 : ordL p.1 r = -1
    · rw [if_pos h1, sumG, sumG, ih]; omega
    · rw [if_neg h1]
      by_cases h2 : p.1 = r
      · rw [if_pos h2]
        by_cases h3 : p.2 + y = 0
        · rw [if_pos h3, sumG, h2]
          have : f r * p.2 + f r * y = 0 := by rw [← Int.mul_add, h3, Int.mul_zero]
          omega
        · rw [if_neg h3, sumG, sumG]
          simp only [h2]
          rw [Int.mul_add]; omega
      · rw [if_neg h2]
        by_cases h3 : y = 0
        · rw [if_pos h3, h3]; simp
        · rw [if_neg h3]
          show f r * y + sumG f (p :: zs) = _
          omega
theorem sumG_add (f : List Int → Int) : ∀ (b a : List It), sumG f (addZ a b) = sumG f a + sumG f b
  | [], a => by simp [addZ_nil, sumG]
  | p :: b, a => by rw [addZ_cons, sumG_add f b, sumG_put, sumG]; omega
theorem sumG_append (f : List Int → Int) : ∀ a b : List It, sumG f (a ++ b) = sumG f a + sumG f b
  | [], b => by simp [sumG]
  | p :: a, b => by rw [List.cons_append, sumG, sumG, sumG_append f a]; omega
theorem sumG_scale (f : List Int → Int) (c : Int) : ∀ a : List It, sumG (fun r => c * f r) a = c * sumG f a
  | [] => by simp [sumG]
  | p :: a => by rw [sumG, sumG, sumG_scale f c a, Int.mul_add, Int.mul_assoc]
theorem sumG_plus (f g : List Int → Int) : ∀ a : List It, sumG (fun r => f r + g r) a = sumG f a + sumG g a
  | [] => by simp [sumG]
  | p :: a => by rw [sumG, sumG, sumG, sumG_plus f g a, Int.add_mul]; omega
theorem sumZ_g (q : List Int) : ∀ zs : List It, sumZ zs q = sumG (fun r => if r = q then 1 else 0) zs
  | [] => rfl
  | p :: zs => by rw [sumZ, sumG, sumZ_g q zs]; by_cases h : p.1 = q <;> simp [h]
theorem getZ_gAll (L : List It) (q : List Int) : getZ (addZ [] L) q = sumG (fun r => if r = q then 1 else 0) L := by
  rw [getZ_addAll L [] Srt.nil, getZ_nil, sumZ_g]; omega
/-- What one row meets, as often as its joined row says. -/
def meetG (f : List Int → Int) (x y : Nat) (p q : List Int) : Int := if q.getD y 0 = p.getD x 0 then f (p ++ q) else 0
theorem sumG_with (f : List Int → Int) (y x : Nat) (p : It) : ∀ b : List It, sumG f (withZ p (meetZ b y (p.1.getD x 0))) = p.2 * sumG (meetG f x y p.1) b
  | [] => by simp [withZ, meetZ, sumG]
  | q :: b => by
    have ih := sumG_with f y x p b
    unfold withZ meetZ at *
    rw [List.filter_cons]
    by_cases h : q.1.getD y 0 = p.1.getD x 0
    · rw [if_pos (by simpa using h), List.map_cons, sumG, ih, sumG, Int.mul_add]
      have : meetG f x y p.1 q.1 = f (p.1 ++ q.1) := if_pos h
      rw [this]
      show f (p.1 ++ q.1) * (p.2 * q.2) + _ = _
      rw [Int.mul_left_comm]
    · rw [if_neg (by simpa using h), ih, sumG]
      have : meetG f x y p.1 q.1 = 0 := if_neg h
      rw [this]; simp
theorem sumG_join (f : List Int → Int) (b : List It) (x y : Nat) : ∀ a : List It, sumG f (joinZ a b x y) = sumG (fun p => sumG (meetG f x y p) b) a
  | [] => rfl
  | p :: a => by
    have ih := sumG_join f b x y a
    unfold joinZ at *
    rw [List.flatMap_cons, sumG_append, ih, sumG_with, sumG, Int.mul_comm]
theorem nz_noneJ : Nz [] := fun p hp => by simp at hp
/-- It is linear on the right. -/
theorem join_add (a b c : List It) (x y : Nat) : addZ (addZ [] (joinZ a b x y)) (addZ [] (joinZ a c x y)) = addZ [] (joinZ a (addZ b c) x y) := by
  refine canon (srt_add (srt_add Srt.nil)) (nz_add (nz_add nz_noneJ)) (srt_add Srt.nil) (nz_add nz_noneJ) fun q => ?_
  rw [getZ_add (srt_add Srt.nil) (srt_add Srt.nil), getZ_gAll, getZ_gAll, getZ_gAll, sumG_join, sumG_join, sumG_join, ← sumG_plus]
  congr 1
  funext p
  rw [sumG_add]
/-- What takes the left side away takes away what is joined. -/
theorem sumG_neg (f : List Int → Int) : ∀ a : List It, sumG f (negZ a) = - sumG f a
  | [] => rfl
  | p :: a => by
    have ih := sumG_neg f a
    unfold negZ at *
    rw [List.map_cons, sumG, sumG, ih]
    show f p.1 * -p.2 + _ = _
    rw [Int.mul_neg]; omega
theorem join_neg (a b : List It) (x y : Nat) : addZ [] (joinZ (negZ a) b x y) = negZ (addZ [] (joinZ a b x y)) := by
  refine canon (srt_add Srt.nil) (nz_add nz_noneJ) (srt_neg (srt_add Srt.nil)) (nz_neg (nz_add nz_noneJ)) fun q => ?_
  rw [getZ_neg, getZ_gAll, getZ_gAll, sumG_join, sumG_join, sumG_neg]
theorem join_true {a b : List It} {x y : Int} (h : joinOk a b x y = true) : zOkB a = true ∧ zOkB b = true ∧ canB a b x y = true ∧ zOkB (addZ [] (joinZ a b x.toNat y.toNat)) = true ∧ joinOut a b x y = addZ [] (joinZ a b x.toNat y.toNat) := by
  have h0 := h
  unfold joinOk at h0
  simp only [Bool.and_eq_true] at h0
  exact ⟨h0.1.1.1, h0.1.1.2, h0.1.2, h0.2, by unfold joinOut; rw [h]; rfl⟩
theorem join_false {a b : List It} {x y : Int} (h : joinOk a b x y = false) : joinOut a b x y = [] := by unfold joinOut; rw [h]; rfl

theorem join_val {v u : Value} {a b os : List It} {x y : Int} {c : Bool} {w : World} (hc : joinOk a b x y = c) (ho : joinOut a b x y = os) (h : TailZ w v a) (hu : TailZ w u b) :
    Calls Tryz.prog 14 #[v, u, .int .i64 x, .int .i64 y] w fun e w' => ∃ v', e = .returned (.tuple #[v', .bool c]) ∧ TailZ w' v' os ∧ Below w.heap.size w w' := by
  subst hc ho
  refine (implJoin_any v u a b x y w h.items hu.items).mono ?_
  rintro e w' ⟨v', he, hz, hb⟩
  exact ⟨v', he, hz.tail, hb⟩
theorem specJoin_val {v u : Value} {a b os : List It} {x y : Int} {c : Bool} {w : World} (hc : joinOk a b x y = c) (ho : joinOut a b x y = os) (h : TailZ w v a) (hu : TailZ w u b) :
    Calls Tryz.prog 15 #[v, u, .int .i64 x, .int .i64 y] w fun e w' => ∃ v', e = .returned (.tuple #[v', .bool c]) ∧ TailZ w' v' os ∧ Below w.heap.size w w' := by
  subst hc ho
  refine (specJoin_any v u a b x y w h.items hu.items).mono ?_
  rintro e w' ⟨v', he, hz, hb⟩
  exact ⟨v', he, hz.tail, hb⟩

end Go.Proofs.YtehfpceghdaajaaGreatDoor

/-
  Plain facts: what is so of two lists together is what is so of each, together.
-/
namespace Go.Proofs.YtehfpceghdaajaaGreatDoor
open Go.RowKit

theorem whereZ_add {t : Tst} {a b : List It} (ha : Srt a) (hna : Nz a) (hb : Srt b) : whereZ t (addZ a b) = addZ (whereZ t a) (whereZ t b) := by
  have s1 : Srt (whereZ t a) := ha.sublist List.filter_sublist
  have s2 : Srt (whereZ t b) := hb.sublist List.filter_sublist
  have n1 : Nz (whereZ t a) := fun p hp => hna p (List.mem_filter.1 hp).1
  refine canon ((srt_add ha).sublist List.filter_sublist) (fun p hp => nz_add hna p (List.mem_filter.1 hp).1) (srt_add s1) (nz_add n1) fun q => ?_
  rw [getZ_add s1 s2]
  unfold whereZ
  rw [getZ_where, getZ_where, getZ_where, getZ_add ha hb]
  by_cases h : t.valB q = true
  · rw [if_pos h, if_pos h, if_pos h]
  · rw [if_neg h, if_neg h, if_neg h]; rfl
theorem where_sum {t : Tst} {a b : List It} (h0 : addOk a b = true) (h1 : whereOk t a = true) (h2 : whereOk t b = true) (h3 : whereOk t (addOut a b) = true) (h4 : addOk (whereOut t a) (whereOut t b) = true) :
    whereOut t (addOut a b) = addOut (whereOut t a) (whereOut t b) := by
  obtain ⟨ha, hb, _, e0⟩ := addOk_true h0
  rw [(addOk_true h4).2.2.2, (where_true h3).2.2, (where_true h1).2.2, (where_true h2).2.2, e0]
  exact whereZ_add (zOk_srt ha) (zOk_nz ha) (zOk_srt hb)

end Go.Proofs.YtehfpceghdaajaaGreatDoor

/-
  Plain facts: what is asked of cells of the first part of what is joined can be asked ahead.
-/
namespace Go.Proofs.YtehfpceghdaajaaGreatDoor
open Go.RowKit

theorem getD_frontJ {xs ys : List Int} {j : Nat} (h : j < xs.length) : (xs ++ ys).getD j 0 = xs.getD j 0 := by
  simp [List.getD, List.getElem?_append, h]
theorem wide_numJ {c : Cel} {xs ys : List Int} (h : c.okB xs.length = true) : c.num (xs ++ ys) = c.num xs := by
  rw [ok_iff] at h
  unfold Cel.num
  rcases h with ⟨h1, h2, h3, h4⟩ | ⟨h1, h2, h3, h4⟩ | ⟨h1, h2, h3, h4⟩
  · rw [if_pos h1, if_pos h1, getD_frontJ (by omega)]
  · rw [if_neg (by omega), if_pos h1, if_neg (by omega), if_pos h1]
  · rw [if_neg (by omega), if_neg (by omega), if_neg (by omega), if_neg (by omega), getD_frontJ (by omega), getD_frontJ (by omega)]
theorem wide_okJ {c : Cel} {xs ys : List Int} (h : c.okB xs.length = true) : c.okB (xs ++ ys).length = true := by
  rw [ok_iff] at h ⊢
  rw [List.length_append]
  omega
theorem wide_toldJ {c : Cel} {xs ys : List Int} (h : c.toldB xs = true) (hj : rowOkB (xs ++ ys) = true) : c.toldB (xs ++ ys) = true := by
  have hk := (told_ok h).2
  unfold Cel.toldB at h ⊢
  rw [hj, wide_okJ hk, wide_numJ hk]
  simp only [Bool.and_eq_true] at h
  rw [h.2]; rfl
/-- What is asked of a row is so of a longer one that begins with it. -/
theorem wide_testJ {t : Tst} {xs ys : List Int} (h : t.toldB xs = true) (hj : rowOkB (xs ++ ys) = true) : t.valB (xs ++ ys) = t.valB xs := by
  have h0 := h
  simp only [Tst.toldB, Bool.and_eq_true] at h0
  obtain ⟨⟨hk, hl⟩, hr⟩ := h0
  have h1 : t.toldB (xs ++ ys) = true := by simp [Tst.toldB, wide_toldJ hl hj, wide_toldJ hr hj]; simpa using hk
  rw [Tst.valB, Tst.valB, h, h1]
  unfold Tst.holdsB
  rw [wide_numJ (told_ok hl).2, wide_numJ (told_ok hr).2]
theorem sumG_where (t : Tst) (g : List Int → Int) : ∀ a : List It, sumG g (whereZ t a) = sumG (fun p => if t.valB p then g p else 0) a
  | [] => rfl
  | p :: a => by
    have ih := sumG_where t g a
    unfold whereZ at *
    rw [List.filter_cons]
    by_cases h : t.valB p.1 = true
    · rw [if_pos h, sumG, sumG, ih, if_pos h]
    · rw [if_neg h, sumG, ih, if_neg h]; omega
theorem sumG_same {f g : List Int → Int} : ∀ {a : List It}, (∀ p ∈ a, f p.1 = g p.1) → sumG f a = sumG g a
  | [], _ => rfl
  | p :: a, h => by rw [sumG, sumG, h p (by simp), sumG_same fun q hq => h q (by simp [hq])]
theorem sumG_none {g : List Int → Int} (h : ∀ r, g r = 0) : ∀ a : List It, sumG g a = 0
  | [] => rfl
  | p :: a => by rw [sumG, h, sumG_none h a]; omega
theorem valB_row {t : Tst} {q : List Int} (h : rowOkB q = false) : t.valB q = false := by
  simp [Tst.valB, Tst.toldB, Cel.toldB, h]
theorem getZ_bad {zs : List It} {q : List Int} (h : zOkB zs = true) (hq : rowOkB q = false) : getZ zs q = 0 := by
  apply Classical.byContradiction
  intro hc
  obtain ⟨p, hp, rfl⟩ := getZ_in_row hc
  obtain ⟨j, hj, e⟩ := mem_getD (d := ([], 0)) hp
  have := (zOk_row h hj).1
  rw [e, hq] at this
  exact absurd this (by decide)
theorem where_joinZ {t : Tst} {a b : List It} {x y : Nat} (ht : ∀ p ∈ a, t.toldB p.1 = true) (hz : zOkB (addZ [] (joinZ (whereZ t a) b x y)) = true) :
    addZ [] (joinZ (whereZ t a) b x y) = whereZ t (addZ [] (joinZ a b x y)) := by
  refine canon (srt_add Srt.nil) (nz_add nz_noneJ) ((srt_add Srt.nil).sublist List.filter_sublist) (fun p hp => nz_add nz_noneJ p (List.mem_filter.1 hp).1) fun q => ?_
  unfold whereZ
  rw [getZ_where]
  show getZ (addZ [] (joinZ (whereZ t a) b x y)) q = _
  by_cases hq : rowOkB q = true
  · rw [getZ_gAll, getZ_gAll, sumG_join, sumG_where, sumG_join]
    have key : ∀ p ∈ a, (if t.valB p.1 then sumG (meetG (fun r => if r = q then 1 else 0) x y p.1) b else 0) = (if t.valB q then (1 : Int) else 0) * sumG (meetG (fun r => if r = q then 1 else 0) x y p.1) b := by
      intro p hp
      by_cases hv : t.valB p.1 = t.valB q
      · rw [hv]; by_cases hb : t.valB q = true
        · rw [if_pos hb, if_pos hb]; omega
        · rw [if_neg hb, if_neg hb]; omega
      · have : sumG (meetG (fun r => if r = q then (1 : Int) else 0) x y p.1) b = 0 := by
          refine sumG_none (fun r => ?_) b
          unfold meetG
          by_cases h1 : r.getD y 0 = p.1.getD x 0
          · rw [if_pos h1]
            refine if_neg ?_
            intro hc
            exact hv (by rw [← hc] at hq ⊢; exact (wide_testJ (ht p hp) hq).symm)
          · rw [if_neg h1]
        rw [this]; split <;> omega
    rw [sumG_same (g := fun p => (if t.valB q then (1 : Int) else 0) * sumG (meetG (fun r => if r = q then 1 else 0) x y p) b) key, sumG_scale]
    by_cases hb : t.valB q = true
    · rw [if_pos hb, if_pos hb]; omega
    · rw [if_neg hb, if_neg hb]; omega
  · have hq' : rowOkB q = false := by simpa using hq
    rw [getZ_bad hz hq', valB_row hq']; rfl
theorem where_join {t : Tst} {a b : List It} {x y : Int} (h0 : joinOk a b x y = true) (h1 : whereOk t a = true) (h2 : joinOk (whereOut t a) b x y = true) (h3 : whereOk t (joinOut a b x y) = true) :
    joinOut (whereOut t a) b x y = whereOut t (joinOut a b x y) := by
  have q2 := join_true h2
  rw [q2.2.2.2.2, (where_true h3).2.2, (join_true h0).2.2.2.2]
  have hz := q2.2.2.2.1
  rw [(where_true h1).2.2] at hz ⊢
  exact where_joinZ (where_true h1).2.1 hz

end Go.Proofs.YtehfpceghdaajaaGreatDoor

/-
  What is drawn for the laws of joins and tests: DrawJoinOf, with the lists as DrawW has them.
-/
namespace Go.Proofs.YtehfpceghdaajaaGreatDoor
open Go.RowKit
set_option linter.unusedVariables false

theorem quot19 {q : Int} (h0 : 0 ≤ q) (h1 : q < 20) : 0 ≤ q.tdiv 19 ∧ q.tdiv 19 ≤ 1 := by
  rw [Int.tdiv_eq_ediv_of_nonneg h0]; omega
set_option maxRecDepth 100000 in
set_option maxHeartbeats 4000000 in
theorem drawJoinOf_any (a : Option Addr) (len cap : Nat) (bs : List Int) (w : World) (h : IsRow .u8 w a len cap bs) :
    Calls Tryz.prog 13 #[.slice a len cap] w fun e w' =>
      ∃ (v u : Value) (x y : Int) (zs ys : List It), e = .returned (.tuple #[v, u, .int .i64 x, .int .i64 y]) ∧ (0 ≤ x ∧ x ≤ 3) ∧ (-1 ≤ y ∧ y ≤ 2) ∧ GoodZ zs ∧ GoodZ ys ∧ TailZ w' v zs ∧ TailZ w' u ys ∧ Below w.heap.size w w' := by
  go_enter Tryz.func13, Tryz.ntmps13
  go_wp2_with fail
  refine (l12Open_any a len cap bs _ h).mono ?_
  rintro e w1 ⟨rfl, hrd1, hb1⟩
  have B1 : Hid (Below w.heap.size w w1) := hb1
  clear hb1 h
  obtain ⟨g, hg⟩ : ∃ g, g = w.heap.size := ⟨_, rfl⟩
  rw [← hg] at hrd1 ⊢
  have HG : Hid (g = w.heap.size) := hg
  clear hg
  go_wp2_with fail
  refine (l5Wide_any g _ _ (by omega) hrd1).mono ?_
  rintro e w2 ⟨v, wd, rfl, ⟨hwd1, hwd2⟩, zs, hgz, hd2, hrd2, hg2⟩
  have B2 : Hid (Below w.heap.size w w2) := B1.out.grown hg2 B1.out.size (fun k hk => by simp at hk; have := HG.out; omega)
  have HGZ : Hid (GoodZ zs) := hgz
  have HD2 : Hid (Drawn w2 g v zs) := hd2
  clear hg2 hrd1 hgz hd2 B1
  go_wp2_with fail
  refine (l5Wide_any g _ _ (by omega) hrd2).mono ?_
  rintro e w3 ⟨u, we, rfl, ⟨hwe1, hwe2⟩, ys, hgy, hd3, hrd3, hg3⟩
  have B3 : Hid (Below w.heap.size w w3) := B2.out.grown hg3 B2.out.size (fun k hk => by simp at hk; have := HG.out; omega)
  have HGY : Hid (GoodZ ys) := hgy
  have HDz3 : Hid (Drawn w3 g v zs) := HD2.out.next hg3
  have HDy3 : Hid (Drawn w3 g u ys) := hd3
  clear hg3 hrd2 hgy hd3 B2 HD2
  go_wp2_with fail
  refine (pick_any g _ wd _ (by omega) (by omega) (by omega) hrd3).mono ?_
  rintro e w4 ⟨p1, hp10, hp11, rfl, hrd4, hg4⟩
  have B4 : Hid (Below w.heap.size w w4) := B3.out.grown hg4 B3.out.size (fun k hk => by simp at hk; have := HG.out; omega)
  have HDz4 : Hid (Drawn w4 g v zs) := HDz3.out.next hg4
  have HDy4 : Hid (Drawn w4 g u ys) := HDy3.out.next hg4
  clear hg4 hrd3 B3 HDz3 HDy3
  go_wp2_with fail
  refine (pick_any g _ 20 _ (by omega) (by omega) (by omega) hrd4).mono ?_
  rintro e w5 ⟨p2, hp20, hp21, rfl, hrd5, hg5⟩
  have B5 : Hid (Below w.heap.size w w5) := B4.out.grown hg5 B4.out.size (fun k hk => by simp at hk; have := HG.out; omega)
  have HDz5 : Hid (Drawn w5 g v zs) := HDz4.out.next hg5
  have HDy5 : Hid (Drawn w5 g u ys) := HDy4.out.next hg5
  have ht2 := quot19 hp20 hp21
  clear hg5 hrd4 B4 HDz4 HDy4
  go_wp2_with fail
  refine (pick_any g _ we _ (by omega) (by omega) (by omega) hrd5).mono ?_
  rintro e w6 ⟨p3, hp30, hp31, rfl, hrd6, hg6⟩
  have B6 : Hid (Below w.heap.size w w6) := B5.out.grown hg6 B5.out.size (fun k hk => by simp at hk; have := HG.out; omega)
  have HDz6 : Hid (Drawn w6 g v zs) := HDz5.out.next hg6
  have HDy6 : Hid (Drawn w6 g u ys) := HDy5.out.next hg6
  clear hg6 hrd5 B5 HDz5 HDy5
  go_wp2_with fail
  refine (pick_any g _ 20 _ (by omega) (by omega) (by omega) hrd6).mono ?_
  rintro e w7 ⟨p4, hp40, hp41, rfl, hrd7, hg7⟩
  have B7 : Hid (Below w.heap.size w w7) := B6.out.grown hg7 B6.out.size (fun k hk => by simp at hk; have := HG.out; omega)
  have HDz7 : Hid (Drawn w7 g v zs) := HDz6.out.next hg7
  have HDy7 : Hid (Drawn w7 g u ys) := HDy6.out.next hg7
  have ht4 := quot19 hp40 hp41
  clear hg7 hrd6 B6 HDz6 HDy6
  go_wp2
  exact bodyPost_ret (v := .tuple #[v, u, .int .i64 (p1 + p2.tdiv 19), .int .i64 (p3 - p4.tdiv 19)]) (by simp [results, Tryz.results13, go_sem]) rfl ⟨v, u, _, _, zs, ys, rfl, by omega, by omega, HGZ.out, HGY.out, HDz7.out.now, HDy7.out.now, B7.out⟩

end Go.Proofs.YtehfpceghdaajaaGreatDoor

/-
  The walk of laws.FnWhereJoin, out of the contracts: whatever the bytes are, it answers true, and nothing that was there is written. Condition: the error of chapter 3 reads as it was laid.
-/
namespace Go.Proofs.YtehfpceghdaajaaGreatDoor
open Go.RowKit
set_option linter.unusedVariables false

set_option maxRecDepth 100000 in
set_option maxHeartbeats 16000000 in
theorem lawFnWhereJoin (a : Option Addr) (len cap : Nat) (bs : List Int) (w : World) (h : IsRow .u8 w a len cap bs) (hs : HasSent w) :
    Calls Tryz.prog 4 #[.slice a len cap] w fun e w' => e = .returned (.bool true) ∧ Below w.heap.size w w' := by
  by_cases hbig : (1048576 : Int) < (len : Int)
  · go_enter Tryz.func4, Tryz.ntmps4
    go_wp2
    go_ret
    exact ⟨rfl, Below.refl _ _⟩
  obtain ⟨p, hp⟩ := hs
  have HP : Hid (Sent w p) := hp
  have H1 : Hid (IsRow .u8 w a len cap bs) := h
  clear hp
  go_enter Tryz.func4, Tryz.ntmps4
  go_wp2_with fail
  refine (drawJoinOf_any a len cap bs _ h).mono ?_
  rintro e w1 ⟨va, vb, x, y, za, zb, rfl, hx, hy, hgz, hgy, TA1, TB1, hk1⟩
  clear h hgz hgy hx hy
  go_wp2_with fail
  refine (drawWhereOf_any a len cap bs _ (H1.out.below hk1)).mono ?_
  rintro e w2 ⟨vo, ⟨tk, tn, ⟨lk, la, lb, ln⟩, ⟨rk, ra, rb, rn⟩⟩, rfl, hlow, zo, hgo, TO2, hb2⟩
  simp only
  have hk2 := below_then hk1 hb2
  have hka := below_then hk2 (below_alloc (.cells #[.int .i64 tk, .bool tn, .int .i64 lk, .int .i64 la, .int .i64 lb, .int .i64 ln, .int .i64 rk, .int .i64 ra, .int .i64 rb, .int .i64 rn] 30))
  have TA2 := (TA1.below hb2).below (below_alloc (.cells #[.int .i64 tk, .bool tn, .int .i64 lk, .int .i64 la, .int .i64 lb, .int .i64 ln, .int .i64 rk, .int .i64 ra, .int .i64 rb, .int .i64 rn] 30))
  have TB2 := (TB1.below hb2).below (below_alloc (.cells #[.int .i64 tk, .bool tn, .int .i64 lk, .int .i64 la, .int .i64 lb, .int .i64 ln, .int .i64 rk, .int .i64 ra, .int .i64 rb, .int .i64 rn] 30))
  have X2 := Box10.start w2 ⟨tk, tn, ⟨lk, la, lb, ln⟩, ⟨rk, ra, rb, rn⟩⟩ 30
  clear hlow hgo TO2 hb2 hk1 hk2 TA1 TB1
  obtain ⟨c0, Hc0⟩ : ∃ c : Bool, Hid (c = joinOk za zb x y) := ⟨_, rfl⟩
  obtain ⟨c5, Hc5⟩ : ∃ c : Bool, Hid (c = whereOk ⟨tk, tn, ⟨lk, la, lb, ln⟩, ⟨rk, ra, rb, rn⟩⟩ za) := ⟨_, rfl⟩
  obtain ⟨p1, Hp1⟩ : ∃ c : Bool, Hid (c = joinOk (whereOut ⟨tk, tn, ⟨lk, la, lb, ln⟩, ⟨rk, ra, rb, rn⟩⟩ za) zb x y) := ⟨_, rfl⟩
  obtain ⟨q1, Hq1⟩ : ∃ c : Bool, Hid (c = whereOk ⟨tk, tn, ⟨lk, la, lb, ln⟩, ⟨rk, ra, rb, rn⟩⟩ (joinOut za zb x y)) := ⟨_, rfl⟩
  obtain ⟨r1, Hr1⟩ : ∃ c : Bool, Hid (c = addOk za zb) := ⟨_, rfl⟩
  obtain ⟨m1, Hm1⟩ : ∃ c : Bool, Hid (c = whereOk ⟨tk, tn, ⟨lk, la, lb, ln⟩, ⟨rk, ra, rb, rn⟩⟩ (addOut za zb)) := ⟨_, rfl⟩
  obtain ⟨n1, Hn1⟩ : ∃ c : Bool, Hid (c = whereOk ⟨tk, tn, ⟨lk, la, lb, ln⟩, ⟨rk, ra, rb, rn⟩⟩ zb) := ⟨_, rfl⟩
  obtain ⟨o1, Ho1⟩ : ∃ c : Bool, Hid (c = addOk (whereOut ⟨tk, tn, ⟨lk, la, lb, ln⟩, ⟨rk, ra, rb, rn⟩⟩ za) (whereOut ⟨tk, tn, ⟨lk, la, lb, ln⟩, ⟨rk, ra, rb, rn⟩⟩ zb)) := ⟨_, rfl⟩
  go_wp2_with fail
  refine (join_val Hc0.out.symm rfl TA2 TB2).mono ?_
  rintro e w4 ⟨vx, rfl, TX, hb4⟩
  have hk4 := below_then hka hb4
  have A_4 := TA2.below hb4
  have B_4 := TB2.below hb4
  have X_4 := X2.below hb4
  clear hb4 hka TA2 TB2 X2
  go_wp2_with fail
  refine (specJoin_val Hc0.out.symm rfl A_4 B_4).mono ?_
  rintro e w5 ⟨vy, rfl, TY, hb5⟩
  have hk5 := below_then hk4 hb5
  have A_5 := A_4.below hb5
  have B_5 := B_4.below hb5
  have X_5 := X_4.below hb5
  have M_5 := TX.below hb5
  clear hb5 hk4 A_4 B_4 X_4 TX
  go_wp2_with fail
  refine (zsame_val (zsB_refl _) M_5 TY).mono ?_
  rintro e w6 ⟨rfl, hb6⟩
  have hk6 := below_then hk5 hb6
  have A_6 := A_5.below hb6
  have B_6 := B_5.below hb6
  have X_6 := X_5.below hb6
  have M_6 := M_5.below hb6
  have Y_6 := TY.below hb6
  clear hb6 hk5 A_5 B_5 X_5 M_5 TY
  cases c0 with
  | false =>
    clear X_6
    go_wp2_with fail
    refine (zsame_val (zsB_refl _) M_6 Y_6).mono ?_
    rintro e w7 ⟨rfl, hb7⟩
    have hk7 := below_then hk6 hb7
    have A_7 := A_6.below hb7
    have B_7 := B_6.below hb7
    have M_7 := M_6.below hb7
    have Y_7 := Y_6.below hb7
    clear hb7 hk6 A_6 B_6 M_6 Y_6
    clear A_7 B_7 M_7 Y_7
    go_wp2
    go_ret
    exact ⟨rfl, hk7⟩
  | true =>
    clear Y_6
    obtain ⟨⟨c0, c1, c2, c3, c4⟩, c5, c6, c7, c8, c9⟩ := box_cells X_6
    simp only at c0 c1 c2 c3 c4 c5 c6 c7 c8 c9
    go_wp2_with fail
    refine (where_val (t := ⟨tk, tn, ⟨lk, la, lb, ln⟩, ⟨rk, ra, rb, rn⟩⟩) Hc5.out.symm rfl (HP.out.below hk6) A_6).mono ?_
    rintro e w7 ⟨vd, rfl, TD, hb7⟩
    clear c0 c1 c2 c3 c4 c5 c6 c7 c8 c9
    have hk7 := below_then hk6 hb7
    have A_7 := A_6.below hb7
    have B_7 := B_6.below hb7
    have X_7 := X_6.below hb7
    have M_7 := M_6.below hb7
    clear hb7 hk6 A_6 B_6 X_6 M_6
    cases c5 with
    | false =>
      clear A_7 B_7 X_7 M_7 TD
      go_wp2
      go_ret
      exact ⟨rfl, hk7⟩
    | true =>
      go_wp2_with fail
      refine (join_val Hp1.out.symm rfl TD B_7).mono ?_
      rintro e w8 ⟨ve, rfl, TE, hb8⟩
      have hk8 := below_then hk7 hb8
      have A_8 := A_7.below hb8
      have B_8 := B_7.below hb8
      have X_8 := X_7.below hb8
      have M_8 := M_7.below hb8
      have D_8 := TD.below hb8
      clear hb8 hk7 A_7 B_7 X_7 M_7 TD
      obtain ⟨⟨c0, c1, c2, c3, c4⟩, c5, c6, c7, c8, c9⟩ := box_cells X_8
      simp only at c0 c1 c2 c3 c4 c5 c6 c7 c8 c9
      go_wp2_with fail
      refine (where_val (t := ⟨tk, tn, ⟨lk, la, lb, ln⟩, ⟨rk, ra, rb, rn⟩⟩) Hq1.out.symm rfl (HP.out.below hk8) M_8).mono ?_
      rintro e w9 ⟨vf, rfl, TF, hb9⟩
      clear c0 c1 c2 c3 c4 c5 c6 c7 c8 c9
      have hk9 := below_then hk8 hb9
      have A_9 := A_8.below hb9
      have B_9 := B_8.below hb9
      have X_9 := X_8.below hb9
      have M_9 := M_8.below hb9
      have D_9 := D_8.below hb9
      have E_9 := TE.below hb9
      clear hb9 hk8 A_8 B_8 X_8 M_8 D_8 TE
      clear M_9
      go_wp2_with fail
      refine (add_val Hr1.out.symm rfl A_9 B_9).mono ?_
      rintro e w10 ⟨vs, rfl, TS, hb10⟩
      have hk10 := below_then hk9 hb10
      have A_10 := A_9.below hb10
      have B_10 := B_9.below hb10
      have X_10 := X_9.below hb10
      have D_10 := D_9.below hb10
      have E_10 := E_9.below hb10
      have F_10 := TF.below hb10
      clear hb10 hk9 A_9 B_9 X_9 D_9 E_9 TF
      clear A_10
      obtain ⟨⟨c0, c1, c2, c3, c4⟩, c5, c6, c7, c8, c9⟩ := box_cells X_10
      simp only at c0 c1 c2 c3 c4 c5 c6 c7 c8 c9
      go_wp2_with fail
      refine (where_val (t := ⟨tk, tn, ⟨lk, la, lb, ln⟩, ⟨rk, ra, rb, rn⟩⟩) Hm1.out.symm rfl (HP.out.below hk10) TS).mono ?_
      rintro e w11 ⟨vg, rfl, TG, hb11⟩
      clear c0 c1 c2 c3 c4 c5 c6 c7 c8 c9
      have hk11 := below_then hk10 hb11
      have B_11 := B_10.below hb11
      have X_11 := X_10.below hb11
      have D_11 := D_10.below hb11
      have E_11 := E_10.below hb11
      have F_11 := F_10.below hb11
      have S_11 := TS.below hb11
      clear hb11 hk10 B_10 X_10 D_10 E_10 F_10 TS
      clear S_11
      obtain ⟨⟨c0, c1, c2, c3, c4⟩, c5, c6, c7, c8, c9⟩ := box_cells X_11
      simp only at c0 c1 c2 c3 c4 c5 c6 c7 c8 c9
      go_wp2_with fail
      refine (where_val (t := ⟨tk, tn, ⟨lk, la, lb, ln⟩, ⟨rk, ra, rb, rn⟩⟩) Hn1.out.symm rfl (HP.out.below hk11) B_11).mono ?_
      rintro e w12 ⟨vh, rfl, TH, hb12⟩
      clear c0 c1 c2 c3 c4 c5 c6 c7 c8 c9
      have hk12 := below_then hk11 hb12
      have B_12 := B_11.below hb12
      have X_12 := X_11.below hb12
      have D_12 := D_11.below hb12
      have E_12 := E_11.below hb12
      have F_12 := F_11.below hb12
      have G_12 := TG.below hb12
      clear hb12 hk11 B_11 X_11 D_11 E_11 F_11 TG
      clear B_12
      clear X_12
      go_wp2_with fail
      refine (add_val Ho1.out.symm rfl D_12 TH).mono ?_
      rintro e w13 ⟨vk, rfl, TK, hb13⟩
      have hk13 := below_then hk12 hb13
      have D_13 := D_12.below hb13
      have E_13 := E_12.below hb13
      have F_13 := F_12.below hb13
      have G_13 := G_12.below hb13
      have H_13 := TH.below hb13
      clear hb13 hk12 D_12 E_12 F_12 G_12 TH
      clear D_13
      clear H_13
      cases p1 with
      | false =>
        cases r1 with
        | false =>
          clear E_13 F_13 G_13 TK
          go_wp2
          go_ret
          exact ⟨rfl, hk13⟩
        | true =>
          cases m1 with
          | false =>
            clear E_13 F_13 G_13 TK
            go_wp2
            go_ret
            exact ⟨rfl, hk13⟩
          | true =>
            cases n1 with
            | false =>
              clear E_13 F_13 G_13 TK
              go_wp2
              go_ret
              exact ⟨rfl, hk13⟩
            | true =>
              cases o1 with
              | false =>
                clear E_13 F_13 G_13 TK
                go_wp2
                go_ret
                exact ⟨rfl, hk13⟩
              | true =>
                have hs2 : zsB (whereOut ⟨tk, tn, ⟨lk, la, lb, ln⟩, ⟨rk, ra, rb, rn⟩⟩ (addOut za zb)) (addOut (whereOut ⟨tk, tn, ⟨lk, la, lb, ln⟩, ⟨rk, ra, rb, rn⟩⟩ za) (whereOut ⟨tk, tn, ⟨lk, la, lb, ln⟩, ⟨rk, ra, rb, rn⟩⟩ zb)) = true := by rw [where_sum Hr1.out.symm Hc5.out.symm Hn1.out.symm Hm1.out.symm Ho1.out.symm]; exact zsB_refl _
                go_wp2_with fail
                refine (zsame_val hs2 G_13 TK).mono ?_
                rintro e w14 ⟨rfl, hb14⟩
                have hk14 := below_then hk13 hb14
                have E_14 := E_13.below hb14
                have F_14 := F_13.below hb14
                have G_14 := G_13.below hb14
                have K_14 := TK.below hb14
                clear hb14 hk13 E_13 F_13 G_13 TK
                clear E_14 F_14 G_14 K_14
                clear hs2
                go_wp2
                go_ret
                exact ⟨rfl, hk14⟩
      | true =>
        cases q1 with
        | false =>
          cases r1 with
          | false =>
            clear E_13 F_13 G_13 TK
            go_wp2
            go_ret
            exact ⟨rfl, hk13⟩
          | true =>
            cases m1 with
            | false =>
              clear E_13 F_13 G_13 TK
              go_wp2
              go_ret
              exact ⟨rfl, hk13⟩
            | true =>
              cases n1 with
              | false =>
                clear E_13 F_13 G_13 TK
                go_wp2
                go_ret
                exact ⟨rfl, hk13⟩
              | true =>
                cases o1 with
                | false =>
                  clear E_13 F_13 G_13 TK
                  go_wp2
                  go_ret
                  exact ⟨rfl, hk13⟩
                | true =>
                  have hs2 : zsB (whereOut ⟨tk, tn, ⟨lk, la, lb, ln⟩, ⟨rk, ra, rb, rn⟩⟩ (addOut za zb)) (addOut (whereOut ⟨tk, tn, ⟨lk, la, lb, ln⟩, ⟨rk, ra, rb, rn⟩⟩ za) (whereOut ⟨tk, tn, ⟨lk, la, lb, ln⟩, ⟨rk, ra, rb, rn⟩⟩ zb)) = true := by rw [where_sum Hr1.out.symm Hc5.out.symm Hn1.out.symm Hm1.out.symm Ho1.out.symm]; exact zsB_refl _
                  go_wp2_with fail
                  refine (zsame_val hs2 G_13 TK).mono ?_
                  rintro e w14 ⟨rfl, hb14⟩
                  have hk14 := below_then hk13 hb14
                  have E_14 := E_13.below hb14
                  have F_14 := F_13.below hb14
                  have G_14 := G_13.below hb14
                  have K_14 := TK.below hb14
                  clear hb14 hk13 E_13 F_13 G_13 TK
                  clear E_14 F_14 G_14 K_14
                  clear hs2
                  go_wp2
                  go_ret
                  exact ⟨rfl, hk14⟩
        | true =>
          have hs : zsB (joinOut (whereOut ⟨tk, tn, ⟨lk, la, lb, ln⟩, ⟨rk, ra, rb, rn⟩⟩ za) zb x y) (whereOut ⟨tk, tn, ⟨lk, la, lb, ln⟩, ⟨rk, ra, rb, rn⟩⟩ (joinOut za zb x y)) = true := by rw [where_join Hc0.out.symm Hc5.out.symm Hp1.out.symm Hq1.out.symm]; exact zsB_refl _
          go_wp2_with fail
          refine (zsame_val hs E_13 F_13).mono ?_
          rintro e w14 ⟨rfl, hb14⟩
          have hk14 := below_then hk13 hb14
          have E_14 := E_13.below hb14
          have F_14 := F_13.below hb14
          have G_14 := G_13.below hb14
          have K_14 := TK.below hb14
          clear hb14 hk13 E_13 F_13 G_13 TK
          clear hs
          cases r1 with
          | false =>
            clear E_14 F_14 G_14 K_14
            go_wp2
            go_ret
            exact ⟨rfl, hk14⟩
          | true =>
            cases m1 with
            | false =>
              clear E_14 F_14 G_14 K_14
              go_wp2
              go_ret
              exact ⟨rfl, hk14⟩
            | true =>
              cases n1 with
              | false =>
                clear E_14 F_14 G_14 K_14
                go_wp2
                go_ret
                exact ⟨rfl, hk14⟩
              | true =>
                cases o1 with
                | false =>
                  clear E_14 F_14 G_14 K_14
                  go_wp2
                  go_ret
                  exact ⟨rfl, hk14⟩
                | true =>
                  have hs2 : zsB (whereOut ⟨tk, tn, ⟨lk, la, lb, ln⟩, ⟨rk, ra, rb, rn⟩⟩ (addOut za zb)) (addOut (whereOut ⟨tk, tn, ⟨lk, la, lb, ln⟩, ⟨rk, ra, rb, rn⟩⟩ za) (whereOut ⟨tk, tn, ⟨lk, la, lb, ln⟩, ⟨rk, ra, rb, rn⟩⟩ zb)) = true := by rw [where_sum Hr1.out.symm Hc5.out.symm Hn1.out.symm Hm1.out.symm Ho1.out.symm]; exact zsB_refl _
                  go_wp2_with fail
                  refine (zsame_val hs2 G_14 K_14).mono ?_
                  rintro e w15 ⟨rfl, hb15⟩
                  have hk15 := below_then hk14 hb15
                  have E_15 := E_14.below hb15
                  have F_15 := F_14.below hb15
                  have G_15 := G_14.below hb15
                  have K_15 := K_14.below hb15
                  clear hb15 hk14 E_14 F_14 G_14 K_14
                  clear E_15 F_15 G_15 K_15
                  clear hs2
                  go_wp2
                  go_ret
                  exact ⟨rfl, hk15⟩

end Go.Proofs.YtehfpceghdaajaaGreatDoor
