/-
  The contracts of impl.MapOf and spec.MapOf: what is reckoned of items, put together, in memory of its own; none, and false, of items that are not right, of no cells or too many, of what can not be reckoned, or if it is too much. Condition (impl.MapOf): the error of chapter 3 reads as it was laid.
-/
import Derived.Test.YtdponcnhdmkhiabDoorMapRow
import Derived.Test.YtdponcnhdmkhiabDoorGather
import Derived.Test.YtdponcnhdmkhiabDoorAddSpec
namespace Go.Proofs.YtdponcnhdmkhiabDoor
set_option maxRecDepth 100000
open Go.RowKit
attribute [local go_sem ↓] Go.wp_at_zero Go.wp_at_succ

def mapZ (cs : List Cel) (zs : List It) : List It := zs.map fun p => (rowC cs p.1, p.2)
def mapCan (cs : List Cel) (zs : List It) : Bool := zOkB zs && decide (1 ≤ cs.length ∧ cs.length ≤ 6) && zs.all fun p => toldC cs p.1
def mapOk (cs : List Cel) (zs : List It) : Bool := mapCan cs zs && zOkB (addZ [] (mapZ cs zs))
def mapOut (cs : List Cel) (zs : List It) : List It := if mapOk cs zs then addZ [] (mapZ cs zs) else []

theorem mapZ_take {cs : List Cel} {zs : List It} {k : Nat} (hk : k < zs.length) : mapZ cs (zs.take (k + 1)) = mapZ cs (zs.take k) ++ [(rowC cs (zs.getD k ([], 0)).1, (zs.getD k ([], 0)).2)] := by
  unfold mapZ
  rw [List.take_succ_eq_append_getElem hk, List.map_append]
  simp [List.getD, hk]
theorem mapZ_len (cs : List Cel) (zs : List It) : (mapZ cs zs).length = zs.length := by simp [mapZ]
theorem map_not {cs : List Cel} {zs : List It} (h : mapCan cs zs = false) : mapOk cs zs = false ∧ mapOut cs zs = [] := by
  have : mapOk cs zs = false := by unfold mapOk; rw [h, Bool.false_and]
  exact ⟨this, by unfold mapOut; rw [this]; rfl⟩
theorem map_no {cs : List Cel} {zs : List It} {k : Nat} (hk : k < zs.length) (h : toldC cs (zs.getD k ([], 0)).1 = false) : mapCan cs zs = false := by
  have : (zs.all fun p => toldC cs p.1) = false := by
    rw [List.all_eq_false]
    exact ⟨zs.getD k ([], 0), by simp [List.getD, hk], by rw [h]; simp⟩
  unfold mapCan
  rw [this, Bool.and_false]
theorem map_yes {cs : List Cel} {zs : List It} (hz : zOkB zs = true) (hl : 1 ≤ cs.length ∧ cs.length ≤ 6) (h : ∀ k, k < zs.length → toldC cs (zs.getD k ([], 0)).1 = true) : mapCan cs zs = true := by
  have : (zs.all fun p => toldC cs p.1) = true := by
    rw [List.all_eq_true]
    intro p hp
    obtain ⟨j, hj, e⟩ := mem_getD (d := ([], 0)) hp
    rw [← e]
    exact h j hj
  unfold mapCan
  rw [hz, this]
  simp [hl]
theorem map_in {cs : List Cel} {zs : List It} (hz : zOkB zs = true) : ∀ z ∈ mapZ cs zs, -10000 ≤ z.2 ∧ z.2 ≤ 10000 := fun z hzm => by
  obtain ⟨p, hp, rfl⟩ := List.mem_map.1 hzm
  obtain ⟨j, hj, e⟩ := mem_getD (d := ([], 0)) hp
  have := (wB_in (zOk_row hz hj).2).2
  rw [e] at this
  exact this

set_option maxHeartbeats 8000000 in
theorem implMap_any (v u : Value) (zs : List It) (cs : List Cel) (w : World) (p : Addr) (hs : Sent w p) (h : ItemsAt w v zs) (hc : CelsAt w u cs) :
    Calls Tryd.prog 7 #[v, u] w fun e w' => ∃ v', e = .returned (.tuple #[v', .bool (mapOk cs zs)]) ∧ OwnZ w' w.heap.size w'.heap.size v' (mapOut cs zs) ∧ Below w.heap.size w w' := by
  obtain ⟨i0, hi0, hz0, hz1, hz2⟩ := info_parts infoItem
  have HU : Hid (CelsAt w u cs) := hc
  obtain ⟨ua, uc, rfl⟩ : ∃ ua uc, u = .slice ua cs.length uc := by obtain ⟨ua, uc, e, _⟩ := hc; exact ⟨ua, uc, e⟩
  clear hc
  obtain ⟨m, hm⟩ : ∃ m, m = cs.length := ⟨_, rfl⟩
  have HM : Hid (m = cs.length) := hm
  rw [← hm] at HU ⊢
  clear hm
  cases hok : zOkB zs with
  | false =>
    obtain ⟨e0, e1⟩ := map_not (cs := cs) (zs := zs) (by simp [mapCan, hok])
    rw [e0, e1]
    go_enter Tryd.func7, Tryd.ntmps7
    go_wp2_with fail
    refine (implZOk_any v zs _ h).mono ?_
    rw [hok]
    rintro e w1 ⟨rfl, hb1⟩
    have HB1 : Hid (Below w.heap.size w w1) := hb1
    clear h hb1 e0 e1
    go_wp2
    go_ret2
    exact ⟨_, rfl, nil_ownZ _ _, HB1.out⟩
  | true =>
    by_cases hlen : 1 ≤ m ∧ m ≤ 6
    · have h1i : ¬ ((m : Int) < 1) := by omega
      have h6i : ¬ ((m : Int) > 6) := by omega
      have h100 := zOk_le hok
      have HOK : Hid (zOkB zs = true) := hok
      obtain ⟨os, HO⟩ : ∃ os, Hid (os = mapOut cs zs) := ⟨_, rfl⟩
      obtain ⟨d, HD⟩ : ∃ d, Hid (d = mapOk cs zs) := ⟨_, rfl⟩
      rw [← HO.out, ← HD.out]
      go_enter Tryd.func7, Tryd.ntmps7
      go_wp2_with fail
      refine (implZOk_any v zs _ h).mono ?_
      rw [hok]
      rintro e w1 ⟨rfl, hb1⟩
      have HB1 : Hid (Below w.heap.size w w1) := hb1
      have hh := h.below HB1.out
      have HS : Hid (Sent w1 p) := hs.below HB1.out
      have HU1 : Hid (CelsAt w1 (.slice ua m uc) cs) := HU.out.below HB1.out
      have hsz1 := HB1.out.size
      clear h hb1 hok hs
      have HEND : Hid (mapCan cs zs = true → d = zOkB (addZ [] (mapZ cs zs)) ∧ os = if zOkB (addZ [] (mapZ cs zs)) then addZ [] (mapZ cs zs) else []) := fun e => by
        have e0 : mapOk cs zs = zOkB (addZ [] (mapZ cs zs)) := by unfold mapOk; rw [e, Bool.true_and]
        exact ⟨HD.out.trans e0, by rw [HO.out, mapOut, e0]⟩
      have HNOT : Hid (mapCan cs zs = false → d = false ∧ os = []) := fun e => ⟨HD.out.trans (map_not e).1, HO.out.trans (map_not e).2⟩
      rcases hh.cases with ⟨za, zc, rfl, rfl⟩ | ⟨b, off, cap, hpos, hlim, rfl, hbw, hcell⟩
      · obtain ⟨hd, hos⟩ := HEND.out (by unfold mapCan; rw [← HM.out]; simp [hlen, zOkB])
        have hz0' : zOkB (addZ [] (mapZ cs [])) = true := by simp [mapZ, addZ, zOkB]
        have he0 : addZ [] (mapZ cs []) = [] := rfl
        rw [hz0'] at hd hos
        rw [he0] at hos
        simp only [if_true] at hos
        subst hd hos
        clear hh
        go_wp2
        refine wp_loop_rounds 1 ?_
        rw [rounds_succ]
        go_wp2_with fail
        refine (gather_any _ w1.heap.size w1.heap.size [] _ (nil_ownZ w1 _) (Nat.le_refl _) (by simp) (fun p hp => by simp at hp)).mono ?_
        rintro e w2 ⟨v2, rfl, Z2, O2⟩
        have hk2 : Below w.heap.size w w2 := O2.below HB1.out hsz1 HB1.out.size
        have hs2 := O2.size
        go_wp2_with fail
        refine (unlessTooMuch_any v2 [] _ _ _ Z2 (by omega)).mono ?_
        rintro e w3 ⟨v3, rfl, Z3, hb3⟩
        have hzz : zOkB [] = true := by simp [zOkB]
        rw [hzz] at Z3 ⊢
        have HK : Hid (Below w.heap.size w w3) := below_then hk2 hb3
        have R : Hid (OwnZ w3 w.heap.size w3.heap.size v3 []) := Z3.wide hsz1 (Nat.le_refl _) (Nat.le_refl _)
        clear Z2 O2 hk2 Z3 hb3
        go_wp2
        go_ret2
        exact ⟨_, rfl, R.out, HK.out⟩
      · clear hh
        obtain ⟨n, hn⟩ : ∃ n, n = zs.length := ⟨_, rfl⟩
        have HN : Hid (n = zs.length) := hn
        rw [← hn] at hpos hlim hcell h100 ⊢
        clear hn
        go_wp2
        go_loopw [6, 26] (fun s i wr => ∃ (k : Nat), k ≤ n ∧ i = .int .i64 k ∧ Hid (OwnZ wr w1.heap.size wr.heap.size s (mapZ cs (zs.take k))) ∧ Hid (Below w1.heap.size w1 wr) ∧ Hid (∀ j, j < k → toldC cs (zs.getD j ([], 0)).1 = true)) (fun _ i _ => n - (intOf i).toNat)
        case atStart => exact ⟨0, Nat.zero_le _, rfl, nil_ownZ _ _, Below.refl _ _, fun j hj => by omega⟩
        case round =>
          obtain ⟨k, hk, rfl, HZ, HW, HA⟩ := hrel
          by_cases hlt : k < n
          · have hk' : k < zs.length := by rw [← HN.out]; exact hlt
            have hbq := HW.out
            obtain ⟨rv, c0, c1, hix0⟩ := hcell k hlt
            have HT : Hid _ := mapZ_take (cs := cs) hk'
            have hno := map_no (cs := cs) hk'
            have hyw := (wB_in (zOk_row HOK.out hk').2).2
            have hxl := rowOk_le (zOk_row HOK.out hk').1
            obtain ⟨q, HQ⟩ : ∃ q, Hid (q = zs.getD k ([], 0)) := ⟨_, rfl⟩
            rw [← HQ.out] at c1 hix0 HT hno hyw hxl
            obtain ⟨x, y⟩ := q
            simp only at c1 hix0 HT hno hyw hxl
            have hix := hix0.below hbq
            obtain ⟨ra, rn, rc, rfl⟩ := hix.shape
            have g0 := (hbq.cell (p := ⟨b, off + k * 2, none⟩) hbw).trans c0
            have g1 := (hbq.cell (p := ⟨b, off + k * 2 + 1, none⟩) hbw).trans c1
            have hbr : b < wr.heap.size := Nat.lt_of_lt_of_le hbw hbq.size
            have hml : (mapZ cs (zs.take k)).length ≤ 100 := by rw [mapZ_len, List.length_take]; omega
            have hcl : cs.length ≤ 6 := by rw [← HM.out]; omega
            have hcl1 : 1 ≤ cs.length := by rw [← HM.out]; omega
            clear c0 c1 hix0 hcell
            go_wp2_with fail
            refine (rowOf_any _ _ cs x _ p ((HS.out.below hbq).below (below_alloc _)) ((HU1.out.below hbq).below (below_alloc _)) (hix.alloc _) hcl1 hcl).mono ?_
            rintro e w2 ⟨v2, rfl, O2, hb2⟩
            have hk2 : Below wr.heap.size wr w2 := below_then (below_alloc _) hb2
            have hw2 : w2.heap[wr.heap.size]? = some (.cells #[.slice ra rn rc, .int .i64 y] 34) := at_below (alloc_at _ _) hb2
            have d1 : w2.cell? ⟨wr.heap.size, 1, none⟩ = some (.int .i64 y) := by simp [World.cell?, hw2]
            have hbl : wr.heap.size + 1 ≤ w2.heap.size := by have := hb2.size; simpa using this
            clear hb2 hw2 hix g0 g1
            cases ht : toldC cs x with
            | false =>
              obtain ⟨hd, hos⟩ := HNOT.out (hno ht)
              have HK : Hid (Below w.heap.size w w2) := HB1.out.trans ((hbq.mono hsz1).trans (hk2.mono (by have := hbq.size; omega)))
              subst hd hos
              clear hno ht HT HZ HW HA hbq hk2 O2 d1
              go_wp2
              go_ret2
              exact ⟨_, rfl, nil_ownZ _ _, HK.out⟩
            | true =>
              have HA2 : Hid (∀ j, j < k + 1 → toldC cs (zs.getD j ([], 0)).1 = true) := fun j hj => by
                rcases Nat.lt_succ_iff_lt_or_eq.1 hj with h | h
                · exact HA.out j h
                · rw [h, ← HQ.out]; exact ht
              rw [ht] at O2
              simp only [if_true] at O2
              obtain ⟨xr, HXR⟩ : ∃ xr, Hid (xr = rowC cs x) := ⟨_, rfl⟩
              rw [← HXR.out] at O2 HT
              obtain ⟨ra2, rn2, rc2, rfl⟩ := O2.ints.shape
              have hszw := hbq.size
              have O2' : Own w2 wr.heap.size w2.heap.size (.slice ra2 rn2 rc2) xr := O2.wide (by simp) (Nat.le_refl _) (Nat.le_refl _)
              obtain ⟨ps, hpsl, hspW, hprW, hfin⟩ := (HZ.out.keep' hk2).ready y O2' (Nat.le_refl _) (by omega) (by omega) (by omega)
              have hpl2 : ps.length ≤ 100 := by omega
              have HKW : Hid (Below w1.heap.size w1 w2) := hbq.trans (hk2.mono hszw)
              clear hno ht HZ HW HA hbq hk2 O2 O2' hpsl
              go_wp2_with (at_builtin; (refine wpList_append_pairs rfl _ _ 23 rfl w1.heap.size 34 i0 Tryd.underlying23 hi0 hz0 hz1 hz2 u6 ps rfl hspW _ _ rfl hprW (by simp; omega) (by simp; omega) ?_; intro v3 w3 hown3 hg3 _))
              obtain ⟨Z3, B3⟩ := hfin v3 w3 hown3 hg3
              have HZ3 : Hid (OwnZ w3 w1.heap.size w3.heap.size v3 (mapZ cs (zs.take (k + 1)))) := by rw [Hid, HT.out]; exact Z3
              have HK : Hid (Below w1.heap.size w1 w3) := HKW.out.trans B3
              clear hfin hown3 hg3 hspW hprW B3 Z3 HKW
              go_wp2
              go_roundw
              case rel => exact ⟨k + 1, by omega, by go_num, HZ3.out, HK.out, HA2.out⟩
              case measure => simp [intOf]; omega
          · obtain rfl : k = n := by omega
            have hZ := HZ.out
            rw [HN.out, List.take_length] at hZ
            obtain ⟨hd, hos⟩ := HEND.out (map_yes HOK.out (by rw [← HM.out]; exact hlen) (fun j hj => HA.out j (by rw [HN.out]; exact hj)))
            have hbq := HW.out
            have hsq := hbq.size
            clear hcell
            have hin : ∀ z ∈ mapZ cs zs, -1099511627776 ≤ z.2 ∧ z.2 ≤ 1099511627776 := fun z hz => by have := map_in (cs := cs) HOK.out z hz; omega
            have hmln : (mapZ cs zs).length ≤ 1048576 := by rw [mapZ_len, ← HN.out]; omega
            go_wp2_with fail
            refine (gather_any _ w1.heap.size wr.heap.size (mapZ cs zs) _ hZ hsq hmln hin).mono ?_
            rintro e w2 ⟨v2, rfl, Z2, O2⟩
            have hk2 : Below w.heap.size w w2 := O2.below (HB1.out.trans (hbq.mono hsz1)) hsz1 (by omega)
            have hs2 := O2.size
            clear hZ hin O2
            go_wp2_with fail
            refine (unlessTooMuch_any v2 (addZ [] (mapZ cs zs)) _ _ _ Z2 (by omega)).mono ?_
            rw [← hos, ← hd]
            rintro e w3 ⟨v3, rfl, Z3, hb3⟩
            have HK : Hid (Below w.heap.size w w3) := below_then hk2 hb3
            have R : Hid (OwnZ w3 w.heap.size w3.heap.size v3 os) := Z3.wide hsz1 (Nat.le_refl _) (Nat.le_refl _)
            clear Z2 hk2 Z3 hb3 hd hos
            go_wp2
            go_ret2
            exact ⟨_, rfl, R.out, HK.out⟩
    · obtain ⟨e0, e1⟩ := map_not (cs := cs) (zs := zs) (by
        have : decide (1 ≤ cs.length ∧ cs.length ≤ 6) = false := by rw [← HM.out]; simpa using hlen
        unfold mapCan
        rw [this, Bool.and_false, Bool.false_and])
      rw [e0, e1]
      by_cases h1 : m < 1
      · have h1i : (m : Int) < 1 := by omega
        go_enter Tryd.func7, Tryd.ntmps7
        go_wp2_with fail
        refine (implZOk_any v zs _ h).mono ?_
        rw [hok]
        rintro e w1 ⟨rfl, hb1⟩
        have HB1 : Hid (Below w.heap.size w w1) := hb1
        clear h hb1 e0 e1
        go_wp2
        go_ret2
        exact ⟨_, rfl, nil_ownZ _ _, HB1.out⟩
      · have h1i : ¬ ((m : Int) < 1) := by omega
        have h6i : (m : Int) > 6 := by omega
        go_enter Tryd.func7, Tryd.ntmps7
        go_wp2_with fail
        refine (implZOk_any v zs _ h).mono ?_
        rw [hok]
        rintro e w1 ⟨rfl, hb1⟩
        have HB1 : Hid (Below w.heap.size w w1) := hb1
        clear h hb1 e0 e1
        go_wp2
        go_ret2
        exact ⟨_, rfl, nil_ownZ _ _, HB1.out⟩

set_option maxHeartbeats 8000000 in
theorem specMap_any (v u : Value) (zs : List It) (cs : List Cel) (w : World) (h : ItemsAt w v zs) (hc : CelsAt w u cs) :
    Calls Tryd.prog 8 #[v, u] w fun e w' => ∃ v', e = .returned (.tuple #[v', .bool (mapOk cs zs)]) ∧ OwnZ w' w.heap.size w'.heap.size v' (mapOut cs zs) ∧ Below w.heap.size w w' := by
  obtain ⟨i0, hi0, hz0, hz1, hz2⟩ := info_parts infoItem
  have HU : Hid (CelsAt w u cs) := hc
  obtain ⟨ua, uc, rfl⟩ : ∃ ua uc, u = .slice ua cs.length uc := by obtain ⟨ua, uc, e, _⟩ := hc; exact ⟨ua, uc, e⟩
  clear hc
  obtain ⟨m, hm⟩ : ∃ m, m = cs.length := ⟨_, rfl⟩
  have HM : Hid (m = cs.length) := hm
  rw [← hm] at HU ⊢
  clear hm
  cases hok : zOkB zs with
  | false =>
    obtain ⟨e0, e1⟩ := map_not (cs := cs) (zs := zs) (by simp [mapCan, hok])
    rw [e0, e1]
    go_enter Tryd.func8, Tryd.ntmps8
    go_wp2_with fail
    refine (specZOk_any v zs _ h).mono ?_
    rw [hok]
    rintro e w1 ⟨rfl, hd1⟩
    have HB1 : Hid (Below w.heap.size w w1) := hd1.below
    clear h hd1 e0 e1
    go_wp2
    go_ret2
    exact ⟨_, rfl, (lit_ownZ w1).wide HB1.out.size (Nat.le_refl _) (Nat.le_refl _), below_then HB1.out (below_alloc _)⟩
  | true =>
    by_cases hlen : 1 ≤ m ∧ m ≤ 6
    · have h1i : ¬ ((m : Int) < 1) := by omega
      have h6i : ¬ ((m : Int) > 6) := by omega
      have h100 := zOk_le hok
      have HOK : Hid (zOkB zs = true) := hok
      obtain ⟨os, HO⟩ : ∃ os, Hid (os = mapOut cs zs) := ⟨_, rfl⟩
      obtain ⟨d, HD⟩ : ∃ d, Hid (d = mapOk cs zs) := ⟨_, rfl⟩
      rw [← HO.out, ← HD.out]
      go_enter Tryd.func8, Tryd.ntmps8
      go_wp2_with fail
      refine (specZOk_any v zs _ h).mono ?_
      rw [hok]
      rintro e w1 ⟨rfl, hd1⟩
      have HB1 : Hid (Below w.heap.size w w1) := hd1.below
      have hh := h.below HB1.out
      have HU1 : Hid (CelsAt w1 (.slice ua m uc) cs) := HU.out.below HB1.out
      have hsz1 := HB1.out.size
      clear h hd1 hok
      have HEND : Hid (mapCan cs zs = true → d = zOkB (addZ [] (mapZ cs zs)) ∧ os = if zOkB (addZ [] (mapZ cs zs)) then addZ [] (mapZ cs zs) else []) := fun e => by
        have e0 : mapOk cs zs = zOkB (addZ [] (mapZ cs zs)) := by unfold mapOk; rw [e, Bool.true_and]
        exact ⟨HD.out.trans e0, by rw [HO.out, mapOut, e0]⟩
      have HNOT : Hid (mapCan cs zs = false → d = false ∧ os = []) := fun e => ⟨HD.out.trans (map_not e).1, HO.out.trans (map_not e).2⟩
      rcases hh.cases with ⟨za, zc, rfl, rfl⟩ | ⟨b, off, cap, hpos, hlim, rfl, hbw, hcell⟩
      · obtain ⟨hd, hos⟩ := HEND.out (by unfold mapCan; rw [← HM.out]; simp [hlen, zOkB])
        have hz0' : zOkB (addZ [] (mapZ cs [])) = true := by simp [mapZ, addZ, zOkB]
        have he0 : addZ [] (mapZ cs []) = [] := rfl
        rw [hz0'] at hd hos
        rw [he0] at hos
        simp only [if_true] at hos
        subst hd hos
        clear hh
        go_wp2
        refine wp_loop_rounds 1 ?_
        rw [rounds_succ]
        go_wp2_with fail
        refine (l2Told_any _ [] _ _ _ (lit_ownZ w1) (by simp)).mono ?_
        rintro e w3 ⟨v3, rfl, Z3, hb3⟩
        have hzz : zOkB [] = true := by simp [zOkB]
        rw [hzz] at Z3 ⊢
        have HK : Hid (Below w.heap.size w w3) := below_then (below_then HB1.out (below_alloc _)) hb3
        have R : Hid (OwnZ w3 w.heap.size w3.heap.size v3 []) := Z3.wide hsz1 (Nat.le_refl _) (Nat.le_refl _)
        clear Z3 hb3
        go_wp2
        go_ret2
        exact ⟨_, rfl, R.out, HK.out⟩
      · clear hh
        obtain ⟨n, hn⟩ : ∃ n, n = zs.length := ⟨_, rfl⟩
        have HN : Hid (n = zs.length) := hn
        rw [← hn] at hpos hlim hcell h100 ⊢
        clear hn
        go_wp2
        go_loopw [6, 7] (fun s i wr => ∃ (k : Nat), k ≤ n ∧ i = .int .i64 k ∧ Hid (OwnZ wr w1.heap.size wr.heap.size s (addZ [] (mapZ cs (zs.take k)))) ∧ Hid (Below w1.heap.size w1 wr) ∧ Hid (∀ j, j < k → toldC cs (zs.getD j ([], 0)).1 = true)) (fun _ i _ => n - (intOf i).toNat)
        case atStart => exact ⟨0, Nat.zero_le _, rfl, lit_ownZ w1, below_alloc _, fun j hj => by omega⟩
        case round =>
          obtain ⟨k, hk, rfl, HZ, HW, HA⟩ := hrel
          by_cases hlt : k < n
          · have hk' : k < zs.length := by rw [← HN.out]; exact hlt
            have hbq := HW.out
            obtain ⟨rv, c0, c1, hix0⟩ := hcell k hlt
            have HT : Hid _ := mapZ_take (cs := cs) hk'
            have hno := map_no (cs := cs) hk'
            have hyw := (wB_in (zOk_row HOK.out hk').2).2
            have hxl := rowOk_le (zOk_row HOK.out hk').1
            obtain ⟨q, HQ⟩ : ∃ q, Hid (q = zs.getD k ([], 0)) := ⟨_, rfl⟩
            rw [← HQ.out] at c1 hix0 HT hno hyw hxl
            obtain ⟨x, y⟩ := q
            simp only at c1 hix0 HT hno hyw hxl
            have hix := hix0.below hbq
            obtain ⟨ra, rn, rc, rfl⟩ := hix.shape
            have g0 := (hbq.cell (p := ⟨b, off + k * 2, none⟩) hbw).trans c0
            have g1 := (hbq.cell (p := ⟨b, off + k * 2 + 1, none⟩) hbw).trans c1
            have hbr : b < wr.heap.size := Nat.lt_of_lt_of_le hbw hbq.size
            have hml : (mapZ cs (zs.take k)).length ≤ 100 := by rw [mapZ_len, List.length_take]; omega
            have hcl : cs.length ≤ 6 := by rw [← HM.out]; omega
            have hcl1 : 1 ≤ cs.length := by rw [← HM.out]; omega
            clear c0 c1 hix0 hcell
            go_wp2_with fail
            refine (l5Cells_any _ _ cs x _ (HU1.out.below hbq) hix hcl1 hcl).mono ?_
            rintro e w2 ⟨v2, rfl, O2, hk2⟩
            have g1' := cell_is (p := ⟨b, off + k * 2 + 1, none⟩) hk2 hbr g1
            clear hix g0 g1
            cases ht : toldC cs x with
            | false =>
              obtain ⟨hd, hos⟩ := HNOT.out (hno ht)
              have HK : Hid (Below w.heap.size w w2) := HB1.out.trans ((hbq.mono hsz1).trans (hk2.mono (by have := hbq.size; omega)))
              subst hd hos
              clear hno ht HT HZ HW HA hbq hk2 O2 g1'
              go_wp2
              go_ret2
              exact ⟨_, rfl, (lit_ownZ w2).wide HK.out.size (Nat.le_refl _) (Nat.le_refl _), below_then HK.out (below_alloc _)⟩
            | true =>
              have HA2 : Hid (∀ j, j < k + 1 → toldC cs (zs.getD j ([], 0)).1 = true) := fun j hj => by
                rcases Nat.lt_succ_iff_lt_or_eq.1 hj with h | h
                · exact HA.out j h
                · rw [h, ← HQ.out]; exact ht
              rw [ht] at O2
              simp only [if_true] at O2
              obtain ⟨xr, HXR⟩ : ∃ xr, Hid (xr = rowC cs x) := ⟨_, rfl⟩
              have hxr : xr.length ≤ 6 := by rw [HXR.out]; unfold rowC; rw [List.length_map]; exact hcl
              rw [← HXR.out] at O2 HT
              have hszw := hbq.size
              have hszk := hk2.size
              have ZB := (HZ.out.keep' hk2).wide (Nat.le_refl _) hk2.size (Nat.le_refl _)
              have hal := add_len (mapZ cs (zs.take k)) []
              have hwz : ∀ j, j < (addZ [] (mapZ cs (zs.take k))).length → -4611686018427387904 ≤ ((addZ [] (mapZ cs (zs.take k))).getD j ([], 0)).2 ∧ ((addZ [] (mapZ cs (zs.take k))).getD j ([], 0)).2 ≤ 4611686018427387903 := fun j hj => by
                have t1 := add_bound (B := 0) (C := 10000) (by omega) (by omega) (mapZ cs (zs.take k)) (a := []) (k := 0) (by omega) (fun p hp => by simp at hp) (fun z hz => map_in (cs := cs) HOK.out z (by
                  obtain ⟨p, hp, e⟩ := List.mem_map.1 hz
                  exact List.mem_map.2 ⟨p, List.mem_of_mem_take hp, e⟩)) _ (getZ_mem hj)
                have t2 : (((mapZ cs (zs.take k)).length : Nat) : Int) ≤ 100 := by omega
                omega
              have hal' : (addZ [] (mapZ cs (zs.take k))).length ≤ 100 := by
                rw [List.length_nil, Nat.zero_add] at hal
                omega
              have HKW : Hid (Below w1.heap.size w1 w2) := hbq.trans (hk2.mono hszw)
              obtain ⟨acc, HACC⟩ : ∃ acc, Hid (acc = addZ [] (mapZ cs (zs.take k))) := ⟨_, rfl⟩
              rw [← HACC.out] at ZB hwz hal'
              have hri := O2.ints
              clear hno ht HZ HW HA hbq hk2 O2 hal
              go_wp2_with fail
              refine (l2Put_any _ w1.heap.size w2.heap.size acc _ xr y _ ZB (by omega) hri (by omega) (by omega) hwz (by omega)).mono ?_
              rintro e w3 ⟨v3, rfl, Z3, O3⟩
              have HZ3 : Hid (OwnZ w3 w1.heap.size w3.heap.size v3 (addZ [] (mapZ cs (zs.take (k + 1))))) := by rw [Hid, HT.out, addZ_snoc, ← HACC.out]; exact Z3
              have HK : Hid (Below w1.heap.size w1 w3) := O3.below HKW.out (Nat.le_refl _) (by omega)
              clear Z3 O3 ZB hri HKW hwz g1'
              go_wp2
              go_roundw
              case rel => exact ⟨k + 1, by omega, by go_num, HZ3.out, HK.out, HA2.out⟩
              case measure => simp [intOf]; omega
          · obtain rfl : k = n := by omega
            have hZ := HZ.out
            rw [HN.out, List.take_length] at hZ
            obtain ⟨hd, hos⟩ := HEND.out (map_yes HOK.out (by rw [← HM.out]; exact hlen) (fun j hj => HA.out j (by rw [HN.out]; exact hj)))
            have hbq := HW.out
            have hsq := hbq.size
            clear hcell
            go_wp2_with fail
            refine (l2Told_any _ (addZ [] (mapZ cs zs)) _ _ _ hZ hsq).mono ?_
            rw [← hos, ← hd]
            rintro e w3 ⟨v3, rfl, Z3, hb3⟩
            have HK : Hid (Below w.heap.size w w3) := below_then (HB1.out.trans (hbq.mono hsz1)) hb3
            have R : Hid (OwnZ w3 w.heap.size w3.heap.size v3 os) := Z3.wide hsz1 (Nat.le_refl _) (Nat.le_refl _)
            clear hZ Z3 hb3 hd hos
            go_wp2
            go_ret2
            exact ⟨_, rfl, R.out, HK.out⟩
    · obtain ⟨e0, e1⟩ := map_not (cs := cs) (zs := zs) (by
        have : decide (1 ≤ cs.length ∧ cs.length ≤ 6) = false := by rw [← HM.out]; simpa using hlen
        unfold mapCan
        rw [this, Bool.and_false, Bool.false_and])
      rw [e0, e1]
      by_cases h1 : m < 1
      · have h1i : (m : Int) < 1 := by omega
        go_enter Tryd.func8, Tryd.ntmps8
        go_wp2_with fail
        refine (specZOk_any v zs _ h).mono ?_
        rw [hok]
        rintro e w1 ⟨rfl, hd1⟩
        have HB1 : Hid (Below w.heap.size w w1) := hd1.below
        clear h hd1 e0 e1
        go_wp2
        go_ret2
        exact ⟨_, rfl, (lit_ownZ w1).wide HB1.out.size (Nat.le_refl _) (Nat.le_refl _), below_then HB1.out (below_alloc _)⟩
      · have h1i : ¬ ((m : Int) < 1) := by omega
        have h6i : (m : Int) > 6 := by omega
        go_enter Tryd.func8, Tryd.ntmps8
        go_wp2_with fail
        refine (specZOk_any v zs _ h).mono ?_
        rw [hok]
        rintro e w1 ⟨rfl, hd1⟩
        have HB1 : Hid (Below w.heap.size w w1) := hd1.below
        clear h hd1 e0 e1
        go_wp2
        go_ret2
        exact ⟨_, rfl, (lit_ownZ w1).wide HB1.out.size (Nat.le_refl _) (Nat.le_refl _), below_then HB1.out (below_alloc _)⟩

end Go.Proofs.YtdponcnhdmkhiabDoor
