/-
  The contracts of impl.ZPos, spec.l2Pos and spec.ZPos: the rows that are there, each once, in memory of their own; none of items that are not right.
-/
import Derived.Test.YtflbdfpgaeeleaaGreatDoorStep
import Derived.Test.YtflbdfpgaeeleaaGreatDoorZOk
import Derived.Test.YtflbdfpgaeeleaaGreatDoorJoin
namespace Go.Proofs.YtflbdfpgaeeleaaGreatDoor
set_option maxRecDepth 100000
open Go.RowKit

def posZ (zs : List It) : List It := (zs.filter fun p => decide (0 < p.2)).map fun p => (p.1, 1)
theorem posZ_take {zs : List It} {k : Nat} (hk : k < zs.length) : posZ (zs.take (k + 1)) = posZ (zs.take k) ++ (if 0 < (zs.getD k ([], 0)).2 then [((zs.getD k ([], 0)).1, 1)] else []) := by
  unfold posZ
  rw [List.take_succ_eq_append_getElem hk, List.filter_append, List.map_append]
  congr 1
  simp [List.getD, hk]
  split <;> simp_all
theorem posZ_len (zs : List It) : (posZ zs).length ≤ zs.length := by
  unfold posZ
  rw [List.length_map]
  exact List.length_filter_le _ _
set_option maxHeartbeats 4000000 in
theorem implZPos_any (v : Value) (zs : List It) (w : World) (h : ItemsAt w v zs) :
    Calls Tryz.prog 10 #[v] w fun e w' => ∃ v', e = .returned v' ∧ OwnZ w' w.heap.size w'.heap.size v' (if zOkB zs then posZ zs else []) ∧ Below w.heap.size w w' := by
  obtain ⟨i0, hi, hz0, hz1, hz2⟩ := info_parts infoItem
  cases hok : zOkB zs with
  | false =>
    go_enter Tryz.func10, Tryz.ntmps10
    go_wp2_with fail
    refine (implZOk_any v zs _ h).mono ?_
    rw [hok]
    rintro e w1 ⟨rfl, hb1⟩
    clear h
    go_wp2
    go_ret
    exact ⟨_, rfl, nil_ownZ _ _, hb1⟩
  | true =>
    have h100 := zOk_le hok
    have hrow : ∀ k, k < zs.length → (zs.getD k ([], 0)).1.length ≤ 8796093022208 := fun k hk => by have := rowOk_le (zOk_row hok hk).1; omega
    go_enter Tryz.func10, Tryz.ntmps10
    go_wp2_with fail
    refine (implZOk_any v zs _ h).mono ?_
    rw [hok]
    rintro e w1 ⟨rfl, hb1⟩
    have h1 := h.below hb1
    rcases h1.cases with ⟨a, cap, rfl, rfl⟩ | ⟨b, off, cap, hpos, hlim, rfl, hbw, hc⟩
    · clear h h1 hrow
      go_wp2
      refine wp_loop_rounds 1 ?_
      rw [rounds_succ]
      go_wp2
      go_ret
      exact ⟨_, rfl, nil_ownZ _ _, hb1⟩
    · clear h h1 hok
      have hsz1 := hb1.size
      obtain ⟨n, hn⟩ : ∃ n, n = zs.length := ⟨_, rfl⟩
      have HN : Hid (n = zs.length) := hn
      rw [← hn] at hpos hlim hc hrow h100 ⊢
      clear hn
      go_wp2
      go_loopw [3, 11] (fun s i wr => ∃ (k : Nat), k ≤ n ∧ i = .int .i64 k ∧ Hid (OwnZ wr w1.heap.size wr.heap.size s (posZ (zs.take k))) ∧ Hid (Below w1.heap.size w1 wr)) (fun _ i _ => n - (intOf i).toNat)
      case atStart => exact ⟨0, Nat.zero_le _, rfl, nil_ownZ _ _, Below.refl _ _⟩
      case round =>
        obtain ⟨k, hk, rfl, HZ, HW⟩ := hrel
        by_cases hlt : k < n
        · have HB := HW.out
          have hlt' : k < zs.length := by rw [← HN.out]; exact hlt
          obtain ⟨rv, hrv0, hwt0, hix0⟩ := hc k hlt
          have hrv := (HB.cell (p := ⟨b, off + k * 2, none⟩) hbw).trans hrv0
          have hwt := (HB.cell (p := ⟨b, off + k * 2 + 1, none⟩) hbw).trans hwt0
          have hix := hix0.below HB
          have hbr : b < wr.heap.size := Nat.lt_of_lt_of_le hbw HB.size
          have hxl := hrow k hlt
          have hpl : (posZ (zs.take k)).length ≤ 100 := by have := posZ_len (zs.take k); rw [List.length_take] at this; omega
          have HT := posZ_take hlt'
          clear hrv0 hwt0 hix0 hc hrow
          obtain ⟨p, HP⟩ : ∃ p, Hid (p = zs.getD k ([], 0)) := ⟨_, rfl⟩
          rw [← HP.out] at hix hwt hxl HT
          obtain ⟨x, y⟩ := p
          obtain ⟨ra, rn, rc, rfl⟩ := hix.shape
          simp only at hix hwt hxl HT
          by_cases hy : 0 < y
          · rw [if_pos hy] at HT
            go_wp2_with fail
            refine (cloneInts_any _ x _ (hix.alloc _) hxl).mono ?_
            rintro e w2 ⟨rv2, rfl, O2, hb2⟩
            obtain ⟨ra2, rn2, rc2, rfl⟩ := O2.ints.shape
            have hk2 : Below wr.heap.size wr w2 := below_then (below_alloc _) hb2
            have hszw := HB.size
            have hszk := hk2.size
            obtain ⟨ps, hpsl, hspW, hprW, hfin⟩ := (HZ.out.keep' hk2).ready 1 O2 (by simp) (by simp; omega) (by omega) (by omega)
            have HTT : Hid (posZ (zs.take (k + 1)) = posZ (zs.take k) ++ [(x, 1)]) := HT
            have hpl2 : ps.length ≤ 100 := by omega
            clear hrv hwt hix HT HZ O2 hb2 hpsl hpl
            go_wp2_with (at_builtin; (refine wpList_append_pairs rfl _ _ 23 rfl w1.heap.size 36 i0 Tryz.underlying23 hi hz0 hz1 hz2 u3 ps rfl hspW _ _ rfl hprW (by simp; omega) (by simp; omega) ?_; intro v3 w3 hown3 hg3 _))
            obtain ⟨Z3, B3⟩ := hfin v3 w3 hown3 hg3
            have HK : Hid (Below w1.heap.size w1 w3) := HB.trans ((hk2.mono hszw).trans B3)
            clear hfin hown3 hg3 hspW hprW B3 hk2 HB HW
            go_wp2
            go_roundw
            case rel => exact ⟨k + 1, by omega, by go_num, by show OwnZ _ _ _ _ _; rw [HTT.out]; exact Z3, HK.out⟩
            case measure => simp [intOf]; omega
          · rw [if_neg hy, List.append_nil] at HT
            have HTT : Hid (posZ (zs.take (k + 1)) = posZ (zs.take k)) := HT
            have HZ2 : Hid (OwnZ (wr.alloc (.cells #[.slice ra rn rc, .int .i64 y] 36)) w1.heap.size (wr.alloc (.cells #[.slice ra rn rc, .int .i64 y] 36)).heap.size u3 (posZ (zs.take k))) := (HZ.out.keep' (below_alloc _)).wide (Nat.le_refl _) (by simp) (Nat.le_refl _)
            have HK : Hid (Below w1.heap.size w1 (wr.alloc (.cells #[.slice ra rn rc, .int .i64 y] 36))) := below_then HB (below_alloc _)
            clear HT HZ HB HW hix
            go_wp2
            go_roundw
            case rel => exact ⟨k + 1, by omega, by go_num, by show OwnZ _ _ _ _ _; rw [HTT.out]; simpa using HZ2.out, by show Below _ _ _; simpa using HK.out⟩
            case measure => simp [intOf]; omega
        · have e : k = n := by omega
          subst e
          clear hc hrow
          go_wp2
          go_ret
          refine ⟨_, rfl, ?_, below_then hb1 HW.out⟩
          have := HZ.out
          rw [HN.out, List.take_length] at this
          exact this.wide hsz1 (Nat.le_refl _) (Nat.le_refl _)

end Go.Proofs.YtflbdfpgaeeleaaGreatDoor
