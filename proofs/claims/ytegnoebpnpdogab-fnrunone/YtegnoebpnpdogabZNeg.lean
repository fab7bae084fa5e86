/-
  The contracts of impl.ZNeg and spec.ZNeg: each weight with the other sign, in memory of their own; none of items that are not right.
-/
import Derived.Test.YtegnoebpnpdogabCopy
import Derived.Test.YtegnoebpnpdogabStep
import Derived.Test.YtegnoebpnpdogabZOk
import Derived.Test.YtegnoebpnpdogabJoin
namespace Go.Proofs.Ytegnoebpnpdogab
set_option maxRecDepth 100000
open Go.RowKit

def negZ (zs : List It) : List It := zs.map fun p => (p.1, -p.2)
/-- Behind k rounds in place. -/
def negTo (zs : List It) (k : Nat) : List It := negZ (zs.take k) ++ zs.drop k
theorem negZ_length (zs : List It) : (negZ zs).length = zs.length := by simp [negZ]
theorem negTo_length (zs : List It) (k : Nat) (hk : k ≤ zs.length) : (negTo zs k).length = zs.length := by simp [negTo, negZ]; omega
theorem negTo_get {zs : List It} {k : Nat} (hk : k < zs.length) : (negTo zs k).getD k ([], 0) = zs.getD k ([], 0) := by
  unfold negTo
  have h1 : (negZ (zs.take k)).length = k := by simp [negZ]; omega
  simp only [List.getD]
  rw [List.getElem?_append_right (by omega), h1, List.getElem?_drop]
  simp
theorem negZ_take {zs : List It} {k : Nat} (hk : k < zs.length) : negZ (zs.take (k + 1)) = negZ (zs.take k) ++ [((zs.getD k ([], 0)).1, -(zs.getD k ([], 0)).2)] := by
  unfold negZ
  rw [List.take_succ_eq_append_getElem hk, List.map_append]
  simp [List.getD, hk]
theorem negTo_set {zs : List It} {k : Nat} (hk : k < zs.length) : (negTo zs k).set k ((zs.getD k ([], 0)).1, -(zs.getD k ([], 0)).2) = negTo zs (k + 1) := by
  unfold negTo
  have h1 : (negZ (zs.take k)).length = k := by simp [negZ]; omega
  rw [List.set_append_right _ _ (by omega), h1, Nat.sub_self, List.drop_eq_getElem_cons hk, List.set_cons_zero, negZ_take hk, List.append_assoc]
  rfl
theorem wB_in {y : Int} (h : wB y = true) : y ≠ 0 ∧ -10000 ≤ y ∧ y ≤ 10000 := by unfold wB at h; exact of_decide_eq_true h

set_option maxHeartbeats 8000000 in
theorem specZNeg_any (v : Value) (zs : List It) (w : World) (h : ItemsAt w v zs) :
    Calls Try.prog 16 #[v] w fun e w' => ∃ v', e = .returned v' ∧ OwnZ w' w.heap.size w'.heap.size v' (if zOkB zs then negZ zs else []) ∧ Below w.heap.size w w' := by
  obtain ⟨i0, hi, hz0, hz1, hz2⟩ := info_parts infoItem
  have hI := h
  rcases h.cases with ⟨a, cap, rfl, rfl⟩ | ⟨b, off, cap, hpos, hlim, rfl, hbw, hc⟩
  · clear h hI
    go_enter Try.func16, Try.ntmps16
    go_wp2
    refine wp_loop_rounds 1 ?_
    rw [rounds_succ]
    go_wp2
    go_ret
    exact ⟨_, rfl, by simpa [negZ] using lit_ownZ w, below_alloc _⟩
  · clear h
    cases hok : zOkB zs with
    | false =>
      obtain ⟨n, hn⟩ : ∃ n, n = zs.length := ⟨_, rfl⟩
      rw [← hn] at hpos hlim hI ⊢
      clear hn hc
      go_enter Try.func16, Try.ntmps16
      go_wp2
      refine wp_loop_rounds 1 ?_
      rw [rounds_succ]
      go_wp2_with fail
      refine (specZOk_any _ zs _ (hI.below (below_alloc _))).mono ?_
      rw [hok]
      rintro e w1 ⟨rfl, hd1⟩
      have HK : Hid (Below (w.alloc (.cells #[] 48)).heap.size (w.alloc (.cells #[] 48)) w1) := hd1.below
      clear hI hd1
      go_wp2
      go_ret
      exact ⟨_, rfl, ((lit_ownZ w).keep' HK.out).wide (Nat.le_refl _) HK.out.size (Nat.le_refl _), below_then (below_alloc _) HK.out⟩
    | true =>
      have h100 := zOk_le hok
      have hrow : ∀ k, k < zs.length → (zs.getD k ([], 0)).1.length ≤ 8796093022208 := fun k hk => by have := rowOk_le (zOk_row hok hk).1; omega
      have hwts : ∀ k, k < zs.length → -10000 ≤ (zs.getD k ([], 0)).2 ∧ (zs.getD k ([], 0)).2 ≤ 10000 := fun k hk => (wB_in (zOk_row hok hk).2).2
      obtain ⟨n, hn⟩ : ∃ n, n = zs.length := ⟨_, rfl⟩
      have HN : Hid (n = zs.length) := hn
      rw [← hn] at hpos hlim hI hc hrow hwts h100 ⊢
      clear hn
      have HI : Hid (ItemsAt w (.slice (some ⟨b, off, none⟩) n cap) zs) := hI
      clear hI
      go_enter Try.func16, Try.ntmps16
      go_wp2
      go_loopw [3, 4] (fun s i wr => ∃ (k : Nat), k ≤ n ∧ i = .int .i64 k ∧ Hid (OwnZ wr w.heap.size wr.heap.size s (negZ (zs.take k))) ∧ Hid (Below w.heap.size w wr)) (fun _ i _ => n - (intOf i).toNat)
      case atStart => exact ⟨0, Nat.zero_le _, rfl, lit_ownZ w, below_alloc _⟩
      case round =>
        obtain ⟨k, hk, rfl, HZ, HW⟩ := hrel
        by_cases hlt : k < n
        · have hlt' : k < zs.length := by rw [← HN.out]; exact hlt
          go_wp2_with fail
          refine (specZOk_any _ zs _ (HI.out.below HW.out)).mono ?_
          rw [hok]
          rintro e w5 ⟨rfl, hd5⟩
          have hb5 := hd5.below
          have HB := below_then HW.out hb5
          obtain ⟨rv, hrv0, hwt0, hix0⟩ := hc k hlt
          have hrv := (HB.cell (p := ⟨b, off + k * 2, none⟩) hbw).trans hrv0
          have hwt := (HB.cell (p := ⟨b, off + k * 2 + 1, none⟩) hbw).trans hwt0
          have hix := hix0.below HB
          have hbr : b < w5.heap.size := Nat.lt_of_lt_of_le hbw HB.size
          have hxl := hrow k hlt
          have hyw := hwts k hlt
          have hpl : (negZ (zs.take k)).length ≤ 100 := by rw [negZ_length, List.length_take]; omega
          have HTT : Hid (negZ (zs.take (k + 1)) = negZ (zs.take k) ++ [((zs.getD k ([], 0)).1, -(zs.getD k ([], 0)).2)]) := negZ_take hlt'
          have Z5 := (HZ.out.keep' hb5).wide (Nat.le_refl _) hb5.size (Nat.le_refl _)
          have Z5d : OwnZ w5.drew w.heap.size w5.drew.heap.size u3 (negZ (zs.take k)) := Z5.keep' (Below.drew (Below.refl _ _))
          have hixd : IntsAt w5.drew rv (zs.getD k ([], 0)).1 := hix.below (Below.drew (Below.refl _ _))
          have hwtd : w5.drew.cell? ⟨b, off + k * 2 + 1, none⟩ = some (.int .i64 (zs.getD k ([], 0)).2) := hwt
          have hszw : w.heap.size ≤ w5.drew.heap.size := HB.size
          have HBd : Below w.heap.size w w5.drew := HB.drew
          clear hrv0 hwt0 hix0 hc hrow hwts hix Z5 HZ HW hd5 hb5 HB
          obtain ⟨x, HX⟩ : ∃ x, Hid (x = (zs.getD k ([], 0)).1) := ⟨_, rfl⟩
          obtain ⟨y, HY⟩ : ∃ y, Hid (y = (zs.getD k ([], 0)).2) := ⟨_, rfl⟩
          rw [← HX.out] at hixd hxl HTT
          rw [← HY.out] at hwt hwtd hyw HTT
          obtain ⟨ra, rn, rc, rfl⟩ := hixd.shape
          have hwrap : IntKind.i64.wrap (-y) = -y := by rw [IntKind.wrap_i64]; omega
          go_wp2
          go_region_law (first
            | (go_simp; go_at_call 31; (refine (l1Copy_any _ x _ hixd hxl).mono ?_; rintro e w2 ⟨rv2, rfl, O2, hk2⟩; obtain ⟨ra2, rn2, rc2, rfl⟩ := O2.ints.shape; have hwt2 := cell_is (p := ⟨b, off + k * 2 + 1, none⟩) hk2 hbr hwtd; have hszk := hk2.size; obtain ⟨ps, hpsl, hspW, hprW, hfin⟩ := (Z5d.keep' hk2).ready (-y) O2 (Nat.le_refl _) (by omega) (by omega) (by omega); have hpl2 : ps.length ≤ 100 := (by omega)))
            | ((refine step_append_pairs rfl (.tmp 16) (.tmp 30) 27 rfl w.heap.size 48 i0 Try.underlying27 hi hz0 hz1 hz2 u3 ps (by simp [Act.eval]) hspW ⟨w2.heap.size, 0, none⟩ 1 1 [(.slice ra2 rn2 rc2, -y)] (by simp [Act.eval]) rfl (news_lit _ _ _ _) (fun p hp => by simp at hp; subst hp; exact ⟨_, _, _, rfl⟩) (by simp; omega) (by simp; omega) ?_; intro v3 w3 hown3 hg3)))
          all_goals
            obtain ⟨Z3, B3⟩ := hfin v3 w3 hown3 hg3
            have HK : Hid (Below w.heap.size w w3) := HBd.trans ((hk2.mono hszw).trans B3)
            clear hfin hown3 hg3 hspW hprW B3 hk2 HBd Z5d hixd O2
            go_wp2
            go_roundw
            case rel => exact ⟨k + 1, by omega, by go_num, by show OwnZ _ _ _ _ _; rw [HTT.out]; exact Z3, HK.out⟩
            case measure => simp [intOf]; omega
        · have e : k = n := by omega
          subst e
          clear hc hrow hwts
          go_wp2
          go_ret
          refine ⟨_, rfl, ?_, HW.out⟩
          have := HZ.out
          rw [HN.out, List.take_length] at this
          exact this

end Go.Proofs.Ytegnoebpnpdogab
