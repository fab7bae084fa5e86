/-
  The contracts of impl.ZNeg and spec.ZNeg: each weight with the other sign, in memory of their own; none of items that are not right.
-/
import Derived.Test.YtfgpdakkbhfiaaaGreatDoorCopy
import Derived.Test.YtfgpdakkbhfiaaaGreatDoorStep
import Derived.Test.YtfgpdakkbhfiaaaGreatDoorZOk
import Derived.Test.YtfgpdakkbhfiaaaGreatDoorJoin
namespace Go.Proofs.YtfgpdakkbhfiaaaGreatDoor
set_option maxRecDepth 100000
open Go.RowKit

def negZ (zs : List It) : List It := zs.map fun p => (p.1, -p.2)
/-- Behind k rounds in place. -/
def negTo (zs : List It) (k : Nat) : List It := negZ (zs.take k) ++ zs.drop k
theorem negZ_length (zs : List It) : (negZ zs).length = zs.length := by simp [negZ]
theorem negTo_length (zs : List It) (k : Nat) (hk : k ≤ zs.length) : (negTo zs k).length = zs.length := by simp [negTo, negZ]; omega
theorem negTo_get {zs : List It} {k : Nat} (hk : k < zs.length) : (negTo zs k).getD k ([], 0) = zs.getD k ([], 0) := by
  unfold negTo
  have h1 : (negZ (zs.take k)).length = k := by simp [negZ]; omega
  simp only [List.getD]
  rw [List.getElem?_append_right (by omega), h1, List.getElem?_drop]
  simp
theorem negZ_take {zs : List It} {k : Nat} (hk : k < zs.length) : negZ (zs.take (k + 1)) = negZ (zs.take k) ++ [((zs.getD k ([], 0)).1, -(zs.getD k ([], 0)).2)] := by
  unfold negZ
  rw [List.take_succ_eq_append_getElem hk, List.map_append]
  simp [List.getD, hk]
theorem negTo_set {zs : List It} {k : Nat} (hk : k < zs.length) : (negTo zs k).set k ((zs.getD k ([], 0)).1, -(zs.getD k ([], 0)).2) = negTo zs (k + 1) := by
  unfold negTo
  have h1 : (negZ (zs.take k)).length = k := by simp [negZ]; omega
  rw [List.set_append_right _ _ (by omega), h1, Nat.sub_self, List.drop_eq_getElem_cons hk, List.set_cons_zero, negZ_take hk, List.append_assoc]
  rfl
theorem wB_in {y : Int} (h : wB y = true) : y ≠ 0 ∧ -10000 ≤ y ∧ y ≤ 10000 := by unfold wB at h; exact of_decide_eq_true h

set_option maxHeartbeats 4000000 in
theorem implZNeg_any (v : Value) (zs : List It) (w : World) (h : ItemsAt w v zs) :
    Calls Tryz.prog 18 #[v] w fun e w' => ∃ v', e = .returned v' ∧ OwnZ w' w.heap.size w'.heap.size v' (if zOkB zs then negZ zs else []) ∧ Below w.heap.size w w' := by
  cases hok : zOkB zs with
  | false =>
    go_enter Tryz.func18, Tryz.ntmps18
    go_wp2_with fail
    refine (implZOk_any v zs _ h).mono ?_
    rw [hok]
    rintro e w1 ⟨rfl, hb1⟩
    clear h
    go_wp2
    go_ret
    exact ⟨_, rfl, nil_ownZ _ _, hb1⟩
  | true =>
    have h100 := zOk_le hok
    have hrow : ∀ k, k < zs.length → (zs.getD k ([], 0)).1.length ≤ 8796093022208 := fun k hk => by have := rowOk_le (zOk_row hok hk).1; omega
    have hwt : ∀ k, k < zs.length → -10000 ≤ (zs.getD k ([], 0)).2 ∧ (zs.getD k ([], 0)).2 ≤ 10000 := fun k hk => (wB_in (zOk_row hok hk).2).2
    go_enter Tryz.func18, Tryz.ntmps18
    go_wp2_with fail
    refine (implZOk_any v zs _ h).mono ?_
    rw [hok]
    rintro e w1 ⟨rfl, hb1⟩
    go_wp2_with fail
    refine (copyItems_any v zs _ (h.below hb1) (by omega) hrow).mono ?_
    rintro e w2 ⟨v2, rfl, Z2, hb2⟩
    have hk2 := below_then hb1 hb2
    have hsz1 := hb1.size
    clear h hrow hok
    by_cases h0 : 0 < zs.length
    · obtain ⟨g, cap, rfl, hg1, hg2⟩ : ∃ g cap, v2 = .slice (some ⟨g, 0, none⟩) zs.length cap ∧ w1.heap.size ≤ g ∧ g < w2.heap.size := by
        obtain ⟨ps, he, hs, _⟩ := Z2
        have hl := snd_len he
        obtain ⟨g, cap, rfl, h1, h2, _⟩ := hs.shape (by omega)
        exact ⟨g, cap, by rw [hl], h1, h2⟩
      obtain ⟨n, hn⟩ : ∃ n, n = zs.length := ⟨_, rfl⟩
      have HN : Hid (n = zs.length) := hn
      rw [← hn] at h0 h100 hwt Z2 ⊢
      clear hn
      have H2 : Hid (OwnZ w2 w1.heap.size w2.heap.size (.slice (some ⟨g, 0, none⟩) n cap) zs) := Z2
      clear Z2
      go_wp2
      go_loopw [12] (fun i wr => ∃ (k : Nat), k ≤ n ∧ i = .int .i64 k ∧ Hid (OwnZ wr w1.heap.size w2.heap.size (.slice (some ⟨g, 0, none⟩) n cap) (negTo zs k)) ∧ Hid (Only w1.heap.size w2.heap.size w2 wr)) (fun i _ => n - (intOf i).toNat)
      case atStart => exact ⟨0, Nat.zero_le _, rfl, by simpa [Hid, negTo, negZ] using H2.out, Only.refl _ _ _⟩
      case round =>
        obtain ⟨k, hk, rfl, HZ, HO⟩ := hrel
        clear H2
        by_cases hlt : k < n
        · have hlt' : k < zs.length := by rw [← HN.out]; exact hlt
          have hkl : k < (negTo zs k).length := by rw [negTo_length _ _ (by omega)]; exact hlt'
          obtain ⟨y, HY⟩ : ∃ y, Hid (y = (zs.getD k ([], 0)).2) := ⟨_, rfl⟩
          have hyw := hwt k hlt
          rw [← HY.out] at hyw
          have hc1 : wr.cell? ⟨g, k * 2 + 1, none⟩ = some (.int .i64 y) := by
            obtain ⟨ps, he, hs, _⟩ := HZ.out
            rw [hs.cell1 (by rw [snd_len he]; exact hkl), snd_getD he, negTo_get hlt', HY.out]
          have hf1 := HZ.out.frozenAt (k * 2 + 1)
          have hp := HZ.out.putW hkl (-y)
          rw [negTo_get hlt'] at hp
          have R : Hid (OwnZ (wr.setCell ⟨g, k * 2 + 1, none⟩ (.int .i64 (-y))) w1.heap.size w2.heap.size (.slice (some ⟨g, 0, none⟩) n cap) (negTo zs (k + 1))) := by
            rw [← negTo_set hlt', ← HY.out]; exact hp.1
          have O3 : Hid (Only w1.heap.size w2.heap.size w2 (wr.setCell ⟨g, k * 2 + 1, none⟩ (.int .i64 (-y)))) := HO.out.trans (Only.of_grown hp.2 (fun b hb => by simp at hb; omega))
          clear hp HZ HO hwt
          go_wp2
          go_roundw
          case rel => exact ⟨k + 1, by omega, by go_num, R.out, O3.out⟩
          case measure => simp [intOf]; omega
        · have e : k = n := by omega
          subst e
          clear hwt
          go_wp2
          go_ret
          have e1 : negTo zs k = negZ zs := by unfold negTo; rw [HN.out, List.take_length, List.drop_length, List.append_nil]
          refine ⟨_, rfl, ?_, HO.out.below hk2 hsz1 (by have := hk2.size; omega)⟩
          have := HZ.out
          rw [e1] at this
          exact this.wide hsz1 HO.out.size (Nat.le_refl _)
    · have hz : zs = [] := List.length_eq_zero_iff.1 (by omega)
      subst hz
      obtain ⟨a, cap, rfl⟩ := Z2.shape
      have Z3 : Hid (OwnZ w2 w.heap.size w2.heap.size (.slice a 0 cap) []) := Z2.wide hsz1 (Nat.le_refl _) (Nat.le_refl _)
      clear Z2 hwt
      go_wp2
      refine wp_loop_rounds 1 ?_
      rw [rounds_succ]
      go_wp2
      go_ret
      exact ⟨_, rfl, Z3.out, hk2⟩

end Go.Proofs.YtfgpdakkbhfiaaaGreatDoor
