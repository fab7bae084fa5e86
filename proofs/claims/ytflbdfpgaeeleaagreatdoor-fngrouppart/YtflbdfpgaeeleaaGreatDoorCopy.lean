/-
  The contract of impl.copyItems: the items in memory of their own, each row in a new block.
-/
import Derived.Test.YtflbdfpgaeeleaaGreatDoorClone
namespace Go.Proofs.YtflbdfpgaeeleaaGreatDoor
open Go.RowKit

/-- Items of which the first k rows are the call's own; the others are rows of the memory w0. -/
def PartZ (w0 w : World) (lo hi : Nat) (v : Value) (zs : List It) (k : Nat) : Prop :=
  ∃ ps : List (Value × Int), ps.map (·.2) = zs.map (·.2) ∧ Spine w lo hi v ps ∧ (∀ j, j < k → j < ps.length → Own w lo hi (ps.getD j (vn, 0)).1 (zs.getD j ([], 0)).1) ∧
    (∀ i j b, i < j → j < k → j < ps.length → (ps.getD i (vn, 0)).1.ownBlock = some b → (ps.getD j (vn, 0)).1.ownBlock ≠ some b) ∧ (∀ j, k ≤ j → j < ps.length → IntsAt w0 (ps.getD j (vn, 0)).1 (zs.getD j ([], 0)).1)

theorem PartZ.own {w0 w : World} {lo hi : Nat} {v : Value} {zs : List It} (h : PartZ w0 w lo hi v zs zs.length) : OwnZ w lo hi v zs := by
  obtain ⟨ps, he, hs, hr, ha, _⟩ := h
  have hl := snd_len he
  exact ⟨ps, he, hs, fun j hj => hr j (by omega) hj, fun i j b hij hj => ha i j b hij (by omega) hj⟩
theorem PartZ.keep {w0 w w' : World} {lo hi : Nat} {v : Value} {zs : List It} {k : Nat} (h : PartZ w0 w lo hi v zs k) (hb : Below hi w w') : PartZ w0 w' lo hi v zs k := by
  obtain ⟨ps, he, hs, hr, ha, hi⟩ := h
  exact ⟨ps, he, hs.keep hb, fun j hj hj' => (hr j hj hj').keep hb, ha, hi⟩
theorem PartZ.hi_le {w0 w : World} {lo hi : Nat} {v : Value} {zs : List It} {k : Nat} (h : PartZ w0 w lo hi v zs k) : hi ≤ w.heap.size := by
  obtain ⟨ps, he, hs, _⟩ := h
  exact hs.2.2.2
theorem PartZ.row {w0 w : World} {lo hi : Nat} {g n cap : Nat} {zs : List It} {k : Nat} (h : PartZ w0 w lo hi (.slice (some ⟨g, 0, none⟩) n cap) zs k) (hk : k < zs.length) : ∃ rv, w.cell? ⟨g, k * 2, none⟩ = some rv ∧ IntsAt w0 rv (zs.getD k ([], 0)).1 := by
  obtain ⟨ps, he, hs, _, _, hi⟩ := h
  have hl := snd_len he
  exact ⟨_, hs.cell0 (by omega), hi k (Nat.le_refl _) (by omega)⟩
theorem PartZ.frozenAt {w0 w : World} {lo hi : Nat} {g n cap : Nat} {zs : List It} {k : Nat} (h : PartZ w0 w lo hi (.slice (some ⟨g, 0, none⟩) n cap) zs k) (j : Nat) : w.frozen? ⟨g, j, none⟩ = false := by
  obtain ⟨ps, he, hs, _⟩ := h
  exact hs.frozenAt j

theorem PartZ.step {w0 w : World} {lo hi hi' : Nat} {g n cap : Nat} {zs : List It} {k : Nat} (h : PartZ w0 w lo hi (.slice (some ⟨g, 0, none⟩) n cap) zs k) (hk : k < zs.length) {rv : Value} (hrow : Own w lo hi' rv (zs.getD k ([], 0)).1)
    (h1 : hi ≤ hi') (h2 : hi' ≤ w.heap.size) (hf : ∀ b, rv.ownBlock = some b → hi ≤ b) :
    PartZ w0 (w.setCell ⟨g, k * 2, none⟩ rv) lo hi' (.slice (some ⟨g, 0, none⟩) n cap) zs (k + 1) := by
  obtain ⟨ps, he, hs, hr, ha, hi0⟩ := h
  have hl := snd_len he
  have hk' : k < ps.length := by omega
  have s1 := hs.stored0 hk' rv
  have hg := s1.2
  have hne : ∀ {lo' hi' : Nat} {v : Value} {us : List Int}, Own w lo' hi' v us → v.ownBlock = none ∨ v.ownBlock ≠ some g := fun h => row_ne_spine hs h
  refine ⟨ps.set k (rv, (ps.getD k (vn, 0)).2), ?_, s1.1.wide (Nat.le_refl _) h1 (Nat.le_trans h2 hg.size), fun j hj hj' => ?_, fun i j b hij hj hj' hb => ?_, fun j hj hj' => ?_⟩
  · rw [List.map_set, ← he]
    apply List.ext_getElem?
    intro j
    by_cases hjk : j = k
    · subst hjk
      rw [List.getElem?_set_self (by simpa using hk'), List.getElem?_map, List.getElem?_eq_getElem hk']
      simp [List.getD, hk']
    · rw [List.getElem?_set_ne (by omega)]
  · have hjl : j < ps.length := by simpa using hj'
    by_cases hjk : j = k
    · subst hjk
      rw [getD_set_self hk']
      exact hrow.keptB hg (hne hrow)
    · rw [getD_set_ne hjk]
      have := hr j (by omega) hjl
      exact (this.keptB hg (hne this)).wide (Nat.le_refl _) h1 (Nat.le_trans h2 hg.size)
  · have hjl : j < ps.length := by simpa using hj'
    rw [getD_set_ne (by omega)] at hb
    by_cases hjk : j = k
    · subst hjk
      rw [getD_set_self hk']
      intro hb'
      have h3 := hf b hb'
      have h4 := (hr i (by omega) (by omega)).2.1 b hb
      omega
    · rw [getD_set_ne hjk]
      exact ha i j b hij (by omega) hjl hb
  · have hjl : j < ps.length := by simpa using hj'
    rw [getD_set_ne (by omega)]
    exact hi0 j (by omega) hjl

set_option maxHeartbeats 2000000 in
theorem copyItems_any (v : Value) (zs : List It) (w : World) (h : ItemsAt w v zs) (hlim : zs.length ≤ 1099511627776) (hrl : ∀ j, j < zs.length → (zs.getD j ([], 0)).1.length ≤ 8796093022208) :
    Calls Tryz.prog 66 #[v] w fun e w' => ∃ v', e = .returned v' ∧ OwnZ w' w.heap.size w'.heap.size v' zs ∧ Below w.heap.size w w' := by
  obtain ⟨qs, hq, he, hr⟩ := h.pairs
  have hql := snd_len he
  go_enter Tryz.func66, Tryz.ntmps66
  go_wp2_with fail
  refine (cloneItems_any v qs _ hq (by omega)).mono ?_
  rintro e w1 ⟨v1, rfl, S1, hb1⟩
  by_cases hne : 0 < zs.length
  · obtain ⟨g, cap, rfl, hg1, hg2, hgc, hgm⟩ := S1.shape (by omega)
    have P1 : PartZ w w1 w.heap.size w1.heap.size (.slice (some ⟨g, 0, none⟩) zs.length cap) zs 0 := by
      refine ⟨qs, he, by rw [← hql]; exact S1, fun j hj => by omega, fun i j b _ hj => by omega, fun j _ hj => hr j (by omega)⟩
    rw [hql] at hgc ⊢
    clear S1 hr hq he hql qs h hg2
    obtain ⟨n, hn⟩ : ∃ n, n = zs.length := ⟨_, rfl⟩
    have HN : Hid (n = zs.length) := hn
    rw [← hn] at P1 hne hlim hgc hrl ⊢
    clear hn
    go_wp2
    go_loopw [9] (fun i wr => ∃ k : Nat, k ≤ n ∧ i = .int .i64 k ∧ Hid (PartZ w wr w.heap.size wr.heap.size (.slice (some ⟨g, 0, none⟩) n cap) zs k) ∧ Hid (Below w.heap.size w wr)) (fun i _ => n - (intOf i).toNat)
    case atStart => exact ⟨0, Nat.zero_le _, rfl, P1, hb1⟩
    case round =>
      obtain ⟨k, hk, rfl, HP, HW⟩ := hrel
      clear P1 hb1
      by_cases hlt : k < n
      · obtain ⟨rv, hrv, hix⟩ := HP.out.row (by rw [← HN.out]; exact hlt)
        have hxl := hrl k hlt
        have hix1 := hix.below HW.out
        obtain ⟨ra, rn, rc, rfl⟩ := hix.shape
        clear hix hrl
        go_wp2_with fail
        refine (cloneInts_any _ _ _ hix1 hxl).mono ?_
        rintro e w2 ⟨rv2, rfl, O2, hb2⟩
        have P2 := HP.out.keep (hb2.mono HP.out.hi_le)
        have hszr := HW.out.size
        have R : Hid (PartZ w (w2.setCell ⟨g, k * 2, none⟩ rv2) w.heap.size w2.heap.size (.slice (some ⟨g, 0, none⟩) n cap) zs (k + 1)) :=
          P2.step (by rw [← HN.out]; exact hlt) (O2.wide hszr (Nat.le_refl _) (Nat.le_refl _)) hb2.size (Nat.le_refl _) (fun b hb => (O2.1.lt b hb).1)
        obtain ⟨u, hcu, -⟩ := P2.row (by rw [← HN.out]; exact hlt)
        have hfz := P2.frozenAt (k * 2)
        have HB2 : Hid (Below w.heap.size w (w2.setCell ⟨g, k * 2, none⟩ rv2)) := (below_then HW.out hb2).setCell hg1 _
        have hone : ∃ a n c, rv2 = .slice a n c := O2.ints.shape
        obtain ⟨ra2, rn2, rc2, rfl⟩ := hone
        clear HP HW P2 O2 hb2 hix1 hrv hxl
        go_wp2
        go_roundw
        case rel => exact ⟨k + 1, by omega, by go_num, by show PartZ _ _ _ _ _ _ _; simpa using R.out, HB2.out⟩
        case measure => simp [intOf]; omega
      · have e : k = n := by omega
        subst e
        clear hrl
        go_wp2
        go_ret
        refine ⟨_, rfl, ?_, HW.out⟩
        have := HP.out
        rw [HN.out] at this ⊢
        exact this.own
  · have hz : zs = [] := List.length_eq_zero_iff.1 (by omega)
    have hqn : qs = [] := List.length_eq_zero_iff.1 (by omega)
    subst hz hqn
    have Z : OwnZ w1 w.heap.size w1.heap.size v1 [] := ⟨[], rfl, S1, fun j hj => by simp at hj, fun i j b _ hj => by simp at hj⟩
    have hsh : ∃ a c, v1 = .slice a 0 c := by
      rcases S1.1.2 with ⟨rfl, _⟩ | ⟨g, cap, cur, rfl, _⟩ <;> exact ⟨_, _, rfl⟩
    obtain ⟨a1, c1, rfl⟩ := hsh
    clear S1 hr hq he hql hrl h
    go_wp2
    refine wp_loop_rounds 1 ?_
    rw [rounds_succ]
    go_wp2
    go_ret
    exact ⟨_, rfl, Z, hb1⟩

end Go.Proofs.YtflbdfpgaeeleaaGreatDoor
