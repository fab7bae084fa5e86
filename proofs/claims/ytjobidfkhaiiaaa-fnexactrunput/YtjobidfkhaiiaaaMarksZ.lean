/-
  The contracts of laws.markItemS and laws.heldItemS: numbers from k on are written into items of the call's own, and are found there.
-/
import Derived.Test.YtjobidfkhaiiaaaOwnZ
import Derived.Test.YtjobidfkhaiiaaaMarks
namespace Go.Proofs.Ytjobidfkhaiiaaa
open Go.RowKit

/-- Rows of these lengths and weights, filled with k, k + 1, .. -/
def marksZ : Int → List Nat → List It
  | _, [] => []
  | k, n :: ns => (marks k n, k + n) :: marksZ (k + n + 1) ns
def tot (ns : List Nat) : Nat := (ns.map (· + 1)).sum
theorem tot_append (ns ms : List Nat) : tot (ns ++ ms) = tot ns + tot ms := by simp [tot]
theorem marksZ_length : ∀ (k : Int) (ns : List Nat), (marksZ k ns).length = ns.length
  | _, [] => rfl
  | k, n :: ns => by simp [marksZ, marksZ_length]
theorem marksZ_append : ∀ (k : Int) (ns ms : List Nat), marksZ k (ns ++ ms) = marksZ k ns ++ marksZ (k + tot ns) ms
  | k, [], ms => by simp [marksZ, tot]
  | k, n :: ns, ms => by
    rw [List.cons_append, marksZ, marksZ, marksZ_append, List.cons_append]
    congr 3
    simp [tot]; omega

def lens (zs : List It) : List Nat := zs.map (·.1.length)
/-- What stands there behind j rounds. -/
def markAt (zs : List It) (k : Int) (j : Nat) : List It := marksZ k (lens (zs.take j)) ++ zs.drop j
theorem markAt_length (zs : List It) (k : Int) (j : Nat) (hj : j ≤ zs.length) : (markAt zs k j).length = zs.length := by
  simp [markAt, marksZ_length, lens]; omega
theorem markAt_get {zs : List It} {k : Int} {j : Nat} (hj : j < zs.length) : (markAt zs k j).getD j ([], 0) = zs.getD j ([], 0) := by
  unfold markAt
  have h1 : (marksZ k (lens (zs.take j))).length = j := by simp [marksZ_length, lens]; omega
  simp only [List.getD]
  rw [List.getElem?_append_right (by omega), h1, List.getElem?_drop]
  simp
theorem lens_take {zs : List It} {j : Nat} (hj : j < zs.length) : lens (zs.take (j + 1)) = lens (zs.take j) ++ [(zs.getD j ([], 0)).1.length] := by
  unfold lens
  rw [List.take_succ_eq_append_getElem hj, List.map_append]
  simp [List.getD, hj]
theorem tot_take {zs : List It} {j : Nat} (hj : j < zs.length) : tot (lens (zs.take (j + 1))) = tot (lens (zs.take j)) + (zs.getD j ([], 0)).1.length + 1 := by
  rw [lens_take hj, tot_append]
  simp [tot]; omega
theorem tot_le (zs : List It) (j : Nat) : tot (lens (zs.take j)) ≤ tot (lens zs) := by
  have : tot (lens zs) = tot (lens (zs.take j)) + tot (lens (zs.drop j)) := by
    rw [← tot_append]; unfold lens; rw [← List.map_append, List.take_append_drop]
  omega
theorem markAt_set {zs : List It} {k : Int} {j : Nat} (hj : j < zs.length) :
    (markAt zs k j).set j (marks (k + tot (lens (zs.take j))) (zs.getD j ([], 0)).1.length, k + tot (lens (zs.take j)) + (zs.getD j ([], 0)).1.length) = markAt zs k (j + 1) := by
  unfold markAt
  have h1 : (marksZ k (lens (zs.take j))).length = j := by simp [marksZ_length, lens]; omega
  rw [List.set_append_right _ _ (by omega), h1, Nat.sub_self, List.drop_eq_getElem_cons hj, List.set_cons_zero, lens_take hj, marksZ_append]
  simp [marksZ]

/-- One row is written in its place. -/
theorem OwnZ.rowAt {w : World} {lo hi : Nat} {g n cap : Nat} {zs : List It} (h : OwnZ w lo hi (.slice (some ⟨g, 0, none⟩) n cap) zs) {j : Nat} (hj : j < zs.length) :
    ∃ rv, w.cell? ⟨g, j * 2, none⟩ = some rv ∧ Own w lo hi rv (zs.getD j ([], 0)).1 ∧ (∀ w' xs', w.grownBy w' rv.ownBlock → Own w' lo hi rv xs' → OwnZ w' lo hi (.slice (some ⟨g, 0, none⟩) n cap) (zs.set j (xs', (zs.getD j ([], 0)).2))) := by
  obtain ⟨ps, he, hs, hr, ha⟩ := h
  have hl := snd_len he
  have hj' : j < ps.length := by omega
  refine ⟨_, hs.cell0 hj', hr j hj', fun w' xs' hg ho => ?_⟩
  refine ⟨ps, ?_, hs.kept hg ?_, fun i hi' => ?_, ha⟩
  · rw [List.map_set, ← snd_getD he, he]
    apply List.ext_getElem?
    intro i
    by_cases hij : i = j
    · subst hij
      rw [List.getElem?_set_self (by simpa using hj), List.getElem?_map, List.getElem?_eq_getElem hj]
      rw [snd_getD he]
      simp [List.getD, hj]
    · rw [List.getElem?_set_ne (by omega)]
  · rcases row_ne_spine hs (hr j hj') with h | h
    · exact .inr (by rw [h]; simp [Value.ownBlock])
    · exact .inr (fun e => h e.symm)
  · by_cases hij : i = j
    · subst hij
      rw [getD_set_self hj]
      exact ho
    · rw [getD_set_ne hij]
      refine (hr i hi').keptB hg ?_
      cases hb : (ps.getD i (vn, 0)).1.ownBlock with
      | none => exact .inl rfl
      | some b =>
        refine .inr fun e => ?_
        rcases Nat.lt_or_gt_of_ne hij with hlt | hgt
        · exact ha i j b hlt hj' hb e.symm
        · exact ha j i b hgt hi' e.symm hb

theorem Own.range {w : World} {lo hi : Nat} {v : Value} {xs : List Int} (h : Own w lo hi v xs) : ∀ k, v.ownBlock = some k → lo ≤ k ∧ k < hi := fun k hk => ⟨(h.1.lt k hk).1, h.2.1 k hk⟩

set_option maxHeartbeats 2000000 in
theorem markItemS_any (v : Value) (lo hi : Nat) (zs : List It) (k : Int) (w : World) (hk0 : 0 ≤ k) (hk : k ≤ 4194304) (ht : tot (lens zs) ≤ 4194304) (h : OwnZ w lo hi v zs) :
    Calls Try.prog 22 #[v, .int .i64 k] w fun e w' => e = .returned (.int .i64 (k + tot (lens zs))) ∧ OwnZ w' lo hi v (marksZ k (lens zs)) ∧ Only lo hi w w' := by
  have hsh : (zs = [] ∧ ∃ a c, v = .slice a 0 c) ∨ (0 < zs.length ∧ ∃ g cap, v = .slice (some ⟨g, 0, none⟩) zs.length cap ∧ lo ≤ g ∧ g < hi) := by
    obtain ⟨ps, he, hs, _⟩ := h
    have hl := snd_len he
    by_cases h0 : 0 < zs.length
    · obtain ⟨g, cap, rfl, h1, h2, _⟩ := hs.shape (by omega)
      exact .inr ⟨h0, g, cap, by rw [hl], h1, h2⟩
    · have hz : zs = [] := List.length_eq_zero_iff.1 (by omega)
      have hp : ps = [] := List.length_eq_zero_iff.1 (by omega)
      subst hp
      refine .inl ⟨hz, ?_⟩
      rcases hs.1.2 with ⟨rfl, _⟩ | ⟨g, cap, cur, rfl, _⟩ <;> exact ⟨_, _, rfl⟩
  rcases hsh with ⟨rfl, a, c, rfl⟩ | ⟨hpos, g, cap, rfl, hg1, hg2⟩
  · go_enter Try.func22, Try.ntmps22
    go_wp2
    refine wp_loop_rounds 1 ?_
    rw [rounds_succ]
    go_wp2
    go_ret
    exact ⟨by simp [tot, lens], h, Only.refl _ _ _⟩
  · obtain ⟨n, hn⟩ : ∃ n, n = zs.length := ⟨_, rfl⟩
    have HN : Hid (n = zs.length) := hn
    have hnl : n ≤ 140737488355328 := by
      obtain ⟨ps, he, hs, _⟩ := h
      have := snd_len he
      have := hs.2.2.1
      omega
    rw [← hn] at h hpos ⊢
    clear hn
    obtain ⟨T, hT⟩ : ∃ T, T = tot (lens zs) := ⟨_, rfl⟩
    have HT : Hid (T = tot (lens zs)) := hT
    rw [← hT] at ht ⊢
    clear hT
    have H : Hid (OwnZ w lo hi (.slice (some ⟨g, 0, none⟩) n cap) zs) := h
    clear h
    go_enter Try.func22, Try.ntmps22
    go_wp2
    go_loopw [1, 5] (fun q i wr => ∃ (j : Nat) (r : Int), j ≤ n ∧ i = .int .i64 j ∧ q = .int .i64 r ∧ 0 ≤ r ∧ r ≤ 8388608 ∧ Hid (r = k + tot (lens (zs.take j))) ∧ Hid (OwnZ wr lo hi (.slice (some ⟨g, 0, none⟩) n cap) (markAt zs k j)) ∧ Hid (Only lo hi w wr))
      (fun _ i _ => n - (intOf i).toNat)
    case atStart => exact ⟨0, k, Nat.zero_le _, rfl, rfl, hk0, by omega, by simp [Hid, tot, lens], by simpa [Hid, markAt, marksZ, lens] using H.out, Only.refl _ _ _⟩
    case round =>
      obtain ⟨j, r, hj, rfl, rfl, hr0, hr1, HR, HZ, HO⟩ := hrel
      clear H
      by_cases hlt : j < n
      · have hlt' : j < zs.length := by rw [← HN.out]; exact hlt
        have hjl : j < (markAt zs k j).length := by rw [markAt_length _ _ _ (by omega)]; exact hlt'
        obtain ⟨rv, hrv, hO, hput⟩ := HZ.out.rowAt hjl
        rw [markAt_get hlt'] at hO hput
        obtain ⟨m, HM⟩ : ∃ m, Hid (m = (zs.getD j ([], 0)).1.length) := ⟨_, rfl⟩
        have htj : r + m + 1 ≤ 8388608 := by
          have h1 := tot_take hlt'
          have h2 := tot_le zs (j + 1)
          have h3 := HR.out
          have h4 := HM.out
          have h5 := HT.out
          omega
        have hml : m ≤ 140737488355328 := by rw [HM.out]; exact hO.2.2.1
        obtain ⟨ra, rn, rc, hsh⟩ := hO.ints.shape
        subst hsh
        go_wp2_with fail
        refine (markIntS_any _ lo hi _ r _ hr0 (by omega) hO).mono ?_
        rintro e w2 ⟨rfl, hO2, hg2'⟩
        rw [← HM.out] at hO2 ⊢
        have Z2 := hput w2 _ hg2' hO2
        have hjl2 : j < ((markAt zs k j).set j (marks r m, (zs.getD j ([], 0)).2)).length := by simpa using hjl
        have Z3 := Z2.putW hjl2 (r + m)
        rw [List.set_set, getD_set_self hjl] at Z3
        have R : Hid (OwnZ (w2.setCell ⟨g, j * 2 + 1, none⟩ (.int .i64 (r + m))) lo hi (.slice (some ⟨g, 0, none⟩) n cap) (markAt zs k (j + 1))) := by
          have e := markAt_set (k := k) hlt'
          rw [← HR.out, ← HM.out] at e
          rw [← e]
          exact Z3.1
        have O3 : Hid (Only lo hi w (w2.setCell ⟨g, j * 2 + 1, none⟩ (.int .i64 (r + m)))) :=
          (HO.out.trans (Only.of_grown hg2' hO.range)).trans (Only.of_grown Z3.2 (fun b hb => by simp at hb; omega))
        obtain ⟨u1, hc1⟩ := Z2.cellAt1 hjl2
        have hf1 := Z2.frozenAt (j * 2 + 1)
        clear Z2 Z3 hput hO hO2 HZ HO hg2' hrv hjl hjl2
        go_wp2
        go_roundw
        case rel => exact ⟨j + 1, r + m + 1, by omega, by go_num, by go_num, by omega, by omega, by
          have h1 := tot_take hlt'
          have h3 := HR.out
          have h4 := HM.out
          show r + m + 1 = _
          omega, R.out, O3.out⟩
        case measure => simp [intOf]; omega
      · have e : j = n := by omega
        subst e
        go_wp2
        go_ret
        have e1 : zs.take j = zs := by rw [HN.out, List.take_length]
        refine ⟨ret_int ?_, ?_, HO.out⟩
        · rw [HR.out, e1, HT.out]
        · have := HZ.out
          unfold markAt at this
          rw [e1, show zs.drop j = [] by rw [HN.out, List.drop_length], List.append_nil] at this
          exact this

theorem marksZ_get : ∀ (k : Int) (ns : List Nat) (j : Nat), j < ns.length → (marksZ k ns).getD j ([], 0) = (marks (k + tot (ns.take j)) (ns.getD j 0), k + tot (ns.take j) + ns.getD j 0)
  | k, n :: ns, 0, _ => by simp [marksZ, tot]
  | k, n :: ns, j + 1, h => by
    have := marksZ_get (k + n + 1) ns j (by simpa using h)
    have e : k + ↑n + 1 + ↑(tot (ns.take j)) = k + ↑(tot (n :: ns.take j)) := by simp [tot]; omega
    rw [e] at this
    simpa [marksZ] using this
theorem tot_takeN {ns : List Nat} {j : Nat} (hj : j < ns.length) : tot (ns.take (j + 1)) = tot (ns.take j) + ns.getD j 0 + 1 := by
  rw [List.take_succ_eq_append_getElem hj, tot_append]
  simp [tot, List.getD, hj]; omega
theorem tot_leN (ns : List Nat) (j : Nat) : tot (ns.take j) ≤ tot ns := by
  have : tot ns = tot (ns.take j) + tot (ns.drop j) := by rw [← tot_append, List.take_append_drop]
  omega

set_option maxHeartbeats 2000000 in
theorem heldItemS_any (v : Value) (ns : List Nat) (k : Int) (w : World) (hk0 : 0 ≤ k) (hk : k ≤ 4194304) (ht : tot ns ≤ 4194304) (h : ItemsAt w v (marksZ k ns)) :
    Calls Try.prog 26 #[v, .int .i64 k] w fun e w' => e = .returned (.int .i64 (k + tot ns)) ∧ w' = w := by
  rcases h.cases with ⟨a, cap, hz, rfl⟩ | ⟨b, off, cap, hpos, hlim, rfl, hbw, hc⟩
  · have hn : ns = [] := List.length_eq_zero_iff.1 (by rw [← marksZ_length k ns, hz]; rfl)
    subst hn
    clear h hz
    go_enter Try.func26, Try.ntmps26
    go_wp2
    refine wp_loop_rounds 1 ?_
    rw [rounds_succ]
    go_wp2
    go_ret
    exact ⟨by simp [tot], rfl⟩
  · rw [marksZ_length] at hpos hlim hc ⊢
    clear h
    obtain ⟨n, hn⟩ : ∃ n, n = ns.length := ⟨_, rfl⟩
    have HN : Hid (n = ns.length) := hn
    rw [← hn] at hpos hlim hc ⊢
    clear hn
    obtain ⟨T, hT⟩ : ∃ T, T = tot ns := ⟨_, rfl⟩
    have HT : Hid (T = tot ns) := hT
    rw [← hT] at ht ⊢
    clear hT
    go_enter Try.func26, Try.ntmps26
    go_wp2
    go_loop [1, 5] (fun q i => ∃ (j : Nat) (r : Int), j ≤ n ∧ i = .int .i64 j ∧ q = .int .i64 r ∧ 0 ≤ r ∧ r ≤ 8388608 ∧ Hid (r = k + tot (ns.take j))) (fun _ i => n - (intOf i).toNat)
    case atStart => exact ⟨0, k, Nat.zero_le _, rfl, rfl, hk0, by omega, by simp [Hid, tot]⟩
    case round =>
      obtain ⟨j, r, hj, rfl, rfl, hr0, hr1, HR⟩ := hrel
      by_cases hlt : j < n
      · have hlt' : j < ns.length := by rw [← HN.out]; exact hlt
        obtain ⟨rv, hrv, hwt, hix⟩ := hc j hlt
        rw [marksZ_get k ns j hlt', ← HR.out] at hwt hix
        obtain ⟨m, HM⟩ : ∃ m, Hid (m = ns.getD j 0) := ⟨_, rfl⟩
        rw [← HM.out] at hwt hix
        simp only at hwt hix
        have htj : r + m + 1 ≤ 8388608 := by
          have h1 := tot_takeN hlt'
          have h2 := tot_leN ns (j + 1)
          have h3 := HR.out
          have h4 := HM.out
          have h5 := HT.out
          omega
        have hneg : ¬ r + (m : Int) < 0 := by omega
        clear hc
        go_wp2_with fail
        refine (heldIntS_any rv m r _ hr0 (by omega) hix).mono ?_
        rintro e w2 ⟨rfl, rfl⟩
        clear hix
        go_wp2
        go_round
        case rel => exact ⟨j + 1, r + m + 1, by omega, by go_num, by go_num, by omega, by omega, by
          have h1 := tot_takeN hlt'
          have h3 := HR.out
          have h4 := HM.out
          show r + m + 1 = _
          omega⟩
        case measure => simp [intOf]; omega
      · have e : j = n := by omega
        subst e
        clear hc
        go_wp2
        go_ret
        have e1 : ns.take j = ns := by rw [HN.out, List.take_length]
        exact ⟨ret_int (by rw [HR.out, e1, HT.out]), rfl⟩

end Go.Proofs.Ytjobidfkhaiiaaa
