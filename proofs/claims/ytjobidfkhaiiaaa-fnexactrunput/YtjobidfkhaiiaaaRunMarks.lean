/-
  The contracts of laws.markSpine and laws.heldSpine: numbers from k on are written into runs of the call's own, and are found there.
-/
import Derived.Test.YtjobidfkhaiiaaaRunOk
import Derived.Test.YtjobidfkhaiiaaaLawKit
namespace Go.Proofs.Ytjobidfkhaiiaaa
set_option maxRecDepth 100000
open Go.RowKit

def totR (zss : Rn) : Nat := (zss.map fun z => tot (lens z)).sum
theorem totR_len (zss : Rn) : totR zss = runsLen zss := by
  unfold totR runsLen
  congr 1
  apply List.map_congr_left
  intro z _
  exact tot_lens z
theorem totR_append (a b : Rn) : totR (a ++ b) = totR a + totR b := by simp [totR]
theorem totR_take {zss : Rn} {j : Nat} (hj : j < zss.length) : totR (zss.take (j + 1)) = totR (zss.take j) + tot (lens (zss.getD j [])) := by
  rw [take_getR hj, totR_append]
  simp [totR]
theorem totR_le (zss : Rn) (j : Nat) : totR (zss.take j) ≤ totR zss := by
  have : totR zss = totR (zss.take j) + totR (zss.drop j) := by rw [← totR_append, List.take_append_drop]
  omega
def marksR : Int → Rn → Rn
  | _, [] => []
  | k, z :: zss => marksZ k (lens z) :: marksR (k + tot (lens z)) zss
theorem marksR_length : ∀ (k : Int) (zss : Rn), (marksR k zss).length = zss.length
  | _, [] => rfl
  | k, z :: zss => by simp [marksR, marksR_length]
theorem marksR_append : ∀ (k : Int) (a b : Rn), marksR k (a ++ b) = marksR k a ++ marksR (k + totR a) b
  | k, [], b => by simp [marksR, totR]
  | k, z :: a, b => by
    rw [List.cons_append, marksR, marksR, marksR_append, List.cons_append]
    congr 3
    simp [totR]; omega
theorem marksR_get (k : Int) (zss : Rn) (j : Nat) (hj : j < zss.length) : (marksR k zss).getD j [] = marksZ (k + totR (zss.take j)) (lens (zss.getD j [])) := by
  have h := marksR_append k (zss.take j) (zss.drop j)
  rw [List.take_append_drop] at h
  have hl : (marksR k (zss.take j)).length = j := by rw [marksR_length, List.length_take]; omega
  rw [h]
  simp only [List.getD]
  rw [List.getElem?_append_right (by omega), hl, Nat.sub_self, List.drop_eq_getElem_cons hj, marksR]
  simp [hj]
/-- What stands there behind j rounds. -/
def markAtR (zss : Rn) (k : Int) (j : Nat) : Rn := marksR k (zss.take j) ++ zss.drop j
theorem markAtR_length (zss : Rn) (k : Int) (j : Nat) (hj : j ≤ zss.length) : (markAtR zss k j).length = zss.length := by
  simp [markAtR, marksR_length]; omega
theorem markAtR_get {zss : Rn} {k : Int} {j : Nat} (hj : j < zss.length) : (markAtR zss k j).getD j [] = zss.getD j [] := by
  unfold markAtR
  have h1 : (marksR k (zss.take j)).length = j := by simp [marksR_length]; omega
  simp only [List.getD]
  rw [List.getElem?_append_right (by omega), h1, List.getElem?_drop]
  simp
theorem markAtR_set {zss : Rn} {k : Int} {j : Nat} (hj : j < zss.length) :
    (markAtR zss k j).set j (marksZ (k + totR (zss.take j)) (lens (zss.getD j []))) = markAtR zss k (j + 1) := by
  unfold markAtR
  have h1 : (marksR k (zss.take j)).length = j := by simp [marksR_length]; omega
  rw [List.set_append_right _ _ (by omega), h1, Nat.sub_self, List.drop_eq_getElem_cons hj, List.set_cons_zero, take_getR hj, marksR_append]
  simp [marksR]
theorem markAtR_all (zss : Rn) (k : Int) : markAtR zss k zss.length = marksR k zss := by simp [markAtR]

theorem Only.mono {lo hi lo' hi' : Nat} {w w' : World} (h : Only lo hi w w') (h1 : lo' ≤ lo) (h2 : hi ≤ hi') : Only lo' hi' w w' :=
  ⟨h.os, h.tape, h.output, h.size, fun k hk hr => h.block k hk (by omega)⟩
theorem only_of_below {B lo hi : Nat} {w w' : World} (h : Below B w w') (hB : w.heap.size ≤ B) : Only lo hi w w' :=
  ⟨h.os, h.tape, h.output, h.size, fun k hk _ => h.block k (by omega)⟩
theorem only_cell {lo hi : Nat} {w w' : World} (k : Only lo hi w w') {p : Addr} {v : Option Value} (hp : p.block < w.heap.size) (hr : p.block < lo ∨ hi ≤ p.block) (hv : w.cell? p = v) : w'.cell? p = v := by
  rw [← hv]
  simp only [World.cell?, k.block _ hp hr]

set_option maxHeartbeats 4000000 in
theorem markItemSS_any (v : Value) (lo hi : Nat) (zss : Rn) (k : Int) (w : World) (hk0 : 0 ≤ k) (hk : k ≤ 2097152) (ht : totR zss ≤ 2097152) (h : OwnR w lo hi v zss) :
    Calls Try.prog 52 #[v, .int .i64 k] w fun e w' => e = .returned (.int .i64 (k + totR zss)) ∧ OwnR w' lo hi v (marksR k zss) ∧ Only lo hi w w' := by
  by_cases hpos : 0 < zss.length
  · obtain ⟨g, cap, rfl⟩ : ∃ g cap, v = .slice (some ⟨g, 0, none⟩) zss.length cap := by
      obtain ⟨ps, h1, _⟩ := h
      rcases h1.2 with ⟨_, hn⟩ | ⟨g, cap, cur, rfl, _⟩
      · omega
      · exact ⟨g, cap, rfl⟩
    obtain ⟨n, hn⟩ : ∃ n, n = zss.length := ⟨_, rfl⟩
    have HN : Hid (n = zss.length) := hn
    have hnl : n ≤ 140737488355328 := by
      obtain ⟨ps, _, _, h3, _⟩ := h
      omega
    rw [← hn] at h hpos ⊢
    clear hn
    obtain ⟨T, hT⟩ : ∃ T, T = totR zss := ⟨_, rfl⟩
    have HT : Hid (T = totR zss) := hT
    rw [← hT] at ht ⊢
    clear hT
    have H : Hid (OwnR w lo hi (.slice (some ⟨g, 0, none⟩) n cap) zss) := h
    clear h
    go_enter Try.func52, Try.ntmps52
    go_wp2
    go_loopw [1, 5] (fun q i wr => ∃ (j : Nat) (r : Int), j ≤ n ∧ i = .int .i64 j ∧ q = .int .i64 r ∧ 0 ≤ r ∧ r ≤ 4194304 ∧ Hid (r = k + totR (zss.take j)) ∧ Hid (OwnR wr lo hi (.slice (some ⟨g, 0, none⟩) n cap) (markAtR zss k j)) ∧ Hid (Only lo hi w wr))
      (fun _ i _ => n - (intOf i).toNat)
    case atStart => exact ⟨0, k, Nat.zero_le _, rfl, rfl, hk0, by omega, by simp [Hid, totR], by simpa [Hid, markAtR, marksR] using H.out, Only.refl _ _ _⟩
    case round =>
      obtain ⟨j, r, hj, rfl, rfl, hr0, hr1, HR, HZ, HO⟩ := hrel
      clear H
      by_cases hlt : j < n
      · have hlt' : j < zss.length := by rw [← HN.out]; exact hlt
        have hml := markAtR_length zss k j (by omega)
        obtain ⟨ps, g1, g2, g3, g4, g5⟩ := HZ.out
        rw [hml, ← HN.out] at g1
        obtain ⟨m1, m2, e1, e2, e3, e4, e5, e6⟩ := g5.at j (by rw [hml]; exact hlt')
        rw [markAtR_get hlt'] at e4
        have hcell := ps_get g1 hlt
        have htj : r + tot (lens (zss.getD j [])) ≤ 4194304 := by
          have h1 := totR_take hlt'
          have h2 := totR_le zss (j + 1)
          have h3 := HR.out
          have h5 := HT.out
          omega
        have htz : tot (lens (zss.getD j [])) ≤ 2097152 := by
          have h1 := totR_take hlt'
          have h2 := totR_le zss (j + 1)
          have h5 := HT.out
          omega
        have hrk : r ≤ 2097152 + 2097152 := by omega
        have hr2 : r ≤ 4194304 := hr1
        obtain ⟨pv, HPV⟩ : ∃ pv, Hid (pv = ps.getD j vn) := ⟨_, rfl⟩
        rw [← HPV.out] at hcell e4 e6
        obtain ⟨pa, pn, pc, rfl⟩ := e4.shapeN
        obtain ⟨x, HX⟩ : ∃ x, Hid (x = zss.getD j []) := ⟨_, rfl⟩
        rw [← HX.out] at e4 htj htz
        obtain ⟨m, HM⟩ : ∃ m, Hid (m = tot (lens x)) := ⟨_, rfl⟩
        rw [← HM.out] at htj
        go_wp2_with fail
        refine (markItemS_any _ m1 m2 x r _ hr0 hr1 (by omega) e4).mono ?_
        rintro e w2 ⟨rfl, Z2, O2⟩
        rw [← HM.out]
        have R2 := e6 w2 _ O2 Z2
        have hset : (markAtR zss k j).set j (marksZ r (lens x)) = markAtR zss k (j + 1) := by
          have e := markAtR_set (k := k) hlt'
          rw [← HR.out, ← HX.out] at e
          exact e
        rw [hset] at R2
        have hml2 := markAtR_length zss k (j + 1) (by omega)
        have R : Hid (OwnR w2 lo hi (.slice (some ⟨g, 0, none⟩) n cap) (markAtR zss k (j + 1))) :=
          ⟨ps, by rw [hml2, ← HN.out]; exact ownsRow_only g1 O2 e5, g2, by rw [hml2]; rw [hml] at g3; exact g3, Nat.le_trans g4 O2.size, R2⟩
        have O3 : Hid (Only lo hi w w2) := HO.out.trans (O2.mono e1 e3)
        clear Z2 R2 O2 g1 g2 g3 g4 g5 e4 e5 e6 HZ HO hcell hset htz hml hml2
        go_wp2
        go_roundw
        case rel => exact ⟨j + 1, r + m, by omega, by go_num, rfl, by omega, by omega, by
          have h1 := totR_take hlt'
          have h3 := HR.out
          have h4 := HM.out
          have h5 := HX.out
          rw [h5] at h4
          show r + m = _
          omega, R.out, O3.out⟩
        case measure => simp [intOf]; omega
      · have e : j = n := by omega
        subst e
        go_wp2
        go_ret
        have e1 : zss.take j = zss := by rw [HN.out, List.take_length]
        refine ⟨ret_int ?_, ?_, HO.out⟩
        · rw [HR.out, e1, HT.out]
        · have := HZ.out
          rw [HN.out, markAtR_all, ← HN.out] at this
          exact this
  · have hz : zss = [] := List.length_eq_zero_iff.1 (by omega)
    subst hz
    obtain ⟨a, c, rfl⟩ : ∃ a c, v = .slice a 0 c := by
      obtain ⟨a, c, e⟩ := h.shape
      exact ⟨a, c, e⟩
    go_enter Try.func52, Try.ntmps52
    go_wp2
    refine wp_loop_rounds 1 ?_
    rw [rounds_succ]
    go_wp2
    go_ret
    exact ⟨by simp [totR], h, Only.refl _ _ _⟩

set_option maxHeartbeats 1000000 in
theorem markSpine_any (v : Value) (lo hi : Nat) (zss : Rn) (k : Int) (w : World) (hk0 : 0 ≤ k) (hk : k ≤ 2097152) (ht : totR zss ≤ 2097152) (h : OwnR w lo hi v zss) :
    Calls Try.prog 21 #[.agg #[v], .int .i64 k] w fun e w' => e = .returned (.int .i64 (k + totR zss)) ∧ OwnR w' lo hi v (marksR k zss) ∧ Only lo hi w w' := by
  obtain ⟨a, n, c, rfl⟩ := h.runs.shapeN
  go_enter Try.func21, Try.ntmps21
  go_wp2_with fail
  refine (markItemSS_any _ lo hi zss k _ hk0 hk ht (h.keep' (below_alloc _))).mono ?_
  rintro e w1 ⟨rfl, R1, O1⟩
  have HO : Hid (Only lo hi w w1) := (only_of_below (below_alloc _) (Nat.le_refl _)).trans O1
  clear O1 h
  obtain ⟨t, HT⟩ : ∃ t : Int, Hid (t = k + totR zss) := ⟨_, rfl⟩
  rw [← HT.out]
  go_wp2
  go_ret
  exact ⟨ret_int HT.out, R1, HO.out⟩

set_option maxHeartbeats 4000000 in
theorem heldItemSS_any (v : Value) (zss : Rn) (k : Int) (w : World) (hk0 : 0 ≤ k) (hk : k ≤ 2097152) (ht : totR zss ≤ 2097152) (h : RunsAt w v (marksR k zss)) :
    Calls Try.prog 54 #[v, .int .i64 k] w fun e w' => e = .returned (.int .i64 (k + totR zss)) ∧ w' = w := by
  rcases h.cases with ⟨a, cap, hz, rfl, _⟩ | ⟨b, off, cap, hpos, hlim, _, _, rfl, hbw, hc⟩
  · have hn : zss = [] := List.length_eq_zero_iff.1 (by rw [← marksR_length k zss, hz]; rfl)
    subst hn
    clear h hz
    go_enter Try.func54, Try.ntmps54
    go_wp2
    refine wp_loop_rounds 1 ?_
    rw [rounds_succ]
    go_wp2
    go_ret
    exact ⟨by simp [totR], rfl⟩
  · rw [marksR_length] at hpos hlim hc ⊢
    clear h
    obtain ⟨n, hn⟩ : ∃ n, n = zss.length := ⟨_, rfl⟩
    have HN : Hid (n = zss.length) := hn
    rw [← hn] at hpos hlim hc ⊢
    clear hn
    obtain ⟨T, hT⟩ : ∃ T, T = totR zss := ⟨_, rfl⟩
    have HT : Hid (T = totR zss) := hT
    rw [← hT] at ht ⊢
    clear hT
    go_enter Try.func54, Try.ntmps54
    go_wp2
    go_loop [1, 5] (fun q i => ∃ (j : Nat) (r : Int), j ≤ n ∧ i = .int .i64 j ∧ q = .int .i64 r ∧ 0 ≤ r ∧ r ≤ 4194304 ∧ Hid (r = k + totR (zss.take j))) (fun _ i => n - (intOf i).toNat)
    case atStart => exact ⟨0, k, Nat.zero_le _, rfl, rfl, hk0, by omega, by simp [Hid, totR]⟩
    case round =>
      obtain ⟨j, r, hj, rfl, rfl, hr0, hr1, HR⟩ := hrel
      by_cases hlt : j < n
      · have hlt' : j < zss.length := by rw [← HN.out]; exact hlt
        obtain ⟨rv, hrv, hix⟩ := hc j hlt
        rw [marksR_get k zss j hlt', ← HR.out] at hix
        obtain ⟨x, HX⟩ : ∃ x, Hid (x = zss.getD j []) := ⟨_, rfl⟩
        rw [← HX.out] at hix
        have htj : r + tot (lens x) ≤ 4194304 := by
          have h1 := totR_take hlt'
          have h2 := totR_le zss (j + 1)
          have h3 := HR.out
          have h5 := HT.out
          rw [← HX.out] at h1
          omega
        have htz : tot (lens x) ≤ 2097152 := by
          have h1 := totR_take hlt'
          have h2 := totR_le zss (j + 1)
          have h5 := HT.out
          rw [← HX.out] at h1
          omega
        obtain ⟨m, HM⟩ : ∃ m, Hid (m = tot (lens x)) := ⟨_, rfl⟩
        rw [← HM.out] at htj
        have hneg : ¬ r + (m : Int) < 0 := by omega
        have hsh : ∃ a n c, rv = .slice a n c := by obtain ⟨a, c, e⟩ := hix.shape1; exact ⟨a, _, c, e⟩
        obtain ⟨ra, rn, rc, rfl⟩ := hsh
        clear hc
        go_wp2_with fail
        refine (heldItemS_any _ (lens x) r _ hr0 hr1 (by omega) hix.items).mono ?_
        rintro e w2 ⟨rfl, rfl⟩
        rw [← HM.out]
        clear hix htz
        go_wp2
        go_round
        case rel => exact ⟨j + 1, r + m, by omega, by go_num, rfl, by omega, by omega, by
          have h1 := totR_take hlt'
          have h3 := HR.out
          have h4 := HM.out
          rw [← HX.out] at h1
          show r + m = _
          omega⟩
        case measure => simp [intOf]; omega
      · have e : j = n := by omega
        subst e
        clear hc
        go_wp2
        go_ret
        have e1 : zss.take j = zss := by rw [HN.out, List.take_length]
        exact ⟨ret_int (by rw [HR.out, e1, HT.out]), rfl⟩

set_option maxHeartbeats 1000000 in
theorem heldSpine_any (v : Value) (zss : Rn) (k : Int) (w : World) (hk0 : 0 ≤ k) (hk : k ≤ 2097152) (ht : totR zss ≤ 2097152) (h : RunsAt w v (marksR k zss)) :
    Calls Try.prog 23 #[.agg #[v], .int .i64 k] w fun e w' => e = .returned (.int .i64 (k + totR zss)) ∧ Below w.heap.size w w' := by
  obtain ⟨a, n, c, rfl⟩ := h.shapeN
  go_enter Try.func23, Try.ntmps23
  go_wp2_with fail
  refine (heldItemSS_any _ zss k _ hk0 hk ht (h.below (below_alloc _))).mono ?_
  rintro e w1 ⟨rfl, rfl⟩
  clear h
  obtain ⟨t, HT⟩ : ∃ t : Int, Hid (t = k + totR zss) := ⟨_, rfl⟩
  have htn : ¬ t < 0 := by rw [HT.out]; omega
  rw [← HT.out]
  go_wp2
  go_ret
  exact ⟨ret_int HT.out, below_alloc _⟩

end Go.Proofs.Ytjobidfkhaiiaaa
