/-
  The contract of impl.gather: items of the call's own in any order are put together: what is put one by one into nothing; the answer is of the call's own.
-/
import Derived.Test.YtjaehoehfmklcaaGatherSort
import Derived.Test.YtjaehoehfmklcaaZAdd
import Derived.Deep.RegionHeld
namespace Go.Proofs.Ytjaehoehfmklcaa
set_option maxRecDepth 100000
open Go.RowKit
attribute [local go_sem ↓] Go.wp_at_zero Go.wp_at_succ

theorem clumpR_take {l : List Rw} {k : Nat} (hk : k < l.length) : clumpR (l.take (k + 1)) = stepR (clumpR (l.take k)) (l.getD k (vn, ([], 0))) := by
  rw [List.take_succ_eq_append_getElem hk, clumpR_snoc]
  simp [List.getD, hk]
theorem clumpR_len (l : List Rw) : (clumpR l).length ≤ l.length := by
  have := (clumpR_sub l).length_le
  simpa using this
theorem clump_low {l : List Rw} {C : Int} (hC0 : 0 ≤ C) (h : ∀ x ∈ l, -C ≤ x.2.2 ∧ x.2.2 ≤ C) : ∀ x ∈ clumpR l, -(l.length * C) ≤ x.2.2 ∧ x.2.2 ≤ l.length * C := by
  intro x hx
  have hm : x.2 ∈ clump (its l) := by rw [← its_clumpR]; exact List.mem_map.2 ⟨x, hx, rfl⟩
  have := clump_bound hC0 (its l) [] 0 (by omega) (fun y hy => by simp at hy) (fun p hp => by
    obtain ⟨y, hy, rfl⟩ := List.mem_map.1 hp
    exact h y hy) x.2 hm
  rw [its_length] at this
  simpa using this
theorem stepR_new {acc : List Rw} {x : Rw} (h : ¬ (0 < acc.length ∧ (acc.getD (acc.length - 1) (vn, ([], 0))).2.1 = x.2.1)) : stepR acc x = acc ++ [x] := by unfold stepR; rw [if_neg h]
theorem stepR_same {acc : List Rw} {x : Rw} (h : 0 < acc.length ∧ (acc.getD (acc.length - 1) (vn, ([], 0))).2.1 = x.2.1) : stepR acc x = acc.set (acc.length - 1) ((acc.getD (acc.length - 1) (vn, ([], 0))).1, ((acc.getD (acc.length - 1) (vn, ([], 0))).2.1, (acc.getD (acc.length - 1) (vn, ([], 0))).2.2 + x.2.2)) := by unfold stepR; rw [if_pos h]
theorem prs_setAt (l : List Rw) (k : Nat) (x : Rw) : prs (l.set k x) = (prs l).set k (x.1, x.2.2) := by simp [prs, List.map_set]

set_option maxHeartbeats 8000000 in
theorem gather_any (v : Value) (lo hi : Nat) (zs : List It) (w : World) (h : OwnZ w lo hi v zs) (hlo : lo ≤ hi) (hlen : zs.length ≤ 1048576) (hw : ∀ p ∈ zs, -1099511627776 ≤ p.2 ∧ p.2 ≤ 1099511627776) :
    Calls Try.prog 24 #[v] w fun e w' => ∃ v', e = .returned v' ∧ OwnZ w' lo w'.heap.size v' (addZ [] zs) ∧ Only lo hi w w' := by
  obtain ⟨i0, hi0, hz0, hz1, hz2⟩ := info_parts infoItem
  obtain ⟨l, hl, S, R, AP⟩ := h.opened
  have hll : l.length ≤ 1048576 := by rw [hl, its_length] at hlen; exact hlen
  have hhi : hi ≤ w.heap.size := h.hi_le
  clear h hlen
  go_enter Try.func24, Try.ntmps24
  go_wp2_with fail
  refine (sort_any v lo hi l _ S R (by omega)).mono ?_
  rintro e w1 ⟨rfl, l', hp, ha, S1, R1, O1⟩
  have hn' : l'.length = l.length := hp.length_eq.symm
  have HADD : Hid (its ((clumpR l').filter nzR) = addZ [] zs) := by
    show _ = _
    rw [its_filter, its_clumpR, hl]
    exact clump_add (hp.symm.map _) ha
  have HAP : Hid (Apart ((clumpR l').filter nzR)) := by
    have h1 : Apart (clumpR l') := apart_sub (apart_perm AP hp) (clumpR_sub l')
    exact List.Pairwise.sublist List.filter_sublist h1
  have HR1 : Hid (∀ x ∈ (clumpR l').filter nzR, Own w1 lo hi x.1 x.2.1) := fun x hx => by
    obtain ⟨y, hy, e1, e2⟩ := sub_mem (clumpR_sub l') (List.mem_filter.1 hx).1
    rw [← e1, ← e2]
    exact R1 y hy
  have hri : RowsIn w1 l' := fun x hx => (R1 x hx).ints
  have hlow : ∀ x ∈ l', -1099511627776 ≤ x.2.2 ∧ x.2.2 ≤ 1099511627776 := fun x hx => hw x.2 (by rw [hl]; exact List.mem_map.2 ⟨x, hp.symm.subset hx, rfl⟩)
  have HLOW : Hid (∀ k, ∀ x ∈ clumpR (l'.take k), -4611686018427387904 < x.2.2 - 1099511627776 ∧ x.2.2 + 1099511627776 < 4611686018427387904) := fun k x hx => by
    have h1 := clump_low (C := 1099511627776) (by omega) (fun y hy => hlow y (List.mem_of_mem_take hy)) x hx
    have h2 : (((l'.take k).length : Nat) : Int) ≤ 1048576 := by rw [List.length_take]; omega
    omega
  have hpr := S1.pairs hri.shape
  have hs1 : w.heap.size ≤ w1.heap.size := O1.size
  have HO1 : Hid (Only lo hi w w1) := O1
  clear S R AP hl hw S1 R1 O1 ha hp
  obtain ⟨n, hn⟩ : ∃ n, n = l'.length := ⟨_, rfl⟩
  have HN : Hid (n = l'.length) := hn
  have hnl : n ≤ 1048576 := by omega
  have hclen : ∀ k, (clumpR (l'.take k)).length ≤ 1048576 := fun k => by have := clumpR_len (l'.take k); rw [List.length_take] at this; omega
  obtain ⟨hpl, hps, a, cap, rfl, hna, hpc⟩ := hpr
  rw [prs_length, ← hn] at hpl hpc ⊢
  have HSTART : Hid (Spine w1 w1.heap.size w1.heap.size (.slice none 0 0) (prs (clumpR (l'.take 0)))) := ⟨⟨rfl, .inl ⟨rfl, rfl⟩⟩, fun k hk => by simp [Value.ownBlock] at hk, by simp [clumpR, prs], Nat.le_refl _⟩
  clear hn hn' hll hps hna
  go_wp2
  go_loopw [3, 11] (fun s i wr => ∃ (k : Nat), k ≤ n ∧ i = .int .i64 k ∧ Hid (Spine wr w1.heap.size wr.heap.size s (prs (clumpR (l'.take k)))) ∧ Hid (Below w1.heap.size w1 wr)) (fun _ i _ => n - (intOf i).toNat)
  case atStart => exact ⟨0, Nat.zero_le _, rfl, HSTART.out, Below.refl _ _⟩
  case round =>
    obtain ⟨k, hk, rfl, HS, HW⟩ := hrel
    clear HSTART
    by_cases hlt : k < n
    · have hlt' : k < l'.length := by rw [← HN.out]; exact hlt
      have HB := HW.out
      obtain ⟨b, off, rfl, hbw, hcell⟩ := hpc (by intro e; have h5 := prs_length l'; rw [e] at h5; simp at h5; omega)
      obtain ⟨c0, c1⟩ := hcell k hlt
      rw [prs_getD hlt'] at c0 c1
      have hix0 := hri (l'.getD k (vn, ([], 0))) (by simp [List.getD, hlt'])
      have hyw := hlow (l'.getD k (vn, ([], 0))) (by simp [List.getD, hlt'])
      have HT : Hid (clumpR (l'.take (k + 1)) = stepR (clumpR (l'.take k)) (l'.getD k (vn, ([], 0)))) := clumpR_take hlt'
      have HLK : Hid _ := HLOW.out k
      have hck := hclen k
      obtain ⟨x0, HX0⟩ : ∃ x0, Hid (x0 = l'.getD k (vn, ([], 0))) := ⟨_, rfl⟩
      rw [← HX0.out] at c0 c1 hix0 hyw HT
      obtain ⟨xv, x, y⟩ := x0
      simp only at c0 c1 hix0 hyw HT
      have g0 := (HB.cell (p := ⟨b, off + k * 2, none⟩) hbw).trans c0
      have g1 := (HB.cell (p := ⟨b, off + k * 2 + 1, none⟩) hbw).trans c1
      have hix := hix0.below HB
      have hbr : b < wr.heap.size := Nat.lt_of_lt_of_le hbw HB.size
      obtain ⟨xa, xn, xc, rfl⟩ := hix.shape
      have hsw := HB.size
      clear c0 c1 hix0 hcell hpc
      obtain ⟨acc, HACC⟩ : ∃ acc, Hid (acc = clumpR (l'.take k)) := ⟨_, rfl⟩
      rw [← HACC.out] at HS HT HLK hck
      by_cases hacc : acc = []
      · subst hacc
        have HTT : Hid (clumpR (l'.take (k + 1)) = [(.slice xa xn xc, (x, y))]) := by
          show _ = _
          rw [HT.out, stepR_new (by simp)]
          rfl
        have hsh : ∃ sa sc, u3 = .slice sa 0 sc := by
          rcases HS.out.1.2 with ⟨rfl, _⟩ | ⟨_, _, _, rfl, _⟩
          · exact ⟨_, _, rfl⟩
          · exact ⟨_, _, rfl⟩
        obtain ⟨sa, sc, rfl⟩ := hsh
        obtain ⟨wa, hwa⟩ : ∃ wa, wa = wr.alloc (.cells #[.slice xa xn xc, .int .i64 y] 31) := ⟨_, rfl⟩
        have hba : Below wr.heap.size wr wa := by rw [hwa]; exact below_alloc _
        have t0 : wa.cell? ⟨wr.heap.size, 0, none⟩ = some (.slice xa xn xc) := by rw [hwa]; simp [go_sem]
        have t1 : wa.cell? ⟨wr.heap.size, 1, none⟩ = some (.int .i64 y) := by rw [hwa]; simp [go_sem]
        have S2 : Spine wa.drew w1.heap.size wr.heap.size (.slice sa 0 sc) (prs []) := (HS.out.keep' hba).keep' (Below.drew (Below.refl _ _))
        obtain ⟨hspW, hprW, hfin⟩ := merge_ready (xv := .slice xa xn xc) y S2 ⟨_, _, _, rfl⟩ (by (show _ ≤ wa.heap.size); have := hba.size; omega) (by simp)
        have HBA : Hid (Below w1.heap.size w1 wa.drew) := (HB.trans (hba.mono hsw)).drew
        have hwas : wr.heap.size ≤ wa.heap.size := hba.size
        have hp0 : (prs ([] : List Rw)).length = 0 := rfl
        clear HS HW HB HT HLK hba hri hlow hix
        go_wp2
        rw [← hwa]
        clear hwa
        refine wp_region_held_drew (S := (fun _ => True)) (by kernel_rfl) ?_ (fun hHeld => ?_)
        · (try dsimp only); all_goals trivial
        refine wpAnyH_take (i := 0) (v := ?_) rfl (by kernel_rfl) (by kernel_rfl) (by kernel_rfl) (fun _ _ _ h => h) (Or.inl ⟨by rfl, ?_⟩) (by assumption) ?_
        rotate_left 1
        · intro w hSw; (try dsimp only at hSw); go_simp; try with_reducible rfl
        simp only [Act.put, List.getElem_toArray, List.getElem_cons_zero, List.setIfInBounds_toArray, List.set_cons_zero, List.set_cons_succ]
        refine wpAnyH_take (i := 1) (v := ?_) rfl (by kernel_rfl) (by kernel_rfl) (by kernel_rfl) (fun _ _ _ h => h) (Or.inl ⟨by rfl, ?_⟩) (by assumption) ?_
        rotate_left 1
        · intro w hSw; (try dsimp only at hSw); go_simp; try with_reducible rfl
        simp only [Act.put, List.getElem_toArray, List.getElem_cons_succ, List.getElem_cons_zero, List.setIfInBounds_toArray, List.set_cons_zero, List.set_cons_succ]
        refine wpAnyH_take (i := 2) (v := ?_) rfl (by kernel_rfl) (by kernel_rfl) (by kernel_rfl) (fun _ _ _ h => h) (Or.inl ⟨by rfl, ?_⟩) (by assumption) ?_
        rotate_left 1
        · intro w hSw; (try dsimp only at hSw); go_simp; try with_reducible rfl
        simp only [Act.put, List.getElem_toArray, List.getElem_cons_succ, List.getElem_cons_zero, List.setIfInBounds_toArray, List.set_cons_zero, List.set_cons_succ]
        refine wpAnyH_take (i := 3) (v := undef) rfl (by kernel_rfl) (by kernel_rfl) (by kernel_rfl) (fun _ _ _ h => h) (Or.inr ⟨by rfl, rfl⟩) (by assumption) ?_
        simp only [Act.put, List.getElem_toArray, List.getElem_cons_succ, List.getElem_cons_zero, List.setIfInBounds_toArray, List.set_cons_zero, List.set_cons_succ]
        refine wpAnyH_take (i := 4) (v := undef) rfl (by kernel_rfl) (by kernel_rfl) (by kernel_rfl) (fun _ _ _ h => h) (Or.inr ⟨by rfl, rfl⟩) (by assumption) ?_
        simp only [Act.put, List.getElem_toArray, List.getElem_cons_succ, List.getElem_cons_zero, List.setIfInBounds_toArray, List.set_cons_zero, List.set_cons_succ]
        refine wpAnyH_take (i := 5) (v := undef) rfl (by kernel_rfl) (by kernel_rfl) (by kernel_rfl) (fun _ _ _ h => h) (Or.inr ⟨by rfl, rfl⟩) (by assumption) ?_
        simp only [Act.put, List.getElem_toArray, List.getElem_cons_succ, List.getElem_cons_zero, List.setIfInBounds_toArray, List.set_cons_zero, List.set_cons_succ]
        refine wpAnyH_take (i := 6) (v := undef) rfl (by kernel_rfl) (by kernel_rfl) (by kernel_rfl) (fun _ _ _ h => h) (Or.inr ⟨by rfl, rfl⟩) (by assumption) ?_
        simp only [Act.put, List.getElem_toArray, List.getElem_cons_succ, List.getElem_cons_zero, List.setIfInBounds_toArray, List.set_cons_zero, List.set_cons_succ]
        refine wpAnyH_take (i := 7) (v := undef) rfl (by kernel_rfl) (by kernel_rfl) (by kernel_rfl) (fun _ _ _ h => h) (Or.inr ⟨by rfl, rfl⟩) (by assumption) ?_
        simp only [Act.put, List.getElem_toArray, List.getElem_cons_succ, List.getElem_cons_zero, List.setIfInBounds_toArray, List.set_cons_zero, List.set_cons_succ]
        refine wpAnyH_take (i := 8) (v := undef) rfl (by kernel_rfl) (by kernel_rfl) (by kernel_rfl) (fun _ _ _ h => h) (Or.inr ⟨by rfl, rfl⟩) (by assumption) ?_
        simp only [Act.put, List.getElem_toArray, List.getElem_cons_succ, List.getElem_cons_zero, List.setIfInBounds_toArray, List.set_cons_zero, List.set_cons_succ]
        refine wpAnyH_take (i := 9) (v := undef) rfl (by kernel_rfl) (by kernel_rfl) (by kernel_rfl) (fun _ _ _ h => h) (Or.inr ⟨by rfl, rfl⟩) (by assumption) ?_
        simp only [Act.put, List.getElem_toArray, List.getElem_cons_succ, List.getElem_cons_zero, List.setIfInBounds_toArray, List.set_cons_zero, List.set_cons_succ]
        refine wpAnyH_take (i := 10) (v := undef) rfl (by kernel_rfl) (by kernel_rfl) (by kernel_rfl) (fun _ _ _ h => h) (Or.inr ⟨by rfl, rfl⟩) (by assumption) ?_
        simp only [Act.put, List.getElem_toArray, List.getElem_cons_succ, List.getElem_cons_zero, List.setIfInBounds_toArray, List.set_cons_zero, List.set_cons_succ]
        refine wpAnyH_take (i := 11) (v := ?_) rfl (by kernel_rfl) (by kernel_rfl) (by kernel_rfl) (fun _ _ _ h => h) (Or.inl ⟨by rfl, ?_⟩) (by assumption) ?_
        rotate_left 1
        · intro w hSw; (try dsimp only at hSw); go_simp; try with_reducible rfl
        simp only [Act.put, List.getElem_toArray, List.getElem_cons_succ, List.getElem_cons_zero, List.setIfInBounds_toArray, List.set_cons_zero, List.set_cons_succ]
        refine wpAnyH_done (by kernel_rfl) ?_ _
        go_wp2_with (at_builtin; (refine wpList_append_pairs rfl _ _ 23 rfl w1.heap.size 31 i0 Try.underlying23 hi0 hz0 hz1 hz2 (.slice sa 0 sc) (prs []) rfl hspW _ _ rfl hprW (by simp; omega) (by simp; omega) ?_; intro v3 w3 hown3 hg3 _))
        obtain ⟨S3, B3⟩ := hfin v3 w3 x hown3 hg3
        have HS3 : Hid (Spine w3 w1.heap.size w3.heap.size v3 (prs [(.slice xa xn xc, (x, y))])) := S3
        have HK : Hid (Below w1.heap.size w1 w3) := HBA.out.trans B3
        clear hfin hown3 hg3 hspW hprW B3 HBA S3 S2
        go_wp2
        go_roundw
        case rel => exact ⟨k + 1, by omega, by go_num, by show Spine _ _ _ _ _; rw [HTT.out]; exact HS3.out, HK.out⟩
        case measure => simp [intOf]; omega
      · obtain ⟨m, hm⟩ : ∃ m, acc.length = m + 1 := ⟨acc.length - 1, by have := List.length_pos_iff.2 hacc; omega⟩
        have hml : m < acc.length := by omega
        obtain ⟨gs, sc, hu3, hgs1, hgs2, hgc, hgm⟩ := HS.out.shape (by rw [prs_length]; omega)
        rw [prs_length, hm] at hu3 hgc
        subst hu3
        have hqi0 : IntsAt wr (acc.getD m (vn, ([], 0))).1 (acc.getD m (vn, ([], 0))).2.1 := by
          obtain ⟨z, hz, e1, e2⟩ := sub_mem (by rw [HACC.out]; exact clumpR_sub (l'.take k)) (show acc.getD m (vn, ([], 0)) ∈ acc by simp [List.getD, hml])
          rw [← e1, ← e2]
          exact (hri z (List.mem_of_mem_take hz)).below HB
        have hqw := HLK.out (acc.getD m (vn, ([], 0))) (by simp [List.getD, hml])
        have c0 := HS.out.cell0 (j := m) (by rw [prs_length]; exact hml)
        have c1 := HS.out.cell1 (j := m) (by rw [prs_length]; exact hml)
        rw [prs_getD hml] at c0 c1
        have hnew : ¬ (acc.getD m (vn, ([], 0))).2.1 = x → stepR acc (.slice xa xn xc, (x, y)) = acc ++ [(.slice xa xn xc, (x, y))] := fun hne => stepR_new (fun hc => hne (by have := hc.2; rw [hm] at this; exact this))
        have hold : (acc.getD m (vn, ([], 0))).2.1 = x → stepR acc (.slice xa xn xc, (x, y)) = acc.set m ((acc.getD m (vn, ([], 0))).1, ((acc.getD m (vn, ([], 0))).2.1, (acc.getD m (vn, ([], 0))).2.2 + y)) := fun he => by
          have := stepR_same (acc := acc) (x := (.slice xa xn xc, (x, y))) ⟨by omega, by rw [hm]; exact he⟩
          rw [hm] at this
          exact this
        obtain ⟨q, HQ⟩ : ∃ q, Hid (q = acc.getD m (vn, ([], 0))) := ⟨_, rfl⟩
        rw [← HQ.out] at hqi0 hqw c0 c1 hnew hold
        obtain ⟨qv, qx, qy⟩ := q
        simp only at hqi0 hqw c0 c1 hnew hold
        obtain ⟨qa, qn, qc, rfl⟩ := hqi0.shape
        obtain ⟨wa, hwa⟩ : ∃ wa, wa = wr.alloc (.cells #[.slice xa xn xc, .int .i64 y] 31) := ⟨_, rfl⟩
        have hba : Below wr.heap.size wr wa := by rw [hwa]; exact below_alloc _
        have hbl : wr.heap.size < wa.heap.size := by rw [hwa]; simp
        have hgl : gs < wa.heap.size := by omega
        have t0 : wa.cell? ⟨wr.heap.size, 0, none⟩ = some (.slice xa xn xc) := by rw [hwa]; simp [go_sem]
        have t1 : wa.cell? ⟨wr.heap.size, 1, none⟩ = some (.int .i64 y) := by rw [hwa]; simp [go_sem]
        have r0 := cell_is (p := ⟨gs, m * 2, none⟩) hba hgs2 c0
        have r1 := cell_is (p := ⟨gs, m * 2 + 1, none⟩) hba hgs2 c1
        have hxd : IntsAt wa.drew (.slice xa xn xc) x := (hix.below hba).below (Below.drew (Below.refl _ _))
        have hqd : IntsAt wa.drew (.slice qa qn qc) qx := (hqi0.below hba).below (Below.drew (Below.refl _ _))
        have SA : Spine wa w1.heap.size wr.heap.size (.slice (some ⟨gs, 0, none⟩) (m + 1) sc) (prs acc) := HS.out.keep' hba
        have HBA : Hid (Below w1.heap.size w1 wa) := HB.trans (hba.mono hsw)
        have hlast : ((m + 1 : Nat) : Int) - 1 = (m : Int) := by omega
        have hge : (0 : Int) ≤ (m : Int) := by omega
        have hm1 : m < m + 1 := by omega
        clear HS HW HB HLK hba hri hlow hix hqi0 c0 c1
        obtain ⟨sm, HSM⟩ : ∃ sm, Hid (sm = rowSameB qx x) := ⟨_, rfl⟩
        go_wp2
        rw [← hwa]
        clear hwa
        go_region_held (fun w' => w'.cell? ⟨gs, m * 2, none⟩ = some (.slice qa qn qc) ∧ w'.cell? ⟨wr.heap.size, 0, none⟩ = some (.slice xa xn xc)) (go_keep)
          ((go_at_call 50; refine (implRowSame_any _ _ qx x _ hqd hxd).mono ?_; rw [← HSM.out]; rintro e w2 ⟨rfl, hb2⟩; have q0 := cell_is (p := ⟨gs, m * 2, none⟩) hb2 hgl r0; have q1 := cell_is (p := ⟨wr.heap.size, 0, none⟩) hb2 hbl t0))
        all_goals
          have hk2 : Below wa.heap.size wa w2 := (Below.drew (Below.refl _ wa)).trans hb2
          have t1' := cell_is (p := ⟨wr.heap.size, 1, none⟩) hk2 hbl t1
          have r1' := cell_is (p := ⟨gs, m * 2 + 1, none⟩) hk2 hgl r1
          have S2 : Spine w2 w1.heap.size wr.heap.size (.slice (some ⟨gs, 0, none⟩) (m + 1) sc) (prs acc) := SA.keep' hk2
          have HB2 : Hid (Below w1.heap.size w1 w2) := HBA.out.trans (hk2.mono (by omega))
          have hs2 := hk2.size
          clear hb2 hxd hqd SA HBA t0 t1 r0 r1
          cases hsm : sm with
          | false =>
            have HTT : Hid (clumpR (l'.take (k + 1)) = acc ++ [(.slice xa xn xc, (x, y))]) := by
              show _ = _
              rw [HT.out]
              refine hnew (fun e => ?_)
              have h1 := HSM.out
              rw [hsm, same_of e] at h1
              cases h1
            subst hsm
            obtain ⟨hspW, hprW, hfin⟩ := merge_ready (xv := .slice xa xn xc) y S2 ⟨_, _, _, rfl⟩ (by omega) (by omega)
            have hpa : (prs acc).length ≤ 1048576 := by rw [prs_length]; exact hck
            clear hnew hold HT S2 r1' HSM
            go_wp2_with (at_builtin; (refine wpList_append_pairs rfl _ _ 23 rfl w1.heap.size 31 i0 Try.underlying23 hi0 hz0 hz1 hz2 (.slice (some ⟨gs, 0, none⟩) (m + 1) sc) (prs acc) rfl hspW _ _ rfl hprW (by simp; omega) (by simp; omega) ?_; intro v3 w3 hown3 hg3 _))
            obtain ⟨S3, B3⟩ := hfin v3 w3 x hown3 hg3
            have HS3 : Hid (Spine w3 w1.heap.size w3.heap.size v3 (prs (acc ++ [(.slice xa xn xc, (x, y))]))) := S3
            have HK : Hid (Below w1.heap.size w1 w3) := HB2.out.trans B3
            clear hfin hown3 hg3 hspW hprW B3 HB2 S3
            go_wp2
            go_roundw
            case rel => exact ⟨k + 1, by omega, by go_num, by show Spine _ _ _ _ _; rw [HTT.out]; exact HS3.out, HK.out⟩
            case measure => simp [intOf]; omega
          | true =>
            have HTT : Hid (clumpR (l'.take (k + 1)) = acc.set m (.slice qa qn qc, (qx, qy + y))) := by
              show _ = _
              rw [HT.out]
              refine hold ?_
              have h1 := HSM.out
              rw [hsm] at h1
              rw [same_iff] at h1
              exact of_decide_eq_true h1.symm
            subst hsm
            have st := S2.stored1 (j := m) (by rw [prs_length]; exact hml) (qy + y)
            rw [prs_getD hml, ← HQ.out] at st
            have HS3 : Hid (Spine (w2.setCell ⟨gs, m * 2 + 1, none⟩ (.int .i64 (qy + y))) w1.heap.size wr.heap.size (.slice (some ⟨gs, 0, none⟩) (m + 1) sc) (prs (acc.set m (.slice qa qn qc, (qx, qy + y))))) := by
              show Spine _ _ _ _ _
              rw [prs_setAt]
              exact st.1
            have HK : Hid (Below w1.heap.size w1 (w2.setCell ⟨gs, m * 2 + 1, none⟩ (.int .i64 (qy + y)))) := HB2.out.setCell (p := ⟨gs, m * 2 + 1, none⟩) hgs1 _
            have hfz := S2.frozenAt (m * 2 + 1)
            have hsz3 : wr.heap.size ≤ (w2.setCell ⟨gs, m * 2 + 1, none⟩ (.int .i64 (qy + y))).heap.size := by simp; omega
            have hsum : -9223372036854775808 ≤ qy + y ∧ qy + y ≤ 9223372036854775807 := by omega
            clear hnew hold HT S2 HSM st HB2
            go_wp2
            go_region_law (fail)
            all_goals
              go_wp2
              go_roundw
              case rel => exact ⟨k + 1, by omega, by go_num, by show Spine _ _ _ _ _; rw [HTT.out]; exact (HS3.out.keep' (Below.drew (Below.refl _ _))).wide (Nat.le_refl _) hsz3 (Nat.le_refl _), HK.out.drew⟩
              case measure => simp [intOf]; omega
    · have e : k = n := by omega
      subst e
      have SE := HS.out
      have hBE := HW.out
      have HRE : Hid (∀ x ∈ (clumpR l').filter nzR, Own wr lo hi x.1 x.2.1) := fun x hx => (HR1.out x hx).keep (hBE.mono (by omega))
      rw [HN.out, List.take_length] at SE
      have hsh : ∀ p ∈ prs (clumpR l'), ∃ a n c, p.1 = Value.slice a n c := fun p hp => by
        obtain ⟨z, hz, rfl⟩ := List.mem_map.1 hp
        obtain ⟨z', hz', e1, _⟩ := sub_mem (clumpR_sub l') hz
        have := (hri z' hz').shape
        rw [e1] at this
        exact this
      have hle : (clumpR l').length ≤ 2097152 := by have := clumpR_len l'; rw [← HN.out] at this; omega
      have hsw := hBE.size
      clear hpc hri hlow HS HW hclen
      go_wp2_with fail
      refine (deleteFunc_own _ _ _ (clumpR l') _ SE hsh hle).mono ?_
      rintro e w2 ⟨v2, rfl, -, S2, O2⟩
      have S3 : Spine w2 lo w2.heap.size v2 (prs ((clumpR l').filter nzR)) := S2.wide (by omega) (by have := O2.size; omega) (Nat.le_refl _)
      have R3 : ∀ x ∈ (clumpR l').filter nzR, Own w2 lo w2.heap.size x.1 x.2.1 := fun x hx => ((HRE.out x hx).only O2 (.inl (by omega))).wide (Nat.le_refl _) (by have := O2.size; omega) (Nat.le_refl _)
      have HZ : Hid (OwnZ w2 lo w2.heap.size v2 (addZ [] zs)) := by
        show OwnZ _ _ _ _ _
        rw [← HADD.out]
        exact OwnZ.closed S3 R3 HAP.out
      have HK : Hid (Only lo hi w w2) := ⟨O2.os.trans (hBE.os.trans HO1.out.os), O2.tape.trans (hBE.tape.trans HO1.out.tape), O2.output.trans (hBE.output.trans HO1.out.output), by have := O2.size; omega, fun i hi' hr => (O2.block i (by omega) (.inl (by omega))).trans ((hBE.block i (by omega)).trans (HO1.out.block i hi' hr))⟩
      clear S2 S3 R3 O2 SE hsh
      go_wp2
      go_ret
      exact ⟨_, rfl, HZ.out, HK.out⟩

end Go.Proofs.Ytjaehoehfmklcaa
