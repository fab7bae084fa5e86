/-
  The contract of spec.l5Join: for each row of the one and each row of the other that have the same in a cell each, both put into a list; false at two rows of which one has no such place.
-/
import Derived.Test.YtjaehoehfmklcaaJoinMath
import Derived.Test.YtjaehoehfmklcaaPutWalk
import Derived.Test.YtjaehoehfmklcaaAddSpec
import Derived.Test.YtjaehoehfmklcaaJoin
import Derived.Deep.RegionHeld
namespace Go.Proofs.Ytjaehoehfmklcaa
set_option maxRecDepth 100000
open Go.RowKit
attribute [local go_sem ↓] Go.wp_at_zero Go.wp_at_succ

theorem row_at' {w : World} {v : Value} {xs : List Int} (h : IntsAt w v xs) {j : Nat} (hj : j < xs.length) : ∃ b off cap, v = .slice (some ⟨b, off, none⟩) xs.length cap ∧ b < w.heap.size ∧ w.cell? ⟨b, off + j, none⟩ = some (.int .i64 (xs.getD j 0)) := by
  obtain ⟨_, a, cap, rfl, _, hc⟩ := h
  obtain ⟨b, off, rfl, hb, hcell⟩ := hc (fun e => by rw [e] at hj; simp at hj)
  exact ⟨b, off, cap, rfl, hb, hcell j hj⟩
/-- Each two rows have their places. -/
def bothHave (a b : List It) (x y : Nat) : Bool := a.all fun p => b.all fun q => decide (x < p.1.length ∧ y < q.1.length)
theorem both_no {a b : List It} {x y i k : Nat} (hi : i < a.length) (hk : k < b.length) (h : ¬ (x < (a.getD i ([], 0)).1.length ∧ y < (b.getD k ([], 0)).1.length)) : bothHave a b x y = false := by
  unfold bothHave
  rw [List.all_eq_false]
  refine ⟨a.getD i ([], 0), by simp [List.getD, hi], ?_⟩
  rw [Bool.not_eq_true, List.all_eq_false]
  exact ⟨b.getD k ([], 0), by simp [List.getD, hk], by simpa using h⟩
theorem both_yes {a b : List It} {x y : Nat} (h : ∀ i, i < a.length → ∀ k, k < b.length → x < (a.getD i ([], 0)).1.length ∧ y < (b.getD k ([], 0)).1.length) : bothHave a b x y = true := by
  unfold bothHave
  rw [List.all_eq_true]
  intro p hp
  rw [List.all_eq_true]
  intro q hq
  obtain ⟨i, hi, e1⟩ := mem_getD (d := ([], 0)) hp
  obtain ⟨k, hk, e2⟩ := mem_getD (d := ([], 0)) hq
  rw [← e1, ← e2]
  simpa using h i hi k hk

set_option maxHeartbeats 16000000 in
theorem l5Join_some (v u : Value) (a b : List It) (x y : Nat) (w : World) (h : ItemsAt w v a) (h2 : ItemsAt w u b) (hpa : 0 < a.length) (hpb : 0 < b.length) (ha : a.length ≤ 100) (hb : b.length ≤ 100)
    (hla : ∀ p ∈ a, p.1.length ≤ 6 ∧ -10000 ≤ p.2 ∧ p.2 ≤ 10000) (hlb : ∀ p ∈ b, p.1.length ≤ 6 ∧ -10000 ≤ p.2 ∧ p.2 ≤ 10000) (hin : ∀ z ∈ joinZ a b x y, -100000000 ≤ z.2 ∧ z.2 ≤ 100000000) :
    Calls Try.prog 28 #[v, u, .int .i64 x, .int .i64 y] w fun e w' => ∃ v', e = .returned (.tuple #[v', .bool (bothHave a b x y)]) ∧ (bothHave a b x y = true → OwnZ w' w.heap.size w'.heap.size v' (addZ [] (joinZ a b x y))) ∧ Below w.heap.size w w' := by
  rcases h.cases with ⟨aa, ac, rfl, rfl⟩ | ⟨ab, aoff, ac, _, _, rfl, habw, hca⟩
  · simp at hpa
  rcases h2.cases with ⟨ba, bc, rfl, rfl⟩ | ⟨bb, boff, bc, _, _, rfl, hbbw, hcb⟩
  · simp at hpb
  obtain ⟨n, hn⟩ : ∃ n, n = a.length := ⟨_, rfl⟩
  obtain ⟨m, hm⟩ : ∃ m, m = b.length := ⟨_, rfl⟩
  rw [← hn] at hpa ha hca ⊢
  rw [← hm] at hpb hb hcb ⊢
  have HN : Hid (n = a.length) := hn
  have HM : Hid (m = b.length) := hm
  have hsum : ∀ L : List It, (∀ z ∈ L, -100000000 ≤ z.2 ∧ z.2 ≤ 100000000) → L.length ≤ 20000 → ∀ j, j < (addZ [] L).length → -4611686018427387904 ≤ ((addZ [] L).getD j ([], 0)).2 ∧ ((addZ [] L).getD j ([], 0)).2 ≤ 4611686018427387903 := fun L hL hl j hj => by
    have h1 := add_bound (B := 0) (C := 100000000) (by omega) (by omega) L (a := []) (k := 0) (by omega) (fun p hp => by simp at hp) hL _ (getZ_mem hj)
    have h2 : ((L.length : Nat) : Int) ≤ 20000 := by omega
    omega
  have HSUM : Hid _ := hsum
  clear hn hm h h2 hsum
  go_enter Try.func28, Try.ntmps28
  go_wp2
  go_loopw [10, 11] (fun s t wr => ∃ (i : Nat), i ≤ n ∧ t = .int .i64 i ∧ Hid (OwnZ wr w.heap.size wr.heap.size s (addZ [] (joinZ (a.take i) b x y))) ∧ Hid (Below w.heap.size w wr) ∧ Hid (∀ i', i' < i → ∀ k, k < m → x < (a.getD i' ([], 0)).1.length ∧ y < (b.getD k ([], 0)).1.length)) (fun _ t _ => n - (intOf t).toNat)
  case atStart => exact ⟨0, Nat.zero_le _, rfl, lit_ownZ w, below_alloc _, fun i' hi' => by omega⟩
  case round =>
    obtain ⟨i, hi, rfl, HZ, HW, HALL⟩ := hrel
    by_cases hlti : i < n
    · have hia : i < a.length := by rw [← HN.out]; exact hlti
      obtain ⟨pv, c0, c1, hpi⟩ := hca i hlti
      have hpin := hla _ (getZ_mem hia)
      have HT : Hid _ := joinZ_take (a := a) b x y hia
      have hno := fun k => both_no (a := a) (b := b) (x := x) (y := y) (i := i) (k := k) hia
      obtain ⟨p, HP⟩ : ∃ p, Hid (p = a.getD i ([], 0)) := ⟨_, rfl⟩
      rw [← HP.out] at c1 hpi hpin HT hno
      obtain ⟨px, pw⟩ := p
      simp only at c1 hpi hpin HT hno
      obtain ⟨pa, pn, pc, rfl⟩ := hpi.shape
      have HPN : Hid (pn = px.length) := by obtain ⟨_, _, _, e, _⟩ := hpi; simp at e; exact e.2.1
      have HPI : Hid (IntsAt w (.slice pa pn pc) px) := hpi
      obtain ⟨cx, HCX⟩ : ∃ cx, Hid (cx = px.getD x 0) := ⟨_, rfl⟩
      rw [← HCX.out] at HT
      have HZ0 : Hid (OwnZ wr w.heap.size wr.heap.size u10 (addZ [] (joinZ (a.take i) b x y ++ withZ (px, pw) (meetZ (b.take 0) y cx)))) := by
        have := HZ.out
        simpa [withZ, meetZ, Hid] using this
      have HW0 := HW
      clear hpi HZ HW
      go_wp2
      go_loopw [10, 12] (fun s t wr => ∃ (k : Nat), k ≤ m ∧ t = .int .i64 k ∧ Hid (OwnZ wr w.heap.size wr.heap.size s (addZ [] (joinZ (a.take i) b x y ++ withZ (px, pw) (meetZ (b.take k) y cx)))) ∧ Hid (Below w.heap.size w wr) ∧ Hid (∀ k', k' < k → x < px.length ∧ y < (b.getD k' ([], 0)).1.length)) (fun _ t _ => m - (intOf t).toNat)
      case atStart => exact ⟨0, Nat.zero_le _, rfl, HZ0.out, HW0.out, fun k' hk' => by omega⟩
      case round =>
        obtain ⟨k, hk, rfl, HZ, HW, HA⟩ := hrel
        clear HZ0 HW0
        by_cases hltk : k < m
        · have hkb : k < b.length := by rw [← HM.out]; exact hltk
          have hbq := HW.out
          obtain ⟨qv, d0, d1, hqi0⟩ := hcb k hltk
          have hqin := hlb _ (getZ_mem hkb)
          have HTM : Hid _ := meetZ_take (b := b) y cx hkb
          have hnok := hno k hkb
          obtain ⟨q, HQ⟩ : ∃ q, Hid (q = b.getD k ([], 0)) := ⟨_, rfl⟩
          rw [← HQ.out] at d1 hqi0 hqin HTM hnok
          obtain ⟨qx, qw⟩ := q
          simp only at d1 hqi0 hqin HTM hnok
          obtain ⟨qa, qn, qc, rfl⟩ := hqi0.shape
          have hqn : qn = qx.length := by obtain ⟨_, _, _, e, _⟩ := hqi0; simp at e; exact e.2.1
          have g0 := (hbq.cell (p := ⟨ab, aoff + i * 2, none⟩) habw).trans c0
          have g1 := (hbq.cell (p := ⟨bb, boff + k * 2, none⟩) hbbw).trans d0
          have habr : ab < wr.heap.size := Nat.lt_of_lt_of_le habw hbq.size
          have hbbr : bb < wr.heap.size := Nat.lt_of_lt_of_le hbbw hbq.size
          by_cases hxx : x < pn
          · by_cases hyy : y < qn
            · have hxp : x < px.length := by rw [← HPN.out]; exact hxx
              have hyq : y < qx.length := by rw [← hqn]; exact hyy
              obtain ⟨ra, roa, rca, e1, hraw, hcx0⟩ := row_at' HPI.out hxp
              obtain ⟨rb, rob, rcb, e2, hrbw, hcy0⟩ := row_at' hqi0 hyq
              simp only [Value.slice.injEq] at e1 e2
              obtain ⟨rfl, rfl, rfl⟩ := e1
              obtain ⟨rfl, rfl, rfl⟩ := e2
              rw [← HCX.out] at hcx0
              obtain ⟨cy, HCY⟩ : ∃ cy, Hid (cy = qx.getD y 0) := ⟨_, rfl⟩
              rw [← HCY.out] at hcy0 HTM
              have hcx := (hbq.cell (p := ⟨ra, roa + x, none⟩) hraw).trans hcx0
              have hcy := (hbq.cell (p := ⟨rb, rob + y, none⟩) hrbw).trans hcy0
              have Y0 : wr.cell? ⟨ab, aoff + i * 2, none⟩ = some (.slice (some ⟨ra, roa, none⟩) px.length pc) ∧ wr.cell? ⟨bb, boff + k * 2, none⟩ = some (.slice (some ⟨rb, rob, none⟩) qx.length qc) ∧ wr.cell? ⟨ra, roa + x, none⟩ = some (.int .i64 cx) ∧ wr.cell? ⟨rb, rob + y, none⟩ = some (.int .i64 cy) := ⟨g0, g1, hcx, hcy⟩
              have HA2 : Hid (∀ k', k' < k + 1 → x < px.length ∧ y < (b.getD k' ([], 0)).1.length) := fun k' hk' => by
                rcases Nat.lt_succ_iff_lt_or_eq.1 hk' with h | h
                · exact HA.out k' h
                · rw [h, ← HQ.out]; exact ⟨hxp, hyq⟩
              have hxge : ¬ ((x : Int) ≥ (px.length : Int)) := by omega
              have hyge : ¬ ((y : Int) ≥ (qx.length : Int)) := by omega
              have HWD : Hid (Below w.heap.size w wr.drew.drew) := hbq.drew.drew
              have hwd : w.heap.size ≤ wr.drew.drew.heap.size := hbq.size
              have i1 : IntsAt wr.drew.drew (.slice (some ⟨ra, roa, none⟩) px.length pc) px := HPI.out.below HWD.out
              have i2 : IntsAt wr.drew.drew (.slice (some ⟨rb, rob, none⟩) qx.length qc) qx := hqi0.below HWD.out
              have hjn : px.length + qx.length ≤ 8796093022208 := by omega
              have hjl : (joinZ (a.take i) b x y ++ withZ (px, pw) (meetZ (b.take k) y cx)).length ≤ 10100 := by
                have h5 := joinZ_len b x y (a.take i)
                have h6 : (a.take i).length * b.length ≤ 100 * 100 := Nat.mul_le_mul (by rw [List.length_take]; omega) (by rw [← HM.out]; omega)
                have h7 := meetZ_len (b.take k) y cx
                rw [List.length_append, withZ_len]
                rw [List.length_take] at h7
                omega
              by_cases hc : cx = cy
              · have HTT : Hid (joinZ (a.take i) b x y ++ withZ (px, pw) (meetZ (b.take (k + 1)) y cx) = (joinZ (a.take i) b x y ++ withZ (px, pw) (meetZ (b.take k) y cx)) ++ [(px ++ qx, pw * qw)]) := by
                  show _ = _
                  rw [HTM.out, if_pos hc.symm, withZ_append, ← List.append_assoc]
                  rfl
                have hmul := mul_in (A := 10000) (B := 10000) (a := pw) (b := qw) hpin.2 hqin.2 (by omega) (by omega)
                obtain ⟨pq, HPQ⟩ : ∃ pq, Hid (pq = pw * qw) := ⟨_, rfl⟩
                have hwrap : IntKind.i64.wrap (pw * qw) = pq := by rw [HPQ.out, IntKind.wrap_i64]; omega
                rw [← HPQ.out] at hmul
                have hwz := HSUM.out (joinZ (a.take i) b x y ++ withZ (px, pw) (meetZ (b.take k) y cx)) (fun z hz => by
                  rcases List.mem_append.1 hz with h | h
                  · obtain ⟨p', hp', q', hq', e⟩ := mem_join h
                    rw [e]
                    have t1 := hla p' (List.mem_of_mem_take hp')
                    have t2 := hlb q' hq'
                    have := mul_in (A := 10000) (B := 10000) t1.2 t2.2 (by omega) (by omega)
                    exact ⟨by show -100000000 ≤ p'.2 * q'.2; omega, by show p'.2 * q'.2 ≤ 100000000; omega⟩
                  · obtain ⟨q', hq', e⟩ := mem_with h
                    rw [e]
                    have t2 := hlb q' (List.mem_of_mem_take (List.mem_filter.1 hq').1)
                    have := mul_in (A := 10000) (B := 10000) hpin.2 t2.2 (by omega) (by omega)
                    exact ⟨by show -100000000 ≤ pw * q'.2; omega, by show pw * q'.2 ≤ 100000000; omega⟩) (by omega)
                have hal := add_len (joinZ (a.take i) b x y ++ withZ (px, pw) (meetZ (b.take k) y cx)) []
                have ZB : OwnZ wr.drew.drew w.heap.size wr.heap.size u10 (addZ [] (joinZ (a.take i) b x y ++ withZ (px, pw) (meetZ (b.take k) y cx))) := (HZ.out.keep' (Below.drew (Below.refl _ _))).keep' (Below.drew (Below.refl _ _))
                obtain ⟨acc, HACC⟩ : ∃ acc, Hid (acc = addZ [] (joinZ (a.take i) b x y ++ withZ (px, pw) (meetZ (b.take k) y cx))) := ⟨_, rfl⟩
                rw [← HACC.out] at ZB hwz hal
                have hal' : acc.length ≤ 10100 := by
                  have h9 := hal
                  rw [List.length_nil, Nat.zero_add] at h9
                  exact Nat.le_trans h9 hjl
                have hce : (cx == cy) = true := by simp [hc]
                clear hnok hno HZ HW HA hal hcx0 hcy0 hcx hcy
                go_wp2
                refine wp_region_held_drew (S := (fun w' => w'.cell? ⟨ab, aoff + i * 2, none⟩ = some (.slice (some ⟨ra, roa, none⟩) px.length pc) ∧ w'.cell? ⟨bb, boff + k * 2, none⟩ = some (.slice (some ⟨rb, rob, none⟩) qx.length qc) ∧ w'.cell? ⟨ra, roa + x, none⟩ = some (.int .i64 cx) ∧ w'.cell? ⟨rb, rob + y, none⟩ = some (.int .i64 cy))) (by kernel_rfl) ?_ (fun hHeld => ?_)
                · (try dsimp only); exact Y0
                refine wpAnyH_take (i := 0) (v := ?_) rfl (by kernel_rfl) (by kernel_rfl) (by kernel_rfl) (fun _ _ _ h => h) (Or.inl ⟨by rfl, ?_⟩) (by assumption) ?_
                rotate_left 1
                · intro w hSw; (try dsimp only at hSw); go_simp; try with_reducible rfl
                simp only [Act.put, List.getElem_toArray, List.getElem_cons_zero, List.setIfInBounds_toArray, List.set_cons_zero, List.set_cons_succ]
                refine wpAnyH_take (i := 1) (v := ?_) rfl (by kernel_rfl) (by kernel_rfl) (by kernel_rfl) (fun _ _ _ h => h) (Or.inl ⟨by rfl, ?_⟩) (by assumption) ?_
                rotate_left 1
                · intro w hSw; (try dsimp only at hSw); go_simp; try with_reducible rfl
                simp only [Act.put, List.getElem_toArray, List.getElem_cons_succ, List.getElem_cons_zero, List.setIfInBounds_toArray, List.set_cons_zero, List.set_cons_succ]
                refine wpAnyH_take (i := 2) (v := ?_) rfl (by kernel_rfl) (by kernel_rfl) (by kernel_rfl) (fun _ _ _ h => h) (Or.inl ⟨by rfl, ?_⟩) (by assumption) ?_
                rotate_left 1
                · intro w hSw; (try dsimp only at hSw); go_simp; try with_reducible rfl
                simp only [Act.put, List.getElem_toArray, List.getElem_cons_succ, List.getElem_cons_zero, List.setIfInBounds_toArray, List.set_cons_zero, List.set_cons_succ]
                refine wpAnyH_take (i := 3) (v := ?_) rfl (by kernel_rfl) (by kernel_rfl) (by kernel_rfl) (fun _ _ _ h => h) (Or.inl ⟨by rfl, ?_⟩) (by assumption) ?_
                rotate_left 1
                · intro w hSw; (try dsimp only at hSw); go_simp; try with_reducible rfl
                simp only [Act.put, List.getElem_toArray, List.getElem_cons_succ, List.getElem_cons_zero, List.setIfInBounds_toArray, List.set_cons_zero, List.set_cons_succ]
                refine wpAnyH_take (i := 4) (v := ?_) rfl (by kernel_rfl) (by kernel_rfl) (by kernel_rfl) (fun _ _ _ h => h) (Or.inl ⟨by rfl, ?_⟩) (by assumption) ?_
                rotate_left 1
                · intro w hSw; (try dsimp only at hSw); go_simp; try with_reducible rfl
                simp only [Act.put, List.getElem_toArray, List.getElem_cons_succ, List.getElem_cons_zero, List.setIfInBounds_toArray, List.set_cons_zero, List.set_cons_succ]
                refine wpAnyH_take (i := 5) (v := ?_) rfl (by kernel_rfl) (by kernel_rfl) (by kernel_rfl) (fun _ _ _ h => h) (Or.inl ⟨by rfl, ?_⟩) (by assumption) ?_
                rotate_left 1
                · intro w hSw; (try dsimp only at hSw); go_simp; try with_reducible rfl
                simp only [Act.put, List.getElem_toArray, List.getElem_cons_succ, List.getElem_cons_zero, List.setIfInBounds_toArray, List.set_cons_zero, List.set_cons_succ]
                refine wpAnyH_take (i := 6) (v := ?_) rfl (by kernel_rfl) (by kernel_rfl) (by kernel_rfl) (fun _ _ _ h => h) (Or.inl ⟨by rfl, ?_⟩) (by assumption) ?_
                rotate_left 1
                · intro w hSw; (try dsimp only at hSw); go_simp; try with_reducible rfl
                simp only [Act.put, List.getElem_toArray, List.getElem_cons_succ, List.getElem_cons_zero, List.setIfInBounds_toArray, List.set_cons_zero, List.set_cons_succ]
                refine wpAnyH_take (i := 7) (v := ?_) rfl (by kernel_rfl) (by kernel_rfl) (by kernel_rfl) (fun _ _ _ h => h) (Or.inl ⟨by rfl, ?_⟩) (by assumption) ?_
                rotate_left 1
                · intro w hSw; (try dsimp only at hSw); go_simp; try with_reducible rfl
                simp only [Act.put, List.getElem_toArray, List.getElem_cons_succ, List.getElem_cons_zero, List.setIfInBounds_toArray, List.set_cons_zero, List.set_cons_succ]
                refine wpAnyH_take (i := 8) (v := ?_) rfl (by kernel_rfl) (by kernel_rfl) (by kernel_rfl) (fun _ _ _ h => h) (Or.inl ⟨by rfl, ?_⟩) (by assumption) ?_
                rotate_left 1
                · intro w hSw; (try dsimp only at hSw); go_simp; try with_reducible rfl
                simp only [Act.put, List.getElem_toArray, List.getElem_cons_succ, List.getElem_cons_zero, List.setIfInBounds_toArray, List.set_cons_zero, List.set_cons_succ]
                refine wpAnyH_take (i := 9) (v := ?_) rfl (by kernel_rfl) (by kernel_rfl) (by kernel_rfl) (fun _ _ _ h => h) (Or.inl ⟨by rfl, ?_⟩) (by assumption) ?_
                rotate_left 1
                · intro w hSw; (try dsimp only at hSw); go_simp; try with_reducible rfl
                simp only [Act.put, List.getElem_toArray, List.getElem_cons_succ, List.getElem_cons_zero, List.setIfInBounds_toArray, List.set_cons_zero, List.set_cons_succ]
                refine wpAnyH_take (i := 10) (v := ?_) rfl (by kernel_rfl) (by kernel_rfl) (by kernel_rfl) (fun _ _ _ h => h) (Or.inl ⟨by rfl, ?_⟩) (by assumption) ?_
                rotate_left 1
                · intro w hSw; (try dsimp only at hSw); go_simp; try with_reducible rfl
                simp only [Act.put, List.getElem_toArray, List.getElem_cons_succ, List.getElem_cons_zero, List.setIfInBounds_toArray, List.set_cons_zero, List.set_cons_succ]
                refine wpAnyH_take (i := 11) (v := ?_) rfl (by kernel_rfl) (by kernel_rfl) (by kernel_rfl) (fun _ _ _ h => h) (Or.inl ⟨by rfl, ?_⟩) (by assumption) ?_
                rotate_left 1
                · intro w hSw; (try dsimp only at hSw); go_simp; try with_reducible rfl
                simp only [Act.put, List.getElem_toArray, List.getElem_cons_succ, List.getElem_cons_zero, List.setIfInBounds_toArray, List.set_cons_zero, List.set_cons_succ]
                refine wpAnyH_take (i := 12) (v := ?_) rfl (by kernel_rfl) (by kernel_rfl) (by kernel_rfl) (fun _ _ _ h => h) (Or.inl ⟨by rfl, ?_⟩) (by assumption) ?_
                rotate_left 1
                · intro w hSw; (try dsimp only at hSw); go_simp; try with_reducible rfl
                simp only [Act.put, List.getElem_toArray, List.getElem_cons_succ, List.getElem_cons_zero, List.setIfInBounds_toArray, List.set_cons_zero, List.set_cons_succ]
                refine wpAnyH_take (i := 13) (v := ?_) rfl (by kernel_rfl) (by kernel_rfl) (by kernel_rfl) (fun _ _ _ h => h) (Or.inl ⟨by rfl, ?_⟩) (by assumption) ?_
                rotate_left 1
                · intro w hSw; (try dsimp only at hSw); go_simp; try with_reducible rfl
                simp only [Act.put, List.getElem_toArray, List.getElem_cons_succ, List.getElem_cons_zero, List.setIfInBounds_toArray, List.set_cons_zero, List.set_cons_succ]
                refine wpAnyH_take (i := 14) (v := ?_) rfl (by kernel_rfl) (by kernel_rfl) (by kernel_rfl) (fun _ _ _ h => h) (Or.inl ⟨by rfl, ?_⟩) (by assumption) ?_
                rotate_left 1
                · intro w hSw; (try dsimp only at hSw); go_simp; try with_reducible rfl
                simp only [Act.put, List.getElem_toArray, List.getElem_cons_succ, List.getElem_cons_zero, List.setIfInBounds_toArray, List.set_cons_zero, List.set_cons_succ]
                refine wpAnyH_take (i := 15) (v := ?_) rfl (by kernel_rfl) (by kernel_rfl) (by kernel_rfl) (fun _ _ _ h => h) (Or.inl ⟨by rfl, ?_⟩) (by assumption) ?_
                rotate_left 1
                · intro w hSw; (try dsimp only at hSw); go_simp; try with_reducible rfl
                simp only [Act.put, List.getElem_toArray, List.getElem_cons_succ, List.getElem_cons_zero, List.setIfInBounds_toArray, List.set_cons_zero, List.set_cons_succ]
                refine wpAnyH_take (i := 16) (v := ?_) rfl (by kernel_rfl) (by kernel_rfl) (by kernel_rfl) (fun _ _ _ h => h) (Or.inl ⟨by rfl, ?_⟩) (by assumption) ?_
                rotate_left 1
                · intro w hSw; (try dsimp only at hSw); go_simp; try with_reducible rfl
                simp only [Act.put, List.getElem_toArray, List.getElem_cons_succ, List.getElem_cons_zero, List.setIfInBounds_toArray, List.set_cons_zero, List.set_cons_succ]
                refine wpAnyH_done (by kernel_rfl) ?_ _
                clear Y0
                have Y0 : wr.drew.drew.cell? ⟨ab, aoff + i * 2, none⟩ = some (.slice (some ⟨ra, roa, none⟩) px.length pc) ∧ wr.drew.drew.cell? ⟨ab, aoff + i * 2 + 1, none⟩ = some (.int .i64 pw) ∧ wr.drew.drew.cell? ⟨bb, boff + k * 2, none⟩ = some (.slice (some ⟨rb, rob, none⟩) qx.length qc) ∧ wr.drew.drew.cell? ⟨bb, boff + k * 2 + 1, none⟩ = some (.int .i64 qw) := ⟨(HWD.out.cell (p := ⟨ab, aoff + i * 2, none⟩) habw).trans c0, (HWD.out.cell (p := ⟨ab, aoff + i * 2 + 1, none⟩) habw).trans c1, (HWD.out.cell (p := ⟨bb, boff + k * 2, none⟩) hbbw).trans d0, (HWD.out.cell (p := ⟨bb, boff + k * 2 + 1, none⟩) hbbw).trans d1⟩
                clear hbq g0 g1
                go_wp2
                refine wp_region_held_drew (S := (fun w' => w'.cell? ⟨ab, aoff + i * 2, none⟩ = some (.slice (some ⟨ra, roa, none⟩) px.length pc) ∧ w'.cell? ⟨ab, aoff + i * 2 + 1, none⟩ = some (.int .i64 pw) ∧ w'.cell? ⟨bb, boff + k * 2, none⟩ = some (.slice (some ⟨rb, rob, none⟩) qx.length qc) ∧ w'.cell? ⟨bb, boff + k * 2 + 1, none⟩ = some (.int .i64 qw))) (by kernel_rfl) ?_ (fun hHeld => ?_)
                · (try dsimp only); exact Y0
                refine wpAnyH_take (i := 0) (v := ?_) rfl (by kernel_rfl) (by kernel_rfl) (by kernel_rfl) (fun _ _ _ h => h) (Or.inl ⟨by rfl, ?_⟩) (by assumption) ?_
                rotate_left 1
                · intro w hSw; (try dsimp only at hSw); go_simp; try with_reducible rfl
                simp only [Act.put, List.getElem_toArray, List.getElem_cons_zero, List.setIfInBounds_toArray, List.set_cons_zero, List.set_cons_succ]
                refine wpAnyH_take (i := 1) (v := ?_) rfl (by kernel_rfl) (by kernel_rfl) (by kernel_rfl) (fun _ _ _ h => h) (Or.inl ⟨by rfl, ?_⟩) (by assumption) ?_
                rotate_left 1
                · intro w hSw; (try dsimp only at hSw); go_simp; try with_reducible rfl
                simp only [Act.put, List.getElem_toArray, List.getElem_cons_succ, List.getElem_cons_zero, List.setIfInBounds_toArray, List.set_cons_zero, List.set_cons_succ]
                refine wpAnyH_take (i := 2) (v := ?_) rfl (by kernel_rfl) (by kernel_rfl) (by kernel_rfl) (fun _ _ _ h => h) (Or.inl ⟨by rfl, ?_⟩) (by assumption) ?_
                rotate_left 1
                · intro w hSw; (try dsimp only at hSw); go_simp; try with_reducible rfl
                simp only [Act.put, List.getElem_toArray, List.getElem_cons_succ, List.getElem_cons_zero, List.setIfInBounds_toArray, List.set_cons_zero, List.set_cons_succ]
                refine wpAnyH_take (i := 3) (v := ?_) rfl (by kernel_rfl) (by kernel_rfl) (by kernel_rfl) (fun _ _ _ h => h) (Or.inl ⟨by rfl, ?_⟩) (by assumption) ?_
                rotate_left 1
                · intro w hSw; (try dsimp only at hSw); go_simp; try with_reducible rfl
                simp only [Act.put, List.getElem_toArray, List.getElem_cons_succ, List.getElem_cons_zero, List.setIfInBounds_toArray, List.set_cons_zero, List.set_cons_succ]
                refine wpAnyH_take (i := 4) (v := ?_) rfl (by kernel_rfl) (by kernel_rfl) (by kernel_rfl) (fun _ _ _ h => h) (Or.inl ⟨by rfl, ?_⟩) (by assumption) ?_
                rotate_left 1
                · intro w hSw; (try dsimp only at hSw); go_simp; try with_reducible rfl
                simp only [Act.put, List.getElem_toArray, List.getElem_cons_succ, List.getElem_cons_zero, List.setIfInBounds_toArray, List.set_cons_zero, List.set_cons_succ]
                refine wpAnyH_take (i := 5) (v := ?_) rfl (by kernel_rfl) (by kernel_rfl) (by kernel_rfl) (fun _ _ _ h => h) (Or.inl ⟨by rfl, ?_⟩) (by assumption) ?_
                rotate_left 1
                · intro w hSw; (try dsimp only at hSw); go_simp; try with_reducible rfl
                simp only [Act.put, List.getElem_toArray, List.getElem_cons_succ, List.getElem_cons_zero, List.setIfInBounds_toArray, List.set_cons_zero, List.set_cons_succ]
                refine wpAnyH_take (i := 6) (v := ?_) rfl (by kernel_rfl) (by kernel_rfl) (by kernel_rfl) (fun _ _ _ h => h) (Or.inl ⟨by rfl, ?_⟩) (by assumption) ?_
                rotate_left 1
                · intro w hSw; (try dsimp only at hSw); go_simp; try with_reducible rfl
                simp only [Act.put, List.getElem_toArray, List.getElem_cons_succ, List.getElem_cons_zero, List.setIfInBounds_toArray, List.set_cons_zero, List.set_cons_succ]
                refine wpAnyH_take (i := 7) (v := ?_) rfl (by kernel_rfl) (by kernel_rfl) (by kernel_rfl) (fun _ _ _ h => h) (Or.inl ⟨by rfl, ?_⟩) (by assumption) ?_
                rotate_left 1
                · intro w hSw; (try dsimp only at hSw); go_simp; try with_reducible rfl
                simp only [Act.put, List.getElem_toArray, List.getElem_cons_succ, List.getElem_cons_zero, List.setIfInBounds_toArray, List.set_cons_zero, List.set_cons_succ]
                refine wpAnyH_take (i := 8) (v := ?_) rfl (by kernel_rfl) (by kernel_rfl) (by kernel_rfl) (fun _ _ _ h => h) (Or.inl ⟨by rfl, ?_⟩) (by assumption) ?_
                rotate_left 1
                · intro w hSw; (try dsimp only at hSw); go_simp; try with_reducible rfl
                simp only [Act.put, List.getElem_toArray, List.getElem_cons_succ, List.getElem_cons_zero, List.setIfInBounds_toArray, List.set_cons_zero, List.set_cons_succ]
                refine wpAnyH_take (i := 9) (v := ?_) rfl (by kernel_rfl) (by kernel_rfl) (by kernel_rfl) (fun _ _ _ h => h) (Or.inl ⟨by rfl, ?_⟩) (by assumption) ?_
                rotate_left 1
                · intro w hSw; (try dsimp only at hSw); go_simp; try with_reducible rfl
                simp only [Act.put, List.getElem_toArray, List.getElem_cons_succ, List.getElem_cons_zero, List.setIfInBounds_toArray, List.set_cons_zero, List.set_cons_succ]
                refine wpAnyH_take (i := 10) (v := ?_) rfl (by kernel_rfl) (by kernel_rfl) (by kernel_rfl) (fun _ _ _ h => h) (Or.inl ⟨by rfl, ?_⟩) (by assumption) ?_
                rotate_left 1
                · intro w hSw; (try dsimp only at hSw); go_simp; try with_reducible rfl
                simp only [Act.put, List.getElem_toArray, List.getElem_cons_succ, List.getElem_cons_zero, List.setIfInBounds_toArray, List.set_cons_zero, List.set_cons_succ]
                refine wpAnyH_take (i := 12) (v := ?_) rfl (by kernel_rfl) (by kernel_rfl) (by kernel_rfl) (fun _ _ _ h => h) (Or.inl ⟨by rfl, ?_⟩) (by assumption) ?_
                rotate_left 1
                · intro w hSw; (try dsimp only at hSw); go_simp; try with_reducible rfl
                simp only [Act.put, List.getElem_toArray, List.getElem_cons_succ, List.getElem_cons_zero, List.setIfInBounds_toArray, List.set_cons_zero, List.set_cons_succ]
                refine wpAnyH_take (i := 13) (v := ?_) rfl (by kernel_rfl) (by kernel_rfl) (by kernel_rfl) (fun _ _ _ h => h) (Or.inl ⟨by rfl, ?_⟩) (by assumption) ?_
                rotate_left 1
                · intro w hSw; (try dsimp only at hSw); go_simp; try with_reducible rfl
                simp only [Act.put, List.getElem_toArray, List.getElem_cons_succ, List.getElem_cons_zero, List.setIfInBounds_toArray, List.set_cons_zero, List.set_cons_succ]
                refine wpAnyH_take (i := 14) (v := ?_) rfl (by kernel_rfl) (by kernel_rfl) (by kernel_rfl) (fun _ _ _ h => h) (Or.inl ⟨by rfl, ?_⟩) (by assumption) ?_
                rotate_left 1
                · intro w hSw; (try dsimp only at hSw); go_simp; try with_reducible rfl
                simp only [Act.put, List.getElem_toArray, List.getElem_cons_succ, List.getElem_cons_zero, List.setIfInBounds_toArray, List.set_cons_zero, List.set_cons_succ]
                refine wpAnyH_take (i := 15) (v := ?_) rfl (by kernel_rfl) (by kernel_rfl) (by kernel_rfl) (fun _ _ _ h => h) (Or.inl ⟨by rfl, ?_⟩) (by assumption) ?_
                rotate_left 1
                · intro w hSw; (try dsimp only at hSw); go_simp; try with_reducible rfl
                simp only [Act.put, List.getElem_toArray, List.getElem_cons_succ, List.getElem_cons_zero, List.setIfInBounds_toArray, List.set_cons_zero, List.set_cons_succ]
                refine wpAnyH_take (i := 16) (v := ?_) rfl (by kernel_rfl) (by kernel_rfl) (by kernel_rfl) (fun _ _ _ h => h) (Or.inl ⟨by rfl, ?_⟩) (by assumption) ?_
                rotate_left 1
                · intro w hSw; (try dsimp only at hSw); go_simp; try with_reducible rfl
                simp only [Act.put, List.getElem_toArray, List.getElem_cons_succ, List.getElem_cons_zero, List.setIfInBounds_toArray, List.set_cons_zero, List.set_cons_succ]
                refine wpAnyH_take (i := 17) (v := ?_) rfl (by kernel_rfl) (by kernel_rfl) (by kernel_rfl) (fun _ _ _ h => h) (Or.inl ⟨by rfl, ?_⟩) (by assumption) ?_
                rotate_left 1
                · intro w hSw; (try dsimp only at hSw); go_simp; try with_reducible rfl
                simp only [Act.put, List.getElem_toArray, List.getElem_cons_succ, List.getElem_cons_zero, List.setIfInBounds_toArray, List.set_cons_zero, List.set_cons_succ]
                refine wpAnyH_take (i := 18) (v := ?_) rfl (by kernel_rfl) (by kernel_rfl) (by kernel_rfl) (fun _ _ _ h => h) (Or.inl ⟨by rfl, ?_⟩) (by assumption) ?_
                rotate_left 1
                · intro w hSw; (try dsimp only at hSw); go_simp; try with_reducible rfl
                simp only [Act.put, List.getElem_toArray, List.getElem_cons_succ, List.getElem_cons_zero, List.setIfInBounds_toArray, List.set_cons_zero, List.set_cons_succ]
                refine wpAnyH_take (i := 19) (v := ?_) rfl (by kernel_rfl) (by kernel_rfl) (by kernel_rfl) (fun _ _ _ h => h) (Or.inl ⟨by rfl, ?_⟩) (by assumption) ?_
                rotate_left 1
                · intro w hSw; (try dsimp only at hSw); go_simp; try with_reducible rfl
                simp only [Act.put, List.getElem_toArray, List.getElem_cons_succ, List.getElem_cons_zero, List.setIfInBounds_toArray, List.set_cons_zero, List.set_cons_succ]
                refine wpAnyH_take (i := 20) (v := ?_) rfl (by kernel_rfl) (by kernel_rfl) (by kernel_rfl) (fun _ _ _ h => h) (Or.inl ⟨by rfl, ?_⟩) (by assumption) ?_
                rotate_left 1
                · intro w hSw; (try dsimp only at hSw); go_simp; try with_reducible rfl
                simp only [Act.put, List.getElem_toArray, List.getElem_cons_succ, List.getElem_cons_zero, List.setIfInBounds_toArray, List.set_cons_zero, List.set_cons_succ]
                refine wpAnyH_take (i := 21) (v := ?_) rfl (by kernel_rfl) (by kernel_rfl) (by kernel_rfl) (fun _ _ _ h => h) (Or.inl ⟨by rfl, ?_⟩) (by assumption) ?_
                rotate_left 1
                · intro w hSw; (try dsimp only at hSw); go_simp; try with_reducible rfl
                simp only [Act.put, List.getElem_toArray, List.getElem_cons_succ, List.getElem_cons_zero, List.setIfInBounds_toArray, List.set_cons_zero, List.set_cons_succ]
                refine wpAnyH_take (i := 22) (v := ?_) rfl (by kernel_rfl) (by kernel_rfl) (by kernel_rfl) (fun _ _ _ h => h) (Or.inl ⟨by rfl, ?_⟩) (by assumption) ?_
                rotate_left 1
                · intro w hSw; (try dsimp only at hSw); go_simp; try with_reducible rfl
                simp only [Act.put, List.getElem_toArray, List.getElem_cons_succ, List.getElem_cons_zero, List.setIfInBounds_toArray, List.set_cons_zero, List.set_cons_succ]
                refine wpAnyH_ready (rs := [11]) (by kernel_rfl) (by simp) ?_
                refine AllReadyH.cons rfl (fun K hK => ?_) AllReadyH.nil
                go_simp
                (go_at_call 57; refine (specRowJoin_any _ _ px qx _ i1 i2 hjn).mono ?_; rintro e w3 ⟨v3, rfl, O3, hb3⟩)
                have hk3 : Below w.heap.size w w3 := HWD.out.trans (hb3.mono hwd)
                obtain ⟨va3, vn3, vc3, rfl⟩ := O3.ints.shape
                have Y3 : w3.cell? ⟨ab, aoff + i * 2, none⟩ = some (.slice (some ⟨ra, roa, none⟩) px.length pc) ∧ w3.cell? ⟨ab, aoff + i * 2 + 1, none⟩ = some (.int .i64 pw) ∧ w3.cell? ⟨bb, boff + k * 2, none⟩ = some (.slice (some ⟨rb, rob, none⟩) qx.length qc) ∧ w3.cell? ⟨bb, boff + k * 2 + 1, none⟩ = some (.int .i64 qw) := ⟨(hk3.cell (p := ⟨ab, aoff + i * 2, none⟩) habw).trans c0, (hk3.cell (p := ⟨ab, aoff + i * 2 + 1, none⟩) habw).trans c1, (hk3.cell (p := ⟨bb, boff + k * 2, none⟩) hbbw).trans d0, (hk3.cell (p := ⟨bb, boff + k * 2 + 1, none⟩) hbbw).trans d1⟩
                have ZB3 := (ZB.keep' hb3).wide (Nat.le_refl _) hb3.size (Nat.le_refl _)
                refine hK.out _ _ ?_ (fun hHeld => ?_)
                · (try dsimp only); exact Y3
                clear hK K
                try simp only [Act.put, List.getElem_toArray, List.getElem_cons_succ, List.getElem_cons_zero, List.setIfInBounds_toArray, List.set_cons_zero, List.set_cons_succ]
                refine wpAnyH_ready (rs := [23]) (by kernel_rfl) (by simp) ?_
                refine AllReadyH.cons rfl (fun K hK => ?_) AllReadyH.nil
                go_simp
                (go_at_call 56; refine (l2Put_any _ w.heap.size w3.heap.size acc _ (px ++ qx) pq _ ZB3 hk3.size O3.ints (by omega) (by rw [List.length_append]; omega) hwz (by omega)).mono ?_; rintro e w4 ⟨v4, rfl, Z4, O4⟩)
                have hk4 : Below w.heap.size w w4 := O4.below hk3 (Nat.le_refl _) hk3.size
                have Y4 : w4.cell? ⟨ab, aoff + i * 2, none⟩ = some (.slice (some ⟨ra, roa, none⟩) px.length pc) ∧ w4.cell? ⟨ab, aoff + i * 2 + 1, none⟩ = some (.int .i64 pw) ∧ w4.cell? ⟨bb, boff + k * 2, none⟩ = some (.slice (some ⟨rb, rob, none⟩) qx.length qc) ∧ w4.cell? ⟨bb, boff + k * 2 + 1, none⟩ = some (.int .i64 qw) := ⟨(hk4.cell (p := ⟨ab, aoff + i * 2, none⟩) habw).trans c0, (hk4.cell (p := ⟨ab, aoff + i * 2 + 1, none⟩) habw).trans c1, (hk4.cell (p := ⟨bb, boff + k * 2, none⟩) hbbw).trans d0, (hk4.cell (p := ⟨bb, boff + k * 2 + 1, none⟩) hbbw).trans d1⟩
                refine hK.out _ _ ?_ (fun hHeld => ?_)
                · (try dsimp only); exact Y4
                clear hK K
                try simp only [Act.put, List.getElem_toArray, List.getElem_cons_succ, List.getElem_cons_zero, List.setIfInBounds_toArray, List.set_cons_zero, List.set_cons_succ]
                refine wpAnyH_take (i := 24) (v := ?_) rfl (by kernel_rfl) (by kernel_rfl) (by kernel_rfl) (fun _ _ _ h => h) (Or.inl ⟨by rfl, ?_⟩) (by assumption) ?_
                rotate_left 1
                · intro w hSw; (try dsimp only at hSw); go_simp; try with_reducible rfl
                simp only [Act.put, List.getElem_toArray, List.getElem_cons_succ, List.getElem_cons_zero, List.setIfInBounds_toArray, List.set_cons_zero, List.set_cons_succ]
                refine wpAnyH_done (by kernel_rfl) ?_ _
                have HK : Hid (Below w.heap.size w w4) := hk4
                have HZ4 : Hid (OwnZ w4 w.heap.size w4.heap.size v4 (addZ [] (joinZ (a.take i) b x y ++ withZ (px, pw) (meetZ (b.take (k + 1)) y cx)))) := by
                  show OwnZ _ _ _ _ _
                  rw [HTT.out, addZ_snoc, ← HACC.out, ← HPQ.out]
                  exact Z4
                clear Z4 O4 hk4 Y0 Y3 Y4 hb3 hk3 O3 ZB ZB3 i1 i2 hwz
                go_wp2
                go_roundw
                case rel => exact ⟨k + 1, by omega, by go_num, HZ4.out, HK.out, HA2.out⟩
                case measure => simp [intOf]; omega
              · have HTT : Hid (joinZ (a.take i) b x y ++ withZ (px, pw) (meetZ (b.take (k + 1)) y cx) = joinZ (a.take i) b x y ++ withZ (px, pw) (meetZ (b.take k) y cx)) := by
                  show _ = _
                  rw [HTM.out, if_neg (fun e => hc e.symm), List.append_nil]
                have hcf : (cx == cy) = false := by simp [hc]
                have HZ4 : Hid (OwnZ wr.drew w.heap.size wr.drew.heap.size u10 (addZ [] (joinZ (a.take i) b x y ++ withZ (px, pw) (meetZ (b.take (k + 1)) y cx)))) := by
                  show OwnZ _ _ _ _ _
                  rw [HTT.out]
                  exact HZ.out.keep' (Below.drew (Below.refl _ _))
                have HK : Hid (Below w.heap.size w wr.drew) := hbq.drew
                clear hnok hno HZ HW HA hcx0 hcy0 hcx hcy hbq i1 i2 HWD
                go_wp2
                refine wp_region_held_drew (S := (fun w' => w'.cell? ⟨ab, aoff + i * 2, none⟩ = some (.slice (some ⟨ra, roa, none⟩) px.length pc) ∧ w'.cell? ⟨bb, boff + k * 2, none⟩ = some (.slice (some ⟨rb, rob, none⟩) qx.length qc) ∧ w'.cell? ⟨ra, roa + x, none⟩ = some (.int .i64 cx) ∧ w'.cell? ⟨rb, rob + y, none⟩ = some (.int .i64 cy))) (by kernel_rfl) ?_ (fun hHeld => ?_)
                · (try dsimp only); exact Y0
                refine wpAnyH_take (i := 0) (v := ?_) rfl (by kernel_rfl) (by kernel_rfl) (by kernel_rfl) (fun _ _ _ h => h) (Or.inl ⟨by rfl, ?_⟩) (by assumption) ?_
                rotate_left 1
                · intro w hSw; (try dsimp only at hSw); go_simp; try with_reducible rfl
                simp only [Act.put, List.getElem_toArray, List.getElem_cons_zero, List.setIfInBounds_toArray, List.set_cons_zero, List.set_cons_succ]
                refine wpAnyH_take (i := 1) (v := ?_) rfl (by kernel_rfl) (by kernel_rfl) (by kernel_rfl) (fun _ _ _ h => h) (Or.inl ⟨by rfl, ?_⟩) (by assumption) ?_
                rotate_left 1
                · intro w hSw; (try dsimp only at hSw); go_simp; try with_reducible rfl
                simp only [Act.put, List.getElem_toArray, List.getElem_cons_succ, List.getElem_cons_zero, List.setIfInBounds_toArray, List.set_cons_zero, List.set_cons_succ]
                refine wpAnyH_take (i := 2) (v := ?_) rfl (by kernel_rfl) (by kernel_rfl) (by kernel_rfl) (fun _ _ _ h => h) (Or.inl ⟨by rfl, ?_⟩) (by assumption) ?_
                rotate_left 1
                · intro w hSw; (try dsimp only at hSw); go_simp; try with_reducible rfl
                simp only [Act.put, List.getElem_toArray, List.getElem_cons_succ, List.getElem_cons_zero, List.setIfInBounds_toArray, List.set_cons_zero, List.set_cons_succ]
                refine wpAnyH_take (i := 3) (v := ?_) rfl (by kernel_rfl) (by kernel_rfl) (by kernel_rfl) (fun _ _ _ h => h) (Or.inl ⟨by rfl, ?_⟩) (by assumption) ?_
                rotate_left 1
                · intro w hSw; (try dsimp only at hSw); go_simp; try with_reducible rfl
                simp only [Act.put, List.getElem_toArray, List.getElem_cons_succ, List.getElem_cons_zero, List.setIfInBounds_toArray, List.set_cons_zero, List.set_cons_succ]
                refine wpAnyH_take (i := 4) (v := ?_) rfl (by kernel_rfl) (by kernel_rfl) (by kernel_rfl) (fun _ _ _ h => h) (Or.inl ⟨by rfl, ?_⟩) (by assumption) ?_
                rotate_left 1
                · intro w hSw; (try dsimp only at hSw); go_simp; try with_reducible rfl
                simp only [Act.put, List.getElem_toArray, List.getElem_cons_succ, List.getElem_cons_zero, List.setIfInBounds_toArray, List.set_cons_zero, List.set_cons_succ]
                refine wpAnyH_take (i := 5) (v := ?_) rfl (by kernel_rfl) (by kernel_rfl) (by kernel_rfl) (fun _ _ _ h => h) (Or.inl ⟨by rfl, ?_⟩) (by assumption) ?_
                rotate_left 1
                · intro w hSw; (try dsimp only at hSw); go_simp; try with_reducible rfl
                simp only [Act.put, List.getElem_toArray, List.getElem_cons_succ, List.getElem_cons_zero, List.setIfInBounds_toArray, List.set_cons_zero, List.set_cons_succ]
                refine wpAnyH_take (i := 6) (v := ?_) rfl (by kernel_rfl) (by kernel_rfl) (by kernel_rfl) (fun _ _ _ h => h) (Or.inl ⟨by rfl, ?_⟩) (by assumption) ?_
                rotate_left 1
                · intro w hSw; (try dsimp only at hSw); go_simp; try with_reducible rfl
                simp only [Act.put, List.getElem_toArray, List.getElem_cons_succ, List.getElem_cons_zero, List.setIfInBounds_toArray, List.set_cons_zero, List.set_cons_succ]
                refine wpAnyH_take (i := 7) (v := ?_) rfl (by kernel_rfl) (by kernel_rfl) (by kernel_rfl) (fun _ _ _ h => h) (Or.inl ⟨by rfl, ?_⟩) (by assumption) ?_
                rotate_left 1
                · intro w hSw; (try dsimp only at hSw); go_simp; try with_reducible rfl
                simp only [Act.put, List.getElem_toArray, List.getElem_cons_succ, List.getElem_cons_zero, List.setIfInBounds_toArray, List.set_cons_zero, List.set_cons_succ]
                refine wpAnyH_take (i := 8) (v := ?_) rfl (by kernel_rfl) (by kernel_rfl) (by kernel_rfl) (fun _ _ _ h => h) (Or.inl ⟨by rfl, ?_⟩) (by assumption) ?_
                rotate_left 1
                · intro w hSw; (try dsimp only at hSw); go_simp; try with_reducible rfl
                simp only [Act.put, List.getElem_toArray, List.getElem_cons_succ, List.getElem_cons_zero, List.setIfInBounds_toArray, List.set_cons_zero, List.set_cons_succ]
                refine wpAnyH_take (i := 9) (v := ?_) rfl (by kernel_rfl) (by kernel_rfl) (by kernel_rfl) (fun _ _ _ h => h) (Or.inl ⟨by rfl, ?_⟩) (by assumption) ?_
                rotate_left 1
                · intro w hSw; (try dsimp only at hSw); go_simp; try with_reducible rfl
                simp only [Act.put, List.getElem_toArray, List.getElem_cons_succ, List.getElem_cons_zero, List.setIfInBounds_toArray, List.set_cons_zero, List.set_cons_succ]
                refine wpAnyH_take (i := 10) (v := ?_) rfl (by kernel_rfl) (by kernel_rfl) (by kernel_rfl) (fun _ _ _ h => h) (Or.inl ⟨by rfl, ?_⟩) (by assumption) ?_
                rotate_left 1
                · intro w hSw; (try dsimp only at hSw); go_simp; try with_reducible rfl
                simp only [Act.put, List.getElem_toArray, List.getElem_cons_succ, List.getElem_cons_zero, List.setIfInBounds_toArray, List.set_cons_zero, List.set_cons_succ]
                refine wpAnyH_take (i := 11) (v := ?_) rfl (by kernel_rfl) (by kernel_rfl) (by kernel_rfl) (fun _ _ _ h => h) (Or.inl ⟨by rfl, ?_⟩) (by assumption) ?_
                rotate_left 1
                · intro w hSw; (try dsimp only at hSw); go_simp; try with_reducible rfl
                simp only [Act.put, List.getElem_toArray, List.getElem_cons_succ, List.getElem_cons_zero, List.setIfInBounds_toArray, List.set_cons_zero, List.set_cons_succ]
                refine wpAnyH_take (i := 12) (v := ?_) rfl (by kernel_rfl) (by kernel_rfl) (by kernel_rfl) (fun _ _ _ h => h) (Or.inl ⟨by rfl, ?_⟩) (by assumption) ?_
                rotate_left 1
                · intro w hSw; (try dsimp only at hSw); go_simp; try with_reducible rfl
                simp only [Act.put, List.getElem_toArray, List.getElem_cons_succ, List.getElem_cons_zero, List.setIfInBounds_toArray, List.set_cons_zero, List.set_cons_succ]
                refine wpAnyH_take (i := 13) (v := ?_) rfl (by kernel_rfl) (by kernel_rfl) (by kernel_rfl) (fun _ _ _ h => h) (Or.inl ⟨by rfl, ?_⟩) (by assumption) ?_
                rotate_left 1
                · intro w hSw; (try dsimp only at hSw); go_simp; try with_reducible rfl
                simp only [Act.put, List.getElem_toArray, List.getElem_cons_succ, List.getElem_cons_zero, List.setIfInBounds_toArray, List.set_cons_zero, List.set_cons_succ]
                refine wpAnyH_take (i := 14) (v := ?_) rfl (by kernel_rfl) (by kernel_rfl) (by kernel_rfl) (fun _ _ _ h => h) (Or.inl ⟨by rfl, ?_⟩) (by assumption) ?_
                rotate_left 1
                · intro w hSw; (try dsimp only at hSw); go_simp; try with_reducible rfl
                simp only [Act.put, List.getElem_toArray, List.getElem_cons_succ, List.getElem_cons_zero, List.setIfInBounds_toArray, List.set_cons_zero, List.set_cons_succ]
                refine wpAnyH_take (i := 15) (v := ?_) rfl (by kernel_rfl) (by kernel_rfl) (by kernel_rfl) (fun _ _ _ h => h) (Or.inl ⟨by rfl, ?_⟩) (by assumption) ?_
                rotate_left 1
                · intro w hSw; (try dsimp only at hSw); go_simp; try with_reducible rfl
                simp only [Act.put, List.getElem_toArray, List.getElem_cons_succ, List.getElem_cons_zero, List.setIfInBounds_toArray, List.set_cons_zero, List.set_cons_succ]
                refine wpAnyH_take (i := 16) (v := ?_) rfl (by kernel_rfl) (by kernel_rfl) (by kernel_rfl) (fun _ _ _ h => h) (Or.inl ⟨by rfl, ?_⟩) (by assumption) ?_
                rotate_left 1
                · intro w hSw; (try dsimp only at hSw); go_simp; try with_reducible rfl
                simp only [Act.put, List.getElem_toArray, List.getElem_cons_succ, List.getElem_cons_zero, List.setIfInBounds_toArray, List.set_cons_zero, List.set_cons_succ]
                refine wpAnyH_done (by kernel_rfl) ?_ _
                clear Y0
                go_wp2
                go_roundw
                case rel => exact ⟨k + 1, by omega, by go_num, HZ4.out, HK.out, HA2.out⟩
                case measure => simp [intOf]; omega
            · have HF : Hid (bothHave a b x y = false) := hnok (fun e => hyy (by rw [hqn]; exact e.2))
              have hyge : (y : Int) ≥ (qn : Int) := by omega
              have HK : Hid (Below w.heap.size w wr) := hbq
              clear hnok hno HZ HW HA hbq
              go_wp2
              go_ret2
              rw [HF.out]
              exact ⟨_, rfl, fun e => by simp at e, HK.out⟩
          · have HF : Hid (bothHave a b x y = false) := hnok (fun e => hxx (by rw [HPN.out]; exact e.1))
            have hxge : (x : Int) ≥ (pn : Int) := by omega
            have HK : Hid (Below w.heap.size w wr) := hbq
            clear hnok hno HZ HW HA hbq
            go_wp2
            go_ret2
            rw [HF.out]
            exact ⟨_, rfl, fun e => by simp at e, HK.out⟩
        · obtain rfl : k = m := by omega
          have hZ := HZ.out
          rw [HM.out, List.take_length] at hZ
          have HZ2 : Hid (OwnZ wr w.heap.size wr.heap.size u10 (addZ [] (joinZ (a.take (i + 1)) b x y))) := by
            show OwnZ _ _ _ _ _
            rw [HT.out]
            exact hZ
          have HALL2 : Hid (∀ i', i' < i + 1 → ∀ k', k' < k → x < (a.getD i' ([], 0)).1.length ∧ y < (b.getD k' ([], 0)).1.length) := fun i' hi' k' hk' => by
            rcases Nat.lt_succ_iff_lt_or_eq.1 hi' with h | h
            · exact HALL.out i' h k' hk'
            · rw [h, ← HP.out]; exact HA.out k' hk'
          clear hno hZ
          go_wp2
          go_roundw
          case rel => exact ⟨i + 1, by omega, by go_num, HZ2.out, HW.out, HALL2.out⟩
          case measure => simp [intOf]; omega
    · obtain rfl : i = n := by omega
      have hZ := HZ.out
      rw [HN.out, List.take_length] at hZ
      have HT : Hid (bothHave a b x y = true) := both_yes (fun i' hi' k' hk' => HALL.out i' (by rw [HN.out]; exact hi') k' (by rw [HM.out]; exact hk'))
      clear hca hcb
      go_wp2
      go_ret2
      rw [HT.out]
      exact ⟨_, rfl, fun _ => hZ, HW.out⟩

end Go.Proofs.Ytjaehoehfmklcaa
