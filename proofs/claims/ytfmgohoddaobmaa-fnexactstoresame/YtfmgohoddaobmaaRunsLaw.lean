/-
  The contracts of the laws' helpers on runs: laws.szSpine (how much it is), laws.toSpine (a copy in new memory), laws.eqSpine (equal as lists), at runs that are one.
-/
import Derived.Test.YtfmgohoddaobmaaRunsMem
namespace Go.Proofs.Ytfmgohoddaobmaa
set_option maxRecDepth 100000
open Go.RowKit

set_option maxHeartbeats 2000000 in
theorem szItemSS_some (b off cap : Nat) (zss : Rn) (l : Int) (w : World) (h0 : 0 ≤ l) (h1 : l ≤ 1048576) (hlim : zss.length ≤ 9223372036854775807) (hbw : b < w.heap.size)
    (hc : ∀ j, j < zss.length → ∃ rv, w.cell? ⟨b, off + j, none⟩ = some rv ∧ RawItems w rv (zss.getD j [])) :
    Calls Try.prog 30 #[.slice (some ⟨b, off, none⟩) zss.length cap, .int .i64 l] w fun e w' => ∃ r : Int, e = .returned (.int .i64 r) ∧ (r < 0 ∨ (0 ≤ r ∧ r = l - zss.length - runsLen zss)) ∧ Below w.heap.size w w' := by
  obtain ⟨n, hn⟩ : ∃ n, n = zss.length := ⟨_, rfl⟩
  have HN : Hid (n = zss.length) := hn
  rw [← hn] at hlim hc ⊢
  clear hn
  by_cases hln : l < n
  · have hd : l - (n : Int) < 0 := by omega
    clear hc
    go_enter Try.func30, Try.ntmps30
    go_wp2
    go_ret
    exact ⟨-1, rfl, .inl (by omega), Below.refl _ _⟩
  · have hd : ¬ l - (n : Int) < 0 := by omega
    go_enter Try.func30, Try.ntmps30
    go_wp2
    go_loopw [1, 5] (fun q i wr => ∃ (k : Nat) (r : Int), k ≤ n ∧ i = .int .i64 k ∧ q = .int .i64 r ∧ 0 ≤ r ∧ r ≤ 1048576 ∧ Hid (r = l - n - runsLen (zss.take k)) ∧ Hid (Below w.heap.size w wr)) (fun _ i _ => n - (intOf i).toNat)
    case atStart => exact ⟨0, l - n, Nat.zero_le _, rfl, rfl, by omega, by omega, by simp [Hid, runsLen], Below.refl _ _⟩
    case round =>
      obtain ⟨k, r, hk, rfl, rfl, hr0, hr1, HR, HW⟩ := hrel
      by_cases hlt : k < n
      · have HB := HW.out
        obtain ⟨rv, hrv0, hix0⟩ := hc k hlt
        have hrv := (HB.cell (p := ⟨b, off + k, none⟩) hbw).trans hrv0
        have hix := hix0.below HB
        clear hrv0 HB hc hix0
        obtain ⟨ra, rc, hsh⟩ := hix.shape
        obtain ⟨m, HM⟩ : ∃ m, Hid (m = (zss.getD k []).length) := ⟨_, rfl⟩
        rw [← HM.out] at hsh
        subst hsh
        go_wp2_with fail
        refine (szItemS_any _ _ r _ hix hr0 hr1).mono ?_
        rintro e w2 ⟨r2, rfl, hr2, hb2⟩
        by_cases hneg : r2 < 0
        · clear hr2 hix
          go_wp2
          go_ret
          exact ⟨-1, rfl, .inl (by omega), below_then HW.out hb2⟩
        · have H2 : Hid (r2 = r - (zss.getD k []).length - rowsLen (zss.getD k [])) := by
            show _ = _
            omega
          have hr20 : 0 ≤ r2 := by omega
          have hr21 : r2 ≤ 1048576 := by omega
          clear hr2 hix
          go_wp2
          go_roundw
          case rel => exact ⟨k + 1, r2, by omega, by go_num, rfl, hr20, hr21, by
            have h1 := HR.out
            have h2 := runsLen_take (zss := zss) (k := k) (by rw [← HN.out]; exact hlt)
            have h3 := H2.out
            show r2 = _
            omega, below_then HW.out hb2⟩
          case measure => simp [intOf]; omega
      · have e : k = n := by omega
        subst e
        clear hc
        go_wp2
        go_ret
        refine ⟨r, rfl, .inr ⟨hr0, ?_⟩, HW.out⟩
        have h1 := HR.out
        rw [show zss.take k = zss by rw [HN.out, List.take_length]] at h1
        exact h1

theorem szItemSS_none (a : Option Addr) (cap : Nat) (l : Int) (w : World) (h0 : 0 ≤ l) (h1 : l ≤ 1048576) :
    Calls Try.prog 30 #[.slice a 0 cap, .int .i64 l] w fun e w' => ∃ r : Int, e = .returned (.int .i64 r) ∧ (r < 0 ∨ (0 ≤ r ∧ r = l - ([] : Rn).length - runsLen [])) ∧ Below w.heap.size w w' := by
  have hd : ¬ l < 0 := by omega
  go_enter Try.func30, Try.ntmps30
  go_wp2
  refine wp_loop_rounds 1 ?_
  rw [rounds_succ]
  go_wp2
  go_ret
  exact ⟨l, rfl, .inr ⟨h0, by simp [runsLen]⟩, Below.refl _ _⟩

theorem szItemSS_any (v : Value) (zss : Rn) (l : Int) (w : World) (h : RawRuns w v zss) (h0 : 0 ≤ l) (h1 : l ≤ 1048576) :
    Calls Try.prog 30 #[v, .int .i64 l] w fun e w' => ∃ r : Int, e = .returned (.int .i64 r) ∧ (r < 0 ∨ (0 ≤ r ∧ r = l - zss.length - runsLen zss)) ∧ Below w.heap.size w w' := by
  obtain ⟨hl, a, cap, rfl, hc⟩ := h
  by_cases hx : zss = []
  · subst hx
    exact szItemSS_none a cap l w h0 h1
  · obtain ⟨b, off, rfl, hbl, hcell⟩ := hc hx
    exact szItemSS_some b off cap zss l w h0 h1 hl hbl hcell

set_option maxHeartbeats 1000000 in
theorem szSpine_any (v : Value) (zss : Rn) (l : Int) (w : World) (h : RawRuns w v zss) (h0 : 0 ≤ l) (h1 : l ≤ 1048576) :
    Calls Try.prog 16 #[.agg #[v], .int .i64 l] w fun e w' => ∃ r : Int, e = .returned (.int .i64 r) ∧ (r < 0 ∨ (0 ≤ r ∧ r = l - zss.length - runsLen zss)) ∧ Below w.heap.size w w' := by
  obtain ⟨a, cap, hsh⟩ := h.shape
  obtain ⟨n, HN⟩ : ∃ n, Hid (n = zss.length) := ⟨_, rfl⟩
  rw [← HN.out] at hsh
  subst hsh
  go_enter Try.func16, Try.ntmps16
  go_wp2_with fail
  refine (szItemSS_any _ zss l _ (h.below (below_alloc _)) h0 h1).mono ?_
  rintro e w1 ⟨r, rfl, hr, hb1⟩
  have HK : Hid (Below w.heap.size w w1) := below_then (below_alloc _) hb1
  have HR : Hid (r < 0 ∨ (0 ≤ r ∧ r = l - zss.length - runsLen zss)) := hr
  by_cases hneg : r < 0
  · clear hr hb1 h
    go_wp2
    go_ret
    exact ⟨-1, rfl, .inl (by omega), HK.out⟩
  · clear hr hb1 h
    go_wp2
    go_ret
    exact ⟨r, rfl, HR.out, HK.out⟩

theorem made_nil (n : Nat) : (madeCells #[Value.slice none 0 0] n).toList = List.replicate n vn := by
  apply List.ext_getElem?
  intro j
  by_cases hj : j < n
  · simp [madeCells, hj, vn, Nat.mod_one]
  · rw [List.getElem?_eq_none (by simp [madeCells]; omega), List.getElem?_eq_none (by simp; omega)]

set_option maxHeartbeats 4000000 in
theorem toItemSS_some (b off cap : Nat) (zss : Rn) (w : World) (hpos : 0 < zss.length) (hlim : zss.length + runsLen zss ≤ 1048576) (hbw : b < w.heap.size)
    (hc : ∀ j, j < zss.length → ∃ rv, w.cell? ⟨b, off + j, none⟩ = some rv ∧ RawItems w rv (zss.getD j [])) :
    Calls Try.prog 36 #[.slice (some ⟨b, off, none⟩) zss.length cap] w fun e w' => ∃ v, e = .returned v ∧ OwnR w' w.heap.size w'.heap.size v zss ∧ Below w.heap.size w w' := by
  obtain ⟨i0, hi, hz0, hz1, hz2⟩ := info_parts infoRun
  obtain ⟨n, hn⟩ : ∃ n, n = zss.length := ⟨_, rfl⟩
  have HN : Hid (n = zss.length) := hn
  have hlim0 : n ≤ 1048576 := by omega
  have hrl : ∀ j, j < n → (zss.getD j []).length + rowsLen (zss.getD j []) ≤ 1048576 := fun j hj => by have := runsLen_at (zss := zss) (k := j) (by omega); omega
  rw [← hn] at hpos hc ⊢
  clear hn hlim
  go_enter Try.func36, Try.ntmps36
  go_wp2_with (at_make; refine wpList_make_full _ rfl _ _ 46 rfl w.heap.size 81 i0 (.slice none 0 0) 1 Try.underlying46 hi hz0 hz1 _ _ _ _ n rfl rfl rfl rfl (by rw [hz2]; omega) (by unfold maxLen; omega) (Nat.le_refl _) ?_; intro w1 hown1 hgrow1)
  have hb1 : Below w.heap.size w w1 := (Below.refl _ _).grown hgrow1 (Nat.le_refl _) (by simp)
  have R1 : w1.ownsRow w.heap.size 81 1 (.slice (some ⟨w.heap.size, 0, none⟩) n n) n ([] ++ List.replicate n vn) := by
    have := hown1
    simp only [Value.cells, Nat.mul_one] at this
    rw [made_nil] at this
    simpa using this
  have z1 : w.heap.size + 1 ≤ w1.heap.size := (R1.lt _ rfl).2
  clear hown1 hgrow1
  go_loopw [4] (fun i wr => ∃ k : Nat, k ≤ n ∧ i = .int .i64 k ∧ Hid (∃ ps, wr.ownsRow w.heap.size 81 1 (.slice (some ⟨w.heap.size, 0, none⟩) n n) n (ps ++ List.replicate (n - k) vn) ∧ RunsIn wr (.slice (some ⟨w.heap.size, 0, none⟩) n n) w.heap.size wr.heap.size ps (zss.take k)) ∧ Hid (Below w.heap.size w wr ∧ w.heap.size + 1 ≤ wr.heap.size))
    (fun i _ => n - (intOf i).toNat)
  case atStart => exact ⟨0, Nat.zero_le _, rfl, ⟨[], by simpa using R1, by rw [List.take_zero]; exact hb1.size⟩, hb1, z1⟩
  case round =>
    obtain ⟨k, hk, rfl, HZ, HW⟩ := hrel
    clear R1 hb1 z1
    by_cases hlt : k < n
    · obtain ⟨HB, hsz⟩ := HW.out
      obtain ⟨rv, hrv0, hix0⟩ := hc k hlt
      have hrv := (HB.cell (p := ⟨b, off + k, none⟩) hbw).trans hrv0
      have hxl := hrl k hlt
      have hix := (hix0.below HB).items hxl
      obtain ⟨ra, rc, hsh⟩ := hix0.shape
      obtain ⟨m, HM⟩ : ∃ m, Hid (m = (zss.getD k []).length) := ⟨_, rfl⟩
      rw [← HM.out] at hsh
      subst hsh
      clear hrv0 hix0 hc hrl
      go_wp2_with fail
      refine (toItemS_any _ _ _ hix hxl).mono ?_
      rintro e w2 ⟨v2, rfl, O2, hb2⟩
      obtain ⟨ps, hr1, hr2⟩ := HZ.out
      have hlp : ps.length = k := by rw [hr2.len, List.length_take, ← HN.out]; omega
      have hr1' := ownsRow_only hr1 (below_only hb2) (fun b hb => by simp [Value.ownBlock] at hb; omega)
      have hr2' := hr2.keep hb2
      have hst := hr1'.stored k v2
      have hset : (ps ++ List.replicate (n - k) vn).set k v2 = (ps ++ [v2]) ++ List.replicate (n - (k + 1)) vn := by
        obtain ⟨d, hd⟩ : ∃ d, n - k = d + 1 := ⟨n - k - 1, by omega⟩
        rw [List.set_append_right _ _ (by omega), hlp, Nat.sub_self, hd, List.replicate_succ, List.set_cons_zero, show n - (k + 1) = d by omega, List.append_assoc]
        rfl
      rw [hset] at hst
      have hon : Only w.heap.size (w.heap.size + 1) w2 (w2.setCell ⟨w.heap.size, k, none⟩ v2) := (Only.refl w.heap.size (w.heap.size + 1) w2).setCell (p := ⟨w.heap.size, k, none⟩) (Nat.le_refl _) (Nat.lt_succ_self _) _
      have R : Hid (∃ ps, (w2.setCell ⟨w.heap.size, k, none⟩ v2).ownsRow w.heap.size 81 1 (.slice (some ⟨w.heap.size, 0, none⟩) n n) n (ps ++ List.replicate (n - (k + 1)) vn) ∧ RunsIn (w2.setCell ⟨w.heap.size, k, none⟩ v2) (.slice (some ⟨w.heap.size, 0, none⟩) n n) w.heap.size w2.heap.size ps (zss.take (k + 1))) := by
        refine ⟨ps ++ [v2], hst.1, ?_⟩
        have hsn := RunsIn.snoc (v := .slice (some ⟨w.heap.size, 0, none⟩) n n) hb2.size O2 (fun b hb => by simp [Value.ownBlock] at hb; omega) hr2' (Nat.le_refl _)
        have ht : zss.take (k + 1) = zss.take k ++ [zss.getD k []] := by
          have hk' : k < zss.length := by rw [← HN.out]; exact hlt
          rw [List.take_succ_eq_append_getElem hk']
          simp [List.getD, hk']
        rw [ht]
        exact hsn.onlyV rfl hon
      have hcu : ∃ u, w2.cell? ⟨w.heap.size, k, none⟩ = some u := ⟨_, ps_get hr1' hlt⟩
      have hfz := hr1'.frozenAt k
      have HB2 : Hid (Below w.heap.size w (w2.setCell ⟨w.heap.size, k, none⟩ v2) ∧ w.heap.size + 1 ≤ w2.heap.size) := ⟨(below_then HB hb2).setCell (Nat.le_refl _) _, by have := hb2.size; omega⟩
      obtain ⟨u, hcu⟩ := hcu
      have hone : ∃ a n c, v2 = .slice a n c := by
        obtain ⟨a, c, h⟩ := O2.tail.shape1
        exact ⟨a, _, c, h⟩
      obtain ⟨ra2, rn2, rc2, rfl⟩ := hone
      clear HB HZ HW O2 hb2 hix hrv hr1 hr2 hr1' hr2' hst hon hset hsz
      go_wp2
      go_roundw
      case rel => exact ⟨k + 1, by omega, by go_num, by show ∃ _, _; simpa using R.out, by show _ ∧ _; simpa using HB2.out⟩
      case measure => simp [intOf]; omega
    · have e : k = n := by omega
      subst e
      clear hc hrl
      go_wp2
      go_ret
      obtain ⟨ps, hr1, hr2⟩ := HZ.out
      rw [show zss.take k = zss by rw [HN.out, List.take_length]] at hr2
      have hl := HN.out
      refine ⟨_, rfl, ⟨ps, ?_, fun b hb => ?_, by omega, Nat.le_refl _, hr2⟩, HW.out.1⟩
      · rw [← hl]; simpa using hr1
      · exact (hr1.lt b hb).2

theorem toItemSS_none (a : Option Addr) (cap : Nat) (w : World) :
    Calls Try.prog 36 #[.slice a 0 cap] w fun e w' => ∃ v, e = .returned v ∧ OwnR w' w.heap.size w'.heap.size v [] ∧ Below w.heap.size w w' := by
  obtain ⟨i0, hi, hz0, hz1, hz2⟩ := info_parts infoRun
  go_enter Try.func36, Try.ntmps36
  go_wp2_with (at_make; refine wpList_make_full _ rfl _ _ 46 rfl w.heap.size 81 i0 (.slice none 0 0) 1 Try.underlying46 hi hz0 hz1 _ _ _ _ 0 rfl rfl rfl rfl (by rw [hz2]; omega) (by unfold maxLen; omega) (Nat.le_refl _) ?_; intro w1 hown1 hgrow1)
  have hb1 : Below w.heap.size w w1 := (Below.refl _ _).grown hgrow1 (Nat.le_refl _) (by simp)
  have R1 : OwnR w1 w.heap.size w1.heap.size (.slice (some ⟨w.heap.size, 0, none⟩) 0 0) [] := by
    have := hown1
    simp only [Value.cells, Nat.mul_one] at this
    rw [made_nil] at this
    exact ⟨[], by simpa using this, fun k hk => (this.lt k hk).2, by simp, Nat.le_refl _, hb1.size⟩
  clear hown1 hgrow1
  refine wp_loop_rounds 1 ?_
  rw [rounds_succ]
  go_wp2
  go_ret
  exact ⟨_, rfl, R1, hb1⟩

theorem toItemSS_any (v : Value) (zss : Rn) (w : World) (h : RawRuns w v zss) (hlim : zss.length + runsLen zss ≤ 1048576) :
    Calls Try.prog 36 #[v] w fun e w' => ∃ v, e = .returned v ∧ OwnR w' w.heap.size w'.heap.size v zss ∧ Below w.heap.size w w' := by
  obtain ⟨hl, a, cap, rfl, hc⟩ := h
  by_cases hx : zss = []
  · subst hx
    exact toItemSS_none a cap w
  · obtain ⟨b, off, rfl, hbl, hcell⟩ := hc hx
    exact toItemSS_some b off cap zss w (List.length_pos_iff.2 hx) hlim hbl hcell

set_option maxHeartbeats 2000000 in
theorem toSpine_any (v : Value) (zss : Rn) (w : World) (h : RawRuns w v zss) (hlim : zss.length + runsLen zss ≤ 1048576) :
    Calls Try.prog 21 #[.agg #[v]] w fun e w' => ∃ v, e = .returned (.agg #[v]) ∧ OwnR w' w.heap.size w'.heap.size v zss ∧ Below w.heap.size w w' := by
  obtain ⟨a, cap, hsh⟩ := h.shape
  obtain ⟨n, HN⟩ : ∃ n, Hid (n = zss.length) := ⟨_, rfl⟩
  rw [← HN.out] at hsh
  subst hsh
  go_enter Try.func21, Try.ntmps21
  go_wp2_with fail
  refine (toItemSS_any _ zss _ (((h.below (below_alloc _)).below (below_alloc _)).below (below_alloc _)) hlim).mono ?_
  rintro e w1 ⟨v1, rfl, O1, hb1⟩
  have hs3 : (((w.alloc (Obj.cells #[Value.slice a n cap] 33)).alloc (Obj.cells #[Value.slice none 0 0] 48)).alloc (Obj.cells #[Value.slice none 0 0] 48)).heap.size = w.heap.size + 3 := by simp
  have hbw : Below w.heap.size w w1 := below_then (below_then (below_then (below_alloc _) (below_alloc _)) (below_alloc _)) hb1
  have c2 : w1.cell? ⟨w.heap.size + 1, 0, none⟩ = some (.slice none 0 0) := cell_is hb1 (by rw [hs3]; exact (show w.heap.size + 1 < w.heap.size + 3 by omega)) (by simp [go_sem])
  have c3 : w1.cell? ⟨w.heap.size + 1 + 1, 0, none⟩ = some (.slice none 0 0) := cell_is hb1 (by rw [hs3]; exact (show w.heap.size + 1 + 1 < w.heap.size + 3 by omega)) (by simp [go_sem])
  have f2 : w1.frozen? ⟨w.heap.size + 1, 0, none⟩ = false := frozen_is hb1 (by rw [hs3]; exact (show w.heap.size + 1 < w.heap.size + 3 by omega)) (by simp [go_sem])
  have f3 : w1.frozen? ⟨w.heap.size + 1 + 1, 0, none⟩ = false := frozen_is hb1 (by rw [hs3]; exact (show w.heap.size + 1 + 1 < w.heap.size + 3 by omega)) (by simp [go_sem])
  have hsz := hb1.size
  rw [hs3] at O1 hsz
  obtain ⟨a1, cap1, hsh1⟩ := O1.shape
  rw [← HN.out] at hsh1
  subst hsh1
  clear h hb1 hs3
  go_wp2
  refine bodyPost_ret (v := .agg #[.slice a1 n cap1]) (by simp [results, Try.results21, go_sem, c2]) rfl ⟨_, rfl, ?_, ?_⟩
  · have hon : Only (w.heap.size + 1) (w.heap.size + 3) w1 ((w1.setCell ⟨w.heap.size + 1 + 1, 0, none⟩ (.slice a1 n cap1)).setCell ⟨w.heap.size + 1, 0, none⟩ (.slice a1 n cap1)) :=
      ((Only.refl _ _ _).setCell (by simp) (by simp) _).setCell (by simp) (by simp) _
    exact (O1.only hon (.inr (Nat.le_refl _))).wide (by omega) (by simp) (by simp)
  · exact (hbw.setCell (by simp; omega) _).setCell (by simp) _

theorem TailZ.drewN {w : World} {v : Value} {zs : List It} (h : TailZ w v zs) (n : Nat) : TailZ (w.drewN n) v zs := h.below (below_drewN (Below.refl _ _) _)

set_option maxHeartbeats 4000000 in
theorem eqItemSS_some (b off cap b2 off2 cap2 : Nat) (zss : Rn) (w : World) (hpos : 0 < zss.length) (hlim : zss.length ≤ 140737488355328) (hbw : b < w.heap.size) (hbw2 : b2 < w.heap.size)
    (hc : ∀ j, j < zss.length → ∃ rv, w.cell? ⟨b, off + j, none⟩ = some rv ∧ TailZ w rv (zss.getD j []))
    (hc2 : ∀ j, j < zss.length → ∃ rv, w.cell? ⟨b2, off2 + j, none⟩ = some rv ∧ TailZ w rv (zss.getD j [])) :
    Calls Try.prog 44 #[.slice (some ⟨b, off, none⟩) zss.length cap, .slice (some ⟨b2, off2, none⟩) zss.length cap2] w fun e w' => e = .returned (.bool true) ∧ Below w.heap.size w w' := by
  obtain ⟨n, hn⟩ : ∃ n, n = zss.length := ⟨_, rfl⟩
  rw [← hn] at hpos hlim hc hc2 ⊢
  clear hn
  go_enter Try.func44, Try.ntmps44
  go_wp2
  go_loopw [5] (fun i wr => ∃ k : Nat, k ≤ n ∧ i = .int .i64 k ∧ Hid (Below w.heap.size w wr)) (fun i _ => n - (intOf i).toNat)
  case atStart => exact ⟨0, Nat.zero_le _, rfl, Below.refl _ _⟩
  case round =>
    obtain ⟨k, hk, rfl, HW⟩ := hrel
    by_cases hlt : k < n
    · have HB := HW.out
      obtain ⟨rv, hrv0, hix0⟩ := hc k hlt
      have hrv := (HB.cell (p := ⟨b, off + k, none⟩) hbw).trans hrv0
      have hix := hix0.below HB
      obtain ⟨rv2, hrv02, hix02⟩ := hc2 k hlt
      have hrv2 := (HB.cell (p := ⟨b2, off2 + k, none⟩) hbw2).trans hrv02
      have hix2 := hix02.below HB
      clear hrv0 hix0 hrv02 hix02 HB hc hc2
      obtain ⟨x, HX⟩ : ∃ x, Hid (x = zss.getD k []) := ⟨_, rfl⟩
      rw [← HX.out] at hix hix2
      obtain ⟨m, HM⟩ : ∃ m, Hid (m = x.length) := ⟨_, rfl⟩
      obtain ⟨ra, rc, hsh⟩ := hix.shape1
      obtain ⟨ra2, rc2, hsh2⟩ := hix2.shape1
      rw [← HM.out] at hsh hsh2
      subst hsh
      subst hsh2
      go_wp2
      go_region_with (go_at_call 66; refine (eqItemS_self _ _ x _ (by first | exact hix.items | exact (hix.drewN _).items | exact (hix.below (Below.drew (Below.refl _ _))).items) (by first | exact hix2.items | exact (hix2.drewN _).items | exact (hix2.below (Below.drew (Below.refl _ _))).items)).mono ?_; rintro e w1 ⟨rfl, hb1⟩)
      all_goals
        have HK : Hid (Below w.heap.size w w1) := below_then HW.out (by first | exact hb1 | exact below_then (below_drewN (Below.refl _ _) _) hb1 | exact below_then (Below.drew (Below.refl _ _)) hb1)
        clear hix hix2 hrv hrv2
        go_wp2
        go_roundw
        case rel => exact ⟨k + 1, by omega, by go_num, HK.out⟩
        case measure => simp [intOf]; omega
    · have e : k = n := by omega
      subst e
      clear hc hc2
      go_wp2
      go_ret
      exact ⟨rfl, HW.out⟩

theorem eqItemSS_none (a : Option Addr) (cap : Nat) (a2 : Option Addr) (cap2 : Nat) (w : World) :
    Calls Try.prog 44 #[.slice a 0 cap, .slice a2 0 cap2] w fun e w' => e = .returned (.bool true) ∧ Below w.heap.size w w' := by
  go_enter Try.func44, Try.ntmps44
  go_wp2
  refine wp_loop_rounds 1 ?_
  rw [rounds_succ]
  go_wp2
  go_ret
  exact ⟨rfl, Below.refl _ _⟩

theorem eqItemSS_self (v v2 : Value) (zss : Rn) (w : World) (h : RunsAt w v zss) (h2 : RunsAt w v2 zss) :
    Calls Try.prog 44 #[v, v2] w fun e w' => e = .returned (.bool true) ∧ Below w.heap.size w w' := by
  rcases h.cases with ⟨a, cap, rfl, rfl, _⟩ | ⟨b, off, cap, hpos, hlim, _, _, rfl, hbw, hc⟩
  · obtain ⟨a2, cap2, rfl⟩ := h2.shape
    exact eqItemSS_none a cap a2 cap2 w
  · rcases h2.cases with ⟨a2, cap2, rfl, _⟩ | ⟨b2, off2, cap2, _, _, _, _, rfl, hbw2, hc2⟩
    · simp at hpos
    · exact eqItemSS_some b off cap b2 off2 cap2 zss w hpos hlim hbw hbw2 hc hc2

set_option maxHeartbeats 1000000 in
theorem eqSpine_self (v v2 : Value) (zss : Rn) (w : World) (h : RunsAt w v zss) (h2 : RunsAt w v2 zss) :
    Calls Try.prog 27 #[.agg #[v], .agg #[v2]] w fun e w' => e = .returned (.bool true) ∧ Below w.heap.size w w' := by
  obtain ⟨a, cap, hsh⟩ := h.shape
  obtain ⟨a2, cap2, hsh2⟩ := h2.shape
  obtain ⟨n, HN⟩ : ∃ n, Hid (n = zss.length) := ⟨_, rfl⟩
  rw [← HN.out] at hsh hsh2
  subst hsh
  subst hsh2
  go_enter Try.func27, Try.ntmps27
  go_wp2_with fail
  refine (eqItemSS_self _ _ zss _ ((h.below (below_alloc _)).below (below_alloc _)) ((h2.below (below_alloc _)).below (below_alloc _))).mono ?_
  rintro e w1 ⟨rfl, hb1⟩
  have HK : Hid (Below w.heap.size w w1) := below_then (below_then (below_alloc _) (below_alloc _)) hb1
  clear hb1 h h2
  go_wp2
  go_ret
  exact ⟨rfl, HK.out⟩

end Go.Proofs.Ytfmgohoddaobmaa
