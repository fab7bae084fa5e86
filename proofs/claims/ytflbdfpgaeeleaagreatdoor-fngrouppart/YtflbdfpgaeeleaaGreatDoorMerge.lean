/-
  The contracts of impl.merge at items (with impl.compareItems and the closure that adds weights): the merged pairs, their rows as they lay.
-/
import Derived.Test.YtflbdfpgaeeleaaGreatDoorPutWalk
import Derived.Deep.RegionHeld
namespace Go.Proofs.YtflbdfpgaeeleaaGreatDoor
set_option maxRecDepth 100000
open Go.RowKit
attribute [local go_sem ↓] Go.wp_at_zero Go.wp_at_succ

/-- The rows of triples, in the memory w. -/
def RowsIn (w : World) (l : List Rw) : Prop := ∀ x ∈ l, IntsAt w x.1 x.2.1
theorem RowsIn.below {w w' : World} {l : List Rw} (h : RowsIn w l) (hb : Below w.heap.size w w') : RowsIn w' l := fun x hx => (h x hx).below hb
theorem RowsIn.shape {w : World} {l : List Rw} (h : RowsIn w l) : ∀ p ∈ prs l, ∃ a n c, p.1 = Value.slice a n c := fun p hp => by
  obtain ⟨q, hq, rfl⟩ := List.mem_map.1 hp
  exact (h q hq).shape

theorem ItemsAt.opened {w : World} {v : Value} {zs : List It} (h : ItemsAt w v zs) : ∃ l : List Rw, zs = its l ∧ PairsAt w v (prs l) ∧ RowsIn w l := by
  obtain ⟨ps, hp, he, hr⟩ := h.pairs
  have hl := snd_len he
  have hL : (List.zipWith (fun (p : Value × Int) (z : It) => ((p.1, z) : Rw)) ps zs).length = ps.length := by simp; omega
  have hg : ∀ j (hj : j < ps.length), (List.zipWith (fun (p : Value × Int) (z : It) => ((p.1, z) : Rw)) ps zs)[j]'(by omega) = ((ps.getD j (vn, 0)).1, zs.getD j ([], 0)) := fun j hj => by
    have hz : j < zs.length := by omega
    simp [List.getD, hj, hz]
  have e1 : its (List.zipWith (fun (p : Value × Int) (z : It) => ((p.1, z) : Rw)) ps zs) = zs := by
    apply List.ext_getElem
    · simp [its]; omega
    · intro j h1 h2
      simp [its]
  have e2 : prs (List.zipWith (fun (p : Value × Int) (z : It) => ((p.1, z) : Rw)) ps zs) = ps := by
    apply List.ext_getElem
    · simp [prs]; omega
    · intro j h1 h2
      have hz : j < zs.length := by omega
      have := snd_getD he j
      simp [List.getD, h2, hz] at this
      simp [prs, ← this]
  refine ⟨_, e1.symm, by rw [e2]; exact hp, fun x hx => ?_⟩
  obtain ⟨j, hj, rfl⟩ := List.getElem_of_mem hx
  rw [hL] at hj
  rw [hg j hj]
  exact hr j (by omega)
theorem PairsAt.itemsOf {w : World} {v : Value} {l : List Rw} (h : PairsAt w v (prs l)) (hr : RowsIn w l) : ItemsAt w v (its l) := by
  refine h.items (by simp [prs, its]) fun j hj => ?_
  rw [its_length] at hj
  have := hr _ (List.getElem_mem hj)
  simpa [prs, its, List.getD, hj] using this

set_option maxHeartbeats 1000000 in
theorem meet_any (a : Value) (y1 : Int) (b : Value) (y2 : Int) (w : World) (ha : ∃ x n c, a = .slice x n c) (hb : ∃ x n c, b = .slice x n c) (h1 : -4611686018427387904 ≤ y1 ∧ y1 ≤ 4611686018427387903) (h2 : -4611686018427387904 ≤ y2 ∧ y2 ≤ 4611686018427387903) :
    Calls Tryz.prog 65 #[.agg #[a, .int .i64 y1], .agg #[b, .int .i64 y2]] w fun e w' => e = .returned (.agg #[a, .int .i64 (y1 + y2)]) ∧ Below w.heap.size w w' := by
  obtain ⟨xa, xn, xc, rfl⟩ := ha
  obtain ⟨ya, yn, yc, rfl⟩ := hb
  go_enter Tryz.func65, Tryz.ntmps65
  go_wp2
  exact bodyPost_ret (v := .agg #[.slice xa xn xc, .int .i64 (y1 + y2)]) (by simp [results, Tryz.results65, go_sem]) rfl ⟨rfl, below_then (below_then (below_alloc _) (below_alloc _)) (below_alloc _)⟩

def sLen (v : Value) : Nat := match v with
  | .slice _ n _ => n
  | _ => 0

/-- A slice of pairs, and that its capacity holds them. -/
def Tail (w : World) (s : Value) (ps : List (Value × Int)) : Prop := PairsAt w s ps ∧ ∃ a c, s = .slice a ps.length c ∧ ps.length ≤ c ∧ c ≤ 9223372036854775807
theorem Tail.below {w w' : World} {s : Value} {ps : List (Value × Int)} (h : Tail w s ps) (hb : Below w.heap.size w w') : Tail w' s ps := ⟨h.1.below hb, h.2⟩
theorem Tail.next {w : World} {s : Value} {p : Value × Int} {ps : List (Value × Int)} (h : Tail w s (p :: ps)) :
    ∃ (b off c : Nat) (ad : Addr), s = .slice (some ⟨b, off, none⟩) (ps.length + 1) c ∧ ps.length + 1 ≤ c ∧ c ≤ 9223372036854775807 ∧ b < w.heap.size ∧ w.cell? ⟨b, off, none⟩ = some p.1 ∧ w.cell? ⟨b, off + 1, none⟩ = some (.int .i64 p.2) ∧
      (if c = 1 then some (⟨b, off, none⟩ : Addr) else some ⟨b, off + 2, none⟩) = some ad ∧ Tail w (.slice (some ad) ps.length (c - 1)) ps := by
  obtain ⟨⟨h1, h2, a, cap, rfl, h4, hc⟩, a', c, e, hcap, hmax⟩ := h
  simp at e
  obtain ⟨rfl, rfl⟩ := e
  obtain ⟨b, off, rfl, hb, hcell⟩ := hc (by simp)
  obtain ⟨c0, c1⟩ := hcell 0 (by simp)
  simp at c0 c1 hcap h1
  have hp : PairsAt w (.slice (some ⟨b, off, none⟩) (ps.length + 1) cap) (p :: ps) := ⟨by simp; omega, h2, _, cap, by simp, fun h => by simp at h, fun _ => ⟨b, off, rfl, hb, hcell⟩⟩
  by_cases hc1 : cap = 1
  · refine ⟨b, off, cap, ⟨b, off, none⟩, by simp, hcap, hmax, hb, c0, c1, if_pos hc1, ?_, _, _, rfl, by omega, by omega⟩
    have h0 : ps = [] := List.length_eq_zero_iff.1 (by omega)
    subst h0
    exact ⟨by simp, fun p hp => by simp at hp, _, _, rfl, fun h => by simp at h, fun h => absurd rfl h⟩
  · refine ⟨b, off, cap, ⟨b, off + 2, none⟩, by simp, hcap, hmax, hb, c0, c1, if_neg hc1, ?_, _, _, rfl, by omega, by omega⟩
    have := hp.dropped (k := 1) (by simp) (cap - 1)
    simpa using this

/-- What is wanted to put a pair, written out in a new block, behind pairs of the call's own, and what it leaves. -/
theorem merge_ready {w : World} {lo hi : Nat} {v xv : Value} {done : List Rw} (y : Int) (S : Spine w lo hi v (prs done)) (hs : ∃ a n c, xv = Value.slice a n c) (hlo : lo ≤ w.heap.size) (hlim : done.length ≤ 1099511627776) :
    (w.alloc (.cells #[xv, .int .i64 y] 36)).ownsRow lo 36 2 v (prs done).length (cells2 (prs done)) ∧ PairsAt (w.alloc (.cells #[xv, .int .i64 y] 36)) (.slice (some ⟨w.heap.size, 0, none⟩) 1 1) [(xv, y)] ∧
      ∀ v' w' (x : List Int), w'.ownsRow lo 36 2 v' (prs done ++ [(xv, y)]).length (cells2 (prs done ++ [(xv, y)])) → (w.alloc (.cells #[xv, .int .i64 y] 36)).grownBy w' v.ownBlock → Spine w' lo w'.heap.size v' (prs (done ++ [(xv, (x, y))])) ∧ Below lo w w' := by
  have hb := below_alloc (w := w) (.cells #[xv, .int .i64 y] 36)
  refine ⟨(S.keep' hb).1, pairs_lit w _ y hs, fun v' w' x ho hg => ⟨?_, ?_⟩⟩
  · have e : prs (done ++ [(xv, (x, y))]) = prs done ++ [(xv, y)] := by simp [prs]
    rw [e]
    exact spine_new ho (by rw [List.length_append, prs_length]; simp; omega)
  · exact (hb.mono hlo).grown hg (by simp; omega) (fun k hk => (S.1.lt k hk).1)

theorem mrg_lt {x y : It} {a b : List It} (h : ordL x.1 y.1 = -1) : mrgZ (x :: a) (y :: b) = x :: mrgZ a (y :: b) := by rw [mrgZ_cons, if_pos h]
theorem mrg_gt {x y : It} {a b : List It} (h : ordL x.1 y.1 = 1) : mrgZ (x :: a) (y :: b) = y :: mrgZ (x :: a) b := by rw [mrgZ_cons, if_neg (by omega), if_pos h]
theorem mrg_eq {x y : It} {a b : List It} (h : ordL x.1 y.1 = 0) : mrgZ (x :: a) (y :: b) = (x.1, x.2 + y.2) :: mrgZ a b := by rw [mrgZ_cons, if_neg (by omega), if_neg (by omega)]

def Low (l : List Rw) : Prop := ∀ x ∈ l, -4611686018427387904 ≤ x.2.2 ∧ x.2.2 ≤ 4611686018427387903

set_option maxHeartbeats 16000000 in
theorem merge_any (va vb : Value) (A B : List Rw) (w : World) (ha : Tail w va (prs A)) (hb : Tail w vb (prs B)) (hra : RowsIn w A) (hrb : RowsIn w B) (hla : Low A) (hlb : Low B) (hA : A.length ≤ 1048576) (hB : B.length ≤ 1048576) :
    Calls Tryz.prog 64 #[va, vb, .func (.func 24) #[] #[], .func (.func 65) #[] #[]] w fun e w' => ∃ v', e = .returned v' ∧ ∃ l : List Rw, its l = mrgZ (its A) (its B) ∧ RowsIn w l ∧ Spine w' w.heap.size w'.heap.size v' (prs l) ∧ Below w.heap.size w w' := by
  obtain ⟨i0, hi0, hz0, hz1, hz2⟩ := info_parts infoItem
  have hva := ha.2
  have hvb := hb.2
  obtain ⟨aa, ca, rfl, hca, hcam⟩ := hva
  obtain ⟨ba, cb, rfl, hcb, hcbm⟩ := hvb
  have HA : Hid (Tail w (.slice aa (prs A).length ca) (prs A)) := ha
  have HB : Hid (Tail w (.slice ba (prs B).length cb) (prs B)) := hb
  have HRA : Hid (RowsIn w A) := hra
  have HRB : Hid (RowsIn w B) := hrb
  have HLA : Hid (Low A) := hla
  have HLB : Hid (Low B) := hlb
  obtain ⟨n, hn⟩ : ∃ n, n = (prs A).length := ⟨_, rfl⟩
  obtain ⟨m, hm⟩ : ∃ m, m = (prs B).length := ⟨_, rfl⟩
  rw [← prs_length, ← hn] at hA
  rw [← prs_length, ← hm] at hB
  have HN : Hid (n = (prs A).length) := hn
  have HM : Hid (m = (prs B).length) := hm
  rw [← hn] at HA hca ⊢
  rw [← hm] at HB hcb ⊢
  clear ha hb hra hrb hla hlb hn hm hca hcb hcam hcbm
  go_enter Tryz.func64, Tryz.ntmps64
  go_wp2_with (at_make; refine wpList_make_own _ rfl _ _ 23 rfl w.heap.size 36 i0 (.agg #[.slice none 0 0, .int .i64 0]) 2 Tryz.underlying23 hi0 hz0 hz1 _ _ _ (n + m) rfl rfl (by omega) (by rw [hz2]; omega) (by unfold maxLen; omega) (Nat.le_refl _) ?_; intro w1 hown1 hgrow1; have hb1 : Below w.heap.size w w1 := (Below.refl _ _).grown hgrow1 (Nat.le_refl _) (by simp))
  have S1 : Hid (Spine w1 w.heap.size w1.heap.size (.slice (some ⟨w.heap.size, 0, none⟩) 0 (n + m)) (prs [])) := spine_new (n := 0) hown1 (by simp [prs])
  have HB1 : Hid (Below w.heap.size w w1) := hb1
  clear hown1 hgrow1 hb1
  go_loopw [0, 1, 9] (fun s0 s1 s9 wr => ∃ la lb done : List Rw, Hid (Tail w s0 (prs la)) ∧ Hid (Tail w s1 (prs lb)) ∧ Hid (its done ++ mrgZ (its la) (its lb) = mrgZ (its A) (its B)) ∧ Hid (RowsIn w la) ∧ Hid (RowsIn w lb) ∧ Hid (RowsIn w done) ∧ Hid (Low la) ∧ Hid (Low lb) ∧
      la.length + lb.length + done.length ≤ 2097152 ∧ Hid (Spine wr w.heap.size wr.heap.size s9 (prs done)) ∧ Hid (Below w.heap.size w wr)) (fun s0 s1 _ _ => sLen s0 + sLen s1)
  case atStart => exact ⟨A, B, [], HA.out, HB.out, by simp [Hid, its], HRA.out, HRB.out, fun x hx => by simp at hx, HLA.out, HLB.out, by have h1 := HN.out; have h2 := HM.out; rw [prs_length] at h1 h2; simp; omega, S1.out, HB1.out⟩
  case round =>
    obtain ⟨la, lb, done, HTA, HTB, HE, HRa, HRb, HRd, HLa, HLb, hlen, HS, HW⟩ := hrel
    clear HA HB HRA HRB HLA HLB S1 HB1
    by_cases hstop : la = [] ∨ lb = []
    · have HFIN : Hid (its (done ++ la ++ lb) = mrgZ (its A) (its B)) := by
        show its (done ++ la ++ lb) = _
        rw [← HE.out, its_append, its_append, List.append_assoc]
        rcases hstop with h | h
        · rw [h]; simp [its, mrgZ_nil]
        · rw [h]; simp [its, mrgZ_nil']
      have HRF : Hid (RowsIn w (done ++ la ++ lb)) := fun x hx => by
        rcases List.mem_append.1 hx with h | h
        · rcases List.mem_append.1 h with h | h
          · exact HRd.out x h
          · exact HRa.out x h
        · exact HRb.out x h
      obtain ⟨hpa, a0, c0, rfl, hc0, hm0⟩ := HTA.out
      obtain ⟨hpb, a1, c1, rfl, hc1, hm1⟩ := HTB.out
      have hown0 := HS.out.1
      have hpa1 := hpa.below HW.out
      have hwsz := HW.out.size
      have hlA : (prs la).length = la.length := prs_length la
      have hlB : (prs lb).length = lb.length := prs_length lb
      have hlD : (prs done).length = done.length := prs_length done
      obtain ⟨k0, HK0⟩ : ∃ k, Hid (k = (prs la).length) := ⟨_, rfl⟩
      obtain ⟨k1, HK1⟩ : ∃ k, Hid (k = (prs lb).length) := ⟨_, rfl⟩
      have hsum : ((prs done).length + (prs la).length) * 32 ≤ 140737488355328 := by omega
      have hsum2 : ((prs done ++ prs la).length + (prs lb).length) * 32 ≤ 140737488355328 := by rw [List.length_append]; omega
      have hall : (prs done ++ prs la ++ prs lb).length ≤ 140737488355328 := by rw [List.length_append, List.length_append]; omega
      have hk01 : k0 = 0 ∨ k1 = 0 := by
        rw [HK0.out, HK1.out]
        rcases hstop with h | h
        · exact .inl (by rw [h]; rfl)
        · exact .inr (by rw [h]; rfl)
      have hk0 : k0 ≤ 2097152 := by rw [HK0.out]; omega
      have hk1 : k1 ≤ 2097152 := by rw [HK1.out]; omega
      rw [← HK0.out] at hpa1 hc0 ⊢
      rw [← HK1.out] at hpb hc1 ⊢
      clear hstop hpa hlA hlB hlD hc0 hc1
      by_cases hk00 : k0 = 0
      · subst hk00
        go_wp2_with (first
          | (at_builtin; refine wpList_append_pairs rfl (.tmp 70) (.tmp 71) 23 rfl w.heap.size 36 i0 Tryz.underlying23 hi0 hz0 hz1 hz2 u9 (prs done) rfl hown0 (.slice a0 0 c0) (prs la) rfl hpa1 hsum hwsz ?_; intro v2 w2 hown2 hg2 _; have hb2 : Below w.heap.size w w2 := HW.out.grown hg2 hwsz (fun k hk => (hown0.lt k hk).1); have hpb2 := hpb.below hb2; have hwsz2 := hb2.size)
          | (at_builtin; refine wpList_append_pairs rfl (.tmp 72) (.tmp 73) 23 rfl w.heap.size 36 i0 Tryz.underlying23 hi0 hz0 hz1 hz2 v2 (prs done ++ prs la) rfl hown2 (.slice a1 k1 c1) (prs lb) rfl hpb2 hsum2 hwsz2 ?_; intro v3 w3 hown3 hg3 _; have hb3 : Below w.heap.size w w3 := hb2.grown hg3 hwsz2 (fun k hk => (hown2.lt k hk).1)))
        go_ret
        refine ⟨_, rfl, done ++ la ++ lb, HFIN.out, HRF.out, ?_, hb3⟩
        rw [prs_append, prs_append]
        exact spine_new hown3 hall
      · obtain rfl : k1 = 0 := by omega
        have hk0p : 0 < k0 := by omega
        go_wp2_with (first
          | (at_builtin; refine wpList_append_pairs rfl (.tmp 70) (.tmp 71) 23 rfl w.heap.size 36 i0 Tryz.underlying23 hi0 hz0 hz1 hz2 u9 (prs done) rfl hown0 (.slice a0 k0 c0) (prs la) rfl hpa1 hsum hwsz ?_; intro v2 w2 hown2 hg2 _; have hb2 : Below w.heap.size w w2 := HW.out.grown hg2 hwsz (fun k hk => (hown0.lt k hk).1); have hpb2 := hpb.below hb2; have hwsz2 := hb2.size)
          | (at_builtin; refine wpList_append_pairs rfl (.tmp 72) (.tmp 73) 23 rfl w.heap.size 36 i0 Tryz.underlying23 hi0 hz0 hz1 hz2 v2 (prs done ++ prs la) rfl hown2 (.slice a1 0 c1) (prs lb) rfl hpb2 hsum2 hwsz2 ?_; intro v3 w3 hown3 hg3 _; have hb3 : Below w.heap.size w w3 := hb2.grown hg3 hwsz2 (fun k hk => (hown2.lt k hk).1)))
        go_ret
        refine ⟨_, rfl, done ++ la ++ lb, HFIN.out, HRF.out, ?_, hb3⟩
        rw [prs_append, prs_append]
        exact spine_new hown3 hall
    · obtain ⟨p, la', rfl⟩ : ∃ p l, la = p :: l := by cases la with | nil => simp at hstop | cons p l => exact ⟨p, l, rfl⟩
      obtain ⟨q, lb', rfl⟩ : ∃ p l, lb = p :: l := by cases lb with | nil => simp at hstop | cons p l => exact ⟨p, l, rfl⟩
      clear hstop
      obtain ⟨xv, x, y⟩ := p
      obtain ⟨rv, r, y2⟩ := q
      obtain ⟨b1, o1, c1, ad1, rfl, hc1, hm1, hbl1, hx0, hx1, hif1, hT1⟩ := HTA.out.next
      obtain ⟨b2, o2, c2, ad2, rfl, hc2, hm2, hbl2, hr0, hr1, hif2, hT2⟩ := HTB.out.next
      have hix : IntsAt w xv x := HRa.out (xv, (x, y)) (by simp)
      have hir : IntsAt w rv r := HRb.out (rv, (r, y2)) (by simp)
      have hyb : -4611686018427387904 ≤ y ∧ y ≤ 4611686018427387903 := HLa.out (xv, (x, y)) (by simp)
      have hyb2 : -4611686018427387904 ≤ y2 ∧ y2 ≤ 4611686018427387903 := HLb.out (rv, (r, y2)) (by simp)
      have HRa' : Hid (RowsIn w la') := fun z hz => HRa.out z (by simp [hz])
      have HRb' : Hid (RowsIn w lb') := fun z hz => HRb.out z (by simp [hz])
      have HLa' : Hid (Low la') := fun z hz => HLa.out z (by simp [hz])
      have HLb' : Hid (Low lb') := fun z hz => HLb.out z (by simp [hz])
      obtain ⟨n1, HN1⟩ : ∃ k, Hid (k = (prs la').length) := ⟨_, rfl⟩
      obtain ⟨n2, HN2⟩ : ∃ k, Hid (k = (prs lb').length) := ⟨_, rfl⟩
      have hl1 : n1 = la'.length := by rw [HN1.out, prs_length]
      have hl2 : n2 = lb'.length := by rw [HN2.out, prs_length]
      simp only [List.length_cons] at hlen
      rw [← hl1, ← hl2] at hlen
      obtain ⟨d, HD⟩ : ∃ k, Hid (k = done.length) := ⟨_, rfl⟩
      rw [← HD.out] at hlen
      have HT1 : Hid (Tail w (.slice (some ad1) n1 (c1 - 1)) (prs la')) := by rw [HN1.out]; exact hT1
      have HT2 : Hid (Tail w (.slice (some ad2) n2 (c2 - 1)) (prs lb')) := by rw [HN2.out]; exact hT2
      have e1 : (List.map (fun x : Rw => (x.1, x.2.2)) la').length = n1 := HN1.out.symm
      have e2 : (List.map (fun x : Rw => (x.1, x.2.2)) lb').length = n2 := HN2.out.symm
      have HL1 : Hid (n1 = la'.length) := hl1
      have HL2 : Hid (n2 = lb'.length) := hl2
      rw [e1] at hc1 HTA ⊢
      rw [e2] at hc2 HTB ⊢
      clear e1 e2 hT1 hT2 hl1 hl2
      have g0 : wr.cell? ⟨b1, o1, none⟩ = some xv := (HW.out.cell (p := ⟨b1, o1, none⟩) hbl1).trans hx0
      have g1 : wr.cell? ⟨b1, o1 + 1, none⟩ = some (.int .i64 y) := (HW.out.cell (p := ⟨b1, o1 + 1, none⟩) hbl1).trans hx1
      have g2 : wr.cell? ⟨b2, o2, none⟩ = some rv := (HW.out.cell (p := ⟨b2, o2, none⟩) hbl2).trans hr0
      have g3 : wr.cell? ⟨b2, o2 + 1, none⟩ = some (.int .i64 y2) := (HW.out.cell (p := ⟨b2, o2 + 1, none⟩) hbl2).trans hr1
      have hbr1 : b1 < wr.heap.size := Nat.lt_of_lt_of_le hbl1 HW.out.size
      have hbr2 : b2 < wr.heap.size := Nat.lt_of_lt_of_le hbl2 HW.out.size
      obtain ⟨xa, xn, xc, rfl⟩ := hix.shape
      obtain ⟨ra, rn, rc, rfl⟩ := hir.shape
      have hixd : IntsAt wr.drew (.slice xa xn xc) x := hix.below HW.out.drew
      have hird : IntsAt wr.drew (.slice ra rn rc) r := hir.below HW.out.drew
      have HIX : Hid (IntsAt w (.slice xa xn xc) x) := hix
      have HIR : Hid (IntsAt w (.slice ra rn rc) r) := hir
      have hpos1 : 0 < n1 + 1 := by omega
      have hpos2 : 0 < n2 + 1 := by omega
      have hone1 : (1 : Int) ≤ (n1 : Int) + 1 := by omega
      have hone2 : (1 : Int) ≤ (n2 : Int) + 1 := by omega
      clear hx0 hx1 hr0 hr1 hix hir
      obtain ⟨o, HO⟩ : ∃ o, Hid (o = ordL x r) := ⟨_, rfl⟩
      go_wp2
      go_region_held (fun w' => w'.cell? ⟨b1, o1, none⟩ = some (.slice xa xn xc) ∧ w'.cell? ⟨b1, o1 + 1, none⟩ = some (.int .i64 y) ∧ w'.cell? ⟨b2, o2, none⟩ = some (.slice ra rn rc) ∧ w'.cell? ⟨b2, o2 + 1, none⟩ = some (.int .i64 y2)) (go_keep)
        ((go_at_call 24; refine (compareItems_any xa xn xc y x ra rn rc y2 r _ hixd hird).mono ?_; rw [← HO.out]; rintro e w2 ⟨rfl, hb2⟩; have q0 := cell_is (p := ⟨b1, o1, none⟩) hb2 hbr1 g0; have q1 := cell_is (p := ⟨b1, o1 + 1, none⟩) hb2 hbr1 g1; have q2 := cell_is (p := ⟨b2, o2, none⟩) hb2 hbr2 g2; have q3 := cell_is (p := ⟨b2, o2 + 1, none⟩) hb2 hbr2 g3))
      all_goals
        have HK : Hid (Below w.heap.size w w2) := below_then HW.out.drew hb2
        have S2 : Hid (Spine w2 w.heap.size w2.heap.size u9 (prs done)) := (HS.out.keep' (below_then (Below.drew (Below.refl _ _)) hb2)).wide (Nat.le_refl _) (by have := hb2.size; exact this) (Nat.le_refl _)
        have hz2' : w.heap.size ≤ w2.heap.size := HK.out.size
        have hdl : (prs done).length = d := by rw [prs_length, HD.out]
        clear hb2 hixd hird HS HW g0 g1 g2 g3 hbr1 hbr2
        rcases ordL_cases x r with ⟨ho, -⟩ | ⟨ho, -, -⟩ | ⟨ho, -⟩
        · have HO1 : Hid (ordL x r = -1) := ho
          obtain rfl : o = -1 := by rw [HO.out]; exact ho
          clear ho HO
          go_wp2
          have S2d : Spine w2.drew w.heap.size w2.heap.size u9 (prs done) := S2.out.keep' (Below.drew (Below.refl _ _))
          obtain ⟨hspW, hprW, hfin⟩ := merge_ready (xv := .slice xa xn xc) y S2d ⟨_, _, _, rfl⟩ hz2' (by rw [← HD.out]; omega)
          go_region_law (first
            | ((refine step_append_at rfl (.tmp 51) (.tmp 55) 23 rfl w.heap.size 36 i0 Tryz.underlying23 hi0 hz0 hz1 hz2 u9 (prs done) (by simp [Act.eval]) hspW ⟨w2.heap.size, 0, none⟩ 1 1 [(.slice xa xn xc, y)] (by simp [Act.eval]) hprW (by rw [hdl]; simp; omega) (by simp; omega) ?_; intro v3 w3 hown3 hg3 hat3)))
          all_goals
            obtain ⟨S3, B3⟩ := hfin v3 w3 x hown3 hg3
            have HK3 : Hid (Below w.heap.size w w3) := HK.out.drew.trans B3
            have HS3 : Hid (Spine w3 w.heap.size w3.heap.size v3 (prs (done ++ [(.slice xa xn xc, (x, y))]))) := S3
            have HE3 : Hid (its (done ++ [(.slice xa xn xc, (x, y))]) ++ mrgZ (its la') (its ((.slice ra rn rc, (r, y2)) :: lb')) = mrgZ (its A) (its B)) := by
              show _ = _
              rw [← HE.out]
              show _ = its done ++ mrgZ ((x, y) :: its la') ((r, y2) :: its lb')
              rw [mrg_lt HO1.out, its_append]
              simp [its]
            have HR3 : Hid (RowsIn w (done ++ [(.slice xa xn xc, (x, y))])) := fun z hz => by
              rcases List.mem_append.1 hz with h | h
              · exact HRd.out z h
              · simp at h; subst h; exact HIX.out
            clear S3 B3 hfin hown3 hg3 hat3 hspW hprW S2d q0 q1 q2 q3
            go_wp2
            simp only [Act.put, List.getElem_toArray, List.getElem_cons_succ, List.getElem_cons_zero, List.setIfInBounds_toArray, List.set_cons_succ, List.set_cons_zero]
            go_roundw
            case rel => exact ⟨la', (Value.slice ra rn rc, (r, y2)) :: lb', done ++ [(Value.slice xa xn xc, (x, y))], HT1.out, HTB.out, HE3.out, HRa'.out, HRb.out, HR3.out, HLa'.out, HLb.out, by have h1 := HL1.out; have h2 := HL2.out; have h3 := HD.out; simp; omega, HS3.out, HK3.out⟩
            case measure => simp [sLen]
        · have HO1 : Hid (ordL x r = 0) := ho
          obtain rfl : o = 0 := by rw [HO.out]; exact ho
          clear ho HO
          go_wp2
          have S2d : Spine w2.drew w.heap.size w2.heap.size u9 (prs done) := S2.out.keep' (Below.drew (Below.refl _ _))
          go_region_law (first
            | (go_simp; go_at_call 65; (refine (meet_any _ y _ y2 _ ⟨_, _, _, rfl⟩ ⟨_, _, _, rfl⟩ hyb hyb2).mono ?_; rintro e w4 ⟨rfl, hb4⟩; obtain ⟨hspW, hprW, hfin⟩ := merge_ready (xv := .slice xa xn xc) (y + y2) (S2d.keep' hb4) ⟨_, _, _, rfl⟩ (Nat.le_trans hz2' hb4.size) (by rw [← HD.out]; omega); have hz4 := Nat.le_trans hz2' hb4.size))
            | ((refine step_append_at rfl (.tmp 33) (.tmp 42) 23 rfl w.heap.size 36 i0 Tryz.underlying23 hi0 hz0 hz1 hz2 u9 (prs done) (by simp [Act.eval]) hspW ⟨w4.heap.size, 0, none⟩ 1 1 [(.slice xa xn xc, y + y2)] (by simp [Act.eval]) hprW (by rw [hdl]; simp; omega) (by simp; omega) ?_; intro v3 w3 hown3 hg3 hat3)))
          all_goals
            obtain ⟨S3, B3⟩ := hfin v3 w3 x hown3 hg3
            have HK3 : Hid (Below w.heap.size w w3) := (below_then HK.out.drew hb4).trans B3
            have HS3 : Hid (Spine w3 w.heap.size w3.heap.size v3 (prs (done ++ [(.slice xa xn xc, (x, y + y2))]))) := S3
            have HE3 : Hid (its (done ++ [(.slice xa xn xc, (x, y + y2))]) ++ mrgZ (its la') (its lb') = mrgZ (its A) (its B)) := by
              show _ = _
              rw [← HE.out]
              show _ = its done ++ mrgZ ((x, y) :: its la') ((r, y2) :: its lb')
              rw [mrg_eq HO1.out, its_append]
              simp [its]
            have HR3 : Hid (RowsIn w (done ++ [(.slice xa xn xc, (x, y + y2))])) := fun z hz => by
              rcases List.mem_append.1 hz with h | h
              · exact HRd.out z h
              · simp at h; subst h; exact HIX.out
            clear S3 B3 hfin hown3 hg3 hat3 hspW hprW S2d q0 q1 q2 q3 hb4
            go_wp2
            simp only [Act.put, List.getElem_toArray, List.getElem_cons_succ, List.getElem_cons_zero, List.setIfInBounds_toArray, List.set_cons_succ, List.set_cons_zero]
            go_roundw
            case rel => exact ⟨la', lb', done ++ [(Value.slice xa xn xc, (x, y + y2))], HT1.out, HT2.out, HE3.out, HRa'.out, HRb'.out, HR3.out, HLa'.out, HLb'.out, by have h1 := HL1.out; have h2 := HL2.out; have h3 := HD.out; simp; omega, HS3.out, HK3.out⟩
            case measure => simp [sLen]; omega
        · have HO1 : Hid (ordL x r = 1) := ho
          obtain rfl : o = 1 := by rw [HO.out]; exact ho
          clear ho HO
          go_wp2
          have S2d : Spine w2.drew w.heap.size w2.heap.size u9 (prs done) := S2.out.keep' (Below.drew (Below.refl _ _))
          obtain ⟨hspW, hprW, hfin⟩ := merge_ready (xv := .slice ra rn rc) y2 S2d ⟨_, _, _, rfl⟩ hz2' (by rw [← HD.out]; omega)
          go_region_law (first
            | ((refine step_append_at rfl (.tmp 62) (.tmp 66) 23 rfl w.heap.size 36 i0 Tryz.underlying23 hi0 hz0 hz1 hz2 u9 (prs done) (by simp [Act.eval]) hspW ⟨w2.heap.size, 0, none⟩ 1 1 [(.slice ra rn rc, y2)] (by simp [Act.eval]) hprW (by rw [hdl]; simp; omega) (by simp; omega) ?_; intro v3 w3 hown3 hg3 hat3)))
          all_goals
            obtain ⟨S3, B3⟩ := hfin v3 w3 r hown3 hg3
            have HK3 : Hid (Below w.heap.size w w3) := HK.out.drew.trans B3
            have HS3 : Hid (Spine w3 w.heap.size w3.heap.size v3 (prs (done ++ [(.slice ra rn rc, (r, y2))]))) := S3
            have HE3 : Hid (its (done ++ [(.slice ra rn rc, (r, y2))]) ++ mrgZ (its ((.slice xa xn xc, (x, y)) :: la')) (its lb') = mrgZ (its A) (its B)) := by
              show _ = _
              rw [← HE.out]
              show _ = its done ++ mrgZ ((x, y) :: its la') ((r, y2) :: its lb')
              rw [mrg_gt HO1.out, its_append]
              simp [its]
            have HR3 : Hid (RowsIn w (done ++ [(.slice ra rn rc, (r, y2))])) := fun z hz => by
              rcases List.mem_append.1 hz with h | h
              · exact HRd.out z h
              · simp at h; subst h; exact HIR.out
            clear S3 B3 hfin hown3 hg3 hat3 hspW hprW S2d q0 q1 q2 q3
            go_wp2
            simp only [Act.put, List.getElem_toArray, List.getElem_cons_succ, List.getElem_cons_zero, List.setIfInBounds_toArray, List.set_cons_succ, List.set_cons_zero]
            go_roundw
            case rel => exact ⟨(Value.slice xa xn xc, (x, y)) :: la', lb', done ++ [(Value.slice ra rn rc, (r, y2))], HTA.out, HT2.out, HE3.out, HRa.out, HRb'.out, HR3.out, HLa.out, HLb'.out, by have h1 := HL1.out; have h2 := HL2.out; have h3 := HD.out; simp; omega, HS3.out, HK3.out⟩
            case measure => simp [sLen]

end Go.Proofs.YtflbdfpgaeeleaaGreatDoor
