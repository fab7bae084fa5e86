/-
  The walk of laws.FnZBent, out of the contracts: it answers true whatever the bytes are, and nothing that was there is written.
-/
import Derived.Test.YtdleikloneaodaaZVals
import Derived.Deep.RegionHeld3
import Derived.Deep.DrawnRows
namespace Go.Proofs.Ytdleikloneaodaa
open Go.RowKit
attribute [local go_sem ↓] Go.wp_at_zero Go.wp_at_succ

theorem bad_weight {zs : List It} {k : Nat} {p : It} (hk : k < zs.length) (h : wB p.2 = false) : zOkB (zs.set k p) = false := by
  refine zOk_miss (k := k) (by simpa using hk) ?_
  unfold stepB
  rw [getD_set_self hk, h]
  simp
theorem bad_again {zs : List It} (h : zOkB zs = true) (hp : 0 < zs.length) : zOkB (zs ++ [zs.getD 0 ([], 0)]) = false := by
  refine zOk_miss (k := zs.length) (by simp) ?_
  have e1 : (zs ++ [zs.getD 0 ([], 0)]).getD zs.length ([], 0) = zs.getD 0 ([], 0) := by simp [List.getD]
  have e2 : (zs ++ [zs.getD 0 ([], 0)]).getD (zs.length - 1) ([], 0) = zs.getD (zs.length - 1) ([], 0) := by
    simp only [List.getD]
    rw [List.getElem?_append_left (by omega)]
  have hl : rowLessB (zs.getD (zs.length - 1) ([], 0)).1 (zs.getD 0 ([], 0)).1 = false := by
    rcases Nat.eq_or_lt_of_le (show 1 ≤ zs.length from hp) with e | e
    · rw [← e]
      unfold rowLessB
      rw [ordL_self]; decide
    · have := zOk_ord h (show 0 < zs.length - 1 by omega) (show zs.length - 1 < zs.length by omega)
      refine less_not fun e2 => ?_
      rcases ordL_cases (zs.getD 0 ([], 0)).1 (zs.getD (zs.length - 1) ([], 0)).1 with c | c | c <;> omega
  have e3 : decide (zs.length = 0) = false := by rw [decide_eq_false_iff_not]; omega
  unfold stepB
  rw [e1, e2, hl, e3]
  simp
theorem stepB_tail {p : It} {zs : List It} {k : Nat} (h : stepB (p :: zs) (k + 1) = true) : stepB zs k = true := by
  unfold stepB at *
  cases k with
  | zero =>
    simp at h ⊢
    exact h.1
  | succ k =>
    simp at h ⊢
    exact h
theorem zOk_rest {p : It} {zs : List It} (h : zOkB (p :: zs) = true) : zOkB zs = true := by
  have hl := zOk_le h
  refine zOk_all (by simp at hl; omega) fun j hj => stepB_tail (p := p) ?_
  unfold zOkB at h
  rw [Bool.and_eq_true, List.all_eq_true] at h
  exact h.2 (j + 1) (List.mem_range.2 (by simpa using hj))

/-- A copy of items of which the first weight is written. -/
theorem copied {w : World} {lo : Nat} {v' : Value} {l : List Rw} (hr : RowsIn w l) (hpos : 0 < l.length) {w1 : World} (h1 : w1.ownsRow lo 38 2 v' (prs l).length (cells2 (prs l))) (hlim : l.length ≤ 200) (hb : Below w.heap.size w w1) (hlo : w.heap.size ≤ lo) (y : Int) :
    ∃ g c u, v' = .slice (some ⟨g, 0, none⟩) l.length c ∧ w1.cell? ⟨g, 1, none⟩ = some u ∧ w1.frozen? ⟨g, 1, none⟩ = false ∧ TailZ (w1.setCell ⟨g, 1, none⟩ (.int .i64 y)) v' ((its l).set 0 (((its l).getD 0 ([], 0)).1, y)) ∧ Below w.heap.size w (w1.setCell ⟨g, 1, none⟩ (.int .i64 y)) := by
  have S := spine_new h1 (by rw [prs_length]; omega)
  have hp : 0 < (prs l).length := by rw [prs_length]; exact hpos
  obtain ⟨g, c, rfl, hg1, hg2, hgc, _⟩ := S.shape hp
  have s1 := S.stored1 hp y
  have hb2 : Below w.heap.size w (w1.setCell ⟨g, 1, none⟩ (.int .i64 y)) := hb.setCell (p := ⟨g, 1, none⟩) (by show w.heap.size ≤ g; omega) _
  have e1 : (prs l).set 0 (((prs l).getD 0 (vn, 0)).1, y) = prs (l.set 0 (l[0].1, (l[0].2.1, y))) := by
    rw [prs_set]
    simp [prs, List.getD, hpos]
  have e2 : (its l).set 0 (((its l).getD 0 ([], 0)).1, y) = its (l.set 0 (l[0].1, (l[0].2.1, y))) := by
    rw [its_set]
    simp [its, List.getD, hpos]
  have c1 := S.cell1 hp
  have f1 := S.frozenAt 1
  refine ⟨g, c, _, by rw [prs_length], by simpa using c1, f1, ?_, hb2⟩
  rw [e2]
  have s1' := s1.1
  simp only [Nat.zero_mul, Nat.zero_add] at s1'
  rw [e1] at s1'
  rw [prs_length] at s1' ⊢
  refine Spine.tailZ s1' fun x hx => ?_
  rcases List.mem_or_eq_of_mem_set hx with e | e
  · exact (hr x e).below hb2
  · rw [e]; exact (hr _ (List.getElem_mem hpos)).below hb2

set_option maxRecDepth 100000 in
set_option maxHeartbeats 16000000 in
theorem lawFnZBent (a : Option Addr) (len cap : Nat) (bs : List Int) (w : World) (h : IsRow .u8 w a len cap bs) :
    Calls Try.prog 5 #[.slice a len cap] w fun e w' => e = .returned (.bool true) ∧ Below w.heap.size w w' := by
  obtain ⟨i0, hi0, hz0, hz1, hz2⟩ := info_parts infoItem
  by_cases hbig : (1048576 : Int) < (len : Int)
  · go_enter Try.func5, Try.ntmps5
    go_wp2
    go_ret
    exact ⟨rfl, Below.refl _ _⟩
  go_enter Try.func5, Try.ntmps5
  go_wp2_with fail
  refine (drawZOk_any a len cap bs _ h).mono ?_
  rintro e w1 ⟨va, rfl, zs, hgz, TA, hk1⟩
  have hz200 : zs.length ≤ 200 := hgz.1
  clear h hgz
  cases hz : zOkB zs with
  | false =>
    obtain ⟨e1, e2⟩ := add_no_l [] hz
    have e3 : (if zOkB zs then negZ zs else []) = [] := by rw [hz]; rfl
    have e4 : (if zOkB zs then posZ zs else []) = [] := by rw [hz]; rfl
    go_wp2_with fail
    refine (okI_val hz TA).mono ?_
    rintro e w2 ⟨rfl, hb2⟩
    have hk2 := below_then hk1 hb2
    have A_2 := TA.below hb2
    clear hb2 hk1 TA
    go_wp2_with fail
    refine (okS_val hz A_2).mono ?_
    rintro e w3 ⟨rfl, hb3⟩
    have hk3 := below_then hk2 hb3
    have A_3 := A_2.below hb3
    clear hb3 hk2 A_2
    go_wp2_with fail
    refine (okS_val hz A_3).mono ?_
    rintro e w4 ⟨rfl, hb4⟩
    have hk4 := below_then hk3 hb4
    have A_4 := A_3.below hb4
    clear hb4 hk3 A_3
    go_wp2_with fail
    refine (add_val e1 e2 A_4 (tailZ_nil _)).mono ?_
    rintro e w5 ⟨vx, rfl, TX, hb5⟩
    have hk5 := below_then hk4 hb5
    have A_5 := A_4.below hb5
    clear hb5 hk4 A_4
    obtain ⟨xa, xc, rfl⟩ := TX.empty
    clear TX
    go_wp2_with fail
    refine (neg_val e3 A_5).mono ?_
    rintro e w6 ⟨vn, rfl, TN, hb6⟩
    have hk6 := below_then hk5 hb6
    have A_6 := A_5.below hb6
    clear hb6 hk5 A_5
    obtain ⟨na, nc, rfl⟩ := TN.empty
    clear TN
    go_wp2_with fail
    refine (pos_val e4 A_6).mono ?_
    rintro e w7 ⟨vp, rfl, TP, hb7⟩
    have hk7 := below_then hk6 hb7
    have A_7 := A_6.below hb7
    clear hb7 hk6 A_6
    obtain ⟨pa, pc, rfl⟩ := TP.empty
    clear A_7 TP
    clear e1 e2 e3 e4
    go_wp2
    go_ret
    exact ⟨rfl, hk7⟩
  | true =>
    go_wp2_with fail
    refine (okI_val hz TA).mono ?_
    rintro e w2 ⟨rfl, hb2⟩
    have hk2 := below_then hk1 hb2
    have A_2 := TA.below hb2
    clear hb2 hk1 TA
    go_wp2_with fail
    refine (okS_val hz A_2).mono ?_
    rintro e w3 ⟨rfl, hb3⟩
    have hk3 := below_then hk2 hb3
    have A_3 := A_2.below hb3
    clear hb3 hk2 A_2
    go_wp2_with fail
    refine (okS_val hz A_3).mono ?_
    rintro e w4 ⟨rfl, hb4⟩
    have hk4 := below_then hk3 hb4
    have A_4 := A_3.below hb4
    clear hb4 hk3 A_3
    by_cases hne : zs = []
    · subst hne
      obtain ⟨sa, sc, rfl⟩ := A_4.shape
      clear A_4
      go_wp2
      go_ret
      exact ⟨rfl, hk4⟩
    have hpos : 0 < zs.length := List.length_pos_iff.2 hne
    have hsh := A_4.shape
    obtain ⟨sa, sc, rfl⟩ := hsh
    obtain ⟨l, hl, hT, hR⟩ := A_4
    have hll : l.length = zs.length := by rw [hl, its_length]
    have hplen : (prs l).length = zs.length := by rw [prs_length, hll]
    obtain ⟨n, hn⟩ : ∃ n, n = zs.length := ⟨_, rfl⟩
    have HN : Hid (n = zs.length) := hn
    have HZ : Hid (zOkB zs = true) := hz
    have HLE : Hid (zs = its l) := hl
    have HT : Hid (Tail w4 (.slice sa n sc) (prs l)) := by rw [hn]; exact hT
    have HR : Hid (RowsIn w4 l) := hR
    have HK : Hid (Below w.heap.size w w4) := hk4
    rw [← hn] at hll hplen hpos hz200 ⊢
    have HLL : Hid (l.length = n) := hll
    have HPL : Hid ((prs l).length = n) := hplen
    clear hn hz hl hT hR hk4 hne hll hplen
    have hn0 : ((n : Int) == 0) = false := by simp; omega
    obtain ⟨l0, lr, rfl⟩ : ∃ p q, l = p :: q := by
      cases l with
      | nil => have := HLL.out; simp at this; omega
      | cons p q => exact ⟨p, q, rfl⟩
    obtain ⟨xv, x, y⟩ := l0
    obtain ⟨b, off, ad, hs0, hcc, hcm, hbw, c0, c1, hif, hTN⟩ : ∃ b off ad, Value.slice sa n sc = .slice (some ⟨b, off, none⟩) n sc ∧ n ≤ sc ∧ sc ≤ 9223372036854775807 ∧ b < w4.heap.size ∧ w4.cell? ⟨b, off, none⟩ = some xv ∧ w4.cell? ⟨b, off + 1, none⟩ = some (.int .i64 y) ∧ (if sc = 1 then some (⟨b, off, none⟩ : Addr) else some ⟨b, off + 2, none⟩) = some ad ∧ Tail w4 (.slice (some ad) (n - 1) (sc - 1)) (prs lr) := by
      obtain ⟨b, off, c, ad, e, h1, h2, h3, h4, h5, h6, h7⟩ := HT.out.next
      have hpl := HPL.out
      have hq : ((List.map (fun x : Rw => (x.1, x.2.2)) lr).length + 1) = n := by rw [← hpl]; simp [prs]
      have hq2 : (prs lr).length = n - 1 := by rw [← hpl]; simp [prs]
      rw [hq] at e h1
      simp only [Value.slice.injEq] at e
      obtain ⟨e1, _, rfl⟩ := e
      refine ⟨b, off, ad, by rw [e1], h1, h2, h3, h4, h5, h6, ?_⟩
      rw [← hq2]; exact h7
    simp only [Value.slice.injEq, and_true] at hs0
    subst hs0
    have hix : IntsAt w4 xv x := HR.out (xv, (x, y)) (by simp)
    obtain ⟨ra, rn, rc, rfl⟩ := hix.shape
    have HIX : Hid (IntsAt w4 (.slice ra rn rc) x) := hix
    have HTN : Hid (Tail w4 (.slice (some ad) (n - 1) (sc - 1)) (prs lr)) := hTN
    have HC0 : Hid (w4.cell? ⟨b, off, none⟩ = some (.slice ra rn rc)) := c0
    clear hix hTN
    obtain ⟨L, HL⟩ : ∃ L : List Rw, Hid (L = (Value.slice ra rn rc, (x, y)) :: lr) := ⟨_, rfl⟩
    rw [← HL.out] at HT HR HLE HLL HPL
    have ho1 : (w4.alloc (.cells #[] 38)).ownsRow w4.heap.size 38 2 (.slice (some ⟨w4.heap.size, 0, none⟩) 0 0) 0 [] := World.ownsRow_lit w4 #[] 0 (Nat.le_refl _) (by unfold maxLen; omega) rfl
    have hp1 : PairsAt (w4.alloc (.cells #[] 38)) (.slice (some ⟨b, off, none⟩) n sc) (prs L) := HT.out.1.below (below_alloc _)
    go_wp2_with (at_builtin; refine wpList_append_pairs rfl (.tmp 49) (.tmp 50) 23 rfl w4.heap.size 38 i0 Try.underlying23 hi0 hz0 hz1 hz2 (.slice (some ⟨w4.heap.size, 0, none⟩) 0 0) [] rfl ho1 _ (prs L) rfl hp1 (by rw [HPL.out]; simp; omega) (by simp) ?_; intro va2 wa hown2 hg2 _; have hba : Below w4.heap.size w4 wa := (below_alloc _).grown hg2 (by simp) (by simp [Value.ownBlock]); obtain ⟨ga, ca, ua, rfl, ga1, ga2, hTa, hBa⟩ := copied HR.out (by rw [HLL.out]; exact hpos) (by simpa using hown2) (by rw [HLL.out]; exact hz200) hba (Nat.le_refl _) 0; rw [HLL.out] at hTa ⊢)
    obtain ⟨w5, hw5⟩ : ∃ w5, w5 = wa.setCell ⟨ga, 1, none⟩ (.int .i64 0) := ⟨_, rfl⟩
    rw [← hw5] at hTa hBa ⊢
    have HTa : Hid (TailZ w5 (.slice (some ⟨ga, 0, none⟩) n ca) ((its L).set 0 (((its L).getD 0 ([], 0)).1, 0))) := hTa
    have HB5 : Hid (Below w4.heap.size w4 w5) := hBa
    have g0 : w5.cell? ⟨b, off, none⟩ = some (.slice ra rn rc) := cell_is hBa hbw c0
    have g1 : w5.cell? ⟨b, off + 1, none⟩ = some (.int .i64 y) := cell_is hBa hbw c1
    have hbw5 : b < w5.heap.size := Nat.lt_of_lt_of_le hbw hBa.size
    have hpD : PairsAt w5.drew (.slice (some ⟨b, off, none⟩) n sc) (prs L) := (HT.out.1.below hBa).below (Below.drew (Below.refl _ _))
    have hbD : Below w5.heap.size w5 w5.drew := Below.drew (Below.refl _ _)
    clear hw5 hTa hBa hba hown2 hg2 ho1 hp1 ga1 ga2 c0 c1
    have oA : (w5.drew.alloc (.cells #[] 38)).ownsRow w5.heap.size 38 2 (.slice (some ⟨w5.heap.size, 0, none⟩) 0 0) ([] : List (Value × Int)).length (cells2 []) := World.ownsRow_lit w5.drew #[] 0 (Nat.le_refl _) (by unfold maxLen; omega) rfl
    have oC : ((w5.drew.alloc (.cells #[.slice ra rn rc, .int .i64 y] 38)).alloc (.cells #[] 38)).ownsRow w5.heap.size 38 2 (.slice (some ⟨w5.heap.size + 1, 0, none⟩) 0 0) ([] : List (Value × Int)).length (cells2 []) := by
      have := World.ownsRow_lit (base := w5.heap.size) (e := 38) (size := 2) (w5.drew.alloc (.cells #[.slice ra rn rc, .int .i64 y] 38)) #[] 0 (by simp) (by unfold maxLen; omega) rfl
      simpa [cells2] using this
    have iB : PairsAt ((w5.drew.alloc (.cells #[] 38)).alloc (.cells #[.slice ra rn rc, .int .i64 y] 38)) (.slice (some ⟨w5.heap.size + 1, 0, none⟩) 1 1) [(.slice ra rn rc, y)] := by
      have := pairs_lit (w5.drew.alloc (.cells #[] 38)) 38 (rv := .slice ra rn rc) y ⟨_, _, _, rfl⟩
      simpa using this
    have iC : PairsAt ((w5.drew.alloc (.cells #[.slice ra rn rc, .int .i64 y] 38)).alloc (.cells #[] 38)) (.slice (some ⟨w5.heap.size, 0, none⟩) 1 1) [(.slice ra rn rc, y)] := (pairs_lit w5.drew 38 (rv := .slice ra rn rc) y ⟨_, _, _, rfl⟩).below (below_alloc _)
    have hPn := HPL.out
    go_region_held3 (fun w' => w'.cell? ⟨b, off, none⟩ = some (.slice ra rn rc) ∧ w'.cell? ⟨b, off + 1, none⟩ = some (.int .i64 y)) (first | go_keep | (exact ⟨r0, r1⟩) | (exact ⟨r2, r3⟩))
      ((first
        | (refine step_append_at rfl (.tmp 55) (.tmp 56) 23 rfl w5.heap.size 38 i0 Try.underlying23 hi0 hz0 hz1 hz2 (.slice (some ⟨w5.heap.size, 0, none⟩) 0 0) [] (by simp [Act.eval]) oA ⟨b, off, none⟩ n sc (prs L) (by simp [Act.eval]) (hpD.below (below_alloc _)) (by rw [hPn]; simp; omega) (by simp) ?_; intro vb1 wb1 ob1 gb1 ab1; have kb1 : Below w5.heap.size w5 wb1 := (below_then hbD (below_alloc _)).grown gb1 (by simp) (fun k hk => by simp [Value.ownBlock] at hk; omega); have r0 := cell_is (p := ⟨b, off, none⟩) kb1 hbw5 g0; have r1 := cell_is (p := ⟨b, off + 1, none⟩) kb1 hbw5 g1; have ib := pairs_lit wb1 38 (rv := .slice ra rn rc) y ⟨_, _, _, rfl⟩; have ob1' := ob1.alloc (.cells #[.slice ra rn rc, .int .i64 y] 38); have kb1' : Below w5.heap.size w5 (wb1.alloc (.cells #[.slice ra rn rc, .int .i64 y] 38)) := below_then kb1 (below_alloc _))
        | (refine step_append_at rfl (.tmp 55) (.tmp 56) 23 rfl w5.heap.size 38 i0 Try.underlying23 hi0 hz0 hz1 hz2 (.slice (some ⟨w5.heap.size, 0, none⟩) 0 0) [] (by simp [Act.eval]) (oA.alloc (.cells #[.slice ra rn rc, .int .i64 y] 38)) ⟨b, off, none⟩ n sc (prs L) (by simp [Act.eval]) ((hpD.below (below_alloc _)).below (below_alloc _)) (by rw [hPn]; simp; omega) (by simp; omega) ?_; intro vb1 wb1 ob1 gb1 ab1; have kb1' : Below w5.heap.size w5 wb1 := (below_then (below_then hbD (below_alloc _)) (below_alloc _)).grown gb1 (by simp; omega) (fun k hk => by simp [Value.ownBlock] at hk; omega); have r0 := cell_is (p := ⟨b, off, none⟩) kb1' hbw5 g0; have r1 := cell_is (p := ⟨b, off + 1, none⟩) kb1' hbw5 g1; have ib := iB.kept gb1 (by simp [Value.ownBlock]); have ob1' := ob1)
        | (refine step_append_at rfl (.tmp 55) (.tmp 56) 23 rfl w5.heap.size 38 i0 Try.underlying23 hi0 hz0 hz1 hz2 (.slice (some ⟨w5.heap.size + 1, 0, none⟩) 0 0) [] (by simp [Act.eval]) oC ⟨b, off, none⟩ n sc (prs L) (by simp [Act.eval]) ((hpD.below (below_alloc _)).below (below_alloc _)) (by rw [hPn]; simp; omega) (by simp; omega) ?_; intro vb1 wb1 ob1 gb1 ab1; have kb1' : Below w5.heap.size w5 wb1 := (below_then (below_then hbD (below_alloc _)) (below_alloc _)).grown gb1 (by simp; omega) (fun k hk => by simp [Value.ownBlock] at hk; omega); have r0 := cell_is (p := ⟨b, off, none⟩) kb1' hbw5 g0; have r1 := cell_is (p := ⟨b, off + 1, none⟩) kb1' hbw5 g1; have ib := iC.kept gb1 (by simp [Value.ownBlock]); have ob1' := ob1)
        | (refine step_append_at rfl (.tmp 57) (.tmp 61) 23 rfl w5.heap.size 38 i0 Try.underlying23 hi0 hz0 hz1 hz2 vb1 ([] ++ prs L) (by simp [Act.eval]) ob1' _ 1 1 [(.slice ra rn rc, y)] (by simp [Act.eval]) ib (by rw [List.nil_append, hPn]; simp; omega) kb1'.size ?_; intro vb2 wb2 ob2 gb2 ab2; have kb2 : Below w5.heap.size w5 wb2 := kb1'.grown gb2 kb1'.size (fun k hk => (ob1'.lt k hk).1); have r2 := cell_is (p := ⟨b, off, none⟩) kb2 hbw5 g0; have r3 := cell_is (p := ⟨b, off + 1, none⟩) kb2 hbw5 g1)))
    all_goals
      have hzs : zs = (x, y) :: its lr := by rw [HLE.out, HL.out]; rfl
      have HZ0 : Hid (zs.getD 0 ([], 0) = (x, y)) := by rw [hzs]; rfl
      have HRb : Hid (RowsIn wb2 L) := (HR.out.below HB5.out).below kb2
      have HTb : Hid (TailZ wb2 vb2 (zs ++ [zs.getD 0 ([], 0)])) := by
        have e1 : [] ++ prs L ++ [(Value.slice ra rn rc, y)] = prs (L ++ [(Value.slice ra rn rc, (x, y))]) := by simp [prs]
        have e2 : zs ++ [zs.getD 0 ([], 0)] = its (L ++ [(Value.slice ra rn rc, (x, y))]) := by rw [HZ0.out, its_append, ← HLE.out]; rfl
        show TailZ _ _ _
        rw [e2]
        rw [e1] at ob2
        refine (spine_new ob2 (by rw [prs_length]; simp; have := HLL.out; omega)).tailZ fun z hz => ?_
        rcases List.mem_append.1 hz with e | e
        · exact HRb.out z e
        · simp at e; subst e; exact (HIX.out.below HB5.out).below kb2
      have HTa2 : Hid (TailZ wb2 (.slice (some ⟨ga, 0, none⟩) n ca) ((its L).set 0 (((its L).getD 0 ([], 0)).1, 0))) := HTa.out.below kb2
      have HB6 : Hid (Below w4.heap.size w4 wb2) := below_then HB5.out kb2
      have hpc : PairsAt (wb2.alloc (.cells #[] 38)) (.slice (some ⟨b, off, none⟩) n sc) (prs L) := (HT.out.1.below HB6.out).below (below_alloc _)
      have oc1 : (wb2.alloc (.cells #[] 38)).ownsRow wb2.heap.size 38 2 (.slice (some ⟨wb2.heap.size, 0, none⟩) 0 0) 0 [] := World.ownsRow_lit wb2 #[] 0 (Nat.le_refl _) (by unfold maxLen; omega) rfl
      have HIF : Hid ((if sc = 1 then some (⟨b, off, none⟩ : Addr) else some ⟨b, off + 2, none⟩) = some ad) := hif
      have HZS : Hid (zs = (x, y) :: its lr) := hzs
      clear oA oC iB iC hpD hbD ob1' ib kb1' gb1 ab1 ob2 gb2 ab2 kb2 r0 r1 r2 r3 g0 g1 hbw5 hif hzs
      go_wp2_with (at_builtin; refine wpList_append_pairs rfl (.tmp 63) (.tmp 64) 23 rfl wb2.heap.size 38 i0 Try.underlying23 hi0 hz0 hz1 hz2 (.slice (some ⟨wb2.heap.size, 0, none⟩) 0 0) [] rfl oc1 _ (prs L) rfl hpc (by rw [hPn]; simp; omega) (by simp) ?_; intro vc2 wc ownc gc2 _; have hbc : Below wb2.heap.size wb2 wc := (below_alloc _).grown gc2 (by simp) (by simp [Value.ownBlock]); obtain ⟨gc, cc, uc, rfl, gcc1, gcc2, hTc, hBc⟩ := copied HRb.out (by rw [HLL.out]; exact hpos) (by simpa using ownc) (by rw [HLL.out]; exact hz200) hbc (Nat.le_refl _) 10001; rw [HLL.out] at hTc ⊢)
      obtain ⟨w7, hw7⟩ : ∃ w7, w7 = wc.setCell ⟨gc, 1, none⟩ (.int .i64 10001) := ⟨_, rfl⟩
      rw [← hw7] at hTc hBc ⊢
      have hB7 := below_then HB6.out hBc
      have TA7 := HTa2.out.below hBc
      have TB7 := HTb.out.below hBc
      have TC7 := hTc
      have hk7 := below_then HK.out hB7
      have IX7 := HIX.out.below hB7
      have c07 := cell_is (p := ⟨b, off, none⟩) hB7 hbw HC0.out
      have TR7 : TailZ w7 (.slice (some ad) (n - 1) (sc - 1)) (its lr) := ⟨lr, rfl, HTN.out.below hB7, fun z hz => (HR.out z (by rw [HL.out]; simp [hz])).below hB7⟩
      have hLz : its L = zs := HLE.out.symm
      have f1 : zOkB ((its L).set 0 (((its L).getD 0 ([], 0)).1, 0)) = false := bad_weight (by rw [its_length, HLL.out]; exact hpos) (show wB 0 = false by decide)
      have f2 : zOkB (zs ++ [zs.getD 0 ([], 0)]) = false := bad_again HZ.out (by rw [← HN.out]; exact hpos)
      have f3 : zOkB ((its L).set 0 (((its L).getD 0 ([], 0)).1, 10001)) = false := bad_weight (by rw [its_length, HLL.out]; exact hpos) (show wB 10001 = false by decide)
      have f4 : zOkB (its lr) = true := zOk_rest (p := (x, y)) (by rw [← HZS.out]; exact HZ.out)
      have f5 : (if zOkB (zs ++ [zs.getD 0 ([], 0)]) then getZ (zs ++ [zs.getD 0 ([], 0)]) x else 0) = 0 := by rw [f2]; rfl
      have hbw7 : b < w7.heap.size := Nat.lt_of_lt_of_le hbw hB7.size
      have hn1 : (1 : Int) ≤ (n : Int) := by omega
      have hif := HIF.out
      clear hw7 hTc hBc hbc ownc gc2 hpc oc1 gcc1 gcc2 hB7 hLz
      go_wp2_with fail
      refine (okI_val f1 TA7).mono ?_
      rintro e w41 ⟨rfl, hb41⟩
      have hk41 := below_then hk7 hb41
      have A_41 := TA7.below hb41
      have B_41 := TB7.below hb41
      have C_41 := TC7.below hb41
      have R_41 := TR7.below hb41
      have I_41 := IX7.below hb41
      have c041 := cell_is (p := ⟨b, off, none⟩) hb41 hbw7 c07
      have hbw41 := Nat.lt_of_lt_of_le hbw7 hb41.size
      clear c07 hbw7 hb41 hk7 TA7 TB7 TC7 TR7 IX7
      go_wp2_with fail
      refine (okI_val f2 B_41).mono ?_
      rintro e w42 ⟨rfl, hb42⟩
      have hk42 := below_then hk41 hb42
      have A_42 := A_41.below hb42
      have B_42 := B_41.below hb42
      have C_42 := C_41.below hb42
      have R_42 := R_41.below hb42
      have I_42 := I_41.below hb42
      have c042 := cell_is (p := ⟨b, off, none⟩) hb42 hbw41 c041
      have hbw42 := Nat.lt_of_lt_of_le hbw41 hb42.size
      clear c041 hbw41 hb42 hk41 A_41 B_41 C_41 R_41 I_41
      go_wp2_with fail
      refine (okI_val f3 C_42).mono ?_
      rintro e w43 ⟨rfl, hb43⟩
      have hk43 := below_then hk42 hb43
      have A_43 := A_42.below hb43
      have B_43 := B_42.below hb43
      have C_43 := C_42.below hb43
      have R_43 := R_42.below hb43
      have I_43 := I_42.below hb43
      have c043 := cell_is (p := ⟨b, off, none⟩) hb43 hbw42 c042
      have hbw43 := Nat.lt_of_lt_of_le hbw42 hb43.size
      clear c042 hbw42 hb43 hk42 A_42 B_42 C_42 R_42 I_42
      go_wp2_with fail
      refine (get_val f5 B_43 I_43).mono ?_
      rintro e w44 ⟨rfl, hb44⟩
      have hk44 := below_then hk43 hb44
      have A_44 := A_43.below hb44
      have B_44 := B_43.below hb44
      have C_44 := C_43.below hb44
      have R_44 := R_43.below hb44
      have I_44 := I_43.below hb44
      clear hb44 hk43 A_43 B_43 C_43 R_43 I_43
      clear c043 hbw43
      go_wp2_with fail
      refine (okI_val f4 R_44).mono ?_
      rintro e w45 ⟨rfl, hb45⟩
      have hk45 := below_then hk44 hb45
      have A_45 := A_44.below hb45
      have B_45 := B_44.below hb45
      have C_45 := C_44.below hb45
      have R_45 := R_44.below hb45
      have I_45 := I_44.below hb45
      clear hb45 hk44 A_44 B_44 C_44 R_44 I_44
      clear A_45 B_45 C_45 R_45 I_45
      clear f1 f2 f3 f4 f5
      go_wp2
      go_ret
      exact ⟨rfl, hk45⟩

end Go.Proofs.Ytdleikloneaodaa
