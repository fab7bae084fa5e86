/-
  The last two runs are merged: the contracts of impl.lastTwoMerged, impl.lastTwoMany, spec.l7Last, at runs of the call's own.
-/
import Derived.Test.YtjaehoehfmklcaaRunCopy
import Derived.Deep.RegionHeld
namespace Go.Proofs.Ytjaehoehfmklcaa
set_option maxRecDepth 100000
open Go.RowKit

def lastSum (zss : Rn) : List It := addZ (zss.getD (zss.length - 2) []) (zss.getD (zss.length - 1) [])
/-- The last two are merged. -/
def lastR (zss : Rn) : Rn := zss.take (zss.length - 2) ++ (if lastSum zss = [] then [] else [lastSum zss])

theorem RunsAt.at {w : World} {b off n cap : Nat} {zss : Rn} (h : RunsAt w (.slice (some ⟨b, off, none⟩) n cap) zss) {j : Nat} (hj : j < n) : b < w.heap.size ∧ ∃ rv, w.cell? ⟨b, off + j, none⟩ = some rv ∧ TailZ w rv (zss.getD j []) := by
  obtain ⟨_, a, c, he, _, _, _, hc⟩ := h
  simp only [Value.slice.injEq] at he
  obtain ⟨e0, e1, _⟩ := he
  obtain ⟨b', off', ha, hb, hcell⟩ := hc (fun e => by subst e; simp at e1; omega)
  rw [ha] at e0
  simp only [Option.some.injEq, Addr.mk.injEq] at e0
  obtain ⟨rfl, rfl, _⟩ := e0
  exact ⟨hb, hcell j (by omega)⟩
theorem RunsAt.some {w : World} {v : Value} {zss : Rn} (h : RunsAt w v zss) (hp : 0 < zss.length) : ∃ b off cap, v = .slice (some ⟨b, off, none⟩) zss.length cap ∧ zss.length ≤ cap ∧ cap ≤ 9223372036854775807 := by
  rcases h.cases with ⟨a, cap, e, _⟩ | ⟨b, off, cap, _, _, h1, h2, rfl, _⟩
  · rw [e] at hp; simp at hp
  · exact ⟨b, off, cap, rfl, h1, h2⟩

/-- The first runs and a new one behind them, with a new outer block. -/
theorem ownR_snoc {w : World} {v v' p : Value} {lo hi m1 m2 : Nat} {ps : List Value} {zs : Rn} {z : List It} (hT : RunsIn w v lo hi ps zs) (h1 : hi ≤ m1) (h2 : m1 ≤ m2) (hZ : OwnZ w m1 m2 p z)
    (hrow : w.ownsRow lo 23 1 v' (zs ++ [z]).length (ps ++ [p])) (hv : ∀ b, v'.ownBlock = some b → (b < lo ∨ hi ≤ b) ∧ (b < m1 ∨ m2 ≤ b)) (hl : (zs ++ [z]).length ≤ 140737488355328) (hs : m2 ≤ w.heap.size) :
    OwnR w lo w.heap.size v' (zs ++ [z]) :=
  ⟨ps ++ [p], hrow, fun b hb => (hrow.lt b hb).2, hl, Nat.le_refl _, (RunsIn.snoc h2 hZ (fun b hb => (hv b hb).2) (hT.newV (fun b hb => (hv b hb).1)) h1).wide (Nat.le_refl _) hs⟩
theorem ownR_same {w : World} {v v' : Value} {lo hi : Nat} {ps : List Value} {zs : Rn} (hT : RunsIn w v lo hi ps zs)
    (hrow : w.ownsRow lo 23 1 v' zs.length ps) (hv : ∀ b, v'.ownBlock = some b → b < lo ∨ hi ≤ b) (hl : zs.length ≤ 140737488355328) (hs : hi ≤ w.heap.size) :
    OwnR w lo w.heap.size v' zs :=
  ⟨ps, hrow, fun b hb => (hrow.lt b hb).2, hl, Nat.le_refl _, (hT.newV hv).wide (Nat.le_refl _) hs⟩
theorem OwnZ.grown {w w' : World} {lo hi : Nat} {v : Value} {zs : List It} {row : Option Nat} (h : OwnZ w lo hi v zs) (hg : w.grownBy w' row) (hr : ∀ b, row = some b → b < lo ∨ hi ≤ b) : OwnZ w' lo hi v zs := by
  cases row with
  | none => exact h.only (Only.of_grown (lo := 0) (hi := 0) hg (fun k e => by simp at e)) (by omega)
  | some g => exact h.only (Only.of_grown (lo := g) (hi := g + 1) hg (fun k e => by simp at e; omega)) (by have := hr g rfl; omega)

theorem alloc_last (w : World) (o : Obj) : (w.alloc o).heap[w.heap.size]? = some o := by
  show (w.heap.push o)[w.heap.size]? = some o
  simp
theorem far_cell {w w' : World} {row : Option Nat} (hg : w.grownBy w' row) {p : Addr} {v : Option Value} (hlt : p.block < w.heap.size) (hne : some p.block ≠ row) (hv : w.cell? p = v) : w'.cell? p = v := (hg.cell_far p hlt hne).trans hv
theorem far_frozen {w w' : World} {row : Option Nat} (hg : w.grownBy w' row) {p : Addr} {v : Bool} (hlt : p.block < w.heap.size) (hne : some p.block ≠ row) (hv : w.frozen? p = v) : w'.frozen? p = v := (hg.frozen_far p hlt hne).trans hv
theorem wrap_small {z : Int} (h1 : 0 ≤ z) (h2 : z ≤ 1048577) : IntKind.i64.wrap z = z := by
  rw [IntKind.wrap_i64]
  omega
theorem last_open {v : Value} {zss : Rn} {lo hi : Nat} {w : World} (h : OwnR w lo hi v zss) (h2 : 2 ≤ zss.length) :
    ∃ (b off cap n : Nat) (tp : List Value) (tz : Rn) (x y : List It) (a1 : Option Addr) (n1 c1 : Nat) (a2 : Option Addr) (n2 c2 : Nat),
      v = .slice (some ⟨b, off, none⟩) (n + 2) cap ∧ n + 2 ≤ cap ∧ cap ≤ 9223372036854775807 ∧ b < w.heap.size ∧ w.cell? ⟨b, off + n, none⟩ = some (.slice a1 n1 c1) ∧ TailZ w (.slice a1 n1 c1) x ∧
      w.cell? ⟨b, off + (n + 1), none⟩ = some (.slice a2 n2 c2) ∧ TailZ w (.slice a2 n2 c2) y ∧ ValsAt w (.slice (some ⟨b, off, none⟩) n cap) tp ∧ RunsIn w v lo hi tp tz ∧ tz.length = n ∧ tp.length = n ∧
      x = zss.getD (zss.length - 2) [] ∧ y = zss.getD (zss.length - 1) [] ∧ lastR zss = tz ++ (if addZ x y = [] then [] else [addZ x y]) ∧ zss.length = n + 2 := by
  have hR := h.runs
  obtain ⟨b, off, cap, rfl, hcap, hcm⟩ := hR.some (by omega)
  obtain ⟨ps, hown, hk, hll, hhi, hin⟩ := h
  have hpl := hin.len
  have hval : ValsAt w (.slice (some ⟨b, off, none⟩) zss.length cap) ps := by
    obtain ⟨ps', hv', hl', hT'⟩ := hR.vals
    have he : ps' = ps := by
      apply List.ext_getElem (by omega)
      intro j h1 h2
      obtain ⟨_, _, a', c', e', _, _, _, hc'⟩ := hv'
      simp only [Value.slice.injEq] at e'
      obtain ⟨e0, e1, e2⟩ := e'
      obtain ⟨b', off', ha, _, hcell⟩ := hc' (fun e => by subst e; simp at h1)
      rw [ha] at e0
      simp only [Option.some.injEq, Addr.mk.injEq] at e0
      obtain ⟨rfl, rfl, _⟩ := e0
      have q1 := hcell j h1
      rcases hown.2 with ⟨e3, _⟩ | ⟨g, cap', cur, e3, _⟩
      · simp at e3
      · simp only [Value.slice.injEq, Option.some.injEq, Addr.mk.injEq] at e3
        obtain ⟨⟨rfl, rfl, _⟩, _, rfl⟩ := e3
        have q2 := ps_get hown (j := j) (by omega)
        rw [Nat.zero_add] at q1
        rw [q1] at q2
        simpa [List.getD, h1, h2] using q2
    rw [← he]
    exact hv'
  obtain ⟨hbw, r1, hc1, ht1⟩ := hR.at (j := zss.length - 2) (by omega)
  obtain ⟨-, r2, hc2, ht2⟩ := hR.at (j := zss.length - 1) (by omega)
  have hvt := hval.take (k := zss.length - 2) (by omega)
  obtain ⟨a1, c1, e1⟩ := ht1.shape1
  obtain ⟨a2, c2, e2⟩ := ht2.shape1
  subst e1
  subst e2
  have hT := hin.take (zss.length - 2)
  have htl : (zss.take (zss.length - 2)).length = zss.length - 2 := by rw [List.length_take]; omega
  have hpl2 : (ps.take (zss.length - 2)).length = zss.length - 2 := by rw [List.length_take]; omega
  obtain ⟨n, hn⟩ : ∃ n, n = zss.length - 2 := ⟨_, rfl⟩
  have hn2 : zss.length = n + 2 := by omega
  refine ⟨b, off, cap, n, ps.take n, zss.take n, zss.getD (zss.length - 2) [], zss.getD (zss.length - 1) [], a1, _, c1, a2, _, c2, by rw [hn2], by omega, hcm, hbw, by rw [hn]; exact hc1, ht1, ?_, ht2, by rw [hn]; exact hvt, by rw [hn]; exact hT, by rw [hn]; exact htl, by rw [hn]; exact hpl2, rfl, rfl, ?_, hn2⟩
  · rw [show n + 1 = zss.length - 1 by omega]
    exact hc2
  · unfold lastR lastSum
    rw [← hn]

set_option maxHeartbeats 8000000 in
theorem lastTwoMerged_any (v : Value) (zss : Rn) (lo hi : Nat) (w : World) (h : OwnR w lo hi v zss) (hlo : lo ≤ w.heap.size) (h2 : 2 ≤ zss.length) (hl : zss.length ≤ 1048576) (hma : Light 500 (zss.getD (zss.length - 2) [])) (hmb : Light 500 (zss.getD (zss.length - 1) [])) :
    Calls Try.prog 40 #[.agg #[v]] w fun e w' => ∃ v', e = .returned (.agg #[v']) ∧ OwnR w' lo w'.heap.size v' (lastR zss) ∧ Below w.heap.size w w' := by
  obtain ⟨i0, hi0, hz0, hz1, hz2⟩ := info_parts infoRun
  have hhi := h.hi_le
  obtain ⟨b, off, cap, n, tp, tz, x, y, a1, n1, c1, a2, n2, c2, rfl, hcap, hcm, hbw, hc1, ht1, hc2, ht2, hvt, hT, htl, hpl, ex, ey, elast, hn2⟩ := last_open h h2
  have HT : Hid (RunsIn w (.slice (some ⟨b, off, none⟩) (n + 2) cap) lo hi tp tz) := hT
  have HL : Hid (tz.length = n ∧ tp.length = n) := ⟨htl, hpl⟩
  obtain ⟨os, HOS⟩ : ∃ os, Hid (os = lastR zss) := ⟨_, rfl⟩
  have HLA : Hid (lastR zss = tz ++ (if addZ x y = [] then [] else [addZ x y])) := elast
  rw [← HOS.out]
  rw [← ex] at hma
  rw [← ey] at hmb
  have hnl : n ≤ 1048576 := by omega
  have hnc : n ≤ cap := by omega
  have hlens : Hid ((addZ x y).length ≤ 100000) := by
    have h1 := add_len y x
    have h2 := hma.2.2.1
    have h3 := hmb.2.2.1
    show _ ≤ _
    omega
  clear hT htl hpl ex ey elast hn2 h h2 hl
  obtain ⟨W, HW⟩ : ∃ W, Hid (W = (w.alloc (.cells #[.slice (some ⟨b, off, none⟩) (n + 2) cap] 38)).alloc (.cells #[.slice none 0 0] 38)) := ⟨_, rfl⟩
  have hbW : Below w.heap.size w ((w.alloc (.cells #[.slice (some ⟨b, off, none⟩) (n + 2) cap] 38)).alloc (.cells #[.slice none 0 0] 38)) := below_then (below_alloc _) (below_alloc _)
  go_enter Try.func40, Try.ntmps40
  go_wp2_with fail
  refine (cloneRuns_any _ tp _ (hvt.below hbW) (by have := HL.out; omega)).mono ?_
  rintro e w1 ⟨v1, rfl, S1, hb1⟩
  have hk1 := below_then hbW hb1
  have z1 : w.heap.size + 2 ≤ w1.heap.size := by have := hb1.size; simp at this; omega
  have bx : w1.cell? ⟨w.heap.size, 0, none⟩ = some (.slice (some ⟨b, off, none⟩) (n + 2) cap) := cell_is hb1 (by simp; omega) (by simp [go_sem])
  have br : w1.cell? ⟨w.heap.size + 1, 0, none⟩ = some (.slice none 0 0) := cell_is hb1 (by simp) (by simp [go_sem])
  have fr : w1.frozen? ⟨w.heap.size + 1, 0, none⟩ = false := frozen_is hb1 (by simp) (by simp [go_sem])
  have q1 := (hk1.cell (p := ⟨b, off + n, none⟩) hbw).trans hc1
  have q2 := (hk1.cell (p := ⟨b, off + (n + 1), none⟩) hbw).trans hc2
  have t1 : TailZ w1.drew (.slice a1 n1 c1) x := (ht1.below hk1).below (Below.drew (Below.refl _ _))
  have t2 : TailZ w1.drew (.slice a2 n2 c2) y := (ht2.below hk1).below (Below.drew (Below.refl _ _))
  have hs1 : ∀ k, v1.ownBlock = some k → w.heap.size + 2 ≤ k ∧ k < w1.heap.size := fun k hk => by have := S1.lt k hk; simp at this; omega
  have S1' := ownsRow_wide S1 (lo := lo) (by simp; omega)
  obtain ⟨g1, m1, d1, hsv⟩ : ∃ a m c, v1 = .slice a m c := by rcases S1.2 with ⟨e, _⟩ | ⟨g, c, _, e, _⟩ <;> exact ⟨_, _, _, e⟩
  clear hb1 hbW hc1 hc2 ht1 ht2 hvt S1 HW
  subst hsv
  go_wp2
  have en : ((n : Int) + 2 - 1) = ((n + 1 : Nat) : Int) := by omega
  rw [en]
  have hwr : IntKind.i64.wrap (n : Int) = n := wrap_small (by omega) (by omega)
  have hbr : b < w1.heap.size := Nat.lt_of_lt_of_le hbw hk1.size
  go_region_held (fun w' => w'.cell? ⟨w.heap.size, 0, none⟩ = some (.slice (some ⟨b, off, none⟩) (n + 2) cap) ∧ w'.cell? ⟨b, off + n, none⟩ = some (.slice a1 n1 c1) ∧ w'.cell? ⟨b, off + (n + 1), none⟩ = some (.slice a2 n2 c2)) (go_keep)
    ((go_at_call 34; refine (together_mild _ _ x y _ t1 t2 hma.1 hma.2.1 hmb.1 (hma.mild (by omega)) (hmb.mild (by omega))).mono ?_; rintro e w2 ⟨v2, rfl, Z2, hb2⟩; have k0 := cell_is (p := ⟨w.heap.size, 0, none⟩) hb2 (show w.heap.size < w1.heap.size by omega) bx; have k1 := cell_is (p := ⟨b, off + n, none⟩) hb2 hbr q1; have k2 := cell_is (p := ⟨b, off + (n + 1), none⟩) hb2 hbr q2))
  all_goals
    have hb2' : Below w1.heap.size w1 w2 := below_then (Below.drew (Below.refl _ _)) hb2
    have z2 := hb2'.size
    have hk2 := below_then hk1 hb2'
    have br2 := cell_is hb2' (show w.heap.size + 1 < w1.heap.size by omega) br
    have fr2 := frozen_is hb2' (show w.heap.size + 1 < w1.heap.size by omega) fr
    have S2 := ownsRow_only S1' (below_only hb2') (fun k hk => .inl (hs1 k hk).2)
    have Z2' : OwnZ w2 w1.heap.size w2.heap.size v2 (addZ x y) := Z2
    obtain ⟨va, vc, hsh⟩ := Z2'.shape
    obtain ⟨m, HM⟩ : ∃ m, Hid (m = (addZ x y).length) := ⟨_, rfl⟩
    have hml : m ≤ 100000 := by rw [HM.out]; exact hlens.out
    rw [← HM.out] at hsh
    subst hsh
    clear hb2 hb2' Z2 t1 t2 q1 q2 bx br fr S1' k0 k1 k2 hma hmb hlens hwr
    by_cases hm0 : m = 0
    · have hz : addZ x y = [] := List.length_eq_zero_iff.1 (by rw [← HM.out]; exact hm0)
      have HZ : Hid (addZ x y = []) := hz
      clear hz
      subst hm0
      clear Z2'
      go_wp2
      have HB : Below w.heap.size w (w2.setCell ⟨w.heap.size + 1, 0, none⟩ (.slice g1 m1 d1)) := hk2.setCell (by simp) _
      have hon : Only (w.heap.size + 1) (w.heap.size + 2) w2 (w2.setCell ⟨w.heap.size + 1, 0, none⟩ (.slice g1 m1 d1)) := (Only.refl _ _ w2).setCell (p := ⟨w.heap.size + 1, 0, none⟩) (Nat.le_refl _) (Nat.lt_succ_self _) _
      refine bodyPost_ret (v := .agg #[.slice g1 m1 d1]) (by simp [results, Try.results40, go_sem, br2]) rfl ⟨_, rfl, ?_, HB⟩
      rw [HOS.out, HLA.out, if_pos HZ.out, List.append_nil]
      refine ownR_same (HT.out.keep (HB.mono hhi)) ?_ (fun k hk => .inr (by have := hs1 k hk; omega)) (by have := HL.out; omega) (Nat.le_trans hhi HB.size)
      have hl2 := HL.out
      rw [hl2.1, ← hl2.2]
      exact ownsRow_only S2 hon (fun k hk => .inr (by have := hs1 k hk; omega))
    · have hz : addZ x y ≠ [] := fun e => hm0 (by rw [HM.out, e]; rfl)
      have HZ : Hid (addZ x y ≠ []) := hz
      clear hz
      have hmp : (0 : Int) < m := by omega
      have hS3 : (w2.alloc (.cells #[.slice va m vc] 23)).ownsRow lo 23 1 (.slice g1 m1 d1) tp.length tp := S2.alloc _
      have hn3 : ∀ j u, ([.slice va m vc] : List Value)[j]? = some u → (w2.alloc (.cells #[.slice va m vc] 23)).cell? ((⟨w2.heap.size, 0, none⟩ : Addr).add j) = some u := World.news_of_block (cs := #[.slice va m vc]) (t := 23) (fr := (0, 0)) (alloc_last _ _)
      have hlo3 : lo ≤ (w2.alloc (.cells #[.slice va m vc] 23)).heap.size := by simp; omega
      have htl : tp.length ≤ 1048576 := by have := HL.out; omega
      have hbe : w.heap.size + 1 < (w2.alloc (.cells #[.slice va m vc] 23)).heap.size := by simp; omega
      have hne : some (w.heap.size + 1) ≠ (Value.slice g1 m1 d1).ownBlock := fun e => by have := hs1 _ e.symm; omega
      have br3 := cell_is (below_alloc (.cells #[.slice va m vc] 23)) (show w.heap.size + 1 < w2.heap.size by omega) br2
      have fr3 := frozen_is (below_alloc (.cells #[.slice va m vc] 23)) (show w.heap.size + 1 < w2.heap.size by omega) fr2
      clear S2
      go_wp2_with (at_builtin; refine wpList_append_lies _ rfl _ _ 36 rfl lo 23 i0 (.slice none 0 0) 1 24 Try.underlying36 hi0 hz0 hz1 hz2 rfl (by decide) (.slice g1 m1 d1) tp.length tp rfl hS3 ⟨w2.heap.size, 0, none⟩ 1 1 [.slice va m vc] rfl rfl hn3 (one_of (fun p hp => by simp at hp; exact ⟨_, _, _, hp⟩)) (by omega) (by unfold maxLen; omega) (by omega) hlo3 _ rfl ?_; intro g4 cap4 w4 hown4 hgrow4 hat4 hlt4; have br4 := far_cell hgrow4 hbe hne br3; have fr4 := far_frozen hgrow4 hbe hne fr3)
      have hg4 : w.heap.size + 2 ≤ g4 ∧ (g4 < w1.heap.size ∨ w2.heap.size ≤ g4) := by
        rcases hat4 with e | e
        · have := hs1 g4 e; omega
        · simp at e; omega
      have z4 : w2.heap.size + 1 ≤ w4.heap.size := by have := hgrow4.size; simp at this; omega
      have hrow4 : ∀ k, (Value.slice g1 m1 d1).ownBlock = some k → w.heap.size + 2 ≤ k ∧ k < w1.heap.size := hs1
      have hk4 : Below w.heap.size w w4 := ((below_then hk2 (below_alloc _)).grown hgrow4 (by simp; omega) (fun k hk => by have := hs1 k hk; omega))
      have Z4 : Hid (OwnZ w4 w1.heap.size w2.heap.size (.slice va m vc) (addZ x y)) := (Z2'.keep' (below_alloc _)).grown hgrow4 (fun k hk => by have := hs1 k hk; omega)
      have HO4 : Hid (w4.ownsRow lo 23 1 (.slice (some ⟨g4, 0, none⟩) (tp.length + 1) cap4) (tp.length + 1) (tp ++ [.slice va m vc])) := hown4
      clear hown4 hgrow4 hat4 Z2' hS3 hn3 br2 fr2 hs1 hrow4 br3 fr3 hne hbe
      have HB : Below w.heap.size w (w4.setCell ⟨w.heap.size + 1, 0, none⟩ (.slice (some ⟨g4, 0, none⟩) (tp.length + 1) cap4)) := hk4.setCell (by simp) _
      have hon : Only (w.heap.size + 1) (w.heap.size + 2) w4 (w4.setCell ⟨w.heap.size + 1, 0, none⟩ (.slice (some ⟨g4, 0, none⟩) (tp.length + 1) cap4)) := (Only.refl _ _ w4).setCell (p := ⟨w.heap.size + 1, 0, none⟩) (Nat.le_refl _) (Nat.lt_succ_self _) _
      refine bodyPost_ret (v := .agg #[.slice (some ⟨g4, 0, none⟩) (tp.length + 1) cap4]) (by simp [results, Try.results40, go_sem, br4]) rfl ⟨_, rfl, ?_, HB⟩
      rw [HOS.out, HLA.out, if_neg HZ.out]
      have hl2 := HL.out
      refine ownR_snoc (HT.out.keep (HB.mono hhi)) (m1 := w1.heap.size) (m2 := w2.heap.size) (by omega) z2 (Z4.out.only hon (by omega)) ?_ (fun k hk => by simp [Value.ownBlock] at hk; omega) (by simp; omega) (by simp; omega)
      rw [List.length_append, hl2.1, ← hl2.2]
      exact ownsRow_only HO4.out hon (fun k hk => by simp [Value.ownBlock] at hk; omega)

def lastMany (zss : Rn) : Nat := (zss.getD (zss.length - 2) []).length + (zss.getD (zss.length - 1) []).length

end Go.Proofs.Ytjaehoehfmklcaa
