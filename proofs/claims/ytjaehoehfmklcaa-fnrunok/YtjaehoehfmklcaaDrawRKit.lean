/-
  What stays of drawn runs; one run more; an item more at the end of the first run.
-/
import Derived.Test.YtjaehoehfmklcaaRunPutS
import Derived.Test.YtjaehoehfmklcaaRunFacts
import Derived.Test.YtjaehoehfmklcaaDrawFine
import Derived.Deep.DeepCutAuto
namespace Go.Proofs.Ytjaehoehfmklcaa
set_option maxRecDepth 100000
set_option linter.unusedVariables false
open Go.RowKit

/-- Runs that were drawn by the reader g: they stay while the reader alone is written. -/
def DrawnR (w : World) (g : Nat) (v : Value) (s : Rn) : Prop := ∀ w'', Only 0 (g + 1) w w'' → RunsAt w'' v s
theorem DrawnR.now {w : World} {g : Nat} {v : Value} {s : Rn} (h : DrawnR w g v s) : RunsAt w v s := h w (Only.refl _ _ _)
theorem DrawnR.next {w w' : World} {g : Nat} {v : Value} {s : Rn} (h : DrawnR w g v s) (hg : w.grownBy w' (some g)) : DrawnR w' g v s := fun w'' hg'' => h w'' ((only_at hg (Nat.le_refl _)).trans hg'')
theorem OwnR.drawn {w : World} {lo hi g : Nat} {v : Value} {s : Rn} (h : OwnR w lo hi v s) (hg : g < lo) : DrawnR w g v s := fun _ hw => (h.only hw (.inr hg)).runs
theorem OwnR.farG {w w' : World} {lo hi g : Nat} {v : Value} {s : Rn} (h : OwnR w lo hi v s) (hg : w.grownBy w' (some g)) (hlt : g < lo) : OwnR w' lo hi v s :=
  h.only (a := g) (b := g + 1) (Only.of_grown hg (fun k hk => by simp at hk; omega)) (.inr hlt)
theorem grown_put {w0 w : World} {g b : Nat} (h : w0.grownBy w (some g)) (hb : w0.heap.size ≤ b) (u : Value) : w0.grownBy (w.setCell ⟨b, 0, none⟩ u) (some g) :=
  grown_via h (set_grown w b u) (fun i e => by simp at e; omega)

/-- What has been drawn of runs: they lie in the box behind the result's. -/
def St (w wx : World) (g Q : Nat) (vx : Value) (x : Rn) : Prop :=
  BoxAt wx (w.heap.size + 1) vx ∧ OwnR wx (w.heap.size + 2) wx.heap.size vx x ∧ BoxAt wx w.heap.size (.slice none 0 0) ∧ Rd wx g Q ∧ w.grownBy wx (some g)
theorem St.below {w wx wy : World} {g Q : Nat} {vx : Value} {x : Rn} (h : St w wx g Q vx x) (hb : Below wx.heap.size wx wy) : St w wy g Q vx x :=
  ⟨h.1.below hb, (h.2.1.keep' hb).wide (Nat.le_refl _) hb.size (Nat.le_refl _), h.2.2.1.below hb, h.2.2.2.1.below hb, grown_below h.2.2.2.2 hb⟩
theorem St.put {w wx : World} {g Q b : Nat} {vx u : Value} {x : Rn} (h : St w wx g Q vx x) (hgw : g < w.heap.size) (hB : BoxAt wx b u) (hb : w.heap.size + 2 ≤ b) (u' : Value) : St w (wx.setCell ⟨b, 0, none⟩ u') g Q vx x :=
  ⟨h.1.other _ (by omega), (h.2.1.put hB).wide (Nat.le_refl _) (by rw [setc_size]; exact Nat.le_refl _) (Nat.le_refl _), h.2.2.1.other _ (by omega), h.2.2.2.1.grown (set_grown _ _ _) (fun k e => by simp at e; omega), grown_put h.2.2.2.2 (by omega) _⟩
theorem St.drawn {w wx wy : World} {g Q Q' : Nat} {vx : Value} {x : Rn} (h : St w wx g Q vx x) (hgw : g < w.heap.size) (hg : wx.grownBy wy (some g)) (hr : Rd wy g Q') : St w wy g Q' vx x :=
  ⟨h.1.grown hg (fun e => by simp at e; omega), (h.2.1.farG hg (by omega)).wide (Nat.le_refl _) hg.size (Nat.le_refl _), h.2.2.1.grown hg (fun e => by simp at e; omega), hr, grown_trans h.2.2.2.2 hg⟩
theorem St.set {w wx : World} {g Q : Nat} {vx v' : Value} {x x' : Rn} (h : St w wx g Q vx x) (hgw : g < w.heap.size) (ho : OwnR wx (w.heap.size + 2) wx.heap.size v' x') : St w (wx.setCell ⟨w.heap.size + 1, 0, none⟩ v') g Q v' x' :=
  ⟨h.1.put _, (ho.put h.1).wide (Nat.le_refl _) (by rw [setc_size]; exact Nat.le_refl _) (Nat.le_refl _), h.2.2.1.other _ (by omega), h.2.2.2.1.grown (set_grown _ _ _) (fun k e => by simp at e; omega), grown_put h.2.2.2.2 (by omega) _⟩
theorem St.le {w wx : World} {g Q Q' : Nat} {vx : Value} {x : Rn} (h : St w wx g Q vx x) (hq : Q ≤ Q') : St w wx g Q' vx x := ⟨h.1, h.2.1, h.2.2.1, h.2.2.2.1.le hq, h.2.2.2.2⟩
theorem St.size {w wx : World} {g Q : Nat} {vx : Value} {x : Rn} (h : St w wx g Q vx x) : w.heap.size + 2 ≤ wx.heap.size := h.1.lt
theorem fin_of {w wx : World} {g Q Q' : Nat} {vx : Value} {x : Rn} (hgw : g < w.heap.size) (hd : DrawnR wx (w.heap.size + 1) vx x) (hr : Rd wx g Q) (hG : w.grownBy wx (some g)) (hq : Q ≤ Q') :
    DrawnR (wx.setCell ⟨w.heap.size, 0, none⟩ vx) g vx x ∧ Rd (wx.setCell ⟨w.heap.size, 0, none⟩ vx) g Q' ∧ w.grownBy (wx.setCell ⟨w.heap.size, 0, none⟩ vx) (some g) :=
  ⟨fun w'' hw => hd w'' ((Only.setCell (Only.refl 0 (w.heap.size + 1 + 1) wx) (Nat.zero_le _) (by show w.heap.size < _; omega) vx).trans ⟨hw.os, hw.tape, hw.output, hw.size, fun k hk hr => hw.block k hk (by omega)⟩),
   (hr.grown (set_grown _ _ _) (fun k e => by simp at e; omega)).le hq, grown_put hG (Nat.le_refl _) _⟩
theorem St.fin {w wx : World} {g Q Q' : Nat} {vx : Value} {x : Rn} (h : St w wx g Q vx x) (hgw : g < w.heap.size) (hq : Q ≤ Q') :
    DrawnR (wx.setCell ⟨w.heap.size, 0, none⟩ vx) g vx x ∧ Rd (wx.setCell ⟨w.heap.size, 0, none⟩ vx) g Q' ∧ w.grownBy (wx.setCell ⟨w.heap.size, 0, none⟩ vx) (some g) :=
  fin_of hgw (h.2.1.drawn (by omega)) h.2.2.2.1 h.2.2.2.2 hq


/-- One item, made anew. -/
theorem one_ownZ (w : World) (n y : Int) : OwnZ ((w.alloc (.cells #[.int .i64 n] 3)).alloc (.cells #[.slice (some ⟨w.heap.size, 0, none⟩) 1 1, .int .i64 y] 31)) w.heap.size ((w.alloc (.cells #[.int .i64 n] 3)).alloc (.cells #[.slice (some ⟨w.heap.size, 0, none⟩) 1 1, .int .i64 y] 31)).heap.size (.slice (some ⟨w.heap.size + 1, 0, none⟩) 1 1) [([n], y)] := by
  have h1 := World.ownsRow_lit (base := w.heap.size) (e := 31) (size := 2) (w.alloc (.cells #[.int .i64 n] 3)) #[.slice (some ⟨w.heap.size, 0, none⟩) 1 1, .int .i64 y] 1 (by simp) (by unfold maxLen; omega) rfl
  rw [show (w.alloc (.cells #[.int .i64 n] 3)).heap.size = w.heap.size + 1 by simp] at h1
  have h2 : Own (w.alloc (.cells #[.int .i64 n] 3)) w.heap.size (w.heap.size + 1) (.slice (some ⟨w.heap.size, 0, none⟩) 1 1) [n] := own_lit w [n] (by simp)
  refine OwnZ.closed (l := [(.slice (some ⟨w.heap.size, 0, none⟩) 1 1, ([n], y))]) (spine_new (n := 1) h1 (by simp [prs])) (fun x hx => ?_) (by simp [Apart])
  simp at hx
  subst hx
  exact (h2.keep' (below_alloc _)).wide (Nat.le_refl _) (by simp) (Nat.le_refl _)
/-- One run more. -/
theorem push_ready {w w4 w5 : World} {g Q n5 : Nat} {vx p : Value} {x : Rn} {z : List It} (S : St w w4 g Q vx x) (hgw : g < w.heap.size) (hb5 : Below w4.heap.size w4 w5) (Z : OwnZ w5 w4.heap.size w5.heap.size p z) (hn : w5.heap.size = n5) (hl : x.length ≤ 6) :
    ∃ ps : List Value, (w5.alloc (.cells #[p] 23)).ownsRow (w.heap.size + 2) 23 1 vx x.length ps ∧ (∀ j u, ([p] : List Value)[j]? = some u → (w5.alloc (.cells #[p] 23)).cell? ((⟨n5, 0, none⟩ : Addr).add j) = some u) ∧ w.heap.size + 2 ≤ (w5.alloc (.cells #[p] 23)).heap.size ∧
      ∀ g6 cap6 w6, w6.ownsRow (w.heap.size + 2) 23 1 (.slice (some ⟨g6, 0, none⟩) (x.length + 1) cap6) (x.length + 1) (ps ++ [p]) → (w5.alloc (.cells #[p] 23)).grownBy w6 vx.ownBlock → (vx.ownBlock = some g6 ∨ g6 = (w5.alloc (.cells #[p] 23)).heap.size) →
        BoxAt w6 (w.heap.size + 1) vx ∧ BoxAt w6 w.heap.size (.slice none 0 0) ∧ St w (w6.setCell ⟨w.heap.size + 1, 0, none⟩ (.slice (some ⟨g6, 0, none⟩) (x.length + 1) cap6)) g Q (.slice (some ⟨g6, 0, none⟩) (x.length + 1) cap6) (x ++ [z]) := by
  subst hn
  have S5 := S.below hb5
  have z4 := S.size
  have z5 := hb5.size
  obtain ⟨ps, o1, o2, o3, o4, o5⟩ := S.2.1.keep' hb5
  have hbl : ∀ j, vx.ownBlock = some j → w.heap.size + 2 ≤ j ∧ j < w4.heap.size := fun j hj => by have := (o1.lt j hj).1; have := o2 j hj; omega
  refine ⟨ps, o1.alloc _, last_news _ _ _, by simp; omega, fun g6 cap6 w6 hown hg hat => ?_⟩
  have B6 := (S5.1.below (below_alloc (.cells #[p] 23))).grown hg (fun e => by have := hbl _ e.symm; omega)
  have z6 := hg.size
  have O6 := ownR_push o5 (Nat.le_refl _) z5 (Nat.le_refl _) Z hbl hg hat hown (by omega)
  have B6r := (S5.2.2.1.below (below_alloc (.cells #[p] 23))).grown hg (fun e => by have := hbl _ e.symm; omega)
  refine ⟨B6, B6r, ?_⟩
  have S6 : St w w6 g Q vx x → St w (w6.setCell ⟨w.heap.size + 1, 0, none⟩ (.slice (some ⟨g6, 0, none⟩) (x.length + 1) cap6)) g Q (.slice (some ⟨g6, 0, none⟩) (x.length + 1) cap6) (x ++ [z]) := fun h => h.set hgw O6
  refine ⟨B6.put _, (O6.put B6).wide (Nat.le_refl _) (by rw [setc_size]; exact Nat.le_refl _) (Nat.le_refl _), ?_, ?_, ?_⟩
  · exact ((S5.2.2.1.below (below_alloc (.cells #[p] 23))).grown hg (fun e => by have := hbl _ e.symm; omega)).other _ (by omega)
  · exact ((S5.2.2.2.1.below (below_alloc (.cells #[p] 23))).grown hg (fun b e => by have := hbl _ e; omega)).grown (set_grown _ _ _) (fun k e => by simp at e; omega)
  · exact grown_put (grown_via (grown_below S5.2.2.2.2 (below_alloc (.cells #[p] 23))) hg (fun i e => by have := hbl _ e; omega)) (by omega) _
theorem row_ne_row {w : World} {lo n size lo' n' size' : Nat} {e e' : TypeId} {v v' : Value} {xs xs' : List Value} (h : w.ownsRow lo e size v n xs) (h' : w.ownsRow lo' e' size' v' n' xs') (he : (e' == e) = false) : v.ownBlock = none ∨ v.ownBlock ≠ v'.ownBlock := by
  rcases h.2 with ⟨rfl, _⟩ | ⟨g, cap, cur, rfl, _, hg, _⟩
  · exact .inl rfl
  · refine .inr fun e2 => ?_
    rcases h'.2 with ⟨rfl, _⟩ | ⟨g', cap', cur', rfl, _, hg', _⟩
    · simp [Value.ownBlock] at e2
    · simp [Value.ownBlock] at e2
      subst e2
      rw [hg] at hg'
      simp at hg'
      obtain ⟨_, rfl, _⟩ := hg'
      simp at he
/-- An item more at the end of the first run. -/
theorem bend_ready {w w4 : World} {g Q gz n cap : Nat} {x : Rn} (S : St w w4 g Q (.slice (some ⟨gz, 0, none⟩) n cap) x) (hgw : g < w.heap.size) (hx : 0 < x.length) (hl : (x.getD 0 []).length ≤ 1000) :
    ∃ (pa : Option Addr) (pn pc : Nat) (ps : List (Value × Int)) (m1 : Nat), w.heap.size + 2 ≤ m1 ∧ w.heap.size + 2 ≤ gz ∧ gz < w4.heap.size ∧ w4.cell? ⟨gz, 0, none⟩ = some (.slice pa pn pc) ∧ w4.frozen? ⟨gz, 0, none⟩ = false ∧ ps.length ≤ 1000 ∧
      ((w4.drew.alloc (.cells #[.int .i64 0] 3)).alloc (.cells #[.slice (some ⟨w4.heap.size, 0, none⟩) 1 1, .int .i64 0] 31)).ownsRow m1 31 2 (.slice pa pn pc) ps.length (cells2 ps) ∧ PairsAt ((w4.drew.alloc (.cells #[.int .i64 0] 3)).alloc (.cells #[.slice (some ⟨w4.heap.size, 0, none⟩) 1 1, .int .i64 0] 31)) (.slice (some ⟨w4.heap.size + 1, 0, none⟩) 1 1) [(.slice (some ⟨w4.heap.size, 0, none⟩) 1 1, 0)] ∧ m1 ≤ ((w4.drew.alloc (.cells #[.int .i64 0] 3)).alloc (.cells #[.slice (some ⟨w4.heap.size, 0, none⟩) 1 1, .int .i64 0] 31)).heap.size ∧
      ∀ v7 w7, w7.ownsRow m1 31 2 v7 (ps ++ [(Value.slice (some ⟨w4.heap.size, 0, none⟩) 1 1, (0 : Int))]).length (cells2 (ps ++ [(Value.slice (some ⟨w4.heap.size, 0, none⟩) 1 1, (0 : Int))])) → ((w4.drew.alloc (.cells #[.int .i64 0] 3)).alloc (.cells #[.slice (some ⟨w4.heap.size, 0, none⟩) 1 1, .int .i64 0] 31)).grownBy w7 (Value.slice pa pn pc).ownBlock →
        w7.cell? ⟨gz, 0, none⟩ = some (.slice pa pn pc) ∧ w7.frozen? ⟨gz, 0, none⟩ = false ∧ w7.cell? ⟨w.heap.size + 1, 0, none⟩ = some (.slice (some ⟨gz, 0, none⟩) n cap) ∧
        BoxAt (w7.setCell ⟨gz, 0, none⟩ v7) (w.heap.size + 1) (.slice (some ⟨gz, 0, none⟩) n cap) ∧ DrawnR (w7.setCell ⟨gz, 0, none⟩ v7) (w.heap.size + 1) (.slice (some ⟨gz, 0, none⟩) n cap) (x.set 0 (x.getD 0 [] ++ [([0], 0)])) ∧
        BoxAt (w7.setCell ⟨gz, 0, none⟩ v7) w.heap.size (.slice none 0 0) ∧ Rd (w7.setCell ⟨gz, 0, none⟩ v7) g Q ∧ w.grownBy (w7.setCell ⟨gz, 0, none⟩ v7) (some g) := by
  obtain ⟨a', c', hsh⟩ := S.2.1.shape
  simp only [Value.slice.injEq] at hsh
  obtain ⟨rfl, rfl, rfl⟩ := hsh
  have z4 := S.size
  obtain ⟨ps0, o1, o2, o3, o4, o5⟩ := S.2.1
  have hgz := (o1.lt gz rfl).1
  have hgz2 := o2 gz rfl
  match x, ps0, hx, o1, o3, o5, hl, S with
  | z :: zs, p :: ps1, hx, o1, o3, o5, hl, S =>
  obtain ⟨m1, m2, hm1, hm12, Z, hv, TT⟩ := o5
  have hm2 := TT.le
  have hvg := hv gz rfl
  obtain ⟨pa, pn, pc, rfl⟩ := Z.shapeN
  have hb5 : Below w4.heap.size w4 (w4.drew.alloc (.cells #[.int .i64 0] 3)) := below_then (Below.drew (Below.refl _ _)) (below_alloc (w := w4.drew) _)
  have hb6 : Below w4.heap.size w4 ((w4.drew.alloc (.cells #[.int .i64 0] 3)).alloc (.cells #[.slice (some ⟨w4.heap.size, 0, none⟩) 1 1, .int .i64 0] 31)) := below_then hb5 (below_alloc _)
  have z5 : (w4.drew.alloc (.cells #[.int .i64 0] 3)).heap.size = w4.heap.size + 1 := by simp
  have hrow : Own (w4.drew.alloc (.cells #[.int .i64 0] 3)) w4.heap.size (w4.drew.alloc (.cells #[.int .i64 0] 3)).heap.size (.slice (some ⟨w4.heap.size, 0, none⟩) 1 1) [0] := by
    rw [z5]
    exact own_lit w4.drew [0] (by simp)
  have hk : ∀ k, (Value.slice pa pn pc).ownBlock = some k → m1 ≤ k ∧ k < m2 := by
    obtain ⟨_, _, hs, _⟩ := Z
    exact fun k hk => ⟨(hs.1.lt k hk).1, hs.2.1 k hk⟩
  obtain ⟨ps, hpl, hown, hpairs, hfin⟩ := (Z.keep' hb5).ready 0 hrow hm2 (by omega) (by omega) (by simp at hl; omega)
  rw [z5] at hpairs
  have hcell : w4.cell? ⟨gz, 0, none⟩ = some (.slice pa pn pc) := by simpa using ps_get o1 (j := 0) (by simp)
  have hfr : w4.frozen? ⟨gz, 0, none⟩ = false := o1.frozenAt 0
  refine ⟨pa, pn, pc, ps, m1, hm1, hgz, hgz2, hcell, hfr, by simp at hl; omega, hown, hpairs, by have := hb6.size; omega, fun v7 w7 hown7 hg7 => ?_⟩
  obtain ⟨Z7, hb7⟩ := hfin v7 w7 hown7 hg7
  have hne : some gz ≠ (Value.slice pa pn pc).ownBlock := fun e => by have := hk gz e.symm; omega
  have hO : Only m1 m2 ((w4.drew.alloc (.cells #[.int .i64 0] 3)).alloc (.cells #[.slice (some ⟨w4.heap.size, 0, none⟩) 1 1, .int .i64 0] 31)) w7 := Only.of_grown hg7 hk
  have z6 := hb6.size
  have z7 := hg7.size
  have r6 := ownsRow_only o1 (below_only hb6) (fun b e => by simp [Value.ownBlock] at e; omega)
  have r7 := ownsRow_only r6 hO (fun b e => by simp [Value.ownBlock] at e; omega)
  have r8 := r7.stored 0 v7
  have S6 := S.below hb6
  have B7 := S6.1.grown hg7 (fun e => by have := hk _ e.symm; omega)
  have B7r := S6.2.2.1.grown hg7 (fun e => by have := hk _ e.symm; omega)
  refine ⟨by simpa using ps_get r7 (j := 0) (by simp), r7.frozenAt 0, B7.cell, B7.other _ (by omega), ?_, B7r.other _ (by omega), ?_, ?_⟩
  · have T7 : RunsIn w7 (.slice (some ⟨gz, 0, none⟩) (z :: zs).length cap) m2 w4.heap.size ps1 zs := (TT.keep hb6).only hO (.inr (Nat.le_refl _))
    have T8 : RunsIn (w7.setCell ⟨gz, 0, none⟩ v7) (.slice (some ⟨gz, 0, none⟩) (z :: zs).length cap) m2 w4.heap.size ps1 zs := T7.onlyV (g := gz) rfl (Only.of_grown (set_grown w7 gz v7) (fun k e => by simp at e; omega))
    have Z8 : OwnZ (w7.setCell ⟨gz, 0, none⟩ v7) m1 w7.heap.size v7 (z ++ [([0], 0)]) := by
      obtain ⟨qs, he, hs, hr, ha⟩ := Z7
      exact ⟨qs, he, hs.kept (set_grown _ _ _) (row_ne_row hs.1 r7 (by decide)), fun j hj => (hr j hj).keptB (set_grown _ _ _) (row_ne_row (hr j hj).1 r7 (by decide)), ha⟩
    intro w'' hw
    have r9 := ownsRow_only r8.1 hw (fun b e => by simp [Value.ownBlock] at e; omega)
    have T9 := T8.only hw (.inr (by omega))
    have Z9 := Z8.only hw (.inr (by omega))
    have hT : ∀ j, j < (z :: zs).length → TailZ w'' ((v7 :: ps1).getD j vn) (((z ++ [([0], 0)]) :: zs).getD j []) := fun j hj => by
      cases j with
      | zero => simpa using Z9.tail
      | succ j =>
        obtain ⟨_, _, _, _, _, ho, _⟩ := T9.at j (by simpa using hj)
        simpa using ho.tail
    rcases r9.2 with ⟨e, _⟩ | ⟨g', cap', cur, e, _, hgg, hnc, hcm, _⟩
    · simp at e
    · simp only [Value.slice.injEq, Option.some.injEq, Addr.mk.injEq] at e
      obtain ⟨⟨rfl, _, _⟩, _, rfl⟩ := e
      refine ⟨by simpa using o3, some ⟨gz, 0, none⟩, cap, by simp, fun h => by simp at h, by simpa using hnc, by have := hcm; simp only [maxLen] at this; omega, fun _ => ⟨gz, 0, rfl, (Array.getElem?_eq_some_iff.1 hgg).1, fun j hj => ?_⟩⟩
      have hj' : j < (z :: zs).length := by simpa using hj
      exact ⟨_, by rw [Nat.zero_add]; exact ps_get r9 hj', by simpa using hT j hj'⟩
  · exact (S6.2.2.2.1.grown hg7 (fun b e => by have := hk _ e; omega)).grown (set_grown _ _ _) (fun k e => by simp at e; omega)
  · exact grown_put (grown_via S6.2.2.2.2 hg7 (fun i e => by have := hk _ e; omega)) (by omega) _

end Go.Proofs.Ytjaehoehfmklcaa
