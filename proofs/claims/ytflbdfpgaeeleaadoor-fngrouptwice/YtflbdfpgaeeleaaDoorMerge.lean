/-
  The contracts of impl.merge at items (with impl.compareItems and the closure that adds weights): the merged pairs, their rows as they lay.
-/
import Derived.Test.YtflbdfpgaeeleaaDoorPutWalk
import Derived.Deep.RegionHeld
namespace Go.Proofs.YtflbdfpgaeeleaaDoor
set_option maxRecDepth 100000
open Go.RowKit
attribute [local go_sem ↓] Go.wp_at_zero Go.wp_at_succ

/-- The rows of triples, in the memory w. -/
def RowsIn (w : World) (l : List Rw) : Prop := ∀ x ∈ l, IntsAt w x.1 x.2.1
theorem RowsIn.below {w w' : World} {l : List Rw} (h : RowsIn w l) (hb : Below w.heap.size w w') : RowsIn w' l := fun x hx => (h x hx).below hb
theorem RowsIn.shape {w : World} {l : List Rw} (h : RowsIn w l) : ∀ p ∈ prs l, ∃ a n c, p.1 = Value.slice a n c := fun p hp => by
  obtain ⟨q, hq, rfl⟩ := List.mem_map.1 hp
  exact (h q hq).shape

theorem ItemsAt.opened {w : World} {v : Value} {zs : List It} (h : ItemsAt w v zs) : ∃ l : List Rw, zs = its l ∧ PairsAt w v (prs l) ∧ RowsIn w l := by
  obtain ⟨ps, hp, he, hr⟩ := h.pairs
  have hl := snd_len he
  have hL : (List.zipWith (fun (p : Value × Int) (z : It) => ((p.1, z) : Rw)) ps zs).length = ps.length := by simp; omega
  have hg : ∀ j (hj : j < ps.length), (List.zipWith (fun (p : Value × Int) (z : It) => ((p.1, z) : Rw)) ps zs)[j]'(by omega) = ((ps.getD j (vn, 0)).1, zs.getD j ([], 0)) := fun j hj => by
    have hz : j < zs.length := by omega
    simp [List.getD, hj, hz]
  have e1 : its (List.zipWith (fun (p : Value × Int) (z : It) => ((p.1, z) : Rw)) ps zs) = zs := by
    apply List.ext_getElem
    · simp [its]; omega
    · intro j h1 h2
      simp [its]
  have e2 : prs (List.zipWith (fun (p : Value × Int) (z : It) => ((p.1, z) : Rw)) ps zs) = ps := by
    apply List.ext_getElem
    · simp [prs]; omega
    · intro j h1 h2
      have hz : j < zs.length := by omega
      have := snd_getD he j
      simp [List.getD, h2, hz] at this
      simp [prs, ← this]
  refine ⟨_, e1.symm, by rw [e2]; exact hp, fun x hx => ?_⟩
  obtain ⟨j, hj, rfl⟩ := List.getElem_of_mem hx
  rw [hL] at hj
  rw [hg j hj]
  exact hr j (by omega)
theorem PairsAt.itemsOf {w : World} {v : Value} {l : List Rw} (h : PairsAt w v (prs l)) (hr : RowsIn w l) : ItemsAt w v (its l) := by
  refine h.items (by simp [prs, its]) fun j hj => ?_
  rw [its_length] at hj
  have := hr _ (List.getElem_mem hj)
  simpa [prs, its, List.getD, hj] using this

def sLen (v : Value) : Nat := match v with
  | .slice _ n _ => n
  | _ => 0

/-- A slice of pairs, and that its capacity holds them. -/
def Tail (w : World) (s : Value) (ps : List (Value × Int)) : Prop := PairsAt w s ps ∧ ∃ a c, s = .slice a ps.length c ∧ ps.length ≤ c ∧ c ≤ 9223372036854775807
theorem Tail.below {w w' : World} {s : Value} {ps : List (Value × Int)} (h : Tail w s ps) (hb : Below w.heap.size w w') : Tail w' s ps := ⟨h.1.below hb, h.2⟩
theorem Tail.next {w : World} {s : Value} {p : Value × Int} {ps : List (Value × Int)} (h : Tail w s (p :: ps)) :
    ∃ (b off c : Nat) (ad : Addr), s = .slice (some ⟨b, off, none⟩) (ps.length + 1) c ∧ ps.length + 1 ≤ c ∧ c ≤ 9223372036854775807 ∧ b < w.heap.size ∧ w.cell? ⟨b, off, none⟩ = some p.1 ∧ w.cell? ⟨b, off + 1, none⟩ = some (.int .i64 p.2) ∧
      (if c = 1 then some (⟨b, off, none⟩ : Addr) else some ⟨b, off + 2, none⟩) = some ad ∧ Tail w (.slice (some ad) ps.length (c - 1)) ps := by
  obtain ⟨⟨h1, h2, a, cap, rfl, h4, hc⟩, a', c, e, hcap, hmax⟩ := h
  simp at e
  obtain ⟨rfl, rfl⟩ := e
  obtain ⟨b, off, rfl, hb, hcell⟩ := hc (by simp)
  obtain ⟨c0, c1⟩ := hcell 0 (by simp)
  simp at c0 c1 hcap h1
  have hp : PairsAt w (.slice (some ⟨b, off, none⟩) (ps.length + 1) cap) (p :: ps) := ⟨by simp; omega, h2, _, cap, by simp, fun h => by simp at h, fun _ => ⟨b, off, rfl, hb, hcell⟩⟩
  by_cases hc1 : cap = 1
  · refine ⟨b, off, cap, ⟨b, off, none⟩, by simp, hcap, hmax, hb, c0, c1, if_pos hc1, ?_, _, _, rfl, by omega, by omega⟩
    have h0 : ps = [] := List.length_eq_zero_iff.1 (by omega)
    subst h0
    exact ⟨by simp, fun p hp => by simp at hp, _, _, rfl, fun h => by simp at h, fun h => absurd rfl h⟩
  · refine ⟨b, off, cap, ⟨b, off + 2, none⟩, by simp, hcap, hmax, hb, c0, c1, if_neg hc1, ?_, _, _, rfl, by omega, by omega⟩
    have := hp.dropped (k := 1) (by simp) (cap - 1)
    simpa using this

/-- What is wanted to put a pair, written out in a new block, behind pairs of the call's own, and what it leaves. -/
theorem merge_ready {w : World} {lo hi : Nat} {v xv : Value} {done : List Rw} (y : Int) (S : Spine w lo hi v (prs done)) (hs : ∃ a n c, xv = Value.slice a n c) (hlo : lo ≤ w.heap.size) (hlim : done.length ≤ 1099511627776) :
    (w.alloc (.cells #[xv, .int .i64 y] 31)).ownsRow lo 31 2 v (prs done).length (cells2 (prs done)) ∧ PairsAt (w.alloc (.cells #[xv, .int .i64 y] 31)) (.slice (some ⟨w.heap.size, 0, none⟩) 1 1) [(xv, y)] ∧
      ∀ v' w' (x : List Int), w'.ownsRow lo 31 2 v' (prs done ++ [(xv, y)]).length (cells2 (prs done ++ [(xv, y)])) → (w.alloc (.cells #[xv, .int .i64 y] 31)).grownBy w' v.ownBlock → Spine w' lo w'.heap.size v' (prs (done ++ [(xv, (x, y))])) ∧ Below lo w w' := by
  have hb := below_alloc (w := w) (.cells #[xv, .int .i64 y] 31)
  refine ⟨(S.keep' hb).1, pairs_lit w _ y hs, fun v' w' x ho hg => ⟨?_, ?_⟩⟩
  · have e : prs (done ++ [(xv, (x, y))]) = prs done ++ [(xv, y)] := by simp [prs]
    rw [e]
    exact spine_new ho (by rw [List.length_append, prs_length]; simp; omega)
  · exact (hb.mono hlo).grown hg (by simp; omega) (fun k hk => (S.1.lt k hk).1)

theorem mrg_lt {x y : It} {a b : List It} (h : ordL x.1 y.1 = -1) : mrgZ (x :: a) (y :: b) = x :: mrgZ a (y :: b) := by rw [mrgZ_cons, if_pos h]
theorem mrg_gt {x y : It} {a b : List It} (h : ordL x.1 y.1 = 1) : mrgZ (x :: a) (y :: b) = y :: mrgZ (x :: a) b := by rw [mrgZ_cons, if_neg (by omega), if_pos h]
theorem mrg_eq {x y : It} {a b : List It} (h : ordL x.1 y.1 = 0) : mrgZ (x :: a) (y :: b) = (x.1, x.2 + y.2) :: mrgZ a b := by rw [mrgZ_cons, if_neg (by omega), if_neg (by omega)]

def Low (l : List Rw) : Prop := ∀ x ∈ l, -4611686018427387904 ≤ x.2.2 ∧ x.2.2 ≤ 4611686018427387903

end Go.Proofs.YtflbdfpgaeeleaaDoor
