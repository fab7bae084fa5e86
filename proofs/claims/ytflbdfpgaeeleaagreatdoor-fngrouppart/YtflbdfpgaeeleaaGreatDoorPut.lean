/-
  Items of the call's own as one list of triples; spec.l2Put's contract: a row put so often into items of the call's own, in their own memory.
-/
import Derived.Test.YtflbdfpgaeeleaaGreatDoorPutMath
import Derived.Test.YtflbdfpgaeeleaaGreatDoorJoin
import Derived.Maps.AppendAt
import Derived.Deep.RegionLaw
import Derived.Deep.DrawnRows
namespace Go.Proofs.YtflbdfpgaeeleaaGreatDoor
open Go.RowKit

abbrev Rw := Value × It
def prs (l : List Rw) : List (Value × Int) := l.map fun x => (x.1, x.2.2)
def its (l : List Rw) : List It := l.map (·.2)
/-- No two of them lie in one block. -/
def Apart (l : List Rw) : Prop := l.Pairwise fun a b => ∀ k, a.1.ownBlock = some k → b.1.ownBlock ≠ some k
theorem prs_length (l : List Rw) : (prs l).length = l.length := by simp [prs]
theorem its_length (l : List Rw) : (its l).length = l.length := by simp [its]
theorem prs_append (l m : List Rw) : prs (l ++ m) = prs l ++ prs m := by simp [prs]
theorem its_append (l m : List Rw) : its (l ++ m) = its l ++ its m := by simp [its]
theorem prs_take (l : List Rw) (k : Nat) : prs (l.take k) = (prs l).take k := by simp [prs]
theorem prs_drop (l : List Rw) (k : Nat) : prs (l.drop k) = (prs l).drop k := by simp [prs]
theorem its_take (l : List Rw) (k : Nat) : its (l.take k) = (its l).take k := by simp [its]
theorem its_drop (l : List Rw) (k : Nat) : its (l.drop k) = (its l).drop k := by simp [its]

theorem OwnZ.opened {w : World} {lo hi : Nat} {v : Value} {zs : List It} (h : OwnZ w lo hi v zs) : ∃ l : List Rw, zs = its l ∧ Spine w lo hi v (prs l) ∧ (∀ x ∈ l, Own w lo hi x.1 x.2.1) ∧ Apart l := by
  obtain ⟨ps, he, hs, hr, ha⟩ := h
  have hl := snd_len he
  have hL : (List.zipWith (fun (p : Value × Int) (z : It) => ((p.1, z) : Rw)) ps zs).length = ps.length := by simp; omega
  have hg : ∀ j (hj : j < ps.length), (List.zipWith (fun (p : Value × Int) (z : It) => ((p.1, z) : Rw)) ps zs)[j]'(by omega) = ((ps.getD j (vn, 0)).1, zs.getD j ([], 0)) := fun j hj => by
    have hz : j < zs.length := by omega
    simp [List.getD, hj, hz]
  have e1 : its (List.zipWith (fun (p : Value × Int) (z : It) => ((p.1, z) : Rw)) ps zs) = zs := by
    apply List.ext_getElem
    · simp [its]; omega
    · intro j h1 h2
      simp [its]
  have e2 : prs (List.zipWith (fun (p : Value × Int) (z : It) => ((p.1, z) : Rw)) ps zs) = ps := by
    apply List.ext_getElem
    · simp [prs]; omega
    · intro j h1 h2
      have hz : j < zs.length := by omega
      have := snd_getD he j
      simp [List.getD, h2, hz] at this
      simp [prs, ← this]
  refine ⟨_, e1.symm, by rw [e2]; exact hs, fun x hx => ?_, ?_⟩
  · obtain ⟨j, hj, rfl⟩ := List.getElem_of_mem hx
    rw [hL] at hj
    rw [hg j hj]
    exact hr j hj
  · unfold Apart
    rw [List.pairwise_iff_getElem]
    intro i j hi' hj' hij k hk
    rw [hL] at hi' hj'
    rw [hg i hi'] at hk
    rw [hg j hj']
    exact ha i j k hij hj' hk
theorem OwnZ.closed {w : World} {lo hi : Nat} {v : Value} {l : List Rw} (hs : Spine w lo hi v (prs l)) (hr : ∀ x ∈ l, Own w lo hi x.1 x.2.1) (ha : Apart l) : OwnZ w lo hi v (its l) := by
  have hg : ∀ j, j < l.length → ∃ h : j < l.length, (prs l).getD j (vn, 0) = (l[j].1, l[j].2.2) ∧ (its l).getD j ([], 0) = l[j].2 := fun j hj => ⟨hj, by simp [prs, List.getD, hj], by simp [its, List.getD, hj]⟩
  refine ⟨prs l, by simp [prs, its], hs, fun j hj => ?_, fun i j k hij hj hk => ?_⟩
  · obtain ⟨h, e1, e2⟩ := hg j (by rwa [prs_length] at hj)
    rw [e1, e2]
    exact hr _ (List.getElem_mem h)
  · obtain ⟨h, e1, _⟩ := hg j (by rwa [prs_length] at hj)
    obtain ⟨h', e1', _⟩ := hg i (by omega)
    rw [e1'] at hk
    rw [e1]
    exact (List.pairwise_iff_getElem.1 ha) i j h' h hij k hk
theorem Apart.insert {l : List Rw} (ha : Apart l) (k : Nat) {x : Rw} (hx : ∀ y ∈ l, ∀ b, y.1.ownBlock = some b → x.1.ownBlock ≠ some b) : Apart (l.take k ++ x :: l.drop k) := by
  unfold Apart at *
  have h0 := ha
  rw [← List.take_append_drop k l, List.pairwise_append] at h0
  obtain ⟨h1, h2, h3⟩ := h0
  rw [List.pairwise_append]
  refine ⟨h1, List.pairwise_cons.2 ⟨fun y hy b hb hb' => hx y (List.mem_of_mem_drop hy) b hb' hb, h2⟩, fun y hy z hz b hb => ?_⟩
  rcases List.mem_cons.1 hz with rfl | hz
  · exact hx y (List.mem_of_mem_take hy) b hb
  · exact h3 y hy z hz b hb
theorem Apart.remove {l : List Rw} (ha : Apart l) (k : Nat) : Apart (l.take k ++ l.drop (k + 1)) := by
  unfold Apart at *
  refine ha.sublist ?_
  conv => rhs; rw [← List.take_append_drop k l]
  exact (List.Sublist.refl _).append (List.drop_sublist_drop_left l (by omega))

theorem cells2_take : ∀ (ps : List (Value × Int)) (k : Nat), cells2 (ps.take k) = (cells2 ps).take (k * 2)
  | [], k => by simp [cells2]
  | p :: ps, 0 => by simp [cells2]
  | p :: ps, k + 1 => by rw [List.take_succ_cons, cells2_cons, cells2_cons, cells2_take ps k, show (k + 1) * 2 = k * 2 + 1 + 1 by omega, List.take_succ_cons, List.take_succ_cons]
theorem Spine.taken {w : World} {lo hi : Nat} {g n cap : Nat} {ps : List (Value × Int)} (h : Spine w lo hi (.slice (some ⟨g, 0, none⟩) n cap) ps) {k : Nat} (hk : k ≤ ps.length) : Spine w lo hi (.slice (some ⟨g, 0, none⟩) k cap) (ps.take k) := by
  obtain ⟨⟨h1, h2⟩, h3, h4, h5⟩ := h
  have hl : (ps.take k).length = k := by rw [List.length_take]; omega
  have hc := cells2_take ps k
  rcases h2 with ⟨e, _⟩ | ⟨g', cap', cur, e, hb, hg, hnc, hcm, hcs, htake⟩
  · simp at e
  · simp at e
    obtain ⟨rfl, rfl, rfl⟩ := e
    refine ⟨⟨by rw [cells2_length, hl], .inr ⟨g, cap, cur, by rw [hl], hb, hg, by rw [hl]; omega, hcm, hcs, ?_⟩⟩, h3, by rw [hl]; omega, h5⟩
    rw [hl, hc, ← htake, List.take_take, Nat.min_eq_left (by omega)]
theorem PairsAt.dropped {w : World} {g off n cap : Nat} {ps : List (Value × Int)} (h : PairsAt w (.slice (some ⟨g, off, none⟩) n cap) ps) {k : Nat} (hk : k ≤ ps.length) (c : Nat) : PairsAt w (.slice (some ⟨g, off + k * 2, none⟩) (n - k) c) (ps.drop k) := by
  obtain ⟨h1, h2, a, cap', e, _, hc⟩ := h
  simp at e
  obtain ⟨rfl, rfl, rfl⟩ := e
  have hl : (ps.drop k).length = ps.length - k := by simp
  refine ⟨by omega, fun p hp => h2 p (List.mem_of_mem_drop hp), _, c, by rw [hl], fun h => by simp at h, fun hne => ?_⟩
  obtain ⟨b, off', e, hb, hcell⟩ := hc (fun e => hne (by simp [e]))
  simp at e
  obtain ⟨rfl, rfl⟩ := e
  refine ⟨g, off + k * 2, rfl, hb, fun j hj => ?_⟩
  rw [hl] at hj
  have e1 : (ps.drop k).getD j (vn, 0) = ps.getD (k + j) (vn, 0) := by simp [List.getD]
  have := hcell (k + j) (by omega)
  rw [e1, show off + k * 2 + j * 2 = off + (k + j) * 2 by omega]
  exact this
theorem PairsAt.kept {w w' : World} {g off n cap : Nat} {ps : List (Value × Int)} (h : PairsAt w (.slice (some ⟨g, off, none⟩) n cap) ps) {row : Option Nat} (hg : w.grownBy w' row) (hne : row ≠ some g) : PairsAt w' (.slice (some ⟨g, off, none⟩) n cap) ps := by
  obtain ⟨h1, h2, a, cap', e, h4, hc⟩ := h
  refine ⟨h1, h2, a, cap', e, h4, fun hn => ?_⟩
  obtain ⟨b, off', e', hb, hcell⟩ := hc hn
  have eb : b = g := by rw [e'] at e; simp at e; exact e.1.1.symm
  refine ⟨b, off', e', Nat.lt_of_lt_of_le hb hg.size, fun j hj => ?_⟩
  obtain ⟨c1, c2⟩ := hcell j hj
  exact ⟨hg.cell c1 (by simp only [eb]; exact fun e => hne e.symm), hg.cell c2 (by simp only [eb]; exact fun e => hne e.symm)⟩
theorem PairsAt.news {w : World} {ad : Addr} {m c : Nat} {qs : List (Value × Int)} (h : PairsAt w (.slice (some ad) m c) qs) : qs.length = m ∧ (∀ j u, (cells2 qs)[j]? = some u → w.cell? (ad.add j) = some u) ∧ ∀ p ∈ qs, ∃ a n c, p.1 = Value.slice a n c := by
  obtain ⟨hl, hsl, a, cap, e, hnone, hc⟩ := h
  simp at e
  obtain ⟨rfl, rfl, rfl⟩ := e
  refine ⟨rfl, fun j u hu => ?_, hsl⟩
  by_cases h0 : qs = []
  · subst h0; simp [cells2] at hu
  · obtain ⟨b, off, hh, _, hcell⟩ := hc h0
    simp at hh
    subst hh
    have hj : j < qs.length * 2 := by
      have := (List.getElem?_eq_some_iff.1 hu).1
      rwa [cells2_length] at this
    rw [Addr.add_lit]
    obtain ⟨q, r, hq, hr⟩ : ∃ q r, j = q * 2 + r ∧ r < 2 := ⟨j / 2, j % 2, by omega, by omega⟩
    have hqn : q < qs.length := by omega
    obtain ⟨h1, h2⟩ := hcell q hqn
    rcases Nat.lt_succ_iff_lt_or_eq.1 hr with h | h
    · obtain rfl : r = 0 := by omega
      subst hq
      rw [Nat.add_zero] at hu ⊢
      rw [cells2_get0 _ _ hqn] at hu
      rw [h1]; exact hu
    · subst h hq
      rw [cells2_get1 _ _ hqn] at hu
      rw [← Nat.add_assoc, h2]; exact hu

/-- append of pairs, as one step of a region that draws its order, and where the new slice lies. -/
theorem step_append_at {P : Program} {ops : Array Oper} {o : Oper} {a : Act} {w : World} {K : Act → World → Prop} {Q : Exit → Act → World → Prop} {E : Prop}
    (hg : o.guard = none) (s x : Operand) (t : TypeId) (hop : o.op = Op.call { callee := Callee.builtin Builtin.append, args := #[s, x], argTypes := #[t, t] })
    (base : Nat) (e : TypeId) (i : TypeInfo) (ht : P.underlying t = some (.slice e)) (hi : P.info? e = some i) (hz : i.zero = some (.agg #[.slice none 0 0, .int .i64 0]))
    (hsize : i.size = 2) (hby : i.bytes = 32)
    (v : Value) (ps : List (Value × Int)) (hs : a.eval s = v) (hown : w.ownsRow base e 2 v ps.length (cells2 ps))
    (ad : Addr) (m c : Nat) (qs : List (Value × Int)) (hx : a.eval x = .slice (some ad) m c) (hp : PairsAt w (.slice (some ad) m c) qs)
    (hbytes : (ps.length + qs.length) * 32 ≤ 140737488355328) (hbase : base ≤ w.heap.size)
    (hK : ∀ v' w', w'.ownsRow base e 2 v' (ps ++ qs).length (cells2 (ps ++ qs)) → w.grownBy w' v.ownBlock → (v'.ownBlock = v.ownBlock ∨ v'.ownBlock = some w.heap.size) → K (a.put o.dst v') w') :
    if Region.wanted o (yielded ops a.tmps) = true then Oper.wp P o a w K Q else E := by
  obtain ⟨hm, hnews, hsl⟩ := hp.news
  have hw : Region.wanted o (yielded ops a.tmps) = true := by simp [Region.wanted, hg]
  rw [if_pos hw]
  subst hm
  obtain ⟨v', w', hrun, r1, r2, _, r3⟩ := run_append_own_at (P := P) w base t o.type e i (.agg #[.slice none 0 0, .int .i64 0]) 2 32 ht hi hz hsize hby rfl (by decide) v ps.length (cells2 ps) hown ad qs.length c (cells2 qs) (by rw [cells2_length]) hnews (cells2_one hsl) (by unfold maxLen; omega) hbytes hbase
  unfold Oper.wp
  simp [execOp, hop, resolve, invoke, builtin, hs, hx, hrun, Result.andThen]
  rw [← cells2_append] at r1
  exact hK v' w' (by rw [List.length_append]; exact r1) r2 r3

end Go.Proofs.YtflbdfpgaeeleaaGreatDoor
