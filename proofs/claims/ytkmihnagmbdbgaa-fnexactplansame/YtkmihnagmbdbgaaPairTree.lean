/-
  Two trees held against each other by a stack of pairs of places and the pairs that were met: what the pairs tell.
-/
import Derived.Test.YtkmihnagmbdbgaaPairMap
namespace Go.Proofs.Ytkmihnagmbdbgaa
set_option maxRecDepth 100000
open Go.RowKit
set_option linter.unusedVariables false

theorem RawInts.det {w : World} {v : Value} {xs ys : List Int} (h : RawInts w v xs) (k : RawInts w v ys) : xs = ys := by
  obtain ⟨-, a, c, rfl, -, h⟩ := h
  obtain ⟨-, a', c', e, -, k⟩ := k
  injection e with e1 e2 e3
  by_cases hz : xs = []
  · subst hz
    exact (List.length_eq_zero_iff.1 (by simpa using e2.symm)).symm
  have hz' : ys ≠ [] := fun e => hz (by rw [e] at e2; simpa using e2)
  obtain ⟨b, o, ha, -, h⟩ := h hz
  obtain ⟨b', o', ha', -, k⟩ := k hz'
  rw [ha, ha'] at e1
  injection e1 with e1
  injection e1 with eb eo
  subst eb eo
  refine List.ext_getElem e2 fun j h1 h2 => ?_
  have := (h j h1).symm.trans (k j h2)
  injection this with this
  injection this with _ this
  simpa [h1, h2] using this
theorem Cell4.det {w : World} {b o : Nat} {c d : Cel} (h : Cell4 w b o c) (k : Cell4 w b o d) : c = d := by
  obtain ⟨h0, h1, h2, h3⟩ := h
  obtain ⟨k0, k1, k2, k3⟩ := k
  obtain ⟨c0, c1, c2, c3⟩ := c
  obtain ⟨d0, d1, d2, d3⟩ := d
  simp only at h0 h1 h2 h3 k0 k1 k2 k3
  rw [h0] at k0
  rw [h1] at k1
  rw [h2] at k2
  rw [h3] at k3
  simp at k0 k1 k2 k3
  subst k0 k1 k2 k3
  rfl
theorem RawCels.det {w : World} {v : Value} {xs ys : List Cel} (h : RawCels w v xs) (k : RawCels w v ys) : xs = ys := by
  obtain ⟨-, a, c, rfl, -, h⟩ := h
  obtain ⟨-, a', c', e, -, k⟩ := k
  injection e with e1 e2 e3
  by_cases hz : xs = []
  · subst hz
    exact (List.length_eq_zero_iff.1 (by simpa using e2.symm)).symm
  have hz' : ys ≠ [] := fun e => hz (by rw [e] at e2; simpa using e2)
  obtain ⟨b, o, ha, -, h⟩ := h hz
  obtain ⟨b', o', ha', -, k⟩ := k hz'
  rw [ha, ha'] at e1
  injection e1 with e1
  injection e1 with eb eo
  subst eb eo
  refine List.ext_getElem e2 fun j h1 h2 => ?_
  have := (h j h1).det (k j h2)
  simpa [h1, h2] using this
theorem Fields.det {w : World} {b o : Nat} {d e : Nd} {vc vk vd vc' vk' vd' : Value} (h : Fields w b o d vc vk vd) (k : Fields w b o e vc' vk' vd') (hc : RawCels w vc d.cs) (hc' : RawCels w vc' e.cs) (hk : RawInts w vk d.ks) (hk' : RawInts w vk' e.ks) : d = e ∧ vc = vc' ∧ vk = vk' ∧ vd = vd' := by
  obtain ⟨h0, h1, h2, h3, h4, h5, h6, h7, h8, h9, h10, h11, h12, h13, h14, h15, h16, h17, h18⟩ := h
  obtain ⟨k0, k1, k2, k3, k4, k5, k6, k7, k8, k9, k10, k11, k12, k13, k14, k15, k16, k17, k18⟩ := k
  rw [h0] at k0
  rw [h1] at k1
  rw [h2] at k2
  rw [h3] at k3
  rw [h4] at k4
  rw [h5] at k5
  rw [h6] at k6
  rw [h7] at k7
  rw [h8] at k8
  rw [h9] at k9
  rw [h10] at k10
  rw [h11] at k11
  rw [h12] at k12
  rw [h13] at k13
  rw [h14] at k14
  rw [h15] at k15
  rw [h16] at k16
  rw [h17] at k17
  rw [h18] at k18
  clear h0 h1 h2 h3 h4 h5 h6 h7 h8 h9 h10 h11 h12 h13 h14 h15 h16 h17 h18
  simp only [Option.some.injEq, Value.int.injEq, Value.bool.injEq, true_and] at k0 k1 k2 k3 k4 k5 k6 k7 k8 k9 k10 k11 k12 k13 k14 k15 k16 k17 k18
  subst k12 k15 k18
  have e1 := hc.det hc'
  have e2 := hk.det hk'
  refine ⟨?_, rfl, rfl, rfl⟩
  obtain ⟨dk, dn, ⟨tk, tno, ⟨l0, l1, l2, l3⟩, ⟨r0, r1, r2, r3⟩⟩, dcs, da, db, dks, dg, dc⟩ := d
  obtain ⟨ek, en, ⟨uk, uno, ⟨m0, m1, m2, m3⟩, ⟨s0, s1, s2, s3⟩⟩, ecs, ea, eb, eks, eg, ec⟩ := e
  simp only at k0 k1 k2 k3 k4 k5 k6 k7 k8 k9 k10 k11 k13 k14 k16 k17 e1 e2
  subst k0 k1 k2 k3 k4 k5 k6 k7 k8 k9 k10 k11 k13 k14 k16 k17 e1 e2
  rfl

/-- How many kids the part at this place has, and where each lies. -/
def kidN (w : World) (a : Addr) : Nat := match w.cell? ⟨a.block, a.off + 18, none⟩ with | some (.slice _ n _) => n | _ => 0
def kidA (w : World) (a : Addr) (j : Nat) : Addr := match w.cell? ⟨a.block, a.off + 18, none⟩ with | some (.slice (some b) _ _) => ⟨b.block, b.off + j * 19, none⟩ | _ => a
/-- A part lies at this place. -/
def Nod (n : Nat) (w : World) (a : Addr) (p : Pl n) : Prop := a = ⟨a.block, a.off, none⟩ ∧ NodeAt n w a.block a.off p
theorem Nod.kidN {n : Nat} {w : World} {a : Addr} {p : Pl (n + 1)} (h : Nod (n + 1) w a p) : kidN w a = p.kids.length := by
  obtain ⟨-, -, vc, vk, vd, hf, -, -, -, ka, kc, rfl, -, -⟩ := h
  have := hf.2.2.2.2.2.2.2.2.2.2.2.2.2.2.2.2.2.2
  simp [Go.Proofs.Ytkmihnagmbdbgaa.kidN, this]
theorem Nod.kid {n : Nat} {w : World} {a : Addr} {p : Pl (n + 1)} (h : Nod (n + 1) w a p) (j : Nat) (hj : j < p.kids.length) : Nod n w (kidA w a j) p.kids[j] := by
  obtain ⟨-, -, vc, vk, vd, hf, -, -, -, ka, kc, rfl, -, hk⟩ := h
  have := hf.2.2.2.2.2.2.2.2.2.2.2.2.2.2.2.2.2.2
  obtain ⟨b, o, rfl, -, hk⟩ := hk (fun e => by rw [e] at hj; simp at hj)
  have e : kidA w a j = ⟨b, o + j * 19, none⟩ := by simp [kidA, this]
  rw [e]
  exact ⟨rfl, hk j hj⟩
theorem Nod.det {m n : Nat} {w : World} {a : Addr} {p : Pl (m + 1)} {q : Pl (n + 1)} (h : Nod (m + 1) w a p) (k : Nod (n + 1) w a q) : p.nd = q.nd := by
  obtain ⟨-, -, vc, vk, vd, hf, hc, hk, -⟩ := h
  obtain ⟨-, -, vc', vk', vd', hf', hc', hk', -⟩ := k
  exact (hf.det hf' hc hc' hk hk').1

/-- The parts of a pair are one but for their kids, and there are as many kids. -/
def Even (w : World) (k : Pr) : Prop := kidN w k.1 = kidN w k.2 ∧ ∀ (m n : Nat) (p : Pl (m + 1)) (q : Pl (n + 1)), Nod (m + 1) w k.1 p → Nod (n + 1) w k.2 q → p.nd = q.nd
def kidP (w : World) (k : Pr) (j : Nat) : Pr := (kidA w k.1 j, kidA w k.2 j)
/-- Each pair that was met is even, and its kids were met or wait. -/
def Shut (w : World) (L S : List Pr) : Prop := ∀ k ∈ L, Even w k ∧ ∀ j, j < kidN w k.1 → kidP w k j ∈ L ∨ kidP w k j ∈ S
theorem Shut.one {w : World} {L : List Pr} (h : Shut w L []) : ∀ (n : Nat) (p q : Pl n) (k : Pr), k ∈ L → Nod n w k.1 p → Nod n w k.2 q → p = q
  | 0, p, _, _, _, _, _ => by cases p
  | n + 1, p, q, k, hk, hp, hq => by
    obtain ⟨⟨e1, e2⟩, e3⟩ := h k hk
    rw [hp.kidN] at e1 e3
    rw [hq.kidN] at e1
    refine Pl.ext (e2 n n p q hp hq) (List.ext_getElem e1 fun j h1 h2 => ?_)
    have := e3 j h1
    simp only [List.not_mem_nil, or_false] at this
    exact Shut.one h n _ _ _ this (hp.kid j h1) (hq.kid j h2)
theorem even_of {w : World} {k : Pr} {n : Nat} {p q : Pl (n + 1)} (hp : Nod (n + 1) w k.1 p) (hq : Nod (n + 1) w k.2 q) (h1 : p.nd = q.nd) (h2 : p.kids.length = q.kids.length) : Even w k :=
  ⟨by rw [hp.kidN, hq.kidN, h2], fun m m' p' q' hp' hq' => by rw [← hp.det hp', ← hq.det hq', h1]⟩

/-- How many parts. -/
def Pl.cnt : (n : Nat) → Pl n → Nat
  | 0, _ => 0
  | n + 1, p => 1 + (p.kids.map (Pl.cnt n)).sum
theorem Pl.cnt_succ {n : Nat} (p : Pl (n + 1)) : Pl.cnt (n + 1) p = 1 + (p.kids.map (Pl.cnt n)).sum := rfl
theorem Pl.cnt_le : ∀ (n : Nat) (p : Pl n), Pl.cnt n p ≤ 1 + Pl.sz n p
  | 0, p => by cases p
  | n + 1, p => by
    rw [Pl.cnt_succ, Pl.sz_succ]
    have : ∀ l : List (Pl n), (l.map (Pl.cnt n)).sum ≤ l.length + (l.map (Pl.sz n)).sum := by
      intro l
      induction l with
      | nil => simp
      | cons x l ih =>
        have := Pl.cnt_le n x
        simp only [List.map_cons, List.sum_cons, List.length_cons]
        omega
    have := this p.kids
    omega

/-- A pair that waits: two parts of one depth, whose blocks are not frozen, one if the roots are one; m parts in the first. -/
def Waits (w : World) (r : Prop) (k : Pr) (m : Nat) : Prop := ∃ (n : Nat) (p q : Pl (n + 1)), Nod (n + 1) w k.1 p ∧ Nod (n + 1) w k.2 q ∧ (r → p = q) ∧ UnfP w k ∧ Pl.sz (n + 1) p ≤ 1048576 ∧ Pl.sz (n + 1) q ≤ 1048576 ∧ Pl.cnt (n + 1) p = m ∧
  (∀ v, w.cell? ⟨k.1.block, k.1.off + 18, none⟩ = some v → KidsU n w v) ∧ (∀ v, w.cell? ⟨k.2.block, k.2.off + 18, none⟩ = some v → KidsU n w v)
/-- The pairs that wait, the next one first; so many parts in all. -/
def Stk (w : World) (r : Prop) : List Pr → Nat → Prop
  | [], M => M = 0
  | k :: S, M => ∃ M' m, M = M' + m ∧ Waits w r k m ∧ Stk w r S M'
theorem Stk.nil {w : World} {r : Prop} : Stk w r [] 0 := rfl
theorem Stk.cons {w : World} {r : Prop} {k : Pr} {m M : Nat} {S : List Pr} (h : Waits w r k m) (h2 : Stk w r S M) : Stk w r (k :: S) (M + m) := ⟨M, m, rfl, h, h2⟩
theorem Waits.pos {w : World} {r : Prop} {k : Pr} {m : Nat} (h : Waits w r k m) : 0 < m := by
  obtain ⟨n, p, q, -, -, -, -, -, -, e, -⟩ := h
  rw [← e, Pl.cnt_succ]
  omega
theorem Stk.len {w : World} {r : Prop} : ∀ {S : List Pr} {M : Nat}, Stk w r S M → S.length ≤ M
  | [], M, _ => Nat.zero_le _
  | k :: S, M, h => by
    obtain ⟨M', m, rfl, hk, h⟩ := h
    have h1 := hk.pos
    have h2 := Stk.len h
    simp only [List.length_cons]
    omega
theorem Stk.unf {w : World} {r : Prop} : ∀ {S : List Pr} {M : Nat}, Stk w r S M → ∀ k ∈ S, UnfP w k
  | [], M, _ => fun k hk => by simp at hk
  | k :: S, M, h => fun l hl => by
    obtain ⟨M', m, rfl, hk, h⟩ := h
    rcases List.mem_cons.1 hl with rfl | hl
    · obtain ⟨n, p, q, -, -, -, hu, -⟩ := hk
      exact hu
    · exact Stk.unf h l hl

theorem Stk.pop {w : World} {r : Prop} {k : Pr} {S : List Pr} {M : Nat} (h : Stk w r (k :: S) M) : ∃ M' m', M = M' + m' ∧ Waits w r k m' ∧ Stk w r S M' := h
theorem Shut.pop {w : World} {k : Pr} {L S : List Pr} (h : Shut w L (k :: S)) (hk : k ∈ L) : Shut w L S := fun l hl => by
  obtain ⟨h1, h2⟩ := h l hl
  refine ⟨h1, fun j hj => ?_⟩
  rcases h2 j hj with h | h
  · exact Or.inl h
  · rcases List.mem_cons.1 h with e | h
    · rw [e]; exact Or.inl hk
    · exact Or.inr h
/-- The pairs of the first j kids, the last one first. -/
def kidsS (w : World) (k : Pr) : Nat → List Pr
  | 0 => []
  | j + 1 => kidP w k j :: kidsS w k j
theorem kidsS_mem (w : World) (k : Pr) : ∀ (m j : Nat), j < m → kidP w k j ∈ kidsS w k m
  | 0, j, h => by omega
  | m + 1, j, h => by
    rcases Nat.lt_succ_iff_lt_or_eq.1 h with h | h
    · exact List.mem_cons_of_mem _ (kidsS_mem w k m j h)
    · subst h; exact List.mem_cons_self
theorem kidsS_length (w : World) (k : Pr) : ∀ m : Nat, (kidsS w k m).length = m
  | 0 => rfl
  | m + 1 => by rw [kidsS, List.length_cons, kidsS_length w k m]
theorem Shut.push {w : World} {k : Pr} {L S : List Pr} (h : Shut w L (k :: S)) (he : Even w k) : Shut w (L ++ [k]) (kidsS w k (kidN w k.1) ++ S) := fun l hl => by
  rcases List.mem_append.1 hl with hl | hl
  · obtain ⟨h1, h2⟩ := h l hl
    refine ⟨h1, fun j hj => ?_⟩
    rcases h2 j hj with h | h
    · exact Or.inl (List.mem_append.2 (Or.inl h))
    · rcases List.mem_cons.1 h with e | h
      · rw [e]; exact Or.inl (by simp)
      · exact Or.inr (List.mem_append.2 (Or.inr h))
  · obtain rfl : l = k := by simpa using hl
    exact ⟨he, fun j hj => Or.inr (List.mem_append.2 (Or.inl (kidsS_mem w l _ j hj)))⟩
theorem Nod.kidU {n : Nat} {w : World} {a : Addr} {x : Pl (n + 1 + 1)} (h : Nod (n + 1 + 1) w a x) (hu : ∀ v, w.cell? ⟨a.block, a.off + 18, none⟩ = some v → KidsU (n + 1) w v) {j : Nat} (hj : j < x.kids.length) :
    Unf w (kidA w a j).block ∧ ∀ v, w.cell? ⟨(kidA w a j).block, (kidA w a j).off + 18, none⟩ = some v → KidsU n w v := by
  obtain ⟨-, -, vc, vk, vd, hf, -, -, -, ka, kc, rfl, -, hk⟩ := h
  have := hf.2.2.2.2.2.2.2.2.2.2.2.2.2.2.2.2.2.2
  obtain ⟨b, o, rfl, -, hk⟩ := hk (fun e => by rw [e] at hj; simp at hj)
  have e : kidA w a j = ⟨b, o + j * 19, none⟩ := by simp [kidA, this]
  rw [e]
  obtain ⟨h1, h2⟩ := hu _ this b o _ _ rfl (by omega)
  exact ⟨h1, fun v hv => h2 j hj v hv⟩
theorem waits_kid {w : World} {r : Prop} {k : Pr} : ∀ {n : Nat} {x y : Pl (n + 1)}, Nod (n + 1) w k.1 x → Nod (n + 1) w k.2 y → (r → x = y) → Pl.sz (n + 1) x ≤ 1048576 → Pl.sz (n + 1) y ≤ 1048576 →
    (∀ v, w.cell? ⟨k.1.block, k.1.off + 18, none⟩ = some v → KidsU n w v) → (∀ v, w.cell? ⟨k.2.block, k.2.off + 18, none⟩ = some v → KidsU n w v) → x.kids.length = y.kids.length → ∀ (j : Nat) (hj : j < x.kids.length), Waits w r (kidP w k j) (Pl.cnt n x.kids[j])
  | 0, x, y, _, _, _, _, _, _, _, _, j, hj => by cases x.kids[j]
  | n + 1, x, y, hx, hy, hr, hsx, hsy, hux, huy, hl, j, hj => by
    have hj2 : j < y.kids.length := by omega
    have z1 := kidsSz_at hj
    have z2 := kidsSz_at hj2
    unfold kidsSz at z1 z2
    rw [Pl.sz_succ] at hsx hsy
    refine ⟨n, x.kids[j], y.kids[j], hx.kid j hj, hy.kid j hj2, fun h => ?_, ⟨(hx.kidU hux hj).1, (hy.kidU huy hj2).1⟩, by omega, by omega, rfl, (hx.kidU hux hj).2, (hy.kidU huy hj2).2⟩
    have := hr h
    subst this
    rfl
theorem Stk.kids {w : World} {r : Prop} {k : Pr} {n : Nat} {x y : Pl (n + 1)} (hx : Nod (n + 1) w k.1 x) (hy : Nod (n + 1) w k.2 y) (hr : r → x = y) (hsx : Pl.sz (n + 1) x ≤ 1048576) (hsy : Pl.sz (n + 1) y ≤ 1048576)
    (hux : ∀ v, w.cell? ⟨k.1.block, k.1.off + 18, none⟩ = some v → KidsU n w v) (huy : ∀ v, w.cell? ⟨k.2.block, k.2.off + 18, none⟩ = some v → KidsU n w v) (hl : x.kids.length = y.kids.length) {S : List Pr} {M : Nat} (h : Stk w r S M) :
    ∀ j, j ≤ x.kids.length → Stk w r (kidsS w k j ++ S) (M + ((x.kids.take j).map (Pl.cnt n)).sum)
  | 0, _ => by simpa [kidsS] using h
  | j + 1, hj => by
    have ih := Stk.kids hx hy hr hsx hsy hux huy hl h j (by omega)
    have hw := waits_kid hx hy hr hsx hsy hux huy hl j (by omega)
    rw [List.take_succ_eq_append_getElem (by omega), List.map_append, List.sum_append]
    simp only [List.map_cons, List.map_nil, List.sum_cons, List.sum_nil, Nat.add_zero]
    rw [← Nat.add_assoc]
    exact Stk.cons hw ih

end Go.Proofs.Ytkmihnagmbdbgaa
