/-
  Flows held against each other by a stack of pairs of places and the pairs that were met; a map whose keys are such pairs.
-/
import Derived.Test.YtfmgohoddaobmaaFlowBes
import Derived.LaidEqlPtr
import Derived.MapKept
namespace Go.Proofs.Ytfmgohoddaobmaa.Fw
set_option maxRecDepth 100000
open Go.RowKit
set_option linter.unusedVariables false
set_option linter.unusedSimpArgs false
variable {D : Nat}


abbrev Pr := Addr × Addr
def keyP (k : Pr) : Value := .agg #[.pointer (some k.1), .pointer (some k.2)]
theorem run_ptrP (d : Nat) {w : World} {a b : Addr} (ha : Unf w a.block) (hb : Unf w b.block) :
    (Op.equalIn (d + 1) 73 (.pointer (some a)) (.pointer (some b))).run Try.prog w = .ok (decide (a = b)) w := by
  obtain ⟨ca, ta, ha⟩ := ha
  obtain ⟨cb, tb, hb⟩ := hb
  obtain ⟨j, hj, hs⟩ : ∃ j, Try.prog.info? 51 = some j ∧ j.size = 22 := by
    have : (Try.prog.info? 51).map (·.size) = some 22 := by kernel_rfl
    cases hh : Try.prog.info? 51 with
    | none => rw [hh] at this; simp at this
    | some j => rw [hh] at this; exact ⟨j, rfl, by simpa using this⟩
  by_cases e : a = b
  · subst e
    simp [Op.equalIn, run_underlying Try.underlying73, sizeOf, typeInfo, hj, run_sameAddr_same]
  · simp [Op.equalIn, run_underlying Try.underlying73, sizeOf, typeInfo, hj, hs, run_sameAddr_other w e ha hb, e]

/-- The blocks of a pair are not frozen. -/
def UnfP (w : World) (k : Pr) : Prop := Unf w k.1.block ∧ Unf w k.2.block
theorem run_pairP (d : Nat) {w : World} {k l : Pr} (hk : UnfP w k) (hl : UnfP w l) :
    (Op.equalIn (d + 2) 99 (keyP k) (keyP l)).run Try.prog w = .ok (decide (k = l)) w := by
  obtain ⟨a, b⟩ := k
  obtain ⟨c, e⟩ := l
  have h1 := run_ptrP d hk.1 hl.1
  have h2 := run_ptrP d hk.2 hl.2
  have hs : Try.prog.stoodInHeld 99 = false := by kernel_rfl
  unfold keyP
  rw [run_equalIn_agg (P := Try.prog) w _ _ _ _ (by kernel_rfl) hs]
  simp only [Program.fieldsOf, Try.underlying99]
  simp only at h1 h2
  by_cases e1 : a = c <;> by_cases e2 : b = e <;> simp [go_sem, e1, e2] at h1 h2 ⊢ <;> simp [go_sem, h1, h2]

/-- The map of pairs that lies in block mb has these, all with nothing. -/
def PMap (w : World) (mb : Nat) (L : List Pr) : Prop := ∃ es clock, w.heap[mb]? = some (.map es clock) ∧ es.toList.map (·.key) = L.map keyP ∧ ∀ e ∈ es.toList, e.val = .agg #[]
theorem key_inj {k l : Pr} (h : keyP k = keyP l) : k = l := by
  obtain ⟨a, b⟩ := k
  obtain ⟨c, d⟩ := l
  simp [keyP] at h
  rw [h.1, h.2]
theorem run_askP {w : World} {k : Pr} (hk : UnfP w k) : ∀ (es : List MapEntry) (L : List Pr) (i : Nat), es.map (·.key) = L.map keyP → (∀ l ∈ L, UnfP w l) → (∀ e ∈ es, e.val = .agg #[]) →
    ∃ r, (Instr.findAsking 99 (keyP k) es i).run Try.prog w = .ok r w ∧ (k ∈ L → ∃ j, r = some (j, .agg #[])) ∧ (k ∉ L → r = none)
  | [], [], i, _, _, _ => ⟨none, by simp [Instr.findAsking], fun h => by simp at h, fun _ => rfl⟩
  | [], _ :: _, _, h, _, _ => by simp at h
  | _ :: _, [], _, h, _, _ => by simp at h
  | e :: es, l :: L, i, h, hu, hv => by
    simp only [List.map_cons, List.cons.injEq] at h
    have he := run_pairP 9998 hk (hu l (by simp))
    by_cases hkl : k = l
    · refine ⟨some (i, e.val), ?_, fun _ => ⟨i, by rw [hv e (by simp)]⟩, fun hn => absurd (by rw [hkl]; simp) hn⟩
      subst hkl
      simp only [Instr.findAsking, Op.equal, Op.maxDepth, Sem.run_bind, h.1]
      rw [show (10000 : Nat) = 9998 + 2 from rfl, he]
      simp
    · obtain ⟨r, hr, h1, h2⟩ := run_askP hk es L (i + 1) h.2 (fun x hx => hu x (by simp [hx])) (fun x hx => hv x (by simp [hx]))
      refine ⟨r, ?_, fun hm => h1 (by simpa [hkl] using hm), fun hm => h2 (fun hx => hm (by simp [hx]))⟩
      simp only [Instr.findAsking, Op.equal, Op.maxDepth, Sem.run_bind, h.1]
      rw [show (10000 : Nat) = 9998 + 2 from rfl, he]
      simp [hkl, hr]
theorem run_checkPtr (b : Bool) (d : Nat) {w : World} (a : Addr) : (Instr.checkKey b (d + 1) 73 (.pointer (some a))).run Try.prog w = .ok () w := by
  unfold Instr.checkKey
  simp only [Sem.run_bind, run_underlying Try.underlying73, Result.andThen_ok]
  rfl
theorem run_checkP (b : Bool) (d : Nat) {w : World} (k : Pr) : (Instr.checkKey b (d + 1 + 1) 99 (keyP k)).run Try.prog w = .ok () w := by
  have h1 := run_checkPtr b d (w := w) k.1
  have h2 := run_checkPtr b d (w := w) k.2
  unfold keyP
  unfold Instr.checkKey
  simp only [Sem.run_bind, run_underlying Try.underlying99, Result.andThen_ok]
  rw [← Array.forIn_toList]
  simp [go_sem, h1, h2]
theorem PMap.look {w : World} {mb : Nat} {L : List Pr} {k : Pr} (h : PMap w mb L) (hk : UnfP w k) (hu : ∀ l ∈ L, UnfP w l) :
    (Instr.lookup 101 (.map (some mb)) (keyP k) true).run Try.prog w = .ok (.tuple #[.agg #[], .bool (decide (k ∈ L))]) w := by
  obtain ⟨es, clock, hm, hkeys, hv⟩ := h
  obtain ⟨r, hr, h1, h2⟩ := run_askP hk es.toList L 0 hkeys hu hv
  have hc := fun b => run_checkP b 9998 (w := w) k
  have hf : (Instr.findKey 99 (keyP k) es.toList).run Try.prog w = .ok r w := by
    unfold Instr.findKey
    simp only [Sem.run_bind, run_underlying Try.underlying99, Result.andThen_ok]
    cases he : es.toList with
    | nil =>
      rw [he] at hr
      have : r = none := by simp [Instr.findAsking] at hr; exact hr.symm
      subst this
      simp [Instr.findNow]
    | cons e l =>
      rw [he] at hr
      simp [Instr.findNow, Instr.sameNow, hr]
  have hc' : ∀ b, (Instr.checkKey b 10000 99 (keyP k)).run Try.prog w = .ok () w := hc
  clear hc
  have hg : (getObj mb).run Try.prog w = .ok (.map es clock) w := MapKept.run_getObj_map hm
  unfold Instr.lookup
  by_cases hm2 : k ∈ L
  · obtain ⟨j, rfl⟩ := h1 hm2
    simp [run_underlying Try.underlying101, hg, hc', hf, hm2]
  · obtain rfl := h2 hm2
    have hz := Try.zeroValue102 w
    simp [run_underlying Try.underlying101, hg, hc', hf, hm2, hz]
theorem PMap.put {w : World} {mb : Nat} {L : List Pr} {k : Pr} (h : PMap w mb L) (hk : UnfP w k) (hu : ∀ l ∈ L, UnfP w l) (hn : k ∉ L) :
    ∃ w', (Instr.mapUpdate 101 (.map (some mb)) (keyP k) (.agg #[])).run Try.prog w = .ok () w' ∧ PMap w' mb (L ++ [k]) ∧ w.grownBy w' (some mb) := by
  obtain ⟨es, clock, hm, hkeys, hv⟩ := h
  obtain ⟨r, hr, h1, h2⟩ := run_askP hk es.toList L 0 hkeys hu hv
  obtain rfl := h2 hn
  have hc' : ∀ b, (Instr.checkKey b 10000 99 (keyP k)).run Try.prog w = .ok () w := fun b => run_checkP b 9998 (w := w) k
  have hf : (Instr.findKey 99 (keyP k) es.toList).run Try.prog w = .ok none w := by
    unfold Instr.findKey
    simp only [Sem.run_bind, run_underlying Try.underlying99, Result.andThen_ok]
    cases he : es.toList with
    | nil => simp [Instr.findNow]
    | cons e l =>
      rw [he] at hr
      simp [Instr.findNow, Instr.sameNow, hr]
  have hg : (getObj mb).run Try.prog w = .ok (.map es clock) w := MapKept.run_getObj_map hm
  have hlt := (Array.getElem?_eq_some_iff.1 hm).1
  have hs := fun o => MapKept.run_setObj_map (P := Try.prog) o hm
  refine ⟨{ w with heap := w.heap.setIfInBounds mb (.map (es.push { key := keyP k, val := .agg #[], born := clock }) (clock + 1)) }, ?_, ⟨es.push { key := keyP k, val := .agg #[], born := clock }, clock + 1, by simp [hlt], by simp [hkeys], fun e he => ?_⟩, ⟨rfl, rfl, rfl, by simp, fun j hj hne => ?_⟩⟩
  · unfold Instr.mapUpdate
    simp [run_underlying Try.underlying101, hg, hc', hf, hs]
  · simp at he
    rcases he with he | he
    · exact hv e (by simpa using he)
    · rw [he]
  · simp only [ne_eq, Option.some.injEq] at hne
    show (w.heap.setIfInBounds mb _)[j]? = _
    rw [Array.getElem?_setIfInBounds]
    rw [if_neg (fun e => hne e.symm)]

theorem kids_det {α : Type} {N : World → Nat → Nat → α → Prop} {w : World} {v : Value} {l l' : List α} (hN : ∀ b o x y, N w b o x → N w b o y → x = y) (h : KidsV N w v l) (k : KidsV N w v l') : l = l' := by
  obtain ⟨-, a, c, rfl, -, h⟩ := h
  obtain ⟨-, a', c', e, -, k⟩ := k
  injection e with e1 e2 e3
  by_cases hz : l = []
  · subst hz
    exact (List.length_eq_zero_iff.1 (by simpa using e2.symm)).symm
  have hz' : l' ≠ [] := fun e => hz (by rw [e] at e2; simpa using e2)
  obtain ⟨b, o, ha, -, h⟩ := h hz
  obtain ⟨b', o', ha', -, k⟩ := k hz'
  rw [ha, ha'] at e1
  injection e1 with e1
  injection e1 with eb eo
  subst eb eo
  exact List.ext_getElem e2 fun j h1 h2 => hN _ _ _ _ (h j h1) (k j h2)
theorem node_det : ∀ (n : Nat) {w : World} {b o : Nat} {p q : Pl n}, NodeAt n w b o p → NodeAt n w b o q → p = q
  | 0, _, _, _, _, _, h, _ => h.elim
  | n + 1, w, b, o, p, q, h, k => by
    obtain ⟨-, vc, vk, vd, hf, hc, hk, hd⟩ := h
    obtain ⟨-, vc', vk', vd', hf', hc', hk', hd'⟩ := k
    obtain ⟨e, rfl, rfl, rfl⟩ := hf.det hf' hc hc' hk hk'
    exact Pl.ext e (kids_det (fun b o x y hx hy => node_det n hx hy) hd hd')
theorem plan_det {n : Nat} {w : World} {p q : Pl (n + 1)} {vc vk vd : Value} (h : PlanV (n + 1) w p vc vk vd) (k : PlanV (n + 1) w q vc vk vd) (e : p.nd = q.nd) : p = q :=
  Pl.ext e (kids_det (fun b o x y hx hy => node_det n hx hy) h.2.2 k.2.2)
theorem items_det {w : World} {v : Value} {zs ys : List It} (h : RawItems w v zs) (k : RawItems w v ys) : zs = ys := by
  obtain ⟨-, a, c, rfl, -, h⟩ := h
  obtain ⟨-, a', c', e, -, k⟩ := k
  injection e with e1 e2 e3
  by_cases hz : zs = []
  · subst hz
    exact (List.length_eq_zero_iff.1 (by simpa using e2.symm)).symm
  have hz' : ys ≠ [] := fun e => hz (by rw [e] at e2; simpa using e2)
  obtain ⟨b, o, ha, -, h⟩ := h hz
  obtain ⟨b', o', ha', -, k⟩ := k hz'
  rw [ha, ha'] at e1
  injection e1 with e1
  injection e1 with eb eo
  subst eb eo
  refine List.ext_getElem e2 fun j h1 h2 => ?_
  obtain ⟨rv, g1, g2, g3⟩ := h j h1
  obtain ⟨rv', k1, k2, k3⟩ := k j h2
  rw [g1] at k1
  rw [g2] at k2
  simp only [Option.some.injEq, Value.int.injEq, true_and] at k1 k2
  subst k1
  have := g3.det k3
  simp only [List.getD, List.getElem?_eq_getElem h1, List.getElem?_eq_getElem h2, Option.getD_some] at this k2
  exact Prod.ext this k2
theorem runs_det {w : World} {v : Value} {zs ys : Rn} (h : RawRuns w v zs) (k : RawRuns w v ys) : zs = ys := by
  obtain ⟨-, a, c, rfl, h⟩ := h
  obtain ⟨-, a', c', e, k⟩ := k
  injection e with e1 e2 e3
  by_cases hz : zs = []
  · subst hz
    exact (List.length_eq_zero_iff.1 (by simpa using e2.symm)).symm
  have hz' : ys ≠ [] := fun e => hz (by rw [e] at e2; simpa using e2)
  obtain ⟨b, o, ha, -, h⟩ := h hz
  obtain ⟨b', o', ha', -, k⟩ := k hz'
  rw [ha, ha'] at e1
  injection e1 with e1
  injection e1 with eb eo
  subst eb eo
  refine List.ext_getElem e2 fun j h1 h2 => ?_
  obtain ⟨rv, g1, g3⟩ := h j h1
  obtain ⟨rv', k1, k3⟩ := k j h2
  rw [g1] at k1
  simp only [Option.some.injEq] at k1
  subst k1
  have := items_det g3 k3
  simpa only [List.getD, List.getElem?_eq_getElem h1, List.getElem?_eq_getElem h2, Option.getD_some] using this
theorem FFields.det {w : World} {b o : Nat} {x y : FN D} {vc vk vd vl vr vf vc' vk' vd' vl' vr' vf' : Value} (h : FFields w b o x vc vk vd vl vr vf) (k : FFields w b o y vc' vk' vd' vl' vr' vf') (hp : PlanV (D + 1) w x.p vc vk vd) (hp' : PlanV (D + 1) w y.p vc' vk' vd') (hl : RawRuns w vl x.l) (hl' : RawRuns w vl' y.l) (hr : RawRuns w vr x.r) (hr' : RawRuns w vr' y.r) : x = y := by
  obtain ⟨e, rfl, rfl, rfl⟩ := h.1.det k.1 hp.1 hp'.1 hp.2.1 hp'.2.1
  have e1 := h.2.1.symm.trans k.2.1
  have e2 := h.2.2.1.symm.trans k.2.2.1
  simp only [Option.some.injEq] at e1 e2
  subst e1 e2
  have a1 := plan_det hp hp' e
  have a2 := runs_det hl hl'
  have a3 := runs_det hr hr'
  obtain ⟨xp, xl, xr⟩ := x
  obtain ⟨yp, yl, yr⟩ := y
  rw [FN.mk.injEq]
  exact ⟨a1, a2, a3⟩

/-- How many kids the part at this place has, and where each lies. -/
def kidN (w : World) (a : Addr) : Nat := match w.cell? ⟨a.block, a.off + 21, none⟩ with | some (.slice _ n _) => n | _ => 0
def kidA (w : World) (a : Addr) (j : Nat) : Addr := match w.cell? ⟨a.block, a.off + 21, none⟩ with | some (.slice (some b) _ _) => ⟨b.block, b.off + j * 22, none⟩ | _ => a
/-- A part lies at this place. -/
def Nod (n : Nat) (w : World) (a : Addr) (p : Fl D n) : Prop := a = ⟨a.block, a.off, none⟩ ∧ FNodeAt n w a.block a.off p
theorem Nod.kidN {n : Nat} {w : World} {a : Addr} {p : Fl D (n + 1)} (h : Nod (n + 1) w a p) : kidN w a = p.kids.length := by
  obtain ⟨-, -, vc, vk, vd, vl, vr, vf, hf, -, -, -, -, ka, kc, rfl, -, -⟩ := h
  have := hf.2.2.2
  simp [Go.Proofs.Ytfmgohoddaobmaa.Fw.kidN, this]
theorem Nod.kid {n : Nat} {w : World} {a : Addr} {p : Fl D (n + 1)} (h : Nod (n + 1) w a p) (j : Nat) (hj : j < p.kids.length) : Nod n w (kidA w a j) p.kids[j] := by
  obtain ⟨-, -, vc, vk, vd, vl, vr, vf, hf, -, -, -, -, ka, kc, rfl, -, hk⟩ := h
  have := hf.2.2.2
  obtain ⟨b, o, rfl, -, hk⟩ := hk (fun e => by rw [e] at hj; simp at hj)
  have e : kidA w a j = ⟨b, o + j * 22, none⟩ := by simp [kidA, this]
  rw [e]
  exact ⟨rfl, hk j hj⟩
theorem Nod.det {m n : Nat} {w : World} {a : Addr} {p : Fl D (m + 1)} {q : Fl D (n + 1)} (h : Nod (m + 1) w a p) (k : Nod (n + 1) w a q) : p.nd = q.nd := by
  obtain ⟨-, -, vc, vk, vd, vl, vr, vf, hf, hp, hl, hr, -⟩ := h
  obtain ⟨-, -, vc', vk', vd', vl', vr', vf', hf', hp', hl', hr', -⟩ := k
  exact hf.det hf' hp hp' hl hl' hr hr'

/-- The parts of a pair are one but for their kids, and there are as many kids. -/
def Even (D : Nat) (w : World) (k : Pr) : Prop := kidN w k.1 = kidN w k.2 ∧ ∀ (m n : Nat) (p : Fl D (m + 1)) (q : Fl D (n + 1)), Nod (m + 1) w k.1 p → Nod (n + 1) w k.2 q → p.nd = q.nd
def kidP (w : World) (k : Pr) (j : Nat) : Pr := (kidA w k.1 j, kidA w k.2 j)
/-- Each pair that was met is even, and its kids were met or wait. -/
def Shut (D : Nat) (w : World) (L S : List Pr) : Prop := ∀ k ∈ L, Even D w k ∧ ∀ j, j < kidN w k.1 → kidP w k j ∈ L ∨ kidP w k j ∈ S
theorem Shut.one {w : World} {L : List Pr} (h : Shut D w L []) : ∀ (n : Nat) (p q : Fl D n) (k : Pr), k ∈ L → Nod n w k.1 p → Nod n w k.2 q → p = q
  | 0, p, _, _, _, _, _ => by cases p
  | n + 1, p, q, k, hk, hp, hq => by
    obtain ⟨⟨e1, e2⟩, e3⟩ := h k hk
    rw [hp.kidN] at e1 e3
    rw [hq.kidN] at e1
    refine Fl.ext (e2 n n p q hp hq) (List.ext_getElem e1 fun j h1 h2 => ?_)
    have := e3 j h1
    simp only [List.not_mem_nil, or_false] at this
    exact Shut.one h n _ _ _ this (hp.kid j h1) (hq.kid j h2)
theorem even_of {w : World} {k : Pr} {n : Nat} {p q : Fl D (n + 1)} (hp : Nod (n + 1) w k.1 p) (hq : Nod (n + 1) w k.2 q) (h1 : p.nd = q.nd) (h2 : p.kids.length = q.kids.length) : Even D w k :=
  ⟨by rw [hp.kidN, hq.kidN, h2], fun m m' p' q' hp' hq' => by rw [← hp.det hp', ← hq.det hq', h1]⟩

/-- How many parts. -/
def Fl.cnt : (n : Nat) → Fl D n → Nat
  | 0, _ => 0
  | n + 1, p => 1 + (p.kids.map (Fl.cnt n)).sum
theorem Fl.cnt_succ {n : Nat} (p : Fl D (n + 1)) : Fl.cnt (n + 1) p = 1 + (p.kids.map (Fl.cnt n)).sum := rfl
theorem Fl.cnt_le : ∀ (n : Nat) (p : Fl D n), Fl.cnt n p ≤ 1 + Fl.sz n p
  | 0, p => by cases p
  | n + 1, p => by
    rw [Fl.cnt_succ, Fl.sz_succ]
    have : ∀ l : List (Fl D n), (l.map (Fl.cnt n)).sum ≤ l.length + (l.map (Fl.sz n)).sum := by
      intro l
      induction l with
      | nil => simp
      | cons x l ih =>
        have := Fl.cnt_le n x
        simp only [List.map_cons, List.sum_cons, List.length_cons]
        omega
    have := this p.kids
    omega

/-- The blocks in which the kids of the part at this place lie, and those of its plan, are not frozen. -/
def UU (D n : Nat) (w : World) (a : Addr) : Prop := (∀ v, w.cell? ⟨a.block, a.off + 18, none⟩ = some v → KidsU D w v) ∧ ∀ v, w.cell? ⟨a.block, a.off + 21, none⟩ = some v → FKidsU D n w v
/-- A pair that waits: two parts of one depth, whose blocks are not frozen, one if the roots are one; m parts in the first. -/
def Waits (D : Nat) (w : World) (r : Prop) (k : Pr) (m : Nat) : Prop := ∃ (n : Nat) (p q : Fl D (n + 1)), Nod (n + 1) w k.1 p ∧ Nod (n + 1) w k.2 q ∧ (r → p = q) ∧ UnfP w k ∧ Fl.sz (n + 1) p ≤ 1048576 ∧ Fl.sz (n + 1) q ≤ 1048576 ∧ Fl.cnt (n + 1) p = m ∧
  UU D n w k.1 ∧ UU D n w k.2
/-- The pairs that wait, the next one first; so many parts in all. -/
def Stk (D : Nat) (w : World) (r : Prop) : List Pr → Nat → Prop
  | [], M => M = 0
  | k :: S, M => ∃ M' m, M = M' + m ∧ Waits D w r k m ∧ Stk D w r S M'
theorem Stk.nil {w : World} {r : Prop} : Stk D w r [] 0 := rfl
theorem Stk.cons {w : World} {r : Prop} {k : Pr} {m M : Nat} {S : List Pr} (h : Waits D w r k m) (h2 : Stk D w r S M) : Stk D w r (k :: S) (M + m) := ⟨M, m, rfl, h, h2⟩
theorem Waits.pos {w : World} {r : Prop} {k : Pr} {m : Nat} (h : Waits D w r k m) : 0 < m := by
  obtain ⟨n, p, q, -, -, -, -, -, -, e, -⟩ := h
  rw [← e, Fl.cnt_succ]
  omega
theorem Stk.len {w : World} {r : Prop} : ∀ {S : List Pr} {M : Nat}, Stk D w r S M → S.length ≤ M
  | [], M, _ => Nat.zero_le _
  | k :: S, M, h => by
    obtain ⟨M', m, rfl, hk, h⟩ := h
    have h1 := hk.pos
    have h2 := Stk.len h
    simp only [List.length_cons]
    omega
theorem Stk.unf {w : World} {r : Prop} : ∀ {S : List Pr} {M : Nat}, Stk D w r S M → ∀ k ∈ S, UnfP w k
  | [], M, _ => fun k hk => by simp at hk
  | k :: S, M, h => fun l hl => by
    obtain ⟨M', m, rfl, hk, h⟩ := h
    rcases List.mem_cons.1 hl with rfl | hl
    · obtain ⟨n, p, q, -, -, -, hu, -⟩ := hk
      exact hu
    · exact Stk.unf h l hl

theorem Stk.pop {w : World} {r : Prop} {k : Pr} {S : List Pr} {M : Nat} (h : Stk D w r (k :: S) M) : ∃ M' m', M = M' + m' ∧ Waits D w r k m' ∧ Stk D w r S M' := h
theorem Shut.pop {w : World} {k : Pr} {L S : List Pr} (h : Shut D w L (k :: S)) (hk : k ∈ L) : Shut D w L S := fun l hl => by
  obtain ⟨h1, h2⟩ := h l hl
  refine ⟨h1, fun j hj => ?_⟩
  rcases h2 j hj with h | h
  · exact Or.inl h
  · rcases List.mem_cons.1 h with e | h
    · rw [e]; exact Or.inl hk
    · exact Or.inr h
/-- The pairs of the first j kids, the last one first. -/
def kidsS (w : World) (k : Pr) : Nat → List Pr
  | 0 => []
  | j + 1 => kidP w k j :: kidsS w k j
theorem kidsS_mem (w : World) (k : Pr) : ∀ (m j : Nat), j < m → kidP w k j ∈ kidsS w k m
  | 0, j, h => by omega
  | m + 1, j, h => by
    rcases Nat.lt_succ_iff_lt_or_eq.1 h with h | h
    · exact List.mem_cons_of_mem _ (kidsS_mem w k m j h)
    · subst h; exact List.mem_cons_self
theorem kidsS_length (w : World) (k : Pr) : ∀ m : Nat, (kidsS w k m).length = m
  | 0 => rfl
  | m + 1 => by rw [kidsS, List.length_cons, kidsS_length w k m]
theorem Shut.push {w : World} {k : Pr} {L S : List Pr} (h : Shut D w L (k :: S)) (he : Even D w k) : Shut D w (L ++ [k]) (kidsS w k (kidN w k.1) ++ S) := fun l hl => by
  rcases List.mem_append.1 hl with hl | hl
  · obtain ⟨h1, h2⟩ := h l hl
    refine ⟨h1, fun j hj => ?_⟩
    rcases h2 j hj with h | h
    · exact Or.inl (List.mem_append.2 (Or.inl h))
    · rcases List.mem_cons.1 h with e | h
      · rw [e]; exact Or.inl (by simp)
      · exact Or.inr (List.mem_append.2 (Or.inr h))
  · obtain rfl : l = k := by simpa using hl
    exact ⟨he, fun j hj => Or.inr (List.mem_append.2 (Or.inl (kidsS_mem w l _ j hj)))⟩
theorem Nod.kidU {n : Nat} {w : World} {a : Addr} {x : Fl D (n + 1 + 1)} (h : Nod (n + 1 + 1) w a x) (hu : UU D (n + 1) w a) {j : Nat} (hj : j < x.kids.length) :
    Unf w (kidA w a j).block ∧ UU D n w (kidA w a j) := by
  obtain ⟨-, -, vc, vk, vd, vl, vr, vf, hf, -, -, -, -, ka, kc, rfl, -, hk⟩ := h
  have := hf.2.2.2
  obtain ⟨b, o, rfl, -, hk⟩ := hk (fun e => by rw [e] at hj; simp at hj)
  have e : kidA w a j = ⟨b, o + j * 22, none⟩ := by simp [kidA, this]
  rw [e]
  obtain ⟨h1, h2⟩ := hu.2 _ this b o _ _ rfl (by omega)
  exact ⟨h1, fun v hv => (h2 j hj).1 v hv, fun v hv => (h2 j hj).2 v hv⟩
theorem waits_kid {w : World} {r : Prop} {k : Pr} : ∀ {n : Nat} {x y : Fl D (n + 1)}, Nod (n + 1) w k.1 x → Nod (n + 1) w k.2 y → (r → x = y) → Fl.sz (n + 1) x ≤ 1048576 → Fl.sz (n + 1) y ≤ 1048576 →
    UU D n w k.1 → UU D n w k.2 → x.kids.length = y.kids.length → ∀ (j : Nat) (hj : j < x.kids.length), Waits D w r (kidP w k j) (Fl.cnt n x.kids[j])
  | 0, x, y, _, _, _, _, _, _, _, _, j, hj => by cases x.kids[j]
  | n + 1, x, y, hx, hy, hr, hsx, hsy, hux, huy, hl, j, hj => by
    have hj2 : j < y.kids.length := by omega
    have z1 := kidsSz_at hj
    have z2 := kidsSz_at hj2
    unfold kidsSz at z1 z2
    rw [Fl.sz_succ] at hsx hsy
    refine ⟨n, x.kids[j], y.kids[j], hx.kid j hj, hy.kid j hj2, fun h => ?_, ⟨(hx.kidU hux hj).1, (hy.kidU huy hj2).1⟩, by omega, by omega, rfl, (hx.kidU hux hj).2, (hy.kidU huy hj2).2⟩
    have := hr h
    subst this
    rfl
theorem Stk.kids {w : World} {r : Prop} {k : Pr} {n : Nat} {x y : Fl D (n + 1)} (hx : Nod (n + 1) w k.1 x) (hy : Nod (n + 1) w k.2 y) (hr : r → x = y) (hsx : Fl.sz (n + 1) x ≤ 1048576) (hsy : Fl.sz (n + 1) y ≤ 1048576)
    (hux : UU D n w k.1) (huy : UU D n w k.2) (hl : x.kids.length = y.kids.length) {S : List Pr} {M : Nat} (h : Stk D w r S M) :
    ∀ j, j ≤ x.kids.length → Stk D w r (kidsS w k j ++ S) (M + ((x.kids.take j).map (Fl.cnt n)).sum)
  | 0, _ => by simpa [kidsS] using h
  | j + 1, hj => by
    have ih := Stk.kids hx hy hr hsx hsy hux huy hl h j (by omega)
    have hw := waits_kid hx hy hr hsx hsy hux huy hl j (by omega)
    rw [List.take_succ_eq_append_getElem (by omega), List.map_append, List.sum_append]
    simp only [List.map_cons, List.map_nil, List.sum_cons, List.sum_nil, Nat.add_zero]
    rw [← Nat.add_assoc]
    exact Stk.cons hw ih

end Go.Proofs.Ytfmgohoddaobmaa.Fw
