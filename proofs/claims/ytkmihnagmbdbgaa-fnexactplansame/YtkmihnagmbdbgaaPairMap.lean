/-
  A map whose keys are pairs of pointers: what is looked up, and one more pair.
-/
import Derived.Test.YtkmihnagmbdbgaaPlanCopy3
import Derived.LaidEqlPtr
import Derived.MapKept
namespace Go.Proofs.Ytkmihnagmbdbgaa
set_option maxRecDepth 100000
open Go.RowKit
set_option linter.unusedVariables false

abbrev Pr := Addr × Addr
def keyP (k : Pr) : Value := .agg #[.pointer (some k.1), .pointer (some k.2)]
theorem run_ptrP (d : Nat) {w : World} {a b : Addr} (ha : Unf w a.block) (hb : Unf w b.block) :
    (Op.equalIn (d + 1) 51 (.pointer (some a)) (.pointer (some b))).run Try.prog w = .ok (decide (a = b)) w := by
  obtain ⟨ca, ta, ha⟩ := ha
  obtain ⟨cb, tb, hb⟩ := hb
  obtain ⟨j, hj, hs⟩ : ∃ j, Try.prog.info? 39 = some j ∧ j.size = 19 := by
    have : (Try.prog.info? 39).map (·.size) = some 19 := by kernel_rfl
    cases hh : Try.prog.info? 39 with
    | none => rw [hh] at this; simp at this
    | some j => rw [hh] at this; exact ⟨j, rfl, by simpa using this⟩
  by_cases e : a = b
  · subst e
    simp [Op.equalIn, run_underlying Try.underlying51, sizeOf, typeInfo, hj, run_sameAddr_same]
  · simp [Op.equalIn, run_underlying Try.underlying51, sizeOf, typeInfo, hj, hs, run_sameAddr_other w e ha hb, e]

/-- The blocks of a pair are not frozen. -/
def UnfP (w : World) (k : Pr) : Prop := Unf w k.1.block ∧ Unf w k.2.block
theorem run_pairP (d : Nat) {w : World} {k l : Pr} (hk : UnfP w k) (hl : UnfP w l) :
    (Op.equalIn (d + 2) 59 (keyP k) (keyP l)).run Try.prog w = .ok (decide (k = l)) w := by
  obtain ⟨a, b⟩ := k
  obtain ⟨c, e⟩ := l
  have h1 := run_ptrP d hk.1 hl.1
  have h2 := run_ptrP d hk.2 hl.2
  have hs : Try.prog.stoodInHeld 59 = false := by kernel_rfl
  unfold keyP
  rw [run_equalIn_agg (P := Try.prog) w _ _ _ _ (by kernel_rfl) hs]
  simp only [Program.fieldsOf, Try.underlying59]
  simp only at h1 h2
  by_cases e1 : a = c <;> by_cases e2 : b = e <;> simp [go_sem, e1, e2] at h1 h2 ⊢ <;> simp [go_sem, h1, h2]

/-- The map of pairs that lies in block mb has these, all with nothing. -/
def PMap (w : World) (mb : Nat) (L : List Pr) : Prop := ∃ es clock, w.heap[mb]? = some (.map es clock) ∧ es.toList.map (·.key) = L.map keyP ∧ ∀ e ∈ es.toList, e.val = .agg #[]
theorem key_inj {k l : Pr} (h : keyP k = keyP l) : k = l := by
  obtain ⟨a, b⟩ := k
  obtain ⟨c, d⟩ := l
  simp [keyP] at h
  rw [h.1, h.2]
theorem run_askP {w : World} {k : Pr} (hk : UnfP w k) : ∀ (es : List MapEntry) (L : List Pr) (i : Nat), es.map (·.key) = L.map keyP → (∀ l ∈ L, UnfP w l) → (∀ e ∈ es, e.val = .agg #[]) →
    ∃ r, (Instr.findAsking 59 (keyP k) es i).run Try.prog w = .ok r w ∧ (k ∈ L → ∃ j, r = some (j, .agg #[])) ∧ (k ∉ L → r = none)
  | [], [], i, _, _, _ => ⟨none, by simp [Instr.findAsking], fun h => by simp at h, fun _ => rfl⟩
  | [], _ :: _, _, h, _, _ => by simp at h
  | _ :: _, [], _, h, _, _ => by simp at h
  | e :: es, l :: L, i, h, hu, hv => by
    simp only [List.map_cons, List.cons.injEq] at h
    have he := run_pairP 9998 hk (hu l (by simp))
    by_cases hkl : k = l
    · refine ⟨some (i, e.val), ?_, fun _ => ⟨i, by rw [hv e (by simp)]⟩, fun hn => absurd (by rw [hkl]; simp) hn⟩
      subst hkl
      simp only [Instr.findAsking, Op.equal, Op.maxDepth, Sem.run_bind, h.1]
      rw [show (10000 : Nat) = 9998 + 2 from rfl, he]
      simp
    · obtain ⟨r, hr, h1, h2⟩ := run_askP hk es L (i + 1) h.2 (fun x hx => hu x (by simp [hx])) (fun x hx => hv x (by simp [hx]))
      refine ⟨r, ?_, fun hm => h1 (by simpa [hkl] using hm), fun hm => h2 (fun hx => hm (by simp [hx]))⟩
      simp only [Instr.findAsking, Op.equal, Op.maxDepth, Sem.run_bind, h.1]
      rw [show (10000 : Nat) = 9998 + 2 from rfl, he]
      simp [hkl, hr]
theorem run_checkPtr (b : Bool) (d : Nat) {w : World} (a : Addr) : (Instr.checkKey b (d + 1) 51 (.pointer (some a))).run Try.prog w = .ok () w := by
  unfold Instr.checkKey
  simp only [Sem.run_bind, run_underlying Try.underlying51, Result.andThen_ok]
  rfl
theorem run_checkP (b : Bool) (d : Nat) {w : World} (k : Pr) : (Instr.checkKey b (d + 1 + 1) 59 (keyP k)).run Try.prog w = .ok () w := by
  have h1 := run_checkPtr b d (w := w) k.1
  have h2 := run_checkPtr b d (w := w) k.2
  unfold keyP
  unfold Instr.checkKey
  simp only [Sem.run_bind, run_underlying Try.underlying59, Result.andThen_ok]
  rw [← Array.forIn_toList]
  simp [go_sem, h1, h2]
theorem PMap.look {w : World} {mb : Nat} {L : List Pr} {k : Pr} (h : PMap w mb L) (hk : UnfP w k) (hu : ∀ l ∈ L, UnfP w l) :
    (Instr.lookup 61 (.map (some mb)) (keyP k) true).run Try.prog w = .ok (.tuple #[.agg #[], .bool (decide (k ∈ L))]) w := by
  obtain ⟨es, clock, hm, hkeys, hv⟩ := h
  obtain ⟨r, hr, h1, h2⟩ := run_askP hk es.toList L 0 hkeys hu hv
  have hc := fun b => run_checkP b 9998 (w := w) k
  have hf : (Instr.findKey 59 (keyP k) es.toList).run Try.prog w = .ok r w := by
    unfold Instr.findKey
    simp only [Sem.run_bind, run_underlying Try.underlying59, Result.andThen_ok]
    cases he : es.toList with
    | nil =>
      rw [he] at hr
      have : r = none := by simp [Instr.findAsking] at hr; exact hr.symm
      subst this
      simp [Instr.findNow]
    | cons e l =>
      rw [he] at hr
      simp [Instr.findNow, Instr.sameNow, hr]
  have hc' : ∀ b, (Instr.checkKey b 10000 59 (keyP k)).run Try.prog w = .ok () w := hc
  clear hc
  have hg : (getObj mb).run Try.prog w = .ok (.map es clock) w := MapKept.run_getObj_map hm
  unfold Instr.lookup
  by_cases hm2 : k ∈ L
  · obtain ⟨j, rfl⟩ := h1 hm2
    simp [run_underlying Try.underlying61, hg, hc', hf, hm2]
  · obtain rfl := h2 hm2
    have hz := Try.zeroValue62 w
    simp [run_underlying Try.underlying61, hg, hc', hf, hm2, hz]
theorem PMap.put {w : World} {mb : Nat} {L : List Pr} {k : Pr} (h : PMap w mb L) (hk : UnfP w k) (hu : ∀ l ∈ L, UnfP w l) (hn : k ∉ L) :
    ∃ w', (Instr.mapUpdate 61 (.map (some mb)) (keyP k) (.agg #[])).run Try.prog w = .ok () w' ∧ PMap w' mb (L ++ [k]) ∧ w.grownBy w' (some mb) := by
  obtain ⟨es, clock, hm, hkeys, hv⟩ := h
  obtain ⟨r, hr, h1, h2⟩ := run_askP hk es.toList L 0 hkeys hu hv
  obtain rfl := h2 hn
  have hc' : ∀ b, (Instr.checkKey b 10000 59 (keyP k)).run Try.prog w = .ok () w := fun b => run_checkP b 9998 (w := w) k
  have hf : (Instr.findKey 59 (keyP k) es.toList).run Try.prog w = .ok none w := by
    unfold Instr.findKey
    simp only [Sem.run_bind, run_underlying Try.underlying59, Result.andThen_ok]
    cases he : es.toList with
    | nil => simp [Instr.findNow]
    | cons e l =>
      rw [he] at hr
      simp [Instr.findNow, Instr.sameNow, hr]
  have hg : (getObj mb).run Try.prog w = .ok (.map es clock) w := MapKept.run_getObj_map hm
  have hlt := (Array.getElem?_eq_some_iff.1 hm).1
  have hs := fun o => MapKept.run_setObj_map (P := Try.prog) o hm
  refine ⟨{ w with heap := w.heap.setIfInBounds mb (.map (es.push { key := keyP k, val := .agg #[], born := clock }) (clock + 1)) }, ?_, ⟨es.push { key := keyP k, val := .agg #[], born := clock }, clock + 1, by simp [hlt], by simp [hkeys], fun e he => ?_⟩, ⟨rfl, rfl, rfl, by simp, fun j hj hne => ?_⟩⟩
  · unfold Instr.mapUpdate
    simp [run_underlying Try.underlying61, hg, hc', hf, hs]
  · simp at he
    rcases he with he | he
    · exact hv e (by simpa using he)
    · rw [he]
  · simp only [ne_eq, Option.some.injEq] at hne
    show (w.heap.setIfInBounds mb _)[j]? = _
    rw [Array.getElem?_setIfInBounds]
    rw [if_neg (fun e => hne e.symm)]

end Go.Proofs.Ytkmihnagmbdbgaa
