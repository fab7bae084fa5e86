/-
  A map from a number to items of the call's own: for each key the triples that lie in its slice; no two keys' slices lie in one block; what is looked up, and what a store behind an append leaves.
-/
import Derived.Test.YtjaehoehfmklcaaPutWalk
import Derived.Maps.Own
import Derived.Maps.Views
import Derived.Maps.Keyed
namespace Go.Proofs.Ytjaehoehfmklcaa
set_option maxRecDepth 100000
open Go.RowKit Go.Maps

/-- An element is held as it is. -/
def heldV (v : Value) : Option (DataW Value × List MemPlace) := some (.held v, [])
def cKey (c : Int) : Lit := .int .i64 c

def GMap (w : World) (t : TypeId) (mb lo n : Nat) (G : Int → List Rw) : Prop :=
  ∃ (D : DataW Value) (V : Int → Value), w.ownsMap Try.prog 3 heldV mb n D ∧ (∀ c, D.atKey (cKey c) (.held vn) = .held (V c)) ∧ (∀ c, Spine w lo w.heap.size (V c) (prs (G c))) ∧
    (∀ c d, c ≠ d → (V c).ownBlock = none ∨ (V c).ownBlock ≠ (V d).ownBlock) ∧ mb < lo ∧ Try.prog.underlying t = some (.map 3 23)

theorem isMap_of {w : World} {mb n : Nat} {D : DataW Value} (h : w.ownsMap Try.prog 3 heldV mb n D) : IsMap D := by
  obtain ⟨es, _, _, _, _, hD⟩ := h
  exact ⟨_, hD⟩
theorem spine_nil (w : World) (lo : Nat) : Spine w lo w.heap.size vn (prs []) := ⟨⟨rfl, .inl ⟨rfl, rfl⟩⟩, fun k hk => by simp [vn, Value.ownBlock] at hk, by simp [prs], Nat.le_refl _⟩
theorem gmap_made (w : World) (t : TypeId) (ht : Try.prog.underlying t = some (.map 3 23)) : GMap (w.alloc (.map #[] 0)) t w.heap.size (w.heap.size + 1) 0 (fun _ => []) :=
  ⟨.map [], fun _ => vn, World.ownsMap_made w _ _ _, fun _ => rfl, fun _ => spine_nil _ _, fun _ _ _ => .inl rfl, Nat.lt_succ_self _, ht⟩
theorem GMap.grown {w w' : World} {t : TypeId} {mb lo n : Nat} {G : Int → List Rw} (h : GMap w t mb lo n G) (hb : Below w.heap.size w w') : GMap w' t mb lo n G := by
  obtain ⟨D, V, h1, h2, h3, h4, h5, h6⟩ := h
  have hg : w.grownBy w' none := ⟨hb.os, hb.tape, hb.output, hb.size, fun k hk _ => hb.block k hk⟩
  exact ⟨D, V, h1.kept hg (by simp), h2, fun c => ((h3 c).keep' hb).wide (Nat.le_refl _) hb.size (Nat.le_refl _), h4, h5, h6⟩
theorem wf_key {c : Int} (h : -9223372036854775808 ≤ c ∧ c ≤ 9223372036854775807) : (Lit.int .i64 c).wf = true := by
  have h1 : IntKind.i64.min = -9223372036854775808 := by decide
  have h2 : IntKind.i64.max = 9223372036854775807 := by decide
  simp [Lit.wf, h1, h2]
  omega

/-- What is looked up at a key, and the way back behind an append. -/
theorem GMap.look {w : World} {t : TypeId} {mb lo n : Nat} {G : Int → List Rw} (h : GMap w t mb lo n G) {c : Int} (hc : -9223372036854775808 ≤ c ∧ c ≤ 9223372036854775807) (hn : n < maxLen) :
    ∃ v, (∀ w', w.grownBy w' none → (Instr.lookup t (.map (some mb)) (.int .i64 c) false).run Try.prog w' = .ok v w') ∧ Spine w lo w.heap.size v (prs (G c)) ∧
      ∀ (w1 : World) (v' : Value) (L : List Rw), w.grownBy w1 v.ownBlock → Spine w1 lo w1.heap.size v' (prs L) → (v'.ownBlock = v.ownBlock ∨ ∃ g, v'.ownBlock = some g ∧ w.heap.size ≤ g) →
        ∃ w2, (Instr.mapUpdate t (.map (some mb)) (.int .i64 c) v').run Try.prog w1 = .ok () w2 ∧ GMap w2 t mb lo (n + 1) (fun d => if d = c then L else G d) ∧ w1.grownBy w2 (some mb) := by
  obtain ⟨D, V, h1, h2, h3, h4, h5, h6⟩ := h
  have K : Keyed Try.prog 3 := int_keyed Try.underlying3
  have hk : keyOf Try.prog 3 (.int .i64 c) = some (cKey c) := keyOf_int_mk Try.underlying3 (wf_key hc)
  refine ⟨V c, fun w' hg => ?_, h3 c, fun w1 v' L hg hs hloc => ?_⟩
  · have h1' := h1.kept hg (by simp)
    obtain ⟨v, ps, hrun, hv⟩ := h1'.lookup K h6 (z := vn) (Try.zeroValue23 _) (zd := .held vn) (zp := []) rfl hk
    have : v = V c := by
      simp only [heldV, h2 c] at hv
      injection hv with hv
      injection hv with hv _
      injection hv
    rw [hrun, this]
  · have hne : some mb ≠ (V c).ownBlock := fun e => by
      have := ((h3 c).1.lt mb e.symm).1
      omega
    have h1' := h1.kept hg hne
    obtain ⟨w2, hrun, hm2, hg2⟩ := h1'.update K h6 hn hk (val := v') (d := .held v') (ps := []) rfl
    have own_lo : ∀ {u : Value} {ps : List (Value × Int)} {W : World}, Spine W lo W.heap.size u ps → u.ownBlock = none ∨ u.ownBlock ≠ some mb := fun {u ps W} ho => by
      cases hu : u.ownBlock with
      | none => exact .inl rfl
      | some g =>
        refine .inr (fun e => ?_)
        have := (ho.1.lt g hu).1
        simp at e
        omega
    have old_new : ∀ d, d ≠ c → (V d).ownBlock = none ∨ (V d).ownBlock ≠ v'.ownBlock := fun d hd => by
      rcases hloc with e | ⟨g, e, hgl⟩
      · rw [e]; exact h4 d c hd
      · cases hd' : (V d).ownBlock with
        | none => exact .inl rfl
        | some gd =>
          refine .inr (fun e1 => ?_)
          have := (h3 d).2.1 gd hd'
          rw [e] at e1
          simp at e1
          omega
    refine ⟨w2, hrun, ⟨D.put (cKey c) (.held v'), fun d => if d = c then v' else V d, hm2, fun d => ?_, fun d => ?_, fun d f hdf => ?_, h5, h6⟩, hg2⟩
    · show _ = DataW.held (if d = c then v' else V d)
      by_cases hd : d = c
      · subst hd
        rw [if_pos rfl]
        exact atKey_put_same (k := cKey d) (isMap_of h1) (by simp [cKey, WideAt.IsKeyLit]) _ _
      · rw [if_neg hd, ← h2 d]
        exact atKey_put_other (fun e => hd (by simpa [cKey] using e)) _ _
    · by_cases hd : d = c
      · simp only [if_pos hd]
        exact (hs.kept hg2 (own_lo hs)).wide (Nat.le_refl _) hg2.size (Nat.le_refl _)
      · simp only [if_neg hd]
        have s1 : Spine w1 lo w1.heap.size (V d) (prs (G d)) := ((h3 d).kept hg (h4 d c hd)).wide (Nat.le_refl _) hg.size (Nat.le_refl _)
        exact (s1.kept hg2 (own_lo s1)).wide (Nat.le_refl _) hg2.size (Nat.le_refl _)
    · by_cases hd : d = c
      · by_cases hf : f = c
        · exact absurd (hd.trans hf.symm) hdf
        · simp only [if_pos hd, if_neg hf]
          rcases old_new f hf with e | e
          · cases hv : v'.ownBlock with
            | none => exact .inl rfl
            | some g => exact .inr (fun e2 => by rw [e] at e2; cases e2)
          · exact .inr (fun e2 => e e2.symm)
      · by_cases hf : f = c
        · simp only [if_neg hd, if_pos hf]
          exact old_new d hd
        · simp only [if_neg hd, if_neg hf]
          exact h4 d f hdf

/-- A store into a map, as one step of a region that draws its order. -/
theorem step_mapUpdate {P : Program} {ops : Array Oper} {o : Oper} {a : Act} {w : World} {K : Act → World → Prop} {Q : Exit → Act → World → Prop} {E : Prop}
    (hg : o.guard = none) (m x v : Operand) (t : TypeId) (hop : o.op = Op.mapUpdate t m x v) (mv xv vv : Value) (hm : a.eval m = mv) (hx : a.eval x = xv) (hv : a.eval v = vv)
    {w2 : World} (hrun : (Instr.mapUpdate t mv xv vv).run P w = .ok () w2) (hK : K (a.put o.dst undef) w2) :
    if Region.wanted o (yielded ops a.tmps) = true then Oper.wp P o a w K Q else E := by
  have hw : Region.wanted o (yielded ops a.tmps) = true := by simp [Region.wanted, hg]
  rw [if_pos hw]
  unfold Oper.wp
  simp [execOp, hop, hm, hx, hv, hrun, Result.andThen]
  exact hK

end Go.Proofs.Ytjaehoehfmklcaa
