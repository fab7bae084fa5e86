/-
  Int slices in memory of the call's own, by the range of blocks in which they lie; append of an int slice.
-/
import Derived.Test.YtfmgohoddaobmaaBase
import Derived.Laws.AppendOwnNone
namespace Go.Proofs.Ytfmgohoddaobmaa
open Go.RowKit

/-- v is an int slice of the call's own in a block from lo up to hi, its elements are xs. -/
def Own (w : World) (lo hi : Nat) (v : Value) (xs : List Int) : Prop :=
  w.ownsRow lo 3 1 v xs.length (xs.map (Value.int .i64)) ∧ (∀ k, v.ownBlock = some k → k < hi) ∧ xs.length ≤ 140737488355328 ∧ hi ≤ w.heap.size

theorem own_new {w : World} {lo n : Nat} {v : Value} {xs : List Int} (h : w.ownsRow lo 3 1 v n (xs.map (Value.int .i64))) (hl : xs.length ≤ 140737488355328) : Own w lo w.heap.size v xs := by
  have hn : n = xs.length := by simpa using h.1.symm
  subst hn
  exact ⟨h, fun k hk => (h.lt k hk).2, hl, Nat.le_refl _⟩

theorem Own.wide {w : World} {lo hi lo' hi' : Nat} {v : Value} {xs : List Int} (h : Own w lo hi v xs) (h1 : lo' ≤ lo) (h2 : hi ≤ hi') (h3 : hi' ≤ w.heap.size) : Own w lo' hi' v xs := by
  obtain ⟨⟨a, b⟩, hhi, hl, hs⟩ := h
  refine ⟨⟨a, ?_⟩, fun k hk => Nat.lt_of_lt_of_le (hhi k hk) h2, hl, h3⟩
  rcases b with b | ⟨g, cap, cur, hv, hg, r⟩
  · exact .inl b
  · exact .inr ⟨g, cap, cur, hv, Nat.le_trans h1 hg, r⟩

theorem Own.shape {w : World} {lo hi : Nat} {v : Value} {xs : List Int} (h : Own w lo hi v xs) (hne : 0 < xs.length) : ∃ g cap, v = .slice (some ⟨g, 0, none⟩) xs.length cap ∧ lo ≤ g ∧ g < hi ∧ xs.length ≤ cap ∧ cap ≤ maxLen := by
  obtain ⟨⟨_, b⟩, hhi, _, _⟩ := h
  rcases b with ⟨_, hn⟩ | ⟨g, cap, cur, hv, hg, _, hc, hm, _⟩
  · omega
  · exact ⟨g, cap, hv, hg, hhi g (by rw [hv]; rfl), hc, hm⟩

theorem Own.shape' {w : World} {lo hi : Nat} {v : Value} {xs : List Int} (h : Own w lo hi v xs) (hne : v ≠ .slice none 0 0) : ∃ g cap, v = .slice (some ⟨g, 0, none⟩) xs.length cap ∧ lo ≤ g ∧ g < hi ∧ xs.length ≤ cap ∧ cap ≤ maxLen := by
  obtain ⟨⟨_, b⟩, hhi, _, _⟩ := h
  rcases b with ⟨hv, _⟩ | ⟨g, cap, cur, hv, hg, _, hc, hm, _⟩
  · exact absurd hv hne
  · exact ⟨g, cap, hv, hg, hhi g (by rw [hv]; rfl), hc, hm⟩

/-- A list that is written out, in a new block. -/
theorem own_lit (w : World) (xs : List Int) (hl : xs.length ≤ 140737488355328) : Own (w.alloc (.cells (xs.map (Value.int .i64)).toArray 3)) w.heap.size (w.heap.size + 1) (.slice (some ⟨w.heap.size, 0, none⟩) xs.length xs.length) xs := by
  have h := World.ownsRow_lit (base := w.heap.size) (e := 3) (size := 1) w (xs.map (Value.int .i64)).toArray xs.length (Nat.le_refl _) (by unfold maxLen; omega) (by simp)
  refine ⟨by simpa using h, ?_, hl, by simp⟩
  intro k hk
  simp [Value.ownBlock] at hk
  omega

theorem Own.ints {w : World} {lo hi : Nat} {v : Value} {xs : List Int} (h : Own w lo hi v xs) : IntsAt w v xs := by
  obtain ⟨ho, _, hl, _⟩ := h
  rcases ho.2 with ⟨rfl, hn⟩ | ⟨g, cap, cur, rfl, _⟩
  · have : xs = [] := List.length_eq_zero_iff.1 hn
    subst this
    exact ⟨by simp, none, 0, rfl, fun _ => rfl, fun h => absurd rfl h⟩
  · exact ints_of_row hl ho

theorem Own.keep {w w' : World} {lo hi : Nat} {v : Value} {xs : List Int} (h : Own w lo hi v xs) (hb : Below hi w w') : Own w' lo hi v xs := by
  obtain ⟨⟨h1, h2⟩, hhi, hl, hs⟩ := h
  refine ⟨⟨h1, ?_⟩, hhi, hl, Nat.le_trans hs hb.size⟩
  rcases h2 with h2 | ⟨g, cap, cur, hv, hg, hh, r⟩
  · exact .inl h2
  · exact .inr ⟨g, cap, cur, hv, hg, (hb.block g (hhi g (by rw [hv]; rfl))).trans hh, r⟩

theorem Own.keep' {w w' : World} {lo hi : Nat} {v : Value} {xs : List Int} (h : Own w lo hi v xs) (hb : Below w.heap.size w w') : Own w' lo hi v xs := h.keep (hb.mono h.2.2.2)

theorem Own.kept {w w' : World} {lo hi : Nat} {v : Value} {xs : List Int} (h : Own w lo hi v xs) {row : Option Nat} (hg : w.grownBy w' row) (hne : ∀ k, row = some k → k < lo ∨ hi ≤ k) : Own w' lo hi v xs := by
  obtain ⟨ho, hhi, hl, hs⟩ := h
  refine ⟨ho.kept hg ?_, hhi, hl, Nat.le_trans hs hg.size⟩
  cases hv : v.ownBlock with
  | none => exact .inl rfl
  | some k =>
    refine .inr fun e => ?_
    have h1 := (ho.lt k hv).1
    have h2 := hhi k hv
    rcases hne k e.symm with h | h <;> omega

theorem grown_trans {a b c : World} {row : Option Nat} (h : a.grownBy b row) (k : b.grownBy c row) : a.grownBy c row :=
  ⟨k.os.trans h.os, k.tape.trans h.tape, k.output.trans h.output, Nat.le_trans h.size k.size, fun i hi hne => (k.block i (Nat.lt_of_lt_of_le hi h.size) hne).trans (h.block i hi hne)⟩
theorem grown_refl (a : World) (row : Option Nat) : a.grownBy a row := ⟨rfl, rfl, rfl, Nat.le_refl _, fun _ _ _ => rfl⟩

/-- A step that writes into new memory alone, behind one that writes into row besides. -/
theorem grown_via {w a b : World} {g row : Option Nat} (h : w.grownBy a g) (k : a.grownBy b row) (hr : ∀ i, row = some i → w.heap.size ≤ i) : w.grownBy b g :=
  ⟨k.os.trans h.os, k.tape.trans h.tape, k.output.trans h.output, Nat.le_trans h.size k.size, fun i hi hne => (k.block i (Nat.lt_of_lt_of_le hi h.size) (fun e => by have := hr i e.symm; omega)).trans (h.block i hi hne)⟩
theorem grown_alloc {w a : World} {g : Option Nat} (h : w.grownBy a g) (o : Obj) : w.grownBy (a.alloc o) g := grown_trans h (World.grownBy_alloc a o g)
theorem grown_below {w a b : World} {g : Option Nat} (h : w.grownBy a g) (k : Below a.heap.size a b) : w.grownBy b g :=
  ⟨k.os.trans h.os, k.tape.trans h.tape, k.output.trans h.output, Nat.le_trans h.size k.size, fun i hi hne => (k.block i (Nat.lt_of_lt_of_le hi h.size)).trans (h.block i hi hne)⟩
theorem below_grown {w w' : World} {row : Option Nat} {B : Nat} (hg : w.grownBy w' row) (hB : B ≤ w.heap.size) (hr : ∀ k, row = some k → B ≤ k) : Below B w w' := (Below.refl B w).grown hg hB hr

theorem oneCells (xs : List Int) : ∀ u ∈ xs.map (Value.int .i64), u.oneCell' = true := ints_oneCell .i64 xs

/-- append of an int slice, whatever it is, to one that the call owns. -/
theorem wpList_append_ints {P : Program} {w : World} {ops : Array Oper} {rest : List Oper} {o : Oper} {a : Act} {Q : Exit → Act → World → Prop} (hgd : o.guard = none) (s x : Operand) (t : TypeId)
    (ho : o.op = .call { callee := .builtin .append, args := #[s, x], argTypes := #[t, t] })
    (base : Nat) (e : TypeId) (i : TypeInfo) (ht : P.underlying t = some (.slice e)) (hi : P.info? e = some i) (hz : i.zero = some (.int .i64 0))
    (hsize : i.size = 1) (hby : i.bytes = 8)
    (v : Value) (n : Nat) (xs : List Value) (hs : a.eval s = v) (hown : w.ownsRow base e 1 v n xs)
    (vx : Value) (src : List Int) (hx : a.eval x = vx) (hsrc : IntsAt w vx src)
    (hbytes : (n + src.length) * 8 ≤ 140737488355328) (hbase : base ≤ w.heap.size)
    (h : ∀ v' w', w'.ownsRow base e 1 v' (n + src.length) (xs ++ src.map (Value.int .i64)) → w.grownBy w' v.ownBlock → (v ≠ .slice none 0 0 → v' ≠ .slice none 0 0) → wpList P ops Q rest (a.put o.dst v') w') : wpList P ops Q (o :: rest) a w := by
  obtain ⟨hl, ad, cap, rfl, hnone, hc⟩ := hsrc
  cases ad with
  | none =>
    have hsrc : src = [] := by
      by_cases h0 : src = []
      · exact h0
      · obtain ⟨b, off, hh, _⟩ := hc h0
        simp at hh
    subst hsrc
    have hcap := hnone rfl
    subst hcap
    refine wpList_append_own_none hgd s x t ho base e i 1 ht hi v n xs hs hown hx ?_
    refine h v w (by simpa using hown) (grown_refl _ _) (fun h => h)
  | some ad =>
    have hnews : ∀ j u, (src.map (Value.int .i64))[j]? = some u → w.cell? (ad.add j) = some u := by
      intro j u hu
      by_cases h0 : src = []
      · subst h0; simp at hu
      · obtain ⟨b, off, hh, _, hcell⟩ := hc h0
        simp at hh
        subst hh
        have hj : j < src.length := by
          have := (List.getElem?_eq_some_iff.1 hu).1
          simpa using this
        rw [Addr.add_lit, hcell j hj]
        rw [← hu]
        simp [List.getD, hj]
    refine wpList_append_own w hgd s x t ho base e i (.int .i64 0) 1 8 ht hi hz hsize hby rfl (by decide) v n xs hs hown ad src.length cap (src.map (Value.int .i64)) hx (by simp) hnews (oneCells src) (by unfold maxLen; omega) hbytes hbase ?_
    intro v' w' h1 h2 h3
    exact h v' w' h1 h2 (fun hv hv' => hv (h3.1 hv').1)

end Go.Proofs.Ytfmgohoddaobmaa
