/-
  Items in memory of the call's own: the slice of pairs in one block, each row in a block of its own, all blocks in a range; what a step that writes in another range leaves.
-/
import Derived.Test.YtfmgohoddaobmaaItems
import Derived.Test.YtfmgohoddaobmaaOwn
namespace Go.Proofs.Ytfmgohoddaobmaa
open Go.RowKit

def vn : Value := .slice none 0 0
/-- The cells of pairs. -/
def cells2 (ps : List (Value × Int)) : List Value := ps.flatMap fun p => [p.1, .int .i64 p.2]

theorem cells2_nil : cells2 [] = [] := rfl
theorem cells2_cons (p : Value × Int) (ps : List (Value × Int)) : cells2 (p :: ps) = p.1 :: .int .i64 p.2 :: cells2 ps := rfl
theorem cells2_append (ps qs : List (Value × Int)) : cells2 (ps ++ qs) = cells2 ps ++ cells2 qs := by simp [cells2]
theorem cells2_length (ps : List (Value × Int)) : (cells2 ps).length = ps.length * 2 := by
  induction ps with
  | nil => rfl
  | cons p ps ih => rw [cells2_cons]; simp [ih]; omega
theorem cells2_get0 : ∀ (ps : List (Value × Int)) (j : Nat), j < ps.length → (cells2 ps)[j * 2]? = some (ps.getD j (vn, 0)).1
  | p :: ps, 0, _ => by simp [cells2_cons]
  | p :: ps, j + 1, h => by
    have := cells2_get0 ps j (by simpa using h)
    rw [cells2_cons, show (j + 1) * 2 = j * 2 + 1 + 1 by omega]
    simpa using this
theorem cells2_get1 : ∀ (ps : List (Value × Int)) (j : Nat), j < ps.length → (cells2 ps)[j * 2 + 1]? = some (.int .i64 (ps.getD j (vn, 0)).2)
  | p :: ps, 0, _ => by simp [cells2_cons]
  | p :: ps, j + 1, h => by
    have := cells2_get1 ps j (by simpa using h)
    rw [cells2_cons, show (j + 1) * 2 + 1 = j * 2 + 1 + 1 + 1 by omega]
    simpa using this
theorem cells2_set0 : ∀ (ps : List (Value × Int)) (j : Nat) (v : Value), j < ps.length → (cells2 ps).set (j * 2) v = cells2 (ps.set j (v, (ps.getD j (vn, 0)).2))
  | p :: ps, 0, v, _ => by simp [cells2_cons]
  | p :: ps, j + 1, v, h => by
    have := cells2_set0 ps j v (by simpa using h)
    rw [cells2_cons, show (j + 1) * 2 = j * 2 + 1 + 1 by omega, List.set_cons_succ, List.set_cons_succ, this]
    simp [cells2_cons]
theorem cells2_set1 : ∀ (ps : List (Value × Int)) (j : Nat) (y : Int), j < ps.length → (cells2 ps).set (j * 2 + 1) (.int .i64 y) = cells2 (ps.set j ((ps.getD j (vn, 0)).1, y))
  | p :: ps, 0, y, _ => by simp [cells2_cons]
  | p :: ps, j + 1, y, h => by
    have := cells2_set1 ps j y (by simpa using h)
    rw [cells2_cons, show (j + 1) * 2 + 1 = j * 2 + 1 + 1 + 1 by omega, List.set_cons_succ, List.set_cons_succ, this]
    simp [cells2_cons]

/-- v is a slice of pairs of the call's own in a block from lo up to hi, its elements are ps. -/
def Spine (w : World) (lo hi : Nat) (v : Value) (ps : List (Value × Int)) : Prop :=
  w.ownsRow lo 115 2 v ps.length (cells2 ps) ∧ (∀ k, v.ownBlock = some k → k < hi) ∧ ps.length ≤ 140737488355328 ∧ hi ≤ w.heap.size

theorem spine_new {w : World} {lo n : Nat} {v : Value} {ps : List (Value × Int)} (h : w.ownsRow lo 115 2 v n (cells2 ps)) (hl : ps.length ≤ 140737488355328) : Spine w lo w.heap.size v ps := by
  have hn : n = ps.length := by have := h.1; rw [cells2_length] at this; omega
  subst hn
  exact ⟨h, fun k hk => (h.lt k hk).2, hl, Nat.le_refl _⟩
theorem Spine.keep {w w' : World} {lo hi : Nat} {v : Value} {ps : List (Value × Int)} (h : Spine w lo hi v ps) (hb : Below hi w w') : Spine w' lo hi v ps := by
  obtain ⟨⟨h1, h2⟩, hhi, hl, hs⟩ := h
  refine ⟨⟨h1, ?_⟩, hhi, hl, Nat.le_trans hs hb.size⟩
  rcases h2 with h2 | ⟨g, cap, cur, hv, hg, hh, r⟩
  · exact .inl h2
  · exact .inr ⟨g, cap, cur, hv, hg, (hb.block g (hhi g (by rw [hv]; rfl))).trans hh, r⟩
theorem Spine.wide {w : World} {lo hi lo' hi' : Nat} {v : Value} {ps : List (Value × Int)} (h : Spine w lo hi v ps) (h1 : lo' ≤ lo) (h2 : hi ≤ hi') (h3 : hi' ≤ w.heap.size) : Spine w lo' hi' v ps := by
  obtain ⟨⟨a, b⟩, hhi, hl, hs⟩ := h
  refine ⟨⟨a, ?_⟩, fun k hk => Nat.lt_of_lt_of_le (hhi k hk) h2, hl, h3⟩
  rcases b with b | ⟨g, cap, cur, hv, hg, r⟩
  · exact .inl b
  · exact .inr ⟨g, cap, cur, hv, Nat.le_trans h1 hg, r⟩
theorem Spine.kept {w w' : World} {lo hi : Nat} {v : Value} {ps : List (Value × Int)} (h : Spine w lo hi v ps) {row : Option Nat} (hg : w.grownBy w' row) (hne : v.ownBlock = none ∨ v.ownBlock ≠ row) : Spine w' lo hi v ps :=
  ⟨h.1.kept hg hne, h.2.1, h.2.2.1, Nat.le_trans h.2.2.2 hg.size⟩
theorem Spine.shape {w : World} {lo hi : Nat} {v : Value} {ps : List (Value × Int)} (h : Spine w lo hi v ps) (hne : 0 < ps.length) : ∃ g cap, v = .slice (some ⟨g, 0, none⟩) ps.length cap ∧ lo ≤ g ∧ g < hi ∧ ps.length ≤ cap ∧ cap ≤ maxLen := by
  obtain ⟨⟨_, b⟩, hhi, _, _⟩ := h
  rcases b with ⟨_, hn⟩ | ⟨g, cap, cur, hv, hg, _, hc, hm, _⟩
  · omega
  · exact ⟨g, cap, hv, hg, hhi g (by rw [hv]; rfl), hc, hm⟩
theorem Spine.cell0 {w : World} {lo hi : Nat} {g n cap : Nat} {ps : List (Value × Int)} (h : Spine w lo hi (.slice (some ⟨g, 0, none⟩) n cap) ps) {j : Nat} (hj : j < ps.length) : w.cell? ⟨g, j * 2, none⟩ = some (ps.getD j (vn, 0)).1 := by
  have hn : n = ps.length := by
    rcases h.1.2 with ⟨e, _⟩ | ⟨_, _, _, e, _⟩ <;> simp at e
    exact e.2.1
  subst hn
  rw [h.1.cellAt (j * 2) (by omega), cells2_get0 ps j hj]
theorem Spine.cell1 {w : World} {lo hi : Nat} {g n cap : Nat} {ps : List (Value × Int)} (h : Spine w lo hi (.slice (some ⟨g, 0, none⟩) n cap) ps) {j : Nat} (hj : j < ps.length) : w.cell? ⟨g, j * 2 + 1, none⟩ = some (.int .i64 (ps.getD j (vn, 0)).2) := by
  have hn : n = ps.length := by
    rcases h.1.2 with ⟨e, _⟩ | ⟨_, _, _, e, _⟩ <;> simp at e
    exact e.2.1
  subst hn
  rw [h.1.cellAt (j * 2 + 1) (by omega), cells2_get1 ps j hj]

/-- A row's block holds ints: it is no slice's of pairs. -/
theorem row_ne_spine {w : World} {lo hi lo' hi' : Nat} {v rv : Value} {ps : List (Value × Int)} {xs : List Int} (h : Spine w lo hi v ps) (hr : Own w lo' hi' rv xs) : rv.ownBlock = none ∨ rv.ownBlock ≠ v.ownBlock := by
  rcases hr.1.2 with ⟨rfl, _⟩ | ⟨g, cap, cur, rfl, _, hg, _⟩
  · exact .inl rfl
  · refine .inr fun e => ?_
    rcases h.1.2 with ⟨rfl, _⟩ | ⟨g', cap', cur', rfl, _, hg', _⟩
    · simp [Value.ownBlock] at e
    · simp [Value.ownBlock] at e
      subst e
      rw [hg] at hg'
      simp at hg'

/-- Items of the call's own in blocks from lo up to hi. -/
def OwnZ (w : World) (lo hi : Nat) (v : Value) (zs : List It) : Prop :=
  ∃ ps : List (Value × Int), ps.map (·.2) = zs.map (·.2) ∧ Spine w lo hi v ps ∧ (∀ j, j < ps.length → Own w lo hi (ps.getD j (vn, 0)).1 (zs.getD j ([], 0)).1) ∧
    ∀ i j k, i < j → j < ps.length → (ps.getD i (vn, 0)).1.ownBlock = some k → (ps.getD j (vn, 0)).1.ownBlock ≠ some k

theorem snd_getD {ps : List (Value × Int)} {zs : List It} (h : ps.map (·.2) = zs.map (·.2)) (j : Nat) : (ps.getD j (vn, 0)).2 = (zs.getD j ([], 0)).2 := by
  have h1 : (ps.map (·.2)).getD j 0 = (zs.map (·.2)).getD j 0 := by rw [h]
  simp only [List.getD, List.getElem?_map] at h1 ⊢
  cases h2 : ps[j]? <;> cases h3 : zs[j]? <;> simp [h2, h3] at h1 ⊢ <;> exact h1
theorem snd_len {ps : List (Value × Int)} {zs : List It} (h : ps.map (·.2) = zs.map (·.2)) : ps.length = zs.length := by
  have := congrArg List.length h
  simpa using this

theorem items_of_spine {w : World} {lo hi : Nat} {v : Value} {ps : List (Value × Int)} {zs : List It} (he : ps.map (·.2) = zs.map (·.2)) (h : Spine w lo hi v ps) (hr : ∀ j, j < ps.length → IntsAt w (ps.getD j (vn, 0)).1 (zs.getD j ([], 0)).1) : ItemsAt w v zs := by
  have hl := snd_len he
  refine ⟨by rw [← hl]; exact h.2.2.1, ?_⟩
  rcases h.1.2 with ⟨rfl, hn⟩ | ⟨g, cap, cur, rfl, _, hg, _⟩
  · have : zs = [] := List.length_eq_zero_iff.1 (by omega)
    subst this
    exact ⟨none, 0, rfl, fun _ => rfl, fun h => absurd rfl h⟩
  · refine ⟨some ⟨g, 0, none⟩, cap, by rw [hl], fun h => by simp at h, fun hne => ⟨g, 0, rfl, (Array.getElem?_eq_some_iff.1 hg).1, fun j hj => ?_⟩⟩
    have hj' : j < ps.length := by omega
    refine ⟨_, by rw [Nat.zero_add]; exact h.cell0 hj', ?_, hr j hj'⟩
    rw [Nat.zero_add, h.cell1 hj', snd_getD he]

theorem OwnZ.items {w : World} {lo hi : Nat} {v : Value} {zs : List It} (h : OwnZ w lo hi v zs) : ItemsAt w v zs := by
  obtain ⟨ps, he, hs, hr, _⟩ := h
  exact items_of_spine he hs fun j hj => (hr j hj).ints
theorem OwnZ.keep {w w' : World} {lo hi : Nat} {v : Value} {zs : List It} (h : OwnZ w lo hi v zs) (hb : Below hi w w') : OwnZ w' lo hi v zs := by
  obtain ⟨ps, he, hs, hr, ha⟩ := h
  exact ⟨ps, he, hs.keep hb, fun j hj => (hr j hj).keep hb, ha⟩
theorem OwnZ.hi_le {w : World} {lo hi : Nat} {v : Value} {zs : List It} (h : OwnZ w lo hi v zs) : hi ≤ w.heap.size := by
  obtain ⟨ps, he, hs, hr, ha⟩ := h
  exact hs.2.2.2
theorem OwnZ.keep' {w w' : World} {lo hi : Nat} {v : Value} {zs : List It} (h : OwnZ w lo hi v zs) (hb : Below w.heap.size w w') : OwnZ w' lo hi v zs := h.keep (hb.mono h.hi_le)
theorem OwnZ.wide {w : World} {lo hi lo' hi' : Nat} {v : Value} {zs : List It} (h : OwnZ w lo hi v zs) (h1 : lo' ≤ lo) (h2 : hi ≤ hi') (h3 : hi' ≤ w.heap.size) : OwnZ w lo' hi' v zs := by
  obtain ⟨ps, he, hs, hr, ha⟩ := h
  exact ⟨ps, he, hs.wide h1 h2 h3, fun j hj => (hr j hj).wide h1 h2 h3, ha⟩

/-- A step that writes in blocks from lo up to hi alone, besides new ones. -/
structure Only (lo hi : Nat) (w w' : World) : Prop where
  os : w'.os = w.os
  tape : w'.tape = w.tape
  output : w'.output = w.output
  size : w.heap.size ≤ w'.heap.size
  block : ∀ k, k < w.heap.size → (k < lo ∨ hi ≤ k) → w'.heap[k]? = w.heap[k]?
theorem Only.refl (lo hi : Nat) (w : World) : Only lo hi w w := ⟨rfl, rfl, rfl, Nat.le_refl _, fun _ _ _ => rfl⟩
theorem Only.trans {lo hi : Nat} {a b c : World} (h : Only lo hi a b) (k : Only lo hi b c) : Only lo hi a c :=
  ⟨k.os.trans h.os, k.tape.trans h.tape, k.output.trans h.output, Nat.le_trans h.size k.size, fun i hi' hr => (k.block i (Nat.lt_of_lt_of_le hi' h.size) hr).trans (h.block i hi' hr)⟩
theorem Only.setCell {lo hi : Nat} {w a : World} (h : Only lo hi w a) {p : Addr} (h1 : lo ≤ p.block) (h2 : p.block < hi) (u : Value) : Only lo hi w (a.setCell p u) :=
  h.trans ⟨rfl, rfl, rfl, by simp [World.setCell], fun k _ hk => Below.heap_setCell _ _ _ _ (by omega)⟩
theorem Only.of_grown {lo hi : Nat} {a b : World} {row : Option Nat} (h : a.grownBy b row) (hr : ∀ k, row = some k → lo ≤ k ∧ k < hi) : Only lo hi a b :=
  ⟨h.os, h.tape, h.output, h.size, fun i hi' hk => h.block i hi' (fun e => by have := hr i e.symm; omega)⟩
theorem Only.below {lo hi B : Nat} {w a b : World} (h : Only lo hi a b) (hb : Below B w a) (hB : B ≤ lo) (hs : B ≤ a.heap.size) : Below B w b := by
  refine hb.trans ?_
  exact ⟨h.os, h.tape, h.output, h.size, fun k hk => h.block k (by omega) (.inl (by omega))⟩
theorem Own.only {w w' : World} {lo hi lo' hi' : Nat} {v : Value} {xs : List Int} (h : Own w lo' hi' v xs) (k : Only lo hi w w') (ha : hi' ≤ lo ∨ hi ≤ lo') : Own w' lo' hi' v xs := by
  obtain ⟨ho, hhi, hl, hs⟩ := h
  obtain ⟨h1, h2⟩ := ho
  refine ⟨⟨h1, ?_⟩, hhi, hl, Nat.le_trans hs k.size⟩
  rcases h2 with h2 | ⟨g, cap, cur, hv, hg, hh, r⟩
  · exact .inl h2
  · have h3 := hhi g (by rw [hv]; rfl)
    exact .inr ⟨g, cap, cur, hv, hg, (k.block g (by omega) (by omega)).trans hh, r⟩
theorem Spine.only {w w' : World} {lo hi lo' hi' : Nat} {v : Value} {ps : List (Value × Int)} (h : Spine w lo' hi' v ps) (k : Only lo hi w w') (ha : hi' ≤ lo ∨ hi ≤ lo') : Spine w' lo' hi' v ps := by
  obtain ⟨ho, hhi, hl, hs⟩ := h
  obtain ⟨h1, h2⟩ := ho
  refine ⟨⟨h1, ?_⟩, hhi, hl, Nat.le_trans hs k.size⟩
  rcases h2 with h2 | ⟨g, cap, cur, hv, hg, hh, r⟩
  · exact .inl h2
  · have h3 := hhi g (by rw [hv]; rfl)
    exact .inr ⟨g, cap, cur, hv, hg, (k.block g (by omega) (by omega)).trans hh, r⟩
theorem OwnZ.only {w w' : World} {lo hi lo' hi' : Nat} {v : Value} {zs : List It} (h : OwnZ w lo' hi' v zs) (k : Only lo hi w w') (ha : hi' ≤ lo ∨ hi ≤ lo') : OwnZ w' lo' hi' v zs := by
  obtain ⟨ps, he, hs, hr, hap⟩ := h
  exact ⟨ps, he, hs.only k ha, fun j hj => (hr j hj).only k ha, hap⟩

theorem infoItem : (Try.prog.info? 115).map (fun i => (i.zero, i.size, i.bytes)) = some (some (.agg #[.slice none 0 0, .int .i64 0]), 2, 32) := by kernel_rfl

theorem Spine.stored0 {w : World} {lo hi : Nat} {g n cap : Nat} {ps : List (Value × Int)} (h : Spine w lo hi (.slice (some ⟨g, 0, none⟩) n cap) ps) {j : Nat} (hj : j < ps.length) (u : Value) :
    Spine (w.setCell ⟨g, j * 2, none⟩ u) lo hi (.slice (some ⟨g, 0, none⟩) n cap) (ps.set j (u, (ps.getD j (vn, 0)).2)) ∧ w.grownBy (w.setCell ⟨g, j * 2, none⟩ u) (some g) := by
  have hn : n = ps.length := by
    rcases h.1.2 with ⟨e, _⟩ | ⟨_, _, _, e, _⟩ <;> simp at e
    exact e.2.1
  subst hn
  have hst := h.1.stored (j * 2) u
  rw [cells2_set0 ps j u hj] at hst
  exact ⟨⟨by rw [List.length_set]; exact hst.1, h.2.1, by rw [List.length_set]; exact h.2.2.1, Nat.le_trans h.2.2.2 hst.2.size⟩, hst.2⟩
theorem Spine.stored1 {w : World} {lo hi : Nat} {g n cap : Nat} {ps : List (Value × Int)} (h : Spine w lo hi (.slice (some ⟨g, 0, none⟩) n cap) ps) {j : Nat} (hj : j < ps.length) (y : Int) :
    Spine (w.setCell ⟨g, j * 2 + 1, none⟩ (.int .i64 y)) lo hi (.slice (some ⟨g, 0, none⟩) n cap) (ps.set j ((ps.getD j (vn, 0)).1, y)) ∧ w.grownBy (w.setCell ⟨g, j * 2 + 1, none⟩ (.int .i64 y)) (some g) := by
  have hn : n = ps.length := by
    rcases h.1.2 with ⟨e, _⟩ | ⟨_, _, _, e, _⟩ <;> simp at e
    exact e.2.1
  subst hn
  have hst := h.1.stored (j * 2 + 1) (.int .i64 y)
  rw [cells2_set1 ps j y hj] at hst
  exact ⟨⟨by rw [List.length_set]; exact hst.1, h.2.1, by rw [List.length_set]; exact h.2.2.1, Nat.le_trans h.2.2.2 hst.2.size⟩, hst.2⟩

theorem Own.keptB {w w' : World} {lo hi : Nat} {v : Value} {xs : List Int} (h : Own w lo hi v xs) {row : Option Nat} (hg : w.grownBy w' row) (hne : v.ownBlock = none ∨ v.ownBlock ≠ row) : Own w' lo hi v xs :=
  ⟨h.1.kept hg hne, h.2.1, h.2.2.1, Nat.le_trans h.2.2.2 hg.size⟩

theorem getD_set_self {α : Type} {l : List α} {k : Nat} (hk : k < l.length) (x d : α) : (l.set k x).getD k d = x := by simp [List.getD, hk]
theorem getD_set_ne {α : Type} {l : List α} {k j : Nat} (hne : j ≠ k) (x d : α) : (l.set k x).getD j d = l.getD j d := by
  simp only [List.getD]
  rw [List.getElem?_set_ne (by omega)]

/-- An element is written: its row, in a new block, and its weight. -/
theorem OwnZ.put {w : World} {lo hi hi' : Nat} {g n cap : Nat} {zs : List It} (h : OwnZ w lo hi (.slice (some ⟨g, 0, none⟩) n cap) zs) {k : Nat} (hk : k < zs.length) {rv : Value} {xs : List Int} (hrow : Own w lo hi' rv xs)
    (h1 : hi ≤ hi') (h2 : hi' ≤ w.heap.size) (hf : ∀ b, rv.ownBlock = some b → hi ≤ b) (y : Int) :
    OwnZ ((w.setCell ⟨g, k * 2, none⟩ rv).setCell ⟨g, k * 2 + 1, none⟩ (.int .i64 y)) lo hi' (.slice (some ⟨g, 0, none⟩) n cap) (zs.set k (xs, y)) := by
  obtain ⟨ps, he, hs, hr, ha⟩ := h
  have hl := snd_len he
  have hk' : k < ps.length := by omega
  have s1 := hs.stored0 hk' rv
  have s2 := s1.1.stored1 (j := k) (by simpa using hk') y
  rw [List.set_set, getD_set_self hk'] at s2
  have hg : w.grownBy ((w.setCell ⟨g, k * 2, none⟩ rv).setCell ⟨g, k * 2 + 1, none⟩ (.int .i64 y)) (some g) := grown_trans s1.2 s2.2
  have hne : ∀ {lo' hi' : Nat} {v : Value} {us : List Int}, Own w lo' hi' v us → v.ownBlock = none ∨ v.ownBlock ≠ some g := fun h => row_ne_spine hs h
  refine ⟨ps.set k (rv, y), ?_, s2.1.wide (Nat.le_refl _) h1 (Nat.le_trans h2 hg.size), fun j hj => ?_, fun i j b hij hj hb => ?_⟩
  · rw [List.map_set, List.map_set, he]
  · by_cases hjk : j = k
    · subst hjk
      rw [getD_set_self hk', getD_set_self hk]
      exact hrow.keptB hg (hne hrow)
    · rw [getD_set_ne hjk, getD_set_ne hjk]
      have := hr j (by simpa using hj)
      exact (this.keptB hg (hne this)).wide (Nat.le_refl _) h1 (Nat.le_trans h2 hg.size)
  · have hj' : j < ps.length := by simpa using hj
    by_cases hik : i = k
    · subst hik
      rw [getD_set_self hk'] at hb
      rw [getD_set_ne (by omega)]
      intro hb'
      have h3 := hf b hb
      have h4 := (hr j hj').2.1 b hb'
      omega
    · rw [getD_set_ne hik] at hb
      by_cases hjk : j = k
      · subst hjk
        rw [getD_set_self hk']
        intro hb'
        have h3 := hf b hb'
        have h4 := (hr i (by omega)).2.1 b hb
        omega
      · rw [getD_set_ne hjk]
        exact ha i j b hij hj' hb

theorem OwnZ.cellAt0 {w : World} {lo hi : Nat} {g n cap : Nat} {zs : List It} (h : OwnZ w lo hi (.slice (some ⟨g, 0, none⟩) n cap) zs) {k : Nat} (hk : k < zs.length) : ∃ u, w.cell? ⟨g, k * 2, none⟩ = some u := by
  obtain ⟨ps, he, hs, hr, ha⟩ := h
  exact ⟨_, hs.cell0 (by rw [snd_len he]; exact hk)⟩
theorem OwnZ.cellAt1 {w : World} {lo hi : Nat} {g n cap : Nat} {zs : List It} (h : OwnZ w lo hi (.slice (some ⟨g, 0, none⟩) n cap) zs) {k : Nat} (hk : k < zs.length) : ∃ u, w.cell? ⟨g, k * 2 + 1, none⟩ = some u := by
  obtain ⟨ps, he, hs, hr, ha⟩ := h
  exact ⟨_, hs.cell1 (by rw [snd_len he]; exact hk)⟩
theorem Spine.frozenAt {w : World} {lo hi : Nat} {g n cap : Nat} {ps : List (Value × Int)} (h : Spine w lo hi (.slice (some ⟨g, 0, none⟩) n cap) ps) (j : Nat) : w.frozen? ⟨g, j, none⟩ = false := by
  have hn : n = ps.length := by
    rcases h.1.2 with ⟨e, _⟩ | ⟨_, _, _, e, _⟩ <;> simp at e
    exact e.2.1
  subst hn
  exact h.1.frozenAt j
theorem OwnZ.frozenAt {w : World} {lo hi : Nat} {g n cap : Nat} {zs : List It} (h : OwnZ w lo hi (.slice (some ⟨g, 0, none⟩) n cap) zs) (j : Nat) : w.frozen? ⟨g, j, none⟩ = false := by
  obtain ⟨ps, he, hs, hr, ha⟩ := h
  exact hs.frozenAt j

theorem cell_is {B : Nat} {w w' : World} {p : Addr} {v : Option Value} (h : Below B w w') (hp : p.block < B) (hv : w.cell? p = v) : w'.cell? p = v := (h.cell hp).trans hv
theorem frozen_is {B : Nat} {w w' : World} {p : Addr} {v : Bool} (h : Below B w w') (hp : p.block < B) (hv : w.frozen? p = v) : w'.frozen? p = v := (h.frozen hp).trans hv

/-- One weight is written. -/
theorem OwnZ.putW {w : World} {lo hi : Nat} {g n cap : Nat} {zs : List It} (h : OwnZ w lo hi (.slice (some ⟨g, 0, none⟩) n cap) zs) {j : Nat} (hj : j < zs.length) (y : Int) :
    OwnZ (w.setCell ⟨g, j * 2 + 1, none⟩ (.int .i64 y)) lo hi (.slice (some ⟨g, 0, none⟩) n cap) (zs.set j ((zs.getD j ([], 0)).1, y)) ∧ w.grownBy (w.setCell ⟨g, j * 2 + 1, none⟩ (.int .i64 y)) (some g) := by
  obtain ⟨ps, he, hs, hr, ha⟩ := h
  have hl := snd_len he
  have hj' : j < ps.length := by omega
  have s1 := hs.stored1 hj' y
  have hg := s1.2
  have hne : ∀ {lo' hi' : Nat} {v : Value} {us : List Int}, Own w lo' hi' v us → v.ownBlock = none ∨ v.ownBlock ≠ some g := fun h => row_ne_spine hs h
  have hfst : ∀ i, ((ps.set j ((ps.getD j (vn, 0)).1, y)).getD i (vn, 0)).1 = (ps.getD i (vn, 0)).1 := fun i => by
    by_cases hij : i = j
    · subst hij; rw [getD_set_self hj']
    · rw [getD_set_ne hij]
  have hfst2 : ∀ i, ((zs.set j ((zs.getD j ([], 0)).1, y)).getD i ([], 0)).1 = (zs.getD i ([], 0)).1 := fun i => by
    by_cases hij : i = j
    · subst hij; rw [getD_set_self hj]
    · rw [getD_set_ne hij]
  refine ⟨⟨_, ?_, s1.1, fun i hi' => ?_, fun i i' b hii hi' hb => ?_⟩, hg⟩
  · rw [List.map_set, List.map_set, he]
  · rw [hfst, hfst2]
    have := hr i (by simpa using hi')
    exact this.keptB hg (hne this)
  · rw [hfst] at hb ⊢
    exact ha i i' b hii (by simpa using hi') hb

end Go.Proofs.Ytfmgohoddaobmaa
