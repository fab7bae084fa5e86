/-
  Texts of this claim put behind one another: Clone, Step, Marks, MarksZ, Join, Copy, ZSame, ZGet, ZNeg, PutMath, Put, PutWalk, AddSpec, Merge, Delete, ZAdd, ZFacts.
-/
import Derived.Test.YtfmgohoddaobmaaOwnZ
import Derived.Laws.AppendOwnNone
import Derived.Lib.SliceRun
import Derived.Deep.RegionLaw
import Derived.Test.YtfmgohoddaobmaaOwn
import Derived.Test.YtfmgohoddaobmaaItems
import Derived.Test.YtfmgohoddaobmaaZOk
import Derived.Laws.BitsLemmas
import Derived.Maps.AppendAt
import Derived.Deep.DrawnRows
import Derived.Deep.RegionHeld
import Derived.Laws.IdiomCopy

/-
  Pairs in memory as they lie (a row's slice value, a weight); append of such a slice to one that the call owns; the contracts of slices.Clone (ints, items) and impl.copyItems: copies in memory of their own.
-/
namespace Go.Proofs.Ytfmgohoddaobmaa
open Go.RowKit

/-- The value v is a slice whose elements, in the memory w, are the pairs qs. -/
def PairsAt (w : World) (v : Value) (qs : List (Value × Int)) : Prop :=
  qs.length ≤ 140737488355328 ∧ (∀ p ∈ qs, ∃ a n c, p.1 = Value.slice a n c) ∧ ∃ (a : Option Addr) (cap : Nat), v = .slice a qs.length cap ∧ (a = none → cap = 0) ∧
    (qs ≠ [] → ∃ b off, a = some ⟨b, off, none⟩ ∧ b < w.heap.size ∧ ∀ j, j < qs.length → w.cell? ⟨b, off + j * 2, none⟩ = some (qs.getD j (vn, 0)).1 ∧ w.cell? ⟨b, off + j * 2 + 1, none⟩ = some (.int .i64 (qs.getD j (vn, 0)).2))

theorem PairsAt.below {w w' : World} {v : Value} {qs : List (Value × Int)} (h : PairsAt w v qs) (hb : Below w.heap.size w w') : PairsAt w' v qs := by
  obtain ⟨hl, hs, a, cap, rfl, hn, hc⟩ := h
  refine ⟨hl, hs, a, cap, rfl, hn, fun hne => ?_⟩
  obtain ⟨b, off, rfl, hbl, hcell⟩ := hc hne
  refine ⟨b, off, rfl, Nat.lt_of_lt_of_le hbl hb.size, fun j hj => ?_⟩
  obtain ⟨h1, h2⟩ := hcell j hj
  exact ⟨(hb.cell (p := ⟨b, off + j * 2, none⟩) hbl).trans h1, (hb.cell (p := ⟨b, off + j * 2 + 1, none⟩) hbl).trans h2⟩

theorem mem_getD {α : Type} {l : List α} {p d : α} (h : p ∈ l) : ∃ j, j < l.length ∧ l.getD j d = p := by
  obtain ⟨j, hj, rfl⟩ := List.getElem_of_mem h
  exact ⟨j, hj, by simp [List.getD, hj]⟩

/-- Items are pairs whose rows read so. -/
theorem ItemsAt.pairs {w : World} {v : Value} {zs : List It} (h : ItemsAt w v zs) : ∃ qs : List (Value × Int), PairsAt w v qs ∧ qs.map (·.2) = zs.map (·.2) ∧ ∀ j, j < zs.length → IntsAt w (qs.getD j (vn, 0)).1 (zs.getD j ([], 0)).1 := by
  obtain ⟨hl, a, cap, rfl, hn, hc⟩ := h
  by_cases hx : zs = []
  · subst hx
    exact ⟨[], ⟨by simp, fun p hp => by simp at hp, a, cap, rfl, hn, fun h => absurd rfl h⟩, rfl, fun j hj => by simp at hj⟩
  · obtain ⟨b, off, rfl, hbl, hcell⟩ := hc hx
    have : ∃ f : Nat → Value, ∀ j, j < zs.length → w.cell? ⟨b, off + j * 2, none⟩ = some (f j) ∧ w.cell? ⟨b, off + j * 2 + 1, none⟩ = some (.int .i64 (zs.getD j ([], 0)).2) ∧ IntsAt w (f j) (zs.getD j ([], 0)).1 := by
      classical
      refine ⟨fun j => if hj : j < zs.length then Classical.choose (hcell j hj) else vn, fun j hj => ?_⟩
      simp only [dif_pos hj]
      exact Classical.choose_spec (hcell j hj)
    obtain ⟨f, hf⟩ := this
    have hlen : ((List.range zs.length).map fun j => (f j, (zs.getD j ([], 0)).2)).length = zs.length := by simp
    have hg : ∀ j, j < zs.length → ((List.range zs.length).map fun j => (f j, (zs.getD j ([], 0)).2)).getD j (vn, 0) = (f j, (zs.getD j ([], 0)).2) := fun j hj => by simp [List.getD, hj]
    refine ⟨(List.range zs.length).map fun j => (f j, (zs.getD j ([], 0)).2), ⟨by omega, fun p hp => ?_, some ⟨b, off, none⟩, cap, by rw [hlen], fun h => by simp at h, fun _ => ⟨b, off, rfl, hbl, fun j hj => ?_⟩⟩, ?_, fun j hj => ?_⟩
    · obtain ⟨j, hj, rfl⟩ := mem_getD (d := (vn, 0)) hp
      rw [hlen] at hj
      rw [hg j hj]
      exact (hf j hj).2.2.shape
    · rw [hlen] at hj
      rw [hg j hj]
      exact ⟨(hf j hj).1, (hf j hj).2.1⟩
    · apply List.ext_getElem?
      intro j
      by_cases hj : j < zs.length
      · simp [hj, List.getD]
      · simp [hj]
    · rw [hg j hj]
      exact (hf j hj).2.2
theorem PairsAt.items {w : World} {v : Value} {zs : List It} {qs : List (Value × Int)} (h : PairsAt w v qs) (he : qs.map (·.2) = zs.map (·.2)) (hr : ∀ j, j < zs.length → IntsAt w (qs.getD j (vn, 0)).1 (zs.getD j ([], 0)).1) : ItemsAt w v zs := by
  have hl := snd_len he
  obtain ⟨h1, _, a, cap, rfl, hn, hc⟩ := h
  refine ⟨by omega, a, cap, by rw [hl], hn, fun hne => ?_⟩
  obtain ⟨b, off, rfl, hbl, hcell⟩ := hc (fun e => hne (by subst e; exact List.length_eq_zero_iff.1 (by simpa using hl.symm)))
  refine ⟨b, off, rfl, hbl, fun j hj => ?_⟩
  obtain ⟨h2, h3⟩ := hcell j (by omega)
  exact ⟨_, h2, by rw [h3, snd_getD he], hr j hj⟩
theorem Spine.pairs {w : World} {lo hi : Nat} {v : Value} {ps : List (Value × Int)} (h : Spine w lo hi v ps) (hs : ∀ p ∈ ps, ∃ a n c, p.1 = Value.slice a n c) : PairsAt w v ps := by
  refine ⟨h.2.2.1, hs, ?_⟩
  rcases h.1.2 with ⟨rfl, hn⟩ | ⟨g, cap, cur, rfl, _, hg, _⟩
  · have : ps = [] := List.length_eq_zero_iff.1 hn
    subst this
    exact ⟨none, 0, rfl, fun _ => rfl, fun h => absurd rfl h⟩
  · refine ⟨some ⟨g, 0, none⟩, cap, rfl, fun h => by simp at h, fun hne => ⟨g, 0, rfl, (Array.getElem?_eq_some_iff.1 hg).1, fun j hj => ?_⟩⟩
    rw [Nat.zero_add]
    exact ⟨h.cell0 hj, h.cell1 hj⟩

theorem cells2_one {qs : List (Value × Int)} (hs : ∀ p ∈ qs, ∃ a n c, p.1 = Value.slice a n c) : ∀ u ∈ cells2 qs, u.oneCell' = true := by
  intro u hu
  obtain ⟨p, hp, hu⟩ := List.mem_flatMap.1 hu
  obtain ⟨a, n, c, hpc⟩ := hs p hp
  simp [hpc] at hu
  rcases hu with rfl | rfl <;> rfl

/-- append of a slice of pairs, whatever it is, to one that the call owns. -/
theorem wpList_append_pairs {P : Program} {w : World} {ops : Array Oper} {rest : List Oper} {o : Oper} {a : Act} {Q : Exit → Act → World → Prop} (hgd : o.guard = none) (s x : Operand) (t : TypeId)
    (ho : o.op = .call { callee := .builtin .append, args := #[s, x], argTypes := #[t, t] })
    (base : Nat) (e : TypeId) (i : TypeInfo) (ht : P.underlying t = some (.slice e)) (hi : P.info? e = some i) (hz : i.zero = some (.agg #[.slice none 0 0, .int .i64 0]))
    (hsize : i.size = 2) (hby : i.bytes = 32)
    (v : Value) (ps : List (Value × Int)) (hs : a.eval s = v) (hown : w.ownsRow base e 2 v ps.length (cells2 ps))
    (vx : Value) (qs : List (Value × Int)) (hx : a.eval x = vx) (hsrc : PairsAt w vx qs)
    (hbytes : (ps.length + qs.length) * 32 ≤ 140737488355328) (hbase : base ≤ w.heap.size)
    (h : ∀ v' w', w'.ownsRow base e 2 v' (ps ++ qs).length (cells2 (ps ++ qs)) → w.grownBy w' v.ownBlock → (v ≠ .slice none 0 0 → v' ≠ .slice none 0 0) → wpList P ops Q rest (a.put o.dst v') w') : wpList P ops Q (o :: rest) a w := by
  obtain ⟨hl, hsl, ad, cap, rfl, hnone, hc⟩ := hsrc
  cases ad with
  | none =>
    have hsrc : qs = [] := by
      by_cases h0 : qs = []
      · exact h0
      · obtain ⟨b, off, hh, _⟩ := hc h0
        simp at hh
    subst hsrc
    have hcap := hnone rfl
    subst hcap
    refine wpList_append_own_none hgd s x t ho base e i 2 ht hi v ps.length (cells2 ps) hs hown hx ?_
    refine h v w (by simpa using hown) (grown_refl _ _) (fun h => h)
  | some ad =>
    have hnews : ∀ j u, (cells2 qs)[j]? = some u → w.cell? (ad.add j) = some u := by
      intro j u hu
      by_cases h0 : qs = []
      · subst h0; simp [cells2] at hu
      · obtain ⟨b, off, hh, _, hcell⟩ := hc h0
        simp at hh
        subst hh
        have hj : j < qs.length * 2 := by
          have := (List.getElem?_eq_some_iff.1 hu).1
          rwa [cells2_length] at this
        rw [Addr.add_lit]
        obtain ⟨q, r, hq, hr⟩ : ∃ q r, j = q * 2 + r ∧ r < 2 := ⟨j / 2, j % 2, by omega, by omega⟩
        have hqn : q < qs.length := by omega
        obtain ⟨h1, h2⟩ := hcell q hqn
        rcases Nat.lt_succ_iff_lt_or_eq.1 hr with h | h
        · obtain rfl : r = 0 := by omega
          subst hq
          rw [Nat.add_zero] at hu ⊢
          rw [cells2_get0 _ _ hqn] at hu
          rw [h1]; exact hu
        · subst h hq
          rw [cells2_get1 _ _ hqn] at hu
          rw [← Nat.add_assoc, h2]; exact hu
    refine wpList_append_own w hgd s x t ho base e i (.agg #[.slice none 0 0, .int .i64 0]) 2 32 ht hi hz hsize hby rfl (by decide) v ps.length (cells2 ps) hs hown ad qs.length cap (cells2 qs) hx (by rw [cells2_length]) hnews (cells2_one hsl) (by unfold maxLen; omega) hbytes hbase ?_
    intro v' w' h1 h2 h3
    rw [← cells2_append] at h1
    exact h v' w' (by rw [List.length_append]; exact h1) h2 (fun hv hv' => hv (h3.1 hv').1)

end Go.Proofs.Ytfmgohoddaobmaa

/-
  append of pairs, as one step of a region that draws its order; an item put behind items of the call's own.
-/
namespace Go.Proofs.Ytfmgohoddaobmaa
open Go.RowKit

theorem step_append_pairs {P : Program} {ops : Array Oper} {o : Oper} {a : Act} {w : World} {K : Act → World → Prop} {Q : Exit → Act → World → Prop} {E : Prop}
    (hg : o.guard = none) (s x : Operand) (t : TypeId) (hop : o.op = Op.call { callee := Callee.builtin Builtin.append, args := #[s, x], argTypes := #[t, t] })
    (base : Nat) (e : TypeId) (i : TypeInfo) (ht : P.underlying t = some (.slice e)) (hi : P.info? e = some i) (hz : i.zero = some (.agg #[.slice none 0 0, .int .i64 0]))
    (hsize : i.size = 2) (hby : i.bytes = 32)
    (v : Value) (ps : List (Value × Int)) (hs : a.eval s = v) (hown : w.ownsRow base e 2 v ps.length (cells2 ps))
    (ad : Addr) (m c : Nat) (qs : List (Value × Int)) (hx : a.eval x = .slice (some ad) m c) (hm : qs.length = m) (hnews : ∀ j u, (cells2 qs)[j]? = some u → w.cell? (ad.add j) = some u) (hsl : ∀ p ∈ qs, ∃ a n c, p.1 = Value.slice a n c)
    (hbytes : (ps.length + qs.length) * 32 ≤ 140737488355328) (hbase : base ≤ w.heap.size)
    (hK : ∀ v' w', w'.ownsRow base e 2 v' (ps ++ qs).length (cells2 (ps ++ qs)) → w.grownBy w' v.ownBlock → K (a.put o.dst v') w') :
    if Region.wanted o (yielded ops a.tmps) = true then Oper.wp P o a w K Q else E := by
  have hw : Region.wanted o (yielded ops a.tmps) = true := by simp [Region.wanted, hg]
  rw [if_pos hw]
  subst hm
  obtain ⟨v', w', hrun, r1, r2, _⟩ := run_append_own (P := P) w base t o.type e i (.agg #[.slice none 0 0, .int .i64 0]) 2 32 ht hi hz hsize hby rfl (by decide) v ps.length (cells2 ps) hown ad qs.length c (cells2 qs) (by rw [cells2_length]) hnews (cells2_one hsl) (by unfold maxLen; omega) hbytes hbase
  unfold Oper.wp
  simp [execOp, hop, resolve, invoke, builtin, hs, hx, hrun, Result.andThen]
  rw [← cells2_append] at r1
  exact hK v' w' (by rw [List.length_append]; exact r1) r2

theorem cells2_single (v : Value) (y : Int) : cells2 [(v, y)] = [v, .int .i64 y] := rfl

/-- The cells of an item that is written out in a new block. -/
theorem news_lit (w : World) (t : TypeId) (v : Value) (y : Int) : ∀ j u, (cells2 [(v, y)])[j]? = some u → (w.alloc (.cells #[v, .int .i64 y] t)).cell? ((⟨w.heap.size, 0, none⟩ : Addr).add j) = some u := by
  intro j u hu
  rw [cells2_single] at hu
  rw [Addr.add_lit]
  match j, hu with
  | 0, hu => simp at hu; subst hu; simp [go_sem]
  | 1, hu => simp at hu; subst hu; simp [go_sem]
  | j + 2, hu => simp at hu

/-- An item is put behind items of the call's own, its row in a new block. -/
theorem OwnZ.snoc {w w' : World} {lo hi : Nat} {v v' rv : Value} {zs : List It} {ps : List (Value × Int)} {xs : List Int} {y : Int} (he : ps.map (·.2) = zs.map (·.2)) (hs : Spine w lo hi v ps)
    (hr : ∀ j, j < ps.length → Own w lo hi (ps.getD j (vn, 0)).1 (zs.getD j ([], 0)).1)
    (ha : ∀ i j k, i < j → j < ps.length → (ps.getD i (vn, 0)).1.ownBlock = some k → (ps.getD j (vn, 0)).1.ownBlock ≠ some k)
    (hrow : Own w lo w.heap.size rv xs) (hf : ∀ b, rv.ownBlock = some b → hi ≤ b)
    (hown : w'.ownsRow lo 115 2 v' (ps ++ [(rv, y)]).length (cells2 (ps ++ [(rv, y)]))) (hg : w.grownBy w' v.ownBlock) (hlim : ps.length < 140737488355328) :
    OwnZ w' lo w'.heap.size v' (zs ++ [(xs, y)]) := by
  have hl := snd_len he
  refine ⟨ps ++ [(rv, y)], by simp [he], spine_new hown (by simp; omega), fun j hj => ?_, fun i j k hij hj hk => ?_⟩
  · by_cases hjl : j < ps.length
    · have e1 : (ps ++ [(rv, y)]).getD j (vn, 0) = ps.getD j (vn, 0) := by simp [List.getD, List.getElem?_append_left hjl]
      have e2 : (zs ++ [(xs, y)]).getD j ([], 0) = zs.getD j ([], 0) := by simp [List.getD, List.getElem?_append_left (show j < zs.length by omega)]
      rw [e1, e2]
      exact ((hr j hjl).keptB hg (row_ne_spine hs (hr j hjl))).wide (Nat.le_refl _) (Nat.le_trans hs.2.2.2 hg.size) (Nat.le_refl _)
    · have hj' : j = ps.length := by simp at hj; omega
      subst hj'
      have e1 : (ps ++ [(rv, y)]).getD ps.length (vn, 0) = (rv, y) := by simp [List.getD]
      have e2 : (zs ++ [(xs, y)]).getD ps.length ([], 0) = (xs, y) := by rw [hl]; simp [List.getD]
      rw [e1, e2]
      exact (hrow.keptB hg (row_ne_spine hs hrow)).wide (Nat.le_refl _) hg.size (Nat.le_refl _)
  · have hil : i < ps.length := by simp at hj; omega
    have e0 : (ps ++ [(rv, y)]).getD i (vn, 0) = ps.getD i (vn, 0) := by simp [List.getD, List.getElem?_append_left hil]
    rw [e0] at hk
    by_cases hjl : j < ps.length
    · have e1 : (ps ++ [(rv, y)]).getD j (vn, 0) = ps.getD j (vn, 0) := by simp [List.getD, List.getElem?_append_left hjl]
      rw [e1]
      exact ha i j k hij hjl hk
    · have hj' : j = ps.length := by simp at hj; omega
      subst hj'
      have e1 : (ps ++ [(rv, y)]).getD ps.length (vn, 0) = (rv, y) := by simp [List.getD]
      rw [e1]
      intro hk'
      have h1 := hf k hk'
      have h2 := (hr i hil).2.1 k hk
      omega

theorem pairs_lit (w : World) (t : TypeId) {rv : Value} (y : Int) (hs : ∃ a n c, rv = Value.slice a n c) : PairsAt (w.alloc (.cells #[rv, .int .i64 y] t)) (.slice (some ⟨w.heap.size, 0, none⟩) 1 1) [(rv, y)] := by
  refine ⟨by simp, fun p hp => by simp at hp; subst hp; exact hs, some ⟨w.heap.size, 0, none⟩, 1, rfl, fun h => by simp at h, fun _ => ⟨w.heap.size, 0, rfl, by simp, fun j hj => ?_⟩⟩
  obtain rfl : j = 0 := by simp at hj; omega
  simp [go_sem]

/-- What is wanted to put an item, written out in a new block, behind items of the call's own, and what it leaves. -/
theorem OwnZ.ready {w : World} {lo hi lo' : Nat} {v rv : Value} {zs : List It} {xs : List Int} (y : Int) (h : OwnZ w lo hi v zs) (hrow : Own w lo' w.heap.size rv xs) (h1 : hi ≤ lo') (h2 : lo ≤ lo') (h3 : lo ≤ w.heap.size) (hlim : zs.length ≤ 1099511627776) :
    ∃ ps : List (Value × Int), ps.length = zs.length ∧ (w.alloc (.cells #[rv, .int .i64 y] 115)).ownsRow lo 115 2 v ps.length (cells2 ps) ∧ PairsAt (w.alloc (.cells #[rv, .int .i64 y] 115)) (.slice (some ⟨w.heap.size, 0, none⟩) 1 1) [(rv, y)] ∧
      ∀ v' w', w'.ownsRow lo 115 2 v' (ps ++ [(rv, y)]).length (cells2 (ps ++ [(rv, y)])) → (w.alloc (.cells #[rv, .int .i64 y] 115)).grownBy w' v.ownBlock → OwnZ w' lo w'.heap.size v' (zs ++ [(xs, y)]) ∧ Below lo w w' := by
  obtain ⟨ps, he, hs, hr, ha⟩ := h
  have hl := snd_len he
  have hb := below_alloc (w := w) (.cells #[rv, .int .i64 y] 115)
  have hhi := hs.2.2.2
  refine ⟨ps, hl, (hs.keep (hb.mono hhi)).1, pairs_lit w _ y hrow.ints.shape, fun v' w' ho hg => ⟨?_, ?_⟩⟩
  · refine OwnZ.snoc he (hs.keep (hb.mono hhi)) (fun j hj => (hr j hj).keep (hb.mono hhi)) ha ((hrow.keep' hb).wide h2 hb.size (Nat.le_refl _)) (fun b hb' => ?_) ho hg (by omega)
    have := (hrow.1.lt b hb').1
    omega
  · refine (hb.mono h3).grown hg (by simp; omega) (fun k hk => (hs.1.lt k hk).1)

theorem zOk_le {zs : List It} (h : zOkB zs = true) : zs.length ≤ 100 := by
  unfold zOkB at h
  simp at h
  exact h.1
theorem zOk_row {zs : List It} (h : zOkB zs = true) {k : Nat} (hk : k < zs.length) : rowOkB (zs.getD k ([], 0)).1 = true ∧ wB (zs.getD k ([], 0)).2 = true := by
  unfold zOkB at h
  rw [Bool.and_eq_true, List.all_eq_true] at h
  have := h.2 k (List.mem_range.2 hk)
  unfold stepB at this
  rw [Bool.and_eq_true, Bool.and_eq_true] at this
  exact this.1
theorem rowOk_le {xs : List Int} (h : rowOkB xs = true) : xs.length ≤ 6 := by
  unfold rowOkB at h
  simp at h
  exact h.1.2

theorem zOk_mem {zs : List It} (h : zOkB zs = true) {p : It} (hp : p ∈ zs) : p.1.length ≤ 6 := by
  obtain ⟨j, hj, rfl⟩ := mem_getD (d := ([], 0)) hp
  exact rowOk_le (zOk_row h hj).1

theorem nil_ownZ (w : World) (lo : Nat) : OwnZ w lo w.heap.size (.slice none 0 0) [] :=
  ⟨[], rfl, ⟨World.ownsRow_nil _ _ _ _, fun k hk => by simp [Value.ownBlock] at hk, by simp, Nat.le_refl _⟩, fun j hj => by simp at hj, fun i j k _ hj => by simp at hj⟩
theorem lit_ownZ (w : World) : OwnZ (w.alloc (.cells #[] 115)) w.heap.size (w.alloc (.cells #[] 115)).heap.size (.slice (some ⟨w.heap.size, 0, none⟩) 0 0) [] :=
  ⟨[], rfl, spine_new (n := 0) (World.ownsRow_lit w #[] 0 (Nat.le_refl _) (by unfold maxLen; omega) rfl) (by simp), fun j hj => by simp at hj, fun i j k _ hj => by simp at hj⟩
theorem OwnZ.shape {w : World} {lo hi : Nat} {v : Value} {zs : List It} (h : OwnZ w lo hi v zs) : ∃ a cap, v = .slice a zs.length cap := by
  obtain ⟨ps, he, hs, _⟩ := h
  rw [← snd_len he]
  rcases hs.1.2 with ⟨rfl, h0⟩ | ⟨g, cap, cur, rfl, _⟩
  · exact ⟨none, 0, by rw [h0]⟩
  · exact ⟨_, _, rfl⟩

end Go.Proofs.Ytfmgohoddaobmaa

/-
  The contracts of laws.markIntS and laws.heldIntS: numbers from k on are written into a slice of the call's own, and are found there.
-/
namespace Go.Proofs.Ytfmgohoddaobmaa
open Go.RowKit

/-- k, k + 1, .. -/
def marks (k : Int) (n : Nat) : List Int := (List.range n).map (fun t : Nat => k + (t : Int))
theorem marks_length (k : Int) (n : Nat) : (marks k n).length = n := by simp [marks]
theorem marks_get (k : Int) (n j : Nat) (h : j < n) : (marks k n).getD j 0 = k + j := by simp [marks, List.getD, h]
theorem marks_succ (k : Int) (n : Nat) : marks k (n + 1) = marks k n ++ [k + n] := by simp [marks, List.range_succ]

def marksTo (cs : List Value) (k : Int) (j : Nat) : List Value := (marks k j).map (Value.int .i64) ++ cs.drop j
theorem marksTo_set (cs : List Value) (k : Int) (j : Nat) (hj : j < cs.length) : (marksTo cs k j).set j (.int .i64 (k + j)) = marksTo cs k (j + 1) := by
  unfold marksTo
  rw [List.set_append_right _ _ (by simp [marks_length])]
  have h1 : j - ((marks k j).map (Value.int .i64)).length = 0 := by simp [marks_length]
  rw [h1, List.drop_eq_getElem_cons hj, List.set_cons_zero, marks_succ, List.map_append, List.append_assoc]
  rfl
theorem marksTo_length (cs : List Value) (k : Int) (j : Nat) (hj : j ≤ cs.length) : (marksTo cs k j).length = cs.length := by
  simp [marksTo, marks_length]; omega

end Go.Proofs.Ytfmgohoddaobmaa

/-
  The contracts of laws.markItemS and laws.heldItemS: numbers from k on are written into items of the call's own, and are found there.
-/
namespace Go.Proofs.Ytfmgohoddaobmaa
open Go.RowKit

/-- Rows of these lengths and weights, filled with k, k + 1, .. -/
def marksZ : Int → List Nat → List It
  | _, [] => []
  | k, n :: ns => (marks k n, k + n) :: marksZ (k + n + 1) ns
def tot (ns : List Nat) : Nat := (ns.map (· + 1)).sum
theorem tot_append (ns ms : List Nat) : tot (ns ++ ms) = tot ns + tot ms := by simp [tot]
theorem marksZ_length : ∀ (k : Int) (ns : List Nat), (marksZ k ns).length = ns.length
  | _, [] => rfl
  | k, n :: ns => by simp [marksZ, marksZ_length]
theorem marksZ_append : ∀ (k : Int) (ns ms : List Nat), marksZ k (ns ++ ms) = marksZ k ns ++ marksZ (k + tot ns) ms
  | k, [], ms => by simp [marksZ, tot]
  | k, n :: ns, ms => by
    rw [List.cons_append, marksZ, marksZ, marksZ_append, List.cons_append]
    congr 3
    simp [tot]; omega

def lens (zs : List It) : List Nat := zs.map (·.1.length)
/-- What stands there behind j rounds. -/
def markAt (zs : List It) (k : Int) (j : Nat) : List It := marksZ k (lens (zs.take j)) ++ zs.drop j
theorem markAt_length (zs : List It) (k : Int) (j : Nat) (hj : j ≤ zs.length) : (markAt zs k j).length = zs.length := by
  simp [markAt, marksZ_length, lens]; omega
theorem markAt_get {zs : List It} {k : Int} {j : Nat} (hj : j < zs.length) : (markAt zs k j).getD j ([], 0) = zs.getD j ([], 0) := by
  unfold markAt
  have h1 : (marksZ k (lens (zs.take j))).length = j := by simp [marksZ_length, lens]; omega
  simp only [List.getD]
  rw [List.getElem?_append_right (by omega), h1, List.getElem?_drop]
  simp
theorem lens_take {zs : List It} {j : Nat} (hj : j < zs.length) : lens (zs.take (j + 1)) = lens (zs.take j) ++ [(zs.getD j ([], 0)).1.length] := by
  unfold lens
  rw [List.take_succ_eq_append_getElem hj, List.map_append]
  simp [List.getD, hj]
theorem tot_take {zs : List It} {j : Nat} (hj : j < zs.length) : tot (lens (zs.take (j + 1))) = tot (lens (zs.take j)) + (zs.getD j ([], 0)).1.length + 1 := by
  rw [lens_take hj, tot_append]
  simp [tot]; omega
theorem tot_le (zs : List It) (j : Nat) : tot (lens (zs.take j)) ≤ tot (lens zs) := by
  have : tot (lens zs) = tot (lens (zs.take j)) + tot (lens (zs.drop j)) := by
    rw [← tot_append]; unfold lens; rw [← List.map_append, List.take_append_drop]
  omega
theorem markAt_set {zs : List It} {k : Int} {j : Nat} (hj : j < zs.length) :
    (markAt zs k j).set j (marks (k + tot (lens (zs.take j))) (zs.getD j ([], 0)).1.length, k + tot (lens (zs.take j)) + (zs.getD j ([], 0)).1.length) = markAt zs k (j + 1) := by
  unfold markAt
  have h1 : (marksZ k (lens (zs.take j))).length = j := by simp [marksZ_length, lens]; omega
  rw [List.set_append_right _ _ (by omega), h1, Nat.sub_self, List.drop_eq_getElem_cons hj, List.set_cons_zero, lens_take hj, marksZ_append]
  simp [marksZ]

/-- One row is written in its place. -/
theorem OwnZ.rowAt {w : World} {lo hi : Nat} {g n cap : Nat} {zs : List It} (h : OwnZ w lo hi (.slice (some ⟨g, 0, none⟩) n cap) zs) {j : Nat} (hj : j < zs.length) :
    ∃ rv, w.cell? ⟨g, j * 2, none⟩ = some rv ∧ Own w lo hi rv (zs.getD j ([], 0)).1 ∧ (∀ w' xs', w.grownBy w' rv.ownBlock → Own w' lo hi rv xs' → OwnZ w' lo hi (.slice (some ⟨g, 0, none⟩) n cap) (zs.set j (xs', (zs.getD j ([], 0)).2))) := by
  obtain ⟨ps, he, hs, hr, ha⟩ := h
  have hl := snd_len he
  have hj' : j < ps.length := by omega
  refine ⟨_, hs.cell0 hj', hr j hj', fun w' xs' hg ho => ?_⟩
  refine ⟨ps, ?_, hs.kept hg ?_, fun i hi' => ?_, ha⟩
  · rw [List.map_set, ← snd_getD he, he]
    apply List.ext_getElem?
    intro i
    by_cases hij : i = j
    · subst hij
      rw [List.getElem?_set_self (by simpa using hj), List.getElem?_map, List.getElem?_eq_getElem hj]
      rw [snd_getD he]
      simp [List.getD, hj]
    · rw [List.getElem?_set_ne (by omega)]
  · rcases row_ne_spine hs (hr j hj') with h | h
    · exact .inr (by rw [h]; simp [Value.ownBlock])
    · exact .inr (fun e => h e.symm)
  · by_cases hij : i = j
    · subst hij
      rw [getD_set_self hj]
      exact ho
    · rw [getD_set_ne hij]
      refine (hr i hi').keptB hg ?_
      cases hb : (ps.getD i (vn, 0)).1.ownBlock with
      | none => exact .inl rfl
      | some b =>
        refine .inr fun e => ?_
        rcases Nat.lt_or_gt_of_ne hij with hlt | hgt
        · exact ha i j b hlt hj' hb e.symm
        · exact ha j i b hgt hi' e.symm hb

theorem Own.range {w : World} {lo hi : Nat} {v : Value} {xs : List Int} (h : Own w lo hi v xs) : ∀ k, v.ownBlock = some k → lo ≤ k ∧ k < hi := fun k hk => ⟨(h.1.lt k hk).1, h.2.1 k hk⟩

theorem marksZ_get : ∀ (k : Int) (ns : List Nat) (j : Nat), j < ns.length → (marksZ k ns).getD j ([], 0) = (marks (k + tot (ns.take j)) (ns.getD j 0), k + tot (ns.take j) + ns.getD j 0)
  | k, n :: ns, 0, _ => by simp [marksZ, tot]
  | k, n :: ns, j + 1, h => by
    have := marksZ_get (k + n + 1) ns j (by simpa using h)
    have e : k + ↑n + 1 + ↑(tot (ns.take j)) = k + ↑(tot (n :: ns.take j)) := by simp [tot]; omega
    rw [e] at this
    simpa [marksZ] using this
theorem tot_takeN {ns : List Nat} {j : Nat} (hj : j < ns.length) : tot (ns.take (j + 1)) = tot (ns.take j) + ns.getD j 0 + 1 := by
  rw [List.take_succ_eq_append_getElem hj, tot_append]
  simp [tot, List.getD, hj]; omega
theorem tot_leN (ns : List Nat) (j : Nat) : tot (ns.take j) ≤ tot ns := by
  have : tot ns = tot (ns.take j) + tot (ns.drop j) := by rw [← tot_append, List.take_append_drop]
  omega

end Go.Proofs.Ytfmgohoddaobmaa

/-
  The contracts of spec.l1Copy, spec.RowJoin and impl.RowJoin: each answers the one list behind the other, in memory of its own, at int slices of together at most 2^43 elements.
-/
namespace Go.Proofs.Ytfmgohoddaobmaa
open Go.RowKit

end Go.Proofs.Ytfmgohoddaobmaa

/-
  The contract of impl.copyItems: the items in memory of their own, each row in a new block.
-/
namespace Go.Proofs.Ytfmgohoddaobmaa
open Go.RowKit

/-- Items of which the first k rows are the call's own; the others are rows of the memory w0. -/
def PartZ (w0 w : World) (lo hi : Nat) (v : Value) (zs : List It) (k : Nat) : Prop :=
  ∃ ps : List (Value × Int), ps.map (·.2) = zs.map (·.2) ∧ Spine w lo hi v ps ∧ (∀ j, j < k → j < ps.length → Own w lo hi (ps.getD j (vn, 0)).1 (zs.getD j ([], 0)).1) ∧
    (∀ i j b, i < j → j < k → j < ps.length → (ps.getD i (vn, 0)).1.ownBlock = some b → (ps.getD j (vn, 0)).1.ownBlock ≠ some b) ∧ (∀ j, k ≤ j → j < ps.length → IntsAt w0 (ps.getD j (vn, 0)).1 (zs.getD j ([], 0)).1)

theorem PartZ.own {w0 w : World} {lo hi : Nat} {v : Value} {zs : List It} (h : PartZ w0 w lo hi v zs zs.length) : OwnZ w lo hi v zs := by
  obtain ⟨ps, he, hs, hr, ha, _⟩ := h
  have hl := snd_len he
  exact ⟨ps, he, hs, fun j hj => hr j (by omega) hj, fun i j b hij hj => ha i j b hij (by omega) hj⟩
theorem PartZ.keep {w0 w w' : World} {lo hi : Nat} {v : Value} {zs : List It} {k : Nat} (h : PartZ w0 w lo hi v zs k) (hb : Below hi w w') : PartZ w0 w' lo hi v zs k := by
  obtain ⟨ps, he, hs, hr, ha, hi⟩ := h
  exact ⟨ps, he, hs.keep hb, fun j hj hj' => (hr j hj hj').keep hb, ha, hi⟩
theorem PartZ.hi_le {w0 w : World} {lo hi : Nat} {v : Value} {zs : List It} {k : Nat} (h : PartZ w0 w lo hi v zs k) : hi ≤ w.heap.size := by
  obtain ⟨ps, he, hs, _⟩ := h
  exact hs.2.2.2
theorem PartZ.row {w0 w : World} {lo hi : Nat} {g n cap : Nat} {zs : List It} {k : Nat} (h : PartZ w0 w lo hi (.slice (some ⟨g, 0, none⟩) n cap) zs k) (hk : k < zs.length) : ∃ rv, w.cell? ⟨g, k * 2, none⟩ = some rv ∧ IntsAt w0 rv (zs.getD k ([], 0)).1 := by
  obtain ⟨ps, he, hs, _, _, hi⟩ := h
  have hl := snd_len he
  exact ⟨_, hs.cell0 (by omega), hi k (Nat.le_refl _) (by omega)⟩
theorem PartZ.frozenAt {w0 w : World} {lo hi : Nat} {g n cap : Nat} {zs : List It} {k : Nat} (h : PartZ w0 w lo hi (.slice (some ⟨g, 0, none⟩) n cap) zs k) (j : Nat) : w.frozen? ⟨g, j, none⟩ = false := by
  obtain ⟨ps, he, hs, _⟩ := h
  exact hs.frozenAt j

theorem PartZ.step {w0 w : World} {lo hi hi' : Nat} {g n cap : Nat} {zs : List It} {k : Nat} (h : PartZ w0 w lo hi (.slice (some ⟨g, 0, none⟩) n cap) zs k) (hk : k < zs.length) {rv : Value} (hrow : Own w lo hi' rv (zs.getD k ([], 0)).1)
    (h1 : hi ≤ hi') (h2 : hi' ≤ w.heap.size) (hf : ∀ b, rv.ownBlock = some b → hi ≤ b) :
    PartZ w0 (w.setCell ⟨g, k * 2, none⟩ rv) lo hi' (.slice (some ⟨g, 0, none⟩) n cap) zs (k + 1) := by
  obtain ⟨ps, he, hs, hr, ha, hi0⟩ := h
  have hl := snd_len he
  have hk' : k < ps.length := by omega
  have s1 := hs.stored0 hk' rv
  have hg := s1.2
  have hne : ∀ {lo' hi' : Nat} {v : Value} {us : List Int}, Own w lo' hi' v us → v.ownBlock = none ∨ v.ownBlock ≠ some g := fun h => row_ne_spine hs h
  refine ⟨ps.set k (rv, (ps.getD k (vn, 0)).2), ?_, s1.1.wide (Nat.le_refl _) h1 (Nat.le_trans h2 hg.size), fun j hj hj' => ?_, fun i j b hij hj hj' hb => ?_, fun j hj hj' => ?_⟩
  · rw [List.map_set, ← he]
    apply List.ext_getElem?
    intro j
    by_cases hjk : j = k
    · subst hjk
      rw [List.getElem?_set_self (by simpa using hk'), List.getElem?_map, List.getElem?_eq_getElem hk']
      simp [List.getD, hk']
    · rw [List.getElem?_set_ne (by omega)]
  · have hjl : j < ps.length := by simpa using hj'
    by_cases hjk : j = k
    · subst hjk
      rw [getD_set_self hk']
      exact hrow.keptB hg (hne hrow)
    · rw [getD_set_ne hjk]
      have := hr j (by omega) hjl
      exact (this.keptB hg (hne this)).wide (Nat.le_refl _) h1 (Nat.le_trans h2 hg.size)
  · have hjl : j < ps.length := by simpa using hj'
    rw [getD_set_ne (by omega)] at hb
    by_cases hjk : j = k
    · subst hjk
      rw [getD_set_self hk']
      intro hb'
      have h3 := hf b hb'
      have h4 := (hr i (by omega) (by omega)).2.1 b hb
      omega
    · rw [getD_set_ne hjk]
      exact ha i j b hij (by omega) hjl hb
  · have hjl : j < ps.length := by simpa using hj'
    rw [getD_set_ne (by omega)]
    exact hi0 j (by omega) hjl

end Go.Proofs.Ytfmgohoddaobmaa

/-
  The contracts of spec.ZSame and impl.ZSame (with slices.EqualFunc and impl.sameItem): both answer whether the lists are one, at all items.
-/
namespace Go.Proofs.Ytfmgohoddaobmaa
open Go.RowKit

theorem specRowSame_val {v v2 : Value} {xs ys : List Int} {c : Bool} (hr : rowSameB xs ys = c) {w : World} (h : IntsAt w v xs) (h2 : IntsAt w v2 ys) : Calls Try.prog 59 #[v, v2] w fun e w' => e = .returned (.bool c) ∧ Drew w w' := hr ▸ specRowSame_q v v2 xs ys w h h2
theorem implRowSame_val {v v2 : Value} {xs ys : List Int} {c : Bool} (hr : rowSameB xs ys = c) {w : World} (h : IntsAt w v xs) (h2 : IntsAt w v2 ys) : Calls Try.prog 77 #[v, v2] w fun e w' => e = .returned (.bool c) ∧ Drew w w' := hr ▸ implRowSame_q v v2 xs ys w h h2

theorem pair_same {p q : It} (h1 : p.2 = q.2) (h2 : rowSameB p.1 q.1 = true) : p = q := by
  rw [same_iff] at h2
  exact Prod.ext (of_decide_eq_true h2) h1
theorem pair_other {p q : It} (h2 : rowSameB p.1 q.1 = false) : p ≠ q := by
  intro e
  subst e
  rw [same_self] at h2
  simp at h2

def zsB (zs ys : List It) : Bool := decide (zs = ys)
theorem zsB_refl (zs : List It) : zsB zs zs = true := by simp [zsB]
theorem zsB_of (xs ys : List It) (hl : xs.length = ys.length) (h : ∀ j, j < xs.length → xs.getD j ([], 0) = ys.getD j ([], 0)) : zsB xs ys = true := by
  unfold zsB
  rw [decide_eq_true_iff]
  apply List.ext_getElem hl
  intro j h1 h2
  have := h j h1
  simpa [List.getD, h1, h2] using this
theorem zsB_len (xs ys : List It) (hl : xs.length ≠ ys.length) : zsB xs ys = false := by
  unfold zsB
  rw [decide_eq_false_iff_not]
  intro h; exact hl (by rw [h])
theorem zsB_at (xs ys : List It) (j : Nat) (h : xs.getD j ([], 0) ≠ ys.getD j ([], 0)) : zsB xs ys = false := by
  unfold zsB
  rw [decide_eq_false_iff_not]
  intro e; exact h (by rw [e])

set_option maxHeartbeats 4000000 in
theorem specZSame_some (b off cap b2 off2 cap2 : Nat) (zs ys : List It) (w : World) (hpos : 0 < zs.length) (hlim : zs.length ≤ 140737488355328) (hlen : zs.length = ys.length) (hbw : b < w.heap.size) (hbw2 : b2 < w.heap.size)
    (hc : ∀ j, j < zs.length → ∃ rv, w.cell? ⟨b, off + j * 2, none⟩ = some rv ∧ w.cell? ⟨b, off + j * 2 + 1, none⟩ = some (.int .i64 (zs.getD j ([], 0)).2) ∧ IntsAt w rv (zs.getD j ([], 0)).1)
    (hc2 : ∀ j, j < zs.length → ∃ rv, w.cell? ⟨b2, off2 + j * 2, none⟩ = some rv ∧ w.cell? ⟨b2, off2 + j * 2 + 1, none⟩ = some (.int .i64 (ys.getD j ([], 0)).2) ∧ IntsAt w rv (ys.getD j ([], 0)).1) :
    Calls Try.prog 33 #[.slice (some ⟨b, off, none⟩) zs.length cap, .slice (some ⟨b2, off2, none⟩) zs.length cap2] w fun e w' => e = .returned (.bool (zsB zs ys)) ∧ Below w.heap.size w w' := by
  obtain ⟨n, hn⟩ : ∃ n, n = zs.length := ⟨_, rfl⟩
  have HN : Hid (n = zs.length) := hn
  have HL : Hid (zs.length = ys.length) := hlen
  rw [← hn] at hpos hlim hc hc2 ⊢
  clear hn hlen
  go_enter Try.func33, Try.ntmps33
  go_wp2
  go_loopw [5] (fun i wr => ∃ k : Nat, k ≤ n ∧ i = .int .i64 k ∧ Hid (Below w.heap.size w wr) ∧ Hid (∀ j, j < k → zs.getD j ([], 0) = ys.getD j ([], 0))) (fun i _ => n - (intOf i).toNat)
  case atStart => exact ⟨0, Nat.zero_le _, rfl, Below.refl _ _, fun j hj => by omega⟩
  case round =>
    obtain ⟨k, hk, rfl, HW, HS⟩ := hrel
    by_cases hlt : k < n
    · have HB := HW.out
      obtain ⟨rv, hrv0, hwt0, hix0⟩ := hc k hlt
      have hrv := (HB.cell (p := ⟨b, off + k * 2, none⟩) hbw).trans hrv0
      have hwt := (HB.cell (p := ⟨b, off + k * 2 + 1, none⟩) hbw).trans hwt0
      have hix := hix0.below HB
      obtain ⟨rv2, hrv02, hwt02, hix02⟩ := hc2 k hlt
      have hrv2 := (HB.cell (p := ⟨b2, off2 + k * 2, none⟩) hbw2).trans hrv02
      have hwt2 := (HB.cell (p := ⟨b2, off2 + k * 2 + 1, none⟩) hbw2).trans hwt02
      have hix2 := hix02.below HB
      clear hrv0 hwt0 hix0 hrv02 hwt02 hix02 HB hc hc2
      obtain ⟨p, HP⟩ : ∃ p, Hid (p = zs.getD k ([], 0)) := ⟨_, rfl⟩
      obtain ⟨q, HQ⟩ : ∃ q, Hid (q = ys.getD k ([], 0)) := ⟨_, rfl⟩
      rw [← HP.out] at hix hwt
      rw [← HQ.out] at hix2 hwt2
      obtain ⟨x, y⟩ := p
      obtain ⟨x2, y2⟩ := q
      simp only at hix hix2 hwt hwt2
      by_cases hy : y = y2
      · have hne : (y != y2) = false := by simp [hy]
        have HY : Hid (y = y2) := hy
        clear hy
        cases hr : rowSameB x x2 with
        | false =>
          go_wp2
          go_quiet ((go_at_call 59; exact Calls.quiet_of (specRowSame_val hr (hix.drewN _) (hix2.drewN _))))
          go_wp2
          go_ret
          exact ⟨ret_bool (zsB_at zs ys k (by rw [← HP.out, ← HQ.out]; exact pair_other hr)).symm, below_then HW.out (below_drewN (Below.refl _ _) _)⟩
        | true =>
          go_wp2
          go_quiet ((go_at_call 59; exact Calls.quiet_of (specRowSame_val hr (hix.drewN _) (hix2.drewN _))))
          go_wp2
          go_roundw
          case rel => exact ⟨k + 1, by omega, by go_num, below_then HW.out (below_drewN (Below.refl _ _) _), fun j hj => by
            rcases Nat.lt_succ_iff_lt_or_eq.1 hj with h | h
            · exact HS.out j h
            · rw [h, ← HP.out, ← HQ.out]; exact pair_same HY.out hr⟩
          case measure => simp [intOf]; omega
      · have hne : (y != y2) = true := by simp [hy]
        go_wp2
        go_quiet (fail)
        go_wp2
        go_ret
        exact ⟨ret_bool (zsB_at zs ys k (by rw [← HP.out, ← HQ.out]; intro e; exact hy (by simpa using congrArg Prod.snd e))).symm, below_then HW.out (below_drewN (Below.refl _ _) _)⟩
    · have e : k = n := by omega
      subst e
      clear hc hc2
      go_wp2
      go_ret
      exact ⟨ret_bool (zsB_of zs ys HL.out (by rw [← HN.out]; exact HS.out)).symm, HW.out⟩

theorem specZSame_len (a : Option Addr) (cap n : Nat) (a2 : Option Addr) (cap2 m : Nat) (w : World) (hne : ((n : Int) != (m : Int)) = true) :
    Calls Try.prog 33 #[.slice a n cap, .slice a2 m cap2] w fun e w' => e = .returned (.bool false) ∧ Below w.heap.size w w' := by
  go_enter Try.func33, Try.ntmps33
  go_wp2
  go_ret
  exact ⟨rfl, Below.refl _ _⟩

theorem specZSame_none (a : Option Addr) (cap : Nat) (a2 : Option Addr) (cap2 : Nat) (w : World) :
    Calls Try.prog 33 #[.slice a 0 cap, .slice a2 0 cap2] w fun e w' => e = .returned (.bool true) ∧ Below w.heap.size w w' := by
  go_enter Try.func33, Try.ntmps33
  go_wp2
  refine wp_loop_rounds 1 ?_
  rw [rounds_succ]
  go_wp2
  go_ret
  exact ⟨rfl, Below.refl _ _⟩

theorem specZSame_any (v v2 : Value) (zs ys : List It) (w : World) (h : ItemsAt w v zs) (h2 : ItemsAt w v2 ys) :
    Calls Try.prog 33 #[v, v2] w fun e w' => e = .returned (.bool (zsB zs ys)) ∧ Below w.heap.size w w' := by
  by_cases hl : zs.length = ys.length
  · rcases h.cases with ⟨a, cap, rfl, rfl⟩ | ⟨b, off, cap, hpos, hlim, rfl, hbw, hc⟩
    · obtain rfl : ys = [] := List.length_eq_zero_iff.1 hl.symm
      obtain ⟨_, a2, cap2, rfl, _⟩ := h2
      exact specZSame_none a cap a2 cap2 w
    · rcases h2.cases with ⟨a2, cap2, rfl, rfl⟩ | ⟨b2, off2, cap2, _, _, rfl, hbw2, hc2⟩
      · simp at hl; simp [hl] at hpos
      · rw [← hl]
        exact specZSame_some b off cap b2 off2 cap2 zs ys w hpos hlim hl hbw hbw2 hc (by rw [hl]; exact hc2)
  · obtain ⟨_, a, cap, rfl, _⟩ := h
    obtain ⟨_, a2, cap2, rfl, _⟩ := h2
    rw [zsB_len zs ys hl]
    exact specZSame_len a cap _ a2 cap2 _ w (by rw [bne_iff_ne]; omega)

set_option maxHeartbeats 2000000 in
theorem sameItem_any (a : Option Addr) (n cap : Nat) (y : Int) (xs : List Int) (a2 : Option Addr) (n2 cap2 : Nat) (y2 : Int) (xs2 : List Int) (w : World) (h : IntsAt w (.slice a n cap) xs) (h2 : IntsAt w (.slice a2 n2 cap2) xs2) :
    Calls Try.prog 63 #[.agg #[.slice a n cap, .int .i64 y], .agg #[.slice a2 n2 cap2, .int .i64 y2]] w fun e w' => ∃ c, e = .returned (.bool c) ∧ (c = true → (xs, y) = (xs2, y2)) ∧ (c = false → (xs, y) ≠ (xs2, y2)) ∧ Below w.heap.size w w' := by
  have ha := (h.alloc (.cells #[.slice a n cap, .int .i64 y] 115)).alloc (.cells #[.slice a2 n2 cap2, .int .i64 y2] 115)
  have ha2 := (h2.alloc (.cells #[.slice a n cap, .int .i64 y] 115)).alloc (.cells #[.slice a2 n2 cap2, .int .i64 y2] 115)
  clear h h2
  by_cases hy : y = y2
  · have hne : (y == y2) = true := by simp [hy]
    have HY : Hid (y = y2) := hy
    clear hy
    cases hs : rowSameB xs xs2 with
    | false =>
      go_enter Try.func63, Try.ntmps63
      go_wp2_with fail
      refine (implRowSame_val hs ha ha2).mono ?_
      rintro e w1 ⟨rfl, hb1⟩
      clear ha ha2
      go_wp2
      go_ret
      exact ⟨false, rfl, fun h => by simp at h, fun _ => pair_other hs, below_then (below_then (below_alloc _) (below_alloc _)) hb1.below⟩
    | true =>
      go_enter Try.func63, Try.ntmps63
      go_wp2_with fail
      refine (implRowSame_val hs ha ha2).mono ?_
      rintro e w1 ⟨rfl, hb1⟩
      clear ha ha2
      go_wp2
      go_ret
      exact ⟨true, rfl, fun _ => pair_same HY.out hs, fun h => by simp at h, below_then (below_then (below_alloc _) (below_alloc _)) hb1.below⟩
  · have hne : (y == y2) = false := by simp [hy]
    go_enter Try.func63, Try.ntmps63
    go_wp2
    go_ret
    exact ⟨false, rfl, fun h => by simp at h, fun _ e => hy (by simpa using congrArg Prod.snd e), below_then (below_alloc _) (below_alloc _)⟩

set_option maxHeartbeats 4000000 in
theorem equalFunc_some (b off cap b2 off2 cap2 : Nat) (zs ys : List It) (w : World) (hpos : 0 < zs.length) (hlim : zs.length ≤ 140737488355328) (hlen : zs.length = ys.length) (hbw : b < w.heap.size) (hbw2 : b2 < w.heap.size)
    (hc : ∀ j, j < zs.length → ∃ rv, w.cell? ⟨b, off + j * 2, none⟩ = some rv ∧ w.cell? ⟨b, off + j * 2 + 1, none⟩ = some (.int .i64 (zs.getD j ([], 0)).2) ∧ IntsAt w rv (zs.getD j ([], 0)).1)
    (hc2 : ∀ j, j < zs.length → ∃ rv, w.cell? ⟨b2, off2 + j * 2, none⟩ = some rv ∧ w.cell? ⟨b2, off2 + j * 2 + 1, none⟩ = some (.int .i64 (ys.getD j ([], 0)).2) ∧ IntsAt w rv (ys.getD j ([], 0)).1) :
    Calls Try.prog 62 #[.slice (some ⟨b, off, none⟩) zs.length cap, .slice (some ⟨b2, off2, none⟩) zs.length cap2, .func (.func 63) #[] #[]] w fun e w' => e = .returned (.bool (zsB zs ys)) ∧ Below w.heap.size w w' := by
  obtain ⟨n, hn⟩ : ∃ n, n = zs.length := ⟨_, rfl⟩
  have HN : Hid (n = zs.length) := hn
  have HL : Hid (zs.length = ys.length) := hlen
  rw [← hn] at hpos hlim hc hc2 ⊢
  clear hn hlen
  go_enter Try.func62, Try.ntmps62
  go_wp2
  go_loopw [17] (fun i wr => ∃ k : Nat, k ≤ n ∧ i = .int .i64 k ∧ Hid (Below w.heap.size w wr) ∧ Hid (∀ j, j < k → zs.getD j ([], 0) = ys.getD j ([], 0))) (fun i _ => n - (intOf i).toNat)
  case atStart => exact ⟨0, Nat.zero_le _, rfl, Below.refl _ _, fun j hj => by omega⟩
  case round =>
    obtain ⟨k, hk, rfl, HW, HS⟩ := hrel
    by_cases hlt : k < n
    · have HB := HW.out
      obtain ⟨rv, hrv0, hwt0, hix0⟩ := hc k hlt
      have hrv := (HB.cell (p := ⟨b, off + k * 2, none⟩) hbw).trans hrv0
      have hwt := (HB.cell (p := ⟨b, off + k * 2 + 1, none⟩) hbw).trans hwt0
      have hix := hix0.below HB
      obtain ⟨rv2, hrv02, hwt02, hix02⟩ := hc2 k hlt
      have hrv2 := (HB.cell (p := ⟨b2, off2 + k * 2, none⟩) hbw2).trans hrv02
      have hwt2 := (HB.cell (p := ⟨b2, off2 + k * 2 + 1, none⟩) hbw2).trans hwt02
      have hix2 := hix02.below HB
      have hbr : b < wr.heap.size := Nat.lt_of_lt_of_le hbw HB.size
      have hbr2 : b2 < wr.heap.size := Nat.lt_of_lt_of_le hbw2 HB.size
      clear hrv0 hwt0 hix0 hrv02 hwt02 hix02 HB hc hc2
      obtain ⟨p, HP⟩ : ∃ p, Hid (p = zs.getD k ([], 0)) := ⟨_, rfl⟩
      obtain ⟨q, HQ⟩ : ∃ q, Hid (q = ys.getD k ([], 0)) := ⟨_, rfl⟩
      rw [← HP.out] at hix hwt
      rw [← HQ.out] at hix2 hwt2
      obtain ⟨x, y⟩ := p
      obtain ⟨x2, y2⟩ := q
      obtain ⟨ra, rn, rc, rfl⟩ := hix.shape
      obtain ⟨ra2, rn2, rc2, rfl⟩ := hix2.shape
      simp only at hix hix2 hwt hwt2
      go_wp2_with fail
      refine (sameItem_any ra rn rc y x ra2 rn2 rc2 y2 x2 _ ((hix.alloc _).alloc _) ((hix2.alloc _).alloc _)).mono ?_
      rintro e w1 ⟨c, rfl, h1, h2, hb1⟩
      have HK : Hid (Below w.heap.size w w1) := below_then (below_then HW.out (below_then (below_alloc _) (below_alloc _))) hb1
      clear hb1 hrv hwt hrv2 hwt2 hix hix2
      cases c with
      | false =>
        have H2 : Hid ((x, y) ≠ (x2, y2)) := h2 rfl
        clear h1 h2
        go_wp2
        go_ret
        exact ⟨ret_bool (zsB_at zs ys k (by rw [← HP.out, ← HQ.out]; exact H2.out)).symm, HK.out⟩
      | true =>
        have H1 : Hid ((x, y) = (x2, y2)) := h1 rfl
        clear h1 h2
        go_wp2
        go_roundw
        case rel => exact ⟨k + 1, by omega, by go_num, HK.out, fun j hj => by
          rcases Nat.lt_succ_iff_lt_or_eq.1 hj with h | h
          · exact HS.out j h
          · rw [h, ← HP.out, ← HQ.out]; exact H1.out⟩
        case measure => simp [intOf]; omega
    · have e : k = n := by omega
      subst e
      clear hc hc2
      go_wp2
      go_ret
      exact ⟨ret_bool (zsB_of zs ys HL.out (by rw [← HN.out]; exact HS.out)).symm, HW.out⟩

theorem equalFunc_len (a : Option Addr) (cap n : Nat) (a2 : Option Addr) (cap2 m : Nat) (f : Value) (w : World) (hne : ((n : Int) != (m : Int)) = true) :
    Calls Try.prog 62 #[.slice a n cap, .slice a2 m cap2, f] w fun e w' => e = .returned (.bool false) ∧ Below w.heap.size w w' := by
  go_enter Try.func62, Try.ntmps62
  go_wp2
  go_ret
  exact ⟨rfl, Below.refl _ _⟩

theorem equalFunc_none (a : Option Addr) (cap : Nat) (a2 : Option Addr) (cap2 : Nat) (f : Value) (w : World) :
    Calls Try.prog 62 #[.slice a 0 cap, .slice a2 0 cap2, f] w fun e w' => e = .returned (.bool true) ∧ Below w.heap.size w w' := by
  go_enter Try.func62, Try.ntmps62
  go_wp2
  refine wp_loop_rounds 1 ?_
  rw [rounds_succ]
  go_wp2
  go_ret
  exact ⟨rfl, Below.refl _ _⟩

theorem equalFunc_any (v v2 : Value) (zs ys : List It) (w : World) (h : ItemsAt w v zs) (h2 : ItemsAt w v2 ys) :
    Calls Try.prog 62 #[v, v2, .func (.func 63) #[] #[]] w fun e w' => e = .returned (.bool (zsB zs ys)) ∧ Below w.heap.size w w' := by
  by_cases hl : zs.length = ys.length
  · rcases h.cases with ⟨a, cap, rfl, rfl⟩ | ⟨b, off, cap, hpos, hlim, rfl, hbw, hc⟩
    · obtain rfl : ys = [] := List.length_eq_zero_iff.1 hl.symm
      obtain ⟨_, a2, cap2, rfl, _⟩ := h2
      exact equalFunc_none a cap a2 cap2 _ w
    · rcases h2.cases with ⟨a2, cap2, rfl, rfl⟩ | ⟨b2, off2, cap2, _, _, rfl, hbw2, hc2⟩
      · simp at hl; simp [hl] at hpos
      · rw [← hl]
        exact equalFunc_some b off cap b2 off2 cap2 zs ys w hpos hlim hl hbw hbw2 hc (by rw [hl]; exact hc2)
  · obtain ⟨_, a, cap, rfl, _⟩ := h
    obtain ⟨_, a2, cap2, rfl, _⟩ := h2
    rw [zsB_len zs ys hl]
    exact equalFunc_len a cap _ a2 cap2 _ _ w (by rw [bne_iff_ne]; omega)

theorem implZSame_any (v v2 : Value) (zs ys : List It) (w : World) (h : ItemsAt w v zs) (h2 : ItemsAt w v2 ys) :
    Calls Try.prog 40 #[v, v2] w fun e w' => e = .returned (.bool (zsB zs ys)) ∧ Below w.heap.size w w' := by
  go_enter Try.func40, Try.ntmps40
  go_wp2_with fail
  refine (equalFunc_any v v2 zs ys _ h h2).mono ?_
  rintro e w1 ⟨rfl, hb1⟩
  clear h h2
  go_wp2
  go_ret
  exact ⟨rfl, hb1⟩

end Go.Proofs.Ytfmgohoddaobmaa

/-
  The contracts of spec.ZGet and impl.ZGet (with slices.BinarySearchFunc and impl.compareItems): the weight of a row, or 0; 0 of items that are not right.
-/
namespace Go.Proofs.Ytfmgohoddaobmaa
open Go.RowKit

/-- The weight of the first item with that row, or 0. -/
def getZ (zs : List It) (r : List Int) : Int := ((zs.find? fun p => decide (p.1 = r)).map (·.2)).getD 0

theorem getZ_at {zs : List It} {r : List Int} {k : Nat} (hk : k < zs.length) (h : ∀ j, j < k → (zs.getD j ([], 0)).1 ≠ r) (he : (zs.getD k ([], 0)).1 = r) : getZ zs r = (zs.getD k ([], 0)).2 := by
  induction zs generalizing k with
  | nil => simp at hk
  | cons p zs ih =>
    cases k with
    | zero =>
      simp at he
      simp [getZ, he]
    | succ k =>
      have h0 := h 0 (by omega)
      simp at h0
      have := ih (k := k) (by simpa using hk) (fun j hj => by simpa using h (j + 1) (by omega)) (by simpa using he)
      simp only [getZ, List.find?_cons, h0, decide_false] at this ⊢
      simpa using this
theorem getZ_none {zs : List It} {r : List Int} (h : ∀ j, j < zs.length → (zs.getD j ([], 0)).1 ≠ r) : getZ zs r = 0 := by
  have : zs.find? (fun p => decide (p.1 = r)) = none := by
    rw [List.find?_eq_none]
    intro p hp
    obtain ⟨j, hj, rfl⟩ := mem_getD (d := ([], 0)) hp
    simpa using h j hj
  simp [getZ, this]

theorem zOk_step {zs : List It} (h : zOkB zs = true) {k : Nat} (hk : k + 1 < zs.length) : ordL (zs.getD k ([], 0)).1 (zs.getD (k + 1) ([], 0)).1 = -1 := by
  unfold zOkB at h
  rw [Bool.and_eq_true, List.all_eq_true] at h
  have := h.2 (k + 1) (List.mem_range.2 hk)
  unfold stepB at this
  rw [Bool.and_eq_true] at this
  have h2 := this.2
  simp at h2
  unfold rowLessB at h2
  have h3 := of_decide_eq_true h2
  rcases ordL_cases (zs.getD k ([], 0)).1 (zs.getD (k + 1) ([], 0)).1 with c | c | c <;> simp only [List.getD] at * <;> omega
theorem zOk_lt {zs : List It} (h : zOkB zs = true) : ∀ (d i : Nat), i + d + 1 < zs.length → ordL (zs.getD i ([], 0)).1 (zs.getD (i + d + 1) ([], 0)).1 = -1
  | 0, i, hi => zOk_step h hi
  | d + 1, i, hi => ordL_trans _ _ _ (zOk_lt h d i (by omega)) (by have := zOk_step h (k := i + d + 1) (by omega); exact this)
theorem zOk_ord {zs : List It} (h : zOkB zs = true) {i j : Nat} (hij : i < j) (hj : j < zs.length) : ordL (zs.getD i ([], 0)).1 (zs.getD j ([], 0)).1 = -1 := by
  have := zOk_lt h (j - i - 1) i (by omega)
  rwa [show i + (j - i - 1) + 1 = j by omega] at this

theorem ordL_eq {xs ys : List Int} : ordL xs ys = 0 ↔ xs = ys := by
  constructor
  · intro h
    rcases ordL_cases xs ys with c | c | c
    · omega
    · exact c.2.2
    · omega
  · rintro rfl; exact ordL_self _

theorem row_eq {x r : List Int} (hs : rowSameB x r = true) : x = r := by
  rw [same_iff] at hs
  exact of_decide_eq_true hs

end Go.Proofs.Ytfmgohoddaobmaa

/-
  The contracts of impl.ZNeg and spec.ZNeg: each weight with the other sign, in memory of their own; none of items that are not right.
-/
namespace Go.Proofs.Ytfmgohoddaobmaa
set_option maxRecDepth 100000
open Go.RowKit

def negZ (zs : List It) : List It := zs.map fun p => (p.1, -p.2)
/-- Behind k rounds in place. -/
def negTo (zs : List It) (k : Nat) : List It := negZ (zs.take k) ++ zs.drop k
theorem negZ_length (zs : List It) : (negZ zs).length = zs.length := by simp [negZ]
theorem negTo_length (zs : List It) (k : Nat) (hk : k ≤ zs.length) : (negTo zs k).length = zs.length := by simp [negTo, negZ]; omega
theorem negTo_get {zs : List It} {k : Nat} (hk : k < zs.length) : (negTo zs k).getD k ([], 0) = zs.getD k ([], 0) := by
  unfold negTo
  have h1 : (negZ (zs.take k)).length = k := by simp [negZ]; omega
  simp only [List.getD]
  rw [List.getElem?_append_right (by omega), h1, List.getElem?_drop]
  simp
theorem negZ_take {zs : List It} {k : Nat} (hk : k < zs.length) : negZ (zs.take (k + 1)) = negZ (zs.take k) ++ [((zs.getD k ([], 0)).1, -(zs.getD k ([], 0)).2)] := by
  unfold negZ
  rw [List.take_succ_eq_append_getElem hk, List.map_append]
  simp [List.getD, hk]
theorem negTo_set {zs : List It} {k : Nat} (hk : k < zs.length) : (negTo zs k).set k ((zs.getD k ([], 0)).1, -(zs.getD k ([], 0)).2) = negTo zs (k + 1) := by
  unfold negTo
  have h1 : (negZ (zs.take k)).length = k := by simp [negZ]; omega
  rw [List.set_append_right _ _ (by omega), h1, Nat.sub_self, List.drop_eq_getElem_cons hk, List.set_cons_zero, negZ_take hk, List.append_assoc]
  rfl
theorem wB_in {y : Int} (h : wB y = true) : y ≠ 0 ∧ -10000 ≤ y ∧ y ≤ 10000 := by unfold wB at h; exact of_decide_eq_true h

end Go.Proofs.Ytfmgohoddaobmaa

/-
  Plain facts on items as lists: a row put so often into items in order, two lists merged, and what is looked up there; two lists in order without a weight of 0 that answer the same at every row are one.
-/
namespace Go.Proofs.Ytfmgohoddaobmaa

/-- Rows in order, each once. -/
def Srt (zs : List It) : Prop := zs.Pairwise fun p q => ordL p.1 q.1 = -1
def Nz (zs : List It) : Prop := ∀ p ∈ zs, p.2 ≠ 0

theorem ordL_ne {a b : List Int} (h : ordL a b = -1) : a ≠ b := fun e => by rw [e, ordL_self] at h; omega
theorem ordL_flip {a b : List Int} (h : ¬ ordL a b = -1) (hne : a ≠ b) : ordL b a = -1 := by
  rcases ordL_cases a b with c | c | c
  · exact absurd c.1 h
  · exact absurd c.2.2 hne
  · exact c.2

theorem getZ_nil (q : List Int) : getZ [] q = 0 := rfl
theorem getZ_cons (p : It) (zs : List It) (q : List Int) : getZ (p :: zs) q = if p.1 = q then p.2 else getZ zs q := by
  unfold getZ
  by_cases h : p.1 = q
  · simp [h]
  · simp [h]
theorem getZ_zero {zs : List It} {q : List Int} (h : ∀ p ∈ zs, p.1 ≠ q) : getZ zs q = 0 := by
  induction zs with
  | nil => rfl
  | cons p zs ih =>
    rw [getZ_cons, if_neg (h p (by simp))]
    exact ih fun x hx => h x (by simp [hx])
theorem Srt.cons {p : It} {zs : List It} : Srt (p :: zs) ↔ (∀ x ∈ zs, ordL p.1 x.1 = -1) ∧ Srt zs := List.pairwise_cons
theorem Srt.nil : Srt [] := List.Pairwise.nil
theorem getZ_ahead {p : It} {zs : List It} (h : Srt (p :: zs)) : getZ zs p.1 = 0 := getZ_zero fun x hx e => ordL_ne ((Srt.cons.1 h).1 x hx) e.symm
theorem getZ_below {p : It} {zs : List It} {q : List Int} (h : Srt (p :: zs)) (hq : ordL q p.1 = -1) : getZ (p :: zs) q = 0 := by
  refine getZ_zero fun x hx e => ?_
  rcases List.mem_cons.1 hx with rfl | hx
  · exact ordL_ne hq e.symm
  · exact ordL_ne (ordL_trans _ _ _ hq ((Srt.cons.1 h).1 x hx)) e.symm

/-- A row is put so often into items in order. -/
def putZ : List It → List Int → Int → List It
  | [], r, y => if y = 0 then [] else [(r, y)]
  | p :: zs, r, y => if ordL p.1 r = -1 then p :: putZ zs r y
      else if p.1 = r then (if p.2 + y = 0 then zs else (p.1, p.2 + y) :: zs)
      else if y = 0 then p :: zs else (r, y) :: p :: zs

theorem putZ_drop (r : List Int) (y : Int) : ∀ (k : Nat) (zs : List It), (∀ j, j < k → ordL (zs.getD j ([], 0)).1 r = -1) → k ≤ zs.length → putZ zs r y = zs.take k ++ putZ (zs.drop k) r y
  | 0, zs, _, _ => by simp
  | k + 1, [], _, h => by simp at h
  | k + 1, p :: zs, h, hl => by
    have h0 := h 0 (by omega)
    simp at h0
    have ih := putZ_drop r y k zs (fun j hj => by simpa using h (j + 1) (by omega)) (by simpa using hl)
    rw [putZ, if_pos h0, ih]
    simp
theorem putZ_same {zs : List It} {r : List Int} {k : Nat} (y : Int) (h : ∀ j, j < k → ordL (zs.getD j ([], 0)).1 r = -1) (hk : k < zs.length) (he : (zs.getD k ([], 0)).1 = r) :
    putZ zs r y = if (zs.getD k ([], 0)).2 + y = 0 then zs.take k ++ zs.drop (k + 1) else zs.set k (r, (zs.getD k ([], 0)).2 + y) := by
  have e1 : zs.getD k ([], 0) = zs[k] := by simp [List.getD, hk]
  rw [putZ_drop r y k zs h (by omega), List.drop_eq_getElem_cons hk, putZ]
  rw [e1] at he ⊢
  have h1 : ¬ ordL zs[k].1 r = -1 := by rw [he, ordL_self]; omega
  rw [if_neg h1, if_pos he]
  by_cases h0 : zs[k].2 + y = 0
  · rw [if_pos h0, if_pos h0]
  · rw [if_neg h0, if_neg h0, he, List.set_eq_take_append_cons_drop, if_pos hk]
theorem putZ_new {zs : List It} {r : List Int} {k : Nat} {y : Int} (hy : y ≠ 0) (h : ∀ j, j < k → ordL (zs.getD j ([], 0)).1 r = -1) (hk : k ≤ zs.length) (he : k < zs.length → ordL (zs.getD k ([], 0)).1 r ≠ -1 ∧ (zs.getD k ([], 0)).1 ≠ r) :
    putZ zs r y = zs.take k ++ (r, y) :: zs.drop k := by
  rw [putZ_drop r y k zs h hk]
  by_cases hlt : k < zs.length
  · have e1 : zs.getD k ([], 0) = zs[k] := by simp [List.getD, hlt]
    obtain ⟨h1, h2⟩ := he hlt
    rw [e1] at h1 h2
    rw [List.drop_eq_getElem_cons hlt, putZ, if_neg h1, if_neg h2, if_neg hy]
  · rw [List.drop_eq_nil_of_le (by omega), putZ, if_neg hy]
theorem putZ_zero {zs : List It} {r : List Int} {k : Nat} (h : ∀ j, j < k → ordL (zs.getD j ([], 0)).1 r = -1) (hk : k ≤ zs.length) (he : k < zs.length → ordL (zs.getD k ([], 0)).1 r ≠ -1 ∧ (zs.getD k ([], 0)).1 ≠ r) :
    putZ zs r 0 = zs := by
  rw [putZ_drop r 0 k zs h hk]
  by_cases hlt : k < zs.length
  · have e1 : zs.getD k ([], 0) = zs[k] := by simp [List.getD, hlt]
    obtain ⟨h1, h2⟩ := he hlt
    rw [e1] at h1 h2
    conv => lhs; rw [List.drop_eq_getElem_cons hlt, putZ, if_neg h1, if_neg h2, if_pos rfl]
    rw [← List.drop_eq_getElem_cons hlt, List.take_append_drop]
  · rw [List.drop_eq_nil_of_le (by omega), putZ, if_pos rfl, List.append_nil, List.take_of_length_le (by omega)]

theorem mem_put {x : It} {r : List Int} {y : Int} : ∀ {zs : List It}, x ∈ putZ zs r y → x ∈ zs ∨ x.1 = r
  | [], h => by
    unfold putZ at h
    split at h <;> simp at h
    exact .inr (by rw [h])
  | p :: zs, h => by
    unfold putZ at h
    split at h
    · rcases List.mem_cons.1 h with rfl | h
      · exact .inl (by simp)
      · rcases mem_put h with h | h
        · exact .inl (by simp [h])
        · exact .inr h
    · split at h
      · rename_i hp
        split at h
        · exact .inl (by simp [h])
        · rcases List.mem_cons.1 h with rfl | h
          · exact .inr hp
          · exact .inl (by simp [h])
      · split at h
        · exact .inl h
        · rcases List.mem_cons.1 h with rfl | h
          · exact .inr rfl
          · exact .inl h
theorem put_bound {B C : Int} {r : List Int} {y : Int} (hC : -C ≤ y ∧ y ≤ C) (hB0 : 0 ≤ B) (hC0 : 0 ≤ C) : ∀ {zs : List It}, (∀ p ∈ zs, -B ≤ p.2 ∧ p.2 ≤ B) → ∀ x ∈ putZ zs r y, -(B + C) ≤ x.2 ∧ x.2 ≤ B + C
  | [], _, x, hx => by
    unfold putZ at hx
    split at hx <;> simp at hx
    rw [hx]
    show -(B + C) ≤ y ∧ y ≤ B + C
    omega
  | p :: zs, hB, x, hx => by
    have hp := hB p (by simp)
    have hz : ∀ q ∈ zs, -B ≤ q.2 ∧ q.2 ≤ B := fun q hq => hB q (by simp [hq])
    have wide : ∀ q ∈ p :: zs, -(B + C) ≤ q.2 ∧ q.2 ≤ B + C := fun q hq => by have := hB q hq; omega
    unfold putZ at hx
    split at hx
    · rcases List.mem_cons.1 hx with rfl | hx
      · exact wide _ (by simp)
      · exact put_bound hC hB0 hC0 hz x hx
    · split at hx
      · split at hx
        · exact wide x (by simp [hx])
        · rcases List.mem_cons.1 hx with rfl | hx
          · show -(B + C) ≤ p.2 + y ∧ p.2 + y ≤ B + C
            omega
          · exact wide x (by simp [hx])
      · split at hx
        · exact wide x hx
        · rcases List.mem_cons.1 hx with rfl | hx
          · show -(B + C) ≤ y ∧ y ≤ B + C
            omega
          · exact wide x hx
theorem put_len (r : List Int) (y : Int) : ∀ zs : List It, (putZ zs r y).length ≤ zs.length + 1
  | [] => by unfold putZ; split <;> simp
  | p :: zs => by
    have := put_len r y zs
    unfold putZ
    split
    · simp; omega
    · split
      · split <;> simp <;> omega
      · split <;> simp
theorem srt_put {r : List Int} {y : Int} : ∀ {zs : List It}, Srt zs → Srt (putZ zs r y)
  | [], _ => by
    unfold putZ
    split
    · exact Srt.nil
    · exact Srt.cons.2 ⟨fun x hx => by simp at hx, Srt.nil⟩
  | p :: zs, h => by
    obtain ⟨h1, h2⟩ := Srt.cons.1 h
    unfold putZ
    split
    · rename_i hp
      refine Srt.cons.2 ⟨fun x hx => ?_, srt_put h2⟩
      rcases mem_put hx with hx | hx
      · exact h1 x hx
      · rw [hx]; exact hp
    · rename_i hp
      split
      · split
        · exact h2
        · exact Srt.cons.2 ⟨h1, h2⟩
      · rename_i hne
        split
        · exact h
        · have hr := ordL_flip hp hne
          refine Srt.cons.2 ⟨fun x hx => ?_, h⟩
          rcases List.mem_cons.1 hx with rfl | hx
          · exact hr
          · exact ordL_trans _ _ _ hr (h1 x hx)
theorem nz_put {r : List Int} {y : Int} : ∀ {zs : List It}, Nz zs → Nz (putZ zs r y)
  | [], _ => by
    unfold putZ
    split
    · intro p hp; simp at hp
    · rename_i hy
      intro p hp
      simp at hp
      rw [hp]; exact hy
  | p :: zs, h => by
    have hp := h p (by simp)
    have hz : Nz zs := fun q hq => h q (by simp [hq])
    intro x hx
    unfold putZ at hx
    split at hx
    · rcases List.mem_cons.1 hx with rfl | hx
      · exact hp
      · exact nz_put hz x hx
    · split at hx
      · split at hx
        · exact hz x hx
        · rename_i h0
          rcases List.mem_cons.1 hx with rfl | hx
          · exact h0
          · exact hz x hx
      · split at hx
        · exact h x hx
        · rename_i hy
          rcases List.mem_cons.1 hx with rfl | hx
          · exact hy
          · exact h x hx
theorem getZ_put {r q : List Int} {y : Int} : ∀ {zs : List It}, Srt zs → getZ (putZ zs r y) q = getZ zs q + (if r = q then y else 0)
  | [], _ => by
    unfold putZ
    split
    · rename_i hy
      subst hy
      simp [getZ_nil]
    · rw [getZ_cons, getZ_nil]; simp
  | p :: zs, h => by
    obtain ⟨h1, h2⟩ := Srt.cons.1 h
    have ih := getZ_put (r := r) (q := q) (y := y) h2
    unfold putZ
    split
    · rename_i hp
      rw [getZ_cons, getZ_cons]
      by_cases hq : p.1 = q
      · have hne : r ≠ q := fun e => ordL_ne hp (hq.trans e.symm)
        simp [hq, hne]
      · rw [if_neg hq, if_neg hq, ih]
    · rename_i hp
      split
      · rename_i hpr
        have h0 := getZ_ahead h
        split
        · rename_i hs
          rw [getZ_cons]
          by_cases hq : r = q
          · subst hq
            rw [hpr] at h0
            rw [if_pos hpr, if_pos rfl, h0]; omega
          · have hq' : p.1 ≠ q := fun e => hq (hpr.symm.trans e)
            rw [if_neg hq', if_neg hq]; omega
        · rw [getZ_cons, getZ_cons]
          by_cases hq : r = q
          · subst hq
            rw [if_pos hpr, if_pos hpr, if_pos rfl]
          · have hq' : p.1 ≠ q := fun e => hq (hpr.symm.trans e)
            rw [if_neg hq', if_neg hq', if_neg hq]; omega
      · rename_i hne
        split
        · rename_i hy
          subst hy
          simp
        · have hr := ordL_flip hp hne
          rw [getZ_cons]
          by_cases hq : r = q
          · subst hq
            have := getZ_below h hr
            rw [if_pos rfl, if_pos rfl, this]; omega
          · rw [if_neg hq, if_neg hq]; omega

/-- Items in order without a weight of 0 are told by what they answer. -/
theorem canon : ∀ {xs ys : List It}, Srt xs → Nz xs → Srt ys → Nz ys → (∀ q, getZ xs q = getZ ys q) → xs = ys
  | [], [], _, _, _, _, _ => rfl
  | [], y :: ys, _, _, _, hn, h => by
    have := h y.1
    rw [getZ_nil, getZ_cons, if_pos rfl] at this
    exact absurd this.symm (hn y (by simp))
  | x :: xs, [], _, hn, _, _, h => by
    have := h x.1
    rw [getZ_nil, getZ_cons, if_pos rfl] at this
    exact absurd this (hn x (by simp))
  | x :: xs, y :: ys, hx, hnx, hy, hny, h => by
    by_cases e : x.1 = y.1
    · have hw : x.2 = y.2 := by
        have := h x.1
        rwa [getZ_cons, if_pos rfl, getZ_cons, if_pos e.symm] at this
      have ih : xs = ys := canon (Srt.cons.1 hx).2 (fun q hq => hnx q (by simp [hq])) (Srt.cons.1 hy).2 (fun q hq => hny q (by simp [hq])) fun q => by
        by_cases hq : x.1 = q
        · subst hq
          rw [getZ_ahead hx, e, getZ_ahead hy]
        · have := h q
          rwa [getZ_cons, if_neg hq, getZ_cons, if_neg (by rw [← e]; exact hq)] at this
      rw [ih, show x = y from Prod.ext e hw]
    · by_cases hl : ordL x.1 y.1 = -1
      · have := h x.1
        rw [getZ_below hy hl, getZ_cons, if_pos rfl] at this
        exact absurd this (hnx x (by simp))
      · have hl' := ordL_flip hl e
        have := h y.1
        rw [getZ_below hx hl', getZ_cons, if_pos rfl] at this
        exact absurd this.symm (hny y (by simp))

/-- All of one list put into another one, one behind the other. -/
def addZ (a b : List It) : List It := b.foldl (fun z p => putZ z p.1 p.2) a
theorem addZ_nil (a : List It) : addZ a [] = a := rfl
theorem addZ_cons (a : List It) (p : It) (b : List It) : addZ a (p :: b) = addZ (putZ a p.1 p.2) b := rfl
theorem addZ_snoc (a b : List It) (p : It) : addZ a (b ++ [p]) = putZ (addZ a b) p.1 p.2 := by simp [addZ, List.foldl_append]
theorem srt_add : ∀ {b a : List It}, Srt a → Srt (addZ a b)
  | [], _, h => h
  | p :: b, a, h => by rw [addZ_cons]; exact srt_add (srt_put h)
theorem nz_add : ∀ {b a : List It}, Nz a → Nz (addZ a b)
  | [], _, h => h
  | p :: b, a, h => by rw [addZ_cons]; exact nz_add (nz_put h)
theorem getZ_add {q : List Int} : ∀ {b a : List It}, Srt a → Srt b → getZ (addZ a b) q = getZ a q + getZ b q
  | [], a, _, _ => by rw [addZ_nil, getZ_nil]; omega
  | p :: b, a, ha, hb => by
    rw [addZ_cons, getZ_add (srt_put ha) (Srt.cons.1 hb).2, getZ_put ha, getZ_cons]
    by_cases hq : p.1 = q
    · have := getZ_ahead hb
      rw [hq] at this
      rw [if_pos hq, if_pos hq, this]; omega
    · rw [if_neg hq, if_neg hq]; omega

/-- One item and a list merged into another list: what is behind the item is merged by rest. -/
def mrgIn (x : It) (rest : List It → List It) : List It → List It
  | [] => x :: rest []
  | y :: b => if ordL x.1 y.1 = -1 then x :: rest (y :: b) else if ordL x.1 y.1 = 1 then y :: mrgIn x rest b else (x.1, x.2 + y.2) :: rest b
/-- Two lists merged, however much a weight comes to. -/
def mrgZ : List It → List It → List It
  | [] => fun b => b
  | x :: a => mrgIn x (mrgZ a)
theorem mrgZ_nil (b : List It) : mrgZ [] b = b := rfl
theorem mrgZ_nil' : ∀ a : List It, mrgZ a [] = a
  | [] => rfl
  | x :: a => by
    show x :: mrgZ a [] = x :: a
    rw [mrgZ_nil' a]
theorem mrgZ_cons (x y : It) (a b : List It) : mrgZ (x :: a) (y :: b) = if ordL x.1 y.1 = -1 then x :: mrgZ a (y :: b) else if ordL x.1 y.1 = 1 then y :: mrgZ (x :: a) b else (x.1, x.2 + y.2) :: mrgZ a b := rfl
theorem mem_mrg {x : It} : ∀ (n : Nat) {a b : List It}, a.length + b.length ≤ n → x ∈ mrgZ a b → (∃ p ∈ a, x.1 = p.1) ∨ ∃ p ∈ b, x.1 = p.1
  | _, [], b, _, h => by rw [mrgZ_nil] at h; exact .inr ⟨x, h, rfl⟩
  | _, p :: a, [], _, h => by rw [mrgZ_nil'] at h; exact .inl ⟨x, h, rfl⟩
  | 0, _ :: _, _ :: _, hn, _ => by simp at hn
  | n + 1, p :: a, q :: b, hn, h => by
    rw [mrgZ_cons] at h
    simp only [List.length_cons] at hn
    split at h
    · rcases List.mem_cons.1 h with rfl | h
      · exact .inl ⟨_, by simp, rfl⟩
      · rcases mem_mrg n (by simp only [List.length_cons]; omega) h with ⟨z, hz, e⟩ | h
        · exact .inl ⟨z, by simp [hz], e⟩
        · exact .inr h
    · split at h
      · rcases List.mem_cons.1 h with rfl | h
        · exact .inr ⟨_, by simp, rfl⟩
        · rcases mem_mrg n (by simp only [List.length_cons]; omega) h with h | ⟨z, hz, e⟩
          · exact .inl h
          · exact .inr ⟨z, by simp [hz], e⟩
      · rcases List.mem_cons.1 h with rfl | h
        · exact .inl ⟨p, by simp, rfl⟩
        · rcases mem_mrg n (by omega) h with ⟨z, hz, e⟩ | ⟨z, hz, e⟩
          · exact .inl ⟨z, by simp [hz], e⟩
          · exact .inr ⟨z, by simp [hz], e⟩
theorem mrg_facts (q : List Int) : ∀ (n : Nat) {a b : List It}, a.length + b.length ≤ n → Srt a → Srt b → Srt (mrgZ a b) ∧ getZ (mrgZ a b) q = getZ a q + getZ b q
  | _, [], b, _, _, hb => by rw [mrgZ_nil, getZ_nil]; exact ⟨hb, by omega⟩
  | _, p :: a, [], _, ha, _ => by rw [mrgZ_nil', getZ_nil]; exact ⟨ha, by omega⟩
  | 0, _ :: _, _ :: _, hn, _, _ => by simp at hn
  | n + 1, x :: a, y :: b, hn, ha, hb => by
    simp only [List.length_cons] at hn
    obtain ⟨ha1, ha2⟩ := Srt.cons.1 ha
    obtain ⟨hb1, hb2⟩ := Srt.cons.1 hb
    rw [mrgZ_cons]
    split
    · rename_i hl
      obtain ⟨h1, h2⟩ := mrg_facts q n (a := a) (b := y :: b) (by simp only [List.length_cons]; omega) ha2 hb
      refine ⟨Srt.cons.2 ⟨fun z hz => ?_, h1⟩, ?_⟩
      · rcases mem_mrg n (by simp only [List.length_cons]; omega) hz with ⟨p, hp, e⟩ | ⟨p, hp, e⟩
        · rw [e]; exact ha1 p hp
        · rw [e]
          rcases List.mem_cons.1 hp with rfl | hp
          · exact hl
          · exact ordL_trans _ _ _ hl (hb1 p hp)
      · rw [getZ_cons, h2, getZ_cons x a]
        by_cases hq : x.1 = q
        · rw [if_pos hq, if_pos hq, ← hq, getZ_below hb hl]; omega
        · rw [if_neg hq, if_neg hq]
    · rename_i hnl
      split
      · rename_i hg
        have hl : ordL y.1 x.1 = -1 := ordL_flip hnl (fun e => by rw [e, ordL_self] at hg; omega)
        obtain ⟨h1, h2⟩ := mrg_facts q n (a := x :: a) (b := b) (by simp only [List.length_cons]; omega) ha hb2
        refine ⟨Srt.cons.2 ⟨fun z hz => ?_, h1⟩, ?_⟩
        · rcases mem_mrg n (by simp only [List.length_cons]; omega) hz with ⟨p, hp, e⟩ | ⟨p, hp, e⟩
          · rw [e]
            rcases List.mem_cons.1 hp with rfl | hp
            · exact hl
            · exact ordL_trans _ _ _ hl (ha1 p hp)
          · rw [e]; exact hb1 p hp
        · rw [getZ_cons, h2, getZ_cons y b]
          by_cases hq : y.1 = q
          · rw [if_pos hq, if_pos hq, ← hq, getZ_below ha hl]; omega
          · rw [if_neg hq, if_neg hq]
      · rename_i hng
        have he : x.1 = y.1 := by
          rcases ordL_cases x.1 y.1 with c | c | c
          · exact absurd c.1 hnl
          · exact c.2.2
          · exact absurd c.1 hng
        obtain ⟨h1, h2⟩ := mrg_facts q n (a := a) (b := b) (by omega) ha2 hb2
        refine ⟨Srt.cons.2 ⟨fun z hz => ?_, h1⟩, ?_⟩
        · show ordL x.1 z.1 = -1
          rcases mem_mrg n (by omega) hz with ⟨p, hp, e⟩ | ⟨p, hp, e⟩
          · rw [e]; exact ha1 p hp
          · rw [e, he]; exact hb1 p hp
        · rw [getZ_cons, h2, getZ_cons x a, getZ_cons y b]
          by_cases hq : x.1 = q
          · rw [if_pos hq, if_pos hq, if_pos (he.symm.trans hq)]
          · rw [if_neg hq, if_neg hq, if_neg (by rw [← he]; exact hq)]

theorem getZ_filter {q : List Int} : ∀ {zs : List It}, Srt zs → getZ (zs.filter fun p => decide (p.2 ≠ 0)) q = getZ zs q
  | [], _ => rfl
  | p :: zs, h => by
    have ih := getZ_filter (q := q) (Srt.cons.1 h).2
    rw [getZ_cons]
    by_cases h0 : p.2 = 0
    · rw [List.filter_cons_of_neg (by simp [h0]), ih]
      by_cases hq : p.1 = q
      · have := getZ_ahead h
        rw [hq] at this
        rw [if_pos hq, h0, this]
      · rw [if_neg hq]
    · rw [List.filter_cons_of_pos (by simp [h0]), getZ_cons, ih]

/-- What is merged, without what comes to 0, is what is put together. -/
theorem mrg_add {a b : List It} (ha : Srt a) (hna : Nz a) (hb : Srt b) : (mrgZ a b).filter (fun p => decide (p.2 ≠ 0)) = addZ a b := by
  have hm := fun q => mrg_facts q _ (Nat.le_refl (a.length + b.length)) ha hb
  refine canon ((hm []).1.sublist List.filter_sublist) (fun p hp => ?_) (srt_add ha) (nz_add hna) fun q => ?_
  · have := (List.mem_filter.1 hp).2
    simpa using this
  · rw [getZ_filter (hm []).1, (hm q).2, getZ_add ha hb]

theorem zOk_srt {zs : List It} (h : zOkB zs = true) : Srt zs := by
  unfold Srt
  rw [List.pairwise_iff_getElem]
  intro i j hi hj hij
  have := zOk_ord h hij hj
  simpa [List.getD, hi, hj] using this
theorem zOk_nz {zs : List It} (h : zOkB zs = true) : Nz zs := by
  intro p hp
  obtain ⟨j, hj, rfl⟩ := mem_getD (d := ([], 0)) hp
  have := (zOk_row h hj).2
  unfold wB at this
  exact (of_decide_eq_true this).1

theorem mrg_len (a b : List It) : (mrgZ a b).length ≤ a.length + b.length := by
  suffices ∀ (n : Nat) (a b : List It), a.length + b.length ≤ n → (mrgZ a b).length ≤ a.length + b.length from this _ a b (Nat.le_refl _)
  intro n
  induction n with
  | zero => intro a b h; cases a <;> cases b <;> simp at h <;> simp [mrgZ_nil]
  | succ n ih =>
    intro a b h
    match a, b, h with
    | [], b, _ => rw [mrgZ_nil]; simp
    | x :: a, [], _ => rw [mrgZ_nil']; simp
    | x :: a, y :: b, h =>
      simp only [List.length_cons] at h
      rw [mrgZ_cons]
      have h1 := ih a (y :: b) (by simp only [List.length_cons]; omega)
      have h2 := ih (x :: a) b (by simp only [List.length_cons]; omega)
      have h3 := ih a b (by omega)
      simp only [List.length_cons] at *
      split
      · simp only [List.length_cons]; omega
      · split <;> simp only [List.length_cons] <;> omega

end Go.Proofs.Ytfmgohoddaobmaa

/-
  Items of the call's own as one list of triples; spec.l2Put's contract: a row put so often into items of the call's own, in their own memory.
-/
namespace Go.Proofs.Ytfmgohoddaobmaa
open Go.RowKit

abbrev Rw := Value × It
def prs (l : List Rw) : List (Value × Int) := l.map fun x => (x.1, x.2.2)
def its (l : List Rw) : List It := l.map (·.2)
/-- No two of them lie in one block. -/
def Apart (l : List Rw) : Prop := l.Pairwise fun a b => ∀ k, a.1.ownBlock = some k → b.1.ownBlock ≠ some k
theorem prs_length (l : List Rw) : (prs l).length = l.length := by simp [prs]
theorem its_length (l : List Rw) : (its l).length = l.length := by simp [its]
theorem prs_append (l m : List Rw) : prs (l ++ m) = prs l ++ prs m := by simp [prs]
theorem its_append (l m : List Rw) : its (l ++ m) = its l ++ its m := by simp [its]
theorem prs_take (l : List Rw) (k : Nat) : prs (l.take k) = (prs l).take k := by simp [prs]
theorem prs_drop (l : List Rw) (k : Nat) : prs (l.drop k) = (prs l).drop k := by simp [prs]
theorem its_take (l : List Rw) (k : Nat) : its (l.take k) = (its l).take k := by simp [its]
theorem its_drop (l : List Rw) (k : Nat) : its (l.drop k) = (its l).drop k := by simp [its]

theorem OwnZ.opened {w : World} {lo hi : Nat} {v : Value} {zs : List It} (h : OwnZ w lo hi v zs) : ∃ l : List Rw, zs = its l ∧ Spine w lo hi v (prs l) ∧ (∀ x ∈ l, Own w lo hi x.1 x.2.1) ∧ Apart l := by
  obtain ⟨ps, he, hs, hr, ha⟩ := h
  have hl := snd_len he
  have hL : (List.zipWith (fun (p : Value × Int) (z : It) => ((p.1, z) : Rw)) ps zs).length = ps.length := by simp; omega
  have hg : ∀ j (hj : j < ps.length), (List.zipWith (fun (p : Value × Int) (z : It) => ((p.1, z) : Rw)) ps zs)[j]'(by omega) = ((ps.getD j (vn, 0)).1, zs.getD j ([], 0)) := fun j hj => by
    have hz : j < zs.length := by omega
    simp [List.getD, hj, hz]
  have e1 : its (List.zipWith (fun (p : Value × Int) (z : It) => ((p.1, z) : Rw)) ps zs) = zs := by
    apply List.ext_getElem
    · simp [its]; omega
    · intro j h1 h2
      simp [its]
  have e2 : prs (List.zipWith (fun (p : Value × Int) (z : It) => ((p.1, z) : Rw)) ps zs) = ps := by
    apply List.ext_getElem
    · simp [prs]; omega
    · intro j h1 h2
      have hz : j < zs.length := by omega
      have := snd_getD he j
      simp [List.getD, h2, hz] at this
      simp [prs, ← this]
  refine ⟨_, e1.symm, by rw [e2]; exact hs, fun x hx => ?_, ?_⟩
  · obtain ⟨j, hj, rfl⟩ := List.getElem_of_mem hx
    rw [hL] at hj
    rw [hg j hj]
    exact hr j hj
  · unfold Apart
    rw [List.pairwise_iff_getElem]
    intro i j hi' hj' hij k hk
    rw [hL] at hi' hj'
    rw [hg i hi'] at hk
    rw [hg j hj']
    exact ha i j k hij hj' hk
theorem OwnZ.closed {w : World} {lo hi : Nat} {v : Value} {l : List Rw} (hs : Spine w lo hi v (prs l)) (hr : ∀ x ∈ l, Own w lo hi x.1 x.2.1) (ha : Apart l) : OwnZ w lo hi v (its l) := by
  have hg : ∀ j, j < l.length → ∃ h : j < l.length, (prs l).getD j (vn, 0) = (l[j].1, l[j].2.2) ∧ (its l).getD j ([], 0) = l[j].2 := fun j hj => ⟨hj, by simp [prs, List.getD, hj], by simp [its, List.getD, hj]⟩
  refine ⟨prs l, by simp [prs, its], hs, fun j hj => ?_, fun i j k hij hj hk => ?_⟩
  · obtain ⟨h, e1, e2⟩ := hg j (by rwa [prs_length] at hj)
    rw [e1, e2]
    exact hr _ (List.getElem_mem h)
  · obtain ⟨h, e1, _⟩ := hg j (by rwa [prs_length] at hj)
    obtain ⟨h', e1', _⟩ := hg i (by omega)
    rw [e1'] at hk
    rw [e1]
    exact (List.pairwise_iff_getElem.1 ha) i j h' h hij k hk
theorem Apart.insert {l : List Rw} (ha : Apart l) (k : Nat) {x : Rw} (hx : ∀ y ∈ l, ∀ b, y.1.ownBlock = some b → x.1.ownBlock ≠ some b) : Apart (l.take k ++ x :: l.drop k) := by
  unfold Apart at *
  have h0 := ha
  rw [← List.take_append_drop k l, List.pairwise_append] at h0
  obtain ⟨h1, h2, h3⟩ := h0
  rw [List.pairwise_append]
  refine ⟨h1, List.pairwise_cons.2 ⟨fun y hy b hb hb' => hx y (List.mem_of_mem_drop hy) b hb' hb, h2⟩, fun y hy z hz b hb => ?_⟩
  rcases List.mem_cons.1 hz with rfl | hz
  · exact hx y (List.mem_of_mem_take hy) b hb
  · exact h3 y hy z hz b hb
theorem Apart.remove {l : List Rw} (ha : Apart l) (k : Nat) : Apart (l.take k ++ l.drop (k + 1)) := by
  unfold Apart at *
  refine ha.sublist ?_
  conv => rhs; rw [← List.take_append_drop k l]
  exact (List.Sublist.refl _).append (List.drop_sublist_drop_left l (by omega))

theorem cells2_take : ∀ (ps : List (Value × Int)) (k : Nat), cells2 (ps.take k) = (cells2 ps).take (k * 2)
  | [], k => by simp [cells2]
  | p :: ps, 0 => by simp [cells2]
  | p :: ps, k + 1 => by rw [List.take_succ_cons, cells2_cons, cells2_cons, cells2_take ps k, show (k + 1) * 2 = k * 2 + 1 + 1 by omega, List.take_succ_cons, List.take_succ_cons]
theorem Spine.taken {w : World} {lo hi : Nat} {g n cap : Nat} {ps : List (Value × Int)} (h : Spine w lo hi (.slice (some ⟨g, 0, none⟩) n cap) ps) {k : Nat} (hk : k ≤ ps.length) : Spine w lo hi (.slice (some ⟨g, 0, none⟩) k cap) (ps.take k) := by
  obtain ⟨⟨h1, h2⟩, h3, h4, h5⟩ := h
  have hl : (ps.take k).length = k := by rw [List.length_take]; omega
  have hc := cells2_take ps k
  rcases h2 with ⟨e, _⟩ | ⟨g', cap', cur, e, hb, hg, hnc, hcm, hcs, htake⟩
  · simp at e
  · simp at e
    obtain ⟨rfl, rfl, rfl⟩ := e
    refine ⟨⟨by rw [cells2_length, hl], .inr ⟨g, cap, cur, by rw [hl], hb, hg, by rw [hl]; omega, hcm, hcs, ?_⟩⟩, h3, by rw [hl]; omega, h5⟩
    rw [hl, hc, ← htake, List.take_take, Nat.min_eq_left (by omega)]
theorem PairsAt.dropped {w : World} {g off n cap : Nat} {ps : List (Value × Int)} (h : PairsAt w (.slice (some ⟨g, off, none⟩) n cap) ps) {k : Nat} (hk : k ≤ ps.length) (c : Nat) : PairsAt w (.slice (some ⟨g, off + k * 2, none⟩) (n - k) c) (ps.drop k) := by
  obtain ⟨h1, h2, a, cap', e, _, hc⟩ := h
  simp at e
  obtain ⟨rfl, rfl, rfl⟩ := e
  have hl : (ps.drop k).length = ps.length - k := by simp
  refine ⟨by omega, fun p hp => h2 p (List.mem_of_mem_drop hp), _, c, by rw [hl], fun h => by simp at h, fun hne => ?_⟩
  obtain ⟨b, off', e, hb, hcell⟩ := hc (fun e => hne (by simp [e]))
  simp at e
  obtain ⟨rfl, rfl⟩ := e
  refine ⟨g, off + k * 2, rfl, hb, fun j hj => ?_⟩
  rw [hl] at hj
  have e1 : (ps.drop k).getD j (vn, 0) = ps.getD (k + j) (vn, 0) := by simp [List.getD]
  have := hcell (k + j) (by omega)
  rw [e1, show off + k * 2 + j * 2 = off + (k + j) * 2 by omega]
  exact this
theorem PairsAt.kept {w w' : World} {g off n cap : Nat} {ps : List (Value × Int)} (h : PairsAt w (.slice (some ⟨g, off, none⟩) n cap) ps) {row : Option Nat} (hg : w.grownBy w' row) (hne : row ≠ some g) : PairsAt w' (.slice (some ⟨g, off, none⟩) n cap) ps := by
  obtain ⟨h1, h2, a, cap', e, h4, hc⟩ := h
  refine ⟨h1, h2, a, cap', e, h4, fun hn => ?_⟩
  obtain ⟨b, off', e', hb, hcell⟩ := hc hn
  have eb : b = g := by rw [e'] at e; simp at e; exact e.1.1.symm
  refine ⟨b, off', e', Nat.lt_of_lt_of_le hb hg.size, fun j hj => ?_⟩
  obtain ⟨c1, c2⟩ := hcell j hj
  exact ⟨hg.cell c1 (by simp only [eb]; exact fun e => hne e.symm), hg.cell c2 (by simp only [eb]; exact fun e => hne e.symm)⟩
theorem PairsAt.news {w : World} {ad : Addr} {m c : Nat} {qs : List (Value × Int)} (h : PairsAt w (.slice (some ad) m c) qs) : qs.length = m ∧ (∀ j u, (cells2 qs)[j]? = some u → w.cell? (ad.add j) = some u) ∧ ∀ p ∈ qs, ∃ a n c, p.1 = Value.slice a n c := by
  obtain ⟨hl, hsl, a, cap, e, hnone, hc⟩ := h
  simp at e
  obtain ⟨rfl, rfl, rfl⟩ := e
  refine ⟨rfl, fun j u hu => ?_, hsl⟩
  by_cases h0 : qs = []
  · subst h0; simp [cells2] at hu
  · obtain ⟨b, off, hh, _, hcell⟩ := hc h0
    simp at hh
    subst hh
    have hj : j < qs.length * 2 := by
      have := (List.getElem?_eq_some_iff.1 hu).1
      rwa [cells2_length] at this
    rw [Addr.add_lit]
    obtain ⟨q, r, hq, hr⟩ : ∃ q r, j = q * 2 + r ∧ r < 2 := ⟨j / 2, j % 2, by omega, by omega⟩
    have hqn : q < qs.length := by omega
    obtain ⟨h1, h2⟩ := hcell q hqn
    rcases Nat.lt_succ_iff_lt_or_eq.1 hr with h | h
    · obtain rfl : r = 0 := by omega
      subst hq
      rw [Nat.add_zero] at hu ⊢
      rw [cells2_get0 _ _ hqn] at hu
      rw [h1]; exact hu
    · subst h hq
      rw [cells2_get1 _ _ hqn] at hu
      rw [← Nat.add_assoc, h2]; exact hu

/-- append of pairs, as one step of a region that draws its order, and where the new slice lies. -/
theorem step_append_at {P : Program} {ops : Array Oper} {o : Oper} {a : Act} {w : World} {K : Act → World → Prop} {Q : Exit → Act → World → Prop} {E : Prop}
    (hg : o.guard = none) (s x : Operand) (t : TypeId) (hop : o.op = Op.call { callee := Callee.builtin Builtin.append, args := #[s, x], argTypes := #[t, t] })
    (base : Nat) (e : TypeId) (i : TypeInfo) (ht : P.underlying t = some (.slice e)) (hi : P.info? e = some i) (hz : i.zero = some (.agg #[.slice none 0 0, .int .i64 0]))
    (hsize : i.size = 2) (hby : i.bytes = 32)
    (v : Value) (ps : List (Value × Int)) (hs : a.eval s = v) (hown : w.ownsRow base e 2 v ps.length (cells2 ps))
    (ad : Addr) (m c : Nat) (qs : List (Value × Int)) (hx : a.eval x = .slice (some ad) m c) (hp : PairsAt w (.slice (some ad) m c) qs)
    (hbytes : (ps.length + qs.length) * 32 ≤ 140737488355328) (hbase : base ≤ w.heap.size)
    (hK : ∀ v' w', w'.ownsRow base e 2 v' (ps ++ qs).length (cells2 (ps ++ qs)) → w.grownBy w' v.ownBlock → (v'.ownBlock = v.ownBlock ∨ v'.ownBlock = some w.heap.size) → K (a.put o.dst v') w') :
    if Region.wanted o (yielded ops a.tmps) = true then Oper.wp P o a w K Q else E := by
  obtain ⟨hm, hnews, hsl⟩ := hp.news
  have hw : Region.wanted o (yielded ops a.tmps) = true := by simp [Region.wanted, hg]
  rw [if_pos hw]
  subst hm
  obtain ⟨v', w', hrun, r1, r2, _, r3⟩ := run_append_own_at (P := P) w base t o.type e i (.agg #[.slice none 0 0, .int .i64 0]) 2 32 ht hi hz hsize hby rfl (by decide) v ps.length (cells2 ps) hown ad qs.length c (cells2 qs) (by rw [cells2_length]) hnews (cells2_one hsl) (by unfold maxLen; omega) hbytes hbase
  unfold Oper.wp
  simp [execOp, hop, resolve, invoke, builtin, hs, hx, hrun, Result.andThen]
  rw [← cells2_append] at r1
  exact hK v' w' (by rw [List.length_append]; exact r1) r2 r3

end Go.Proofs.Ytfmgohoddaobmaa

/-
  spec.l2Put's contract: a row put so often into items of the call's own, in their own memory.
-/
namespace Go.Proofs.Ytfmgohoddaobmaa
set_option maxRecDepth 100000
open Go.RowKit
attribute [local go_sem ↓] Go.wp_at_zero Go.wp_at_succ

theorem Only.of_below {lo hi : Nat} {w w' : World} (h : Below w.heap.size w w') : Only lo hi w w' := ⟨h.os, h.tape, h.output, h.size, fun k hk _ => h.block k hk⟩
theorem grown_drew {w w' : World} {row : Option Nat} (h : w.drew.grownBy w' row) : w.grownBy w' row := ⟨h.os, h.tape, h.output, h.size, h.block⟩
theorem Only.grown {lo hi : Nat} {w a b : World} {row : Option Nat} (h : Only lo hi w a) (k : a.grownBy b row) (hr : ∀ i, row = some i → (lo ≤ i ∧ i < hi) ∨ w.heap.size ≤ i) : Only lo hi w b :=
  ⟨k.os.trans h.os, k.tape.trans h.tape, k.output.trans h.output, Nat.le_trans h.size k.size, fun i hi' hk => (k.block i (Nat.lt_of_lt_of_le hi' h.size) (fun e => by have := hr i e.symm; omega)).trans (h.block i hi' hk)⟩
theorem less_of {xs ys : List Int} (h : ordL xs ys = -1) : rowLessB xs ys = true := by unfold rowLessB; rw [h]; decide
theorem less_not {xs ys : List Int} (h : ¬ ordL xs ys = -1) : rowLessB xs ys = false := by
  unfold rowLessB
  rcases ordL_cases xs ys with c | c | c
  · exact absurd c.1 h
  · rw [c.1]; decide
  · rw [c.1]; decide
theorem same_of {xs ys : List Int} (h : xs = ys) : rowSameB xs ys = true := by rw [same_iff]; simp [h]
theorem same_not {xs ys : List Int} (h : ¬ xs = ys) : rowSameB xs ys = false := by rw [same_iff]; simp [h]

/-- What is behind place k, as the slice expression gives it. -/
theorem PairsAt.cut {w : World} {g n cap : Nat} {ps : List (Value × Int)} (h : PairsAt w (.slice (some ⟨g, 0, none⟩) n cap) ps) {k : Nat} (hk : k ≤ ps.length) (hcap : n ≤ cap) :
    ∃ ad : Addr, (if cap = k then some (⟨g, 0, none⟩ : Addr) else some ⟨g, k * 2, none⟩) = some ad ∧ PairsAt w (.slice (some ad) (n - k) (cap - k)) (ps.drop k) := by
  have hn : n = ps.length := by obtain ⟨_, _, a, c, e, _⟩ := h; simp at e; exact e.2.1
  by_cases hc : cap = k
  · refine ⟨_, if_pos hc, ?_⟩
    have h0 : ps.drop k = [] := List.drop_eq_nil_of_le (by omega)
    have hnk : n - k = 0 := by omega
    rw [h0, hnk]
    exact ⟨by simp, fun p hp => by simp at hp, _, _, rfl, fun h => by simp at h, fun h => absurd rfl h⟩
  · refine ⟨_, if_neg hc, ?_⟩
    have := h.dropped hk (cap - k)
    rwa [Nat.zero_add] at this

theorem Spine.keep' {w w' : World} {lo hi : Nat} {v : Value} {ps : List (Value × Int)} (h : Spine w lo hi v ps) (hb : Below w.heap.size w w') : Spine w' lo hi v ps := h.keep (hb.mono h.2.2.2)
/-- The tail that was put aside lies in a new block. -/
theorem tail_lies {w : World} {lo k n : Nat} {v : Value} {l : List Rw} {W : World} {lo' hi' : Nat} (h : w.ownsRow lo 115 2 v ((prs l).drop k).length (cells2 ((prs l).drop k))) (hnn : v ≠ .slice none 0 0) (hdl : ((prs l).drop k).length = n) (hlim : n ≤ 140737488355328) (hr : ∀ x ∈ l, Own W lo' hi' x.1 x.2.1) :
    ∃ g c, v = .slice (some ⟨g, 0, none⟩) n c ∧ lo ≤ g ∧ PairsAt w v ((prs l).drop k) := by
  have S := spine_new h (by omega)
  have hp := S.pairs (fun p hp => by obtain ⟨q, hq, rfl⟩ := List.mem_map.1 (List.mem_of_mem_drop hp); exact (hr q hq).ints.shape)
  rcases h.2 with ⟨e, _⟩ | ⟨g, c, cur, e, hb, _⟩
  · exact absurd e hnn
  · exact ⟨g, c, by rw [e, hdl], hb, hp⟩
theorem own_after {w w' : World} {lo : Nat} {g k cap : Nat} {ps : List (Value × Int)} (h : w.ownsRow lo 115 2 (.slice (some ⟨g, 0, none⟩) k cap) ps.length (cells2 ps)) (hb : Below w.heap.size w w') : w'.ownsRow lo 115 2 (.slice (some ⟨g, 0, none⟩) k cap) ps.length (cells2 ps) := by
  refine ⟨h.1, ?_⟩
  rcases h.2 with h2 | ⟨g', cap', cur, hv, hg, hh, r⟩
  · exact .inl h2
  · exact .inr ⟨g', cap', cur, hv, hg, (hb.block g' (Array.getElem?_eq_some_iff.1 hh).1).trans hh, r⟩
theorem put_ready {w : World} {lo hi g n cap k : Nat} {zs : List It} (Z : OwnZ w lo hi (.slice (some ⟨g, 0, none⟩) n cap) zs) (hn : n = zs.length) (hk : k ≤ n) (hcap : n ≤ cap) :
    ∃ (l : List Rw) (ad : Addr), Hid (zs = its l) ∧ Hid (Spine w lo hi (.slice (some ⟨g, 0, none⟩) n cap) (prs l)) ∧ Hid (∀ x ∈ l, Own w lo hi x.1 x.2.1) ∧ Hid (Apart l) ∧ Hid (l.length = n) ∧
      (if cap = k then some (⟨g, 0, none⟩ : Addr) else some ⟨g, k * 2, none⟩) = some ad ∧ PairsAt w (.slice (some ad) (n - k) (cap - k)) ((prs l).drop k) := by
  obtain ⟨l, HL, S, R, A⟩ := Z.opened
  have hll : l.length = n := by rw [← its_length, ← HL, hn]
  obtain ⟨ad, hif, hpr⟩ := (S.pairs (fun p hp => by obtain ⟨q, hq, rfl⟩ := List.mem_map.1 hp; exact (R q hq).ints.shape)).cut (k := k) (by rw [prs_length]; omega) hcap
  exact ⟨l, ad, HL, S, R, A, hll, hif, hpr⟩

/-- Behind both appends. -/
theorem put_done {w8 w9 w10 w11 : World} {lo hi k : Nat} {l : List Rw} {v rv9 v10 v11 : Value} {r : List Int} {y : Int} (S8 : Spine w8 lo hi v (prs l)) (R8 : ∀ x ∈ l, Own w8 lo hi x.1 x.2.1) (A : Apart l)
    (hk : k ≤ l.length) (hv : ∀ i, v.ownBlock = some i → lo ≤ i ∧ i < hi) (hlo : lo ≤ hi) (hlim : l.length ≤ 1099511627775) (O9 : Own w9 w8.drew.heap.size w9.heap.size rv9 r) (hb9 : Below w8.drew.heap.size w8.drew w9)
    (hown10 : w10.ownsRow lo 115 2 v10 ((prs l).take k ++ [(rv9, y)]).length (cells2 ((prs l).take k ++ [(rv9, y)]))) (hg10 : (w9.alloc (.cells #[rv9, .int .i64 y] 115)).grownBy w10 v.ownBlock)
    (hat10 : v10.ownBlock = v.ownBlock ∨ v10.ownBlock = some (w9.alloc (.cells #[rv9, .int .i64 y] 115)).heap.size)
    (hown11 : w11.ownsRow lo 115 2 v11 (((prs l).take k ++ [(rv9, y)]) ++ (prs l).drop k).length (cells2 (((prs l).take k ++ [(rv9, y)]) ++ (prs l).drop k))) (hg11 : w10.grownBy w11 v10.ownBlock) :
    OwnZ w11 lo w11.heap.size v11 (its (l.take k) ++ (r, y) :: its (l.drop k)) ∧ Only lo hi w8 w11 := by
  have hbd : Below w8.heap.size w8 w8.drew := Below.drew (Below.refl _ _)
  have hbA : Below w8.heap.size w8 (w9.alloc (.cells #[rv9, .int .i64 y] 115)) := below_then (below_then hbd hb9) (below_alloc _)
  have hhi := S8.2.2.2
  have SA := S8.keep' hbA
  have RA : ∀ x ∈ l, Own (w9.alloc (.cells #[rv9, .int .i64 y] 115)) lo hi x.1 x.2.1 := fun x hx => (R8 x hx).keep' hbA
  have OA : Own (w9.alloc (.cells #[rv9, .int .i64 y] 115)) w8.heap.size w9.heap.size rv9 r := O9.keep' (below_alloc _)
  have S10 : Spine w10 lo w10.heap.size v10 _ := spine_new hown10 (by rw [List.length_append, List.length_take, prs_length]; simp; omega)
  have R10 : ∀ x ∈ l, Own w10 lo hi x.1 x.2.1 := fun x hx => (RA x hx).keptB hg10 (row_ne_spine SA (RA x hx))
  have O10 := OA.keptB hg10 (row_ne_spine SA OA)
  have R11 : ∀ x ∈ l, Own w11 lo hi x.1 x.2.1 := fun x hx => (R10 x hx).keptB hg11 (row_ne_spine S10 (R10 x hx))
  have O11 := O10.keptB hg11 (row_ne_spine S10 O10)
  have z1 := hbA.size
  have z2 := hg10.size
  have z3 := hg11.size
  have z4 := hb9.size
  have z5 : w8.drew.heap.size = w8.heap.size := rfl
  have e1 : its (l.take k) ++ (r, y) :: its (l.drop k) = its (l.take k ++ (rv9, (r, y)) :: l.drop k) := by simp [its]
  have e2 : ((prs l).take k ++ [(rv9, y)]) ++ (prs l).drop k = prs (l.take k ++ (rv9, (r, y)) :: l.drop k) := by simp [prs]
  refine ⟨?_, ((Only.of_below hbA).grown hg10 (fun i e => .inl (hv i e))).grown hg11 (fun i e => ?_)⟩
  · rw [e1]
    refine OwnZ.closed ?_ (fun x hx => ?_) (A.insert k (fun x hx b hb hb' => ?_))
    · rw [← e2]
      refine spine_new hown11 ?_
      rw [e2, prs_length]
      simp
      omega
    · rcases List.mem_append.1 hx with h | h
      · exact (R11 x (List.mem_of_mem_take h)).wide (Nat.le_refl _) (by omega) (Nat.le_refl _)
      · rcases List.mem_cons.1 h with rfl | h
        · exact O11.wide (by omega) (by have := O11.2.2.2; omega) (Nat.le_refl _)
        · exact (R11 x (List.mem_of_mem_drop h)).wide (Nat.le_refl _) (by omega) (Nat.le_refl _)
    · have h1 := (R8 x hx).2.1 b hb
      have h2 := (O9.1.lt b hb').1
      omega
  · rcases hat10 with h | h
    · rw [h] at e; exact .inl (hv i e)
    · rw [h] at e
      simp at e
      simp at z1
      omega

end Go.Proofs.Ytfmgohoddaobmaa

/-
  The contracts of spec.l2Copy, spec.l2Add, spec.l2Told and spec.ZAdd: items in memory of their own; one list put into a copy of another one; both together, if that is right.
-/
namespace Go.Proofs.Ytfmgohoddaobmaa
set_option maxRecDepth 100000
open Go.RowKit

theorem take_get {zs : List It} {k : Nat} (hk : k < zs.length) : zs.take (k + 1) = zs.take k ++ [((zs.getD k ([], 0)).1, (zs.getD k ([], 0)).2)] := by
  have e : zs.getD k ([], 0) = zs[k] := by simp [List.getD, hk]
  rw [e, List.take_succ_eq_append_getElem hk]

theorem add_bound {B C : Int} (hB0 : 0 ≤ B) (hC0 : 0 ≤ C) : ∀ (b : List It) {a : List It} {k : Int}, 0 ≤ k → (∀ p ∈ a, -(B + k * C) ≤ p.2 ∧ p.2 ≤ B + k * C) → (∀ p ∈ b, -C ≤ p.2 ∧ p.2 ≤ C) → ∀ x ∈ addZ a b, -(B + (k + b.length) * C) ≤ x.2 ∧ x.2 ≤ B + (k + b.length) * C
  | [], a, k, _, ha, _, x, hx => by simpa [addZ] using ha x hx
  | p :: b, a, k, hk, ha, hb, x, hx => by
    rw [addZ_cons] at hx
    have hkC : 0 ≤ k * C := Int.mul_nonneg hk hC0
    have h1 := put_bound (r := p.1) (hb p (by simp)) (show 0 ≤ B + k * C by omega) hC0 ha
    have h2 := add_bound hB0 hC0 b (k := k + 1) (by omega) (fun q hq => by have := h1 q hq; rw [Int.add_mul, Int.one_mul]; omega) (fun q hq => hb q (by simp [hq])) x hx
    have e : (k + 1 + (b.length : Int)) = k + ((p :: b).length : Int) := by simp; omega
    rw [e] at h2
    exact h2
theorem add_len : ∀ (b a : List It), (addZ a b).length ≤ a.length + b.length
  | [], a => by simp [addZ]
  | p :: b, a => by
    rw [addZ_cons]
    have h1 := add_len b (putZ a p.1 p.2)
    have h2 := put_len p.1 p.2 a
    simp; omega
theorem add_rows {x : It} : ∀ {b a : List It}, x ∈ addZ a b → (∃ p ∈ a, x.1 = p.1) ∨ ∃ p ∈ b, x.1 = p.1
  | [], a, h => .inl ⟨x, h, rfl⟩
  | p :: b, a, h => by
    rw [addZ_cons] at h
    rcases add_rows h with ⟨q, hq, e⟩ | ⟨q, hq, e⟩
    · rcases mem_put hq with h | h
      · exact .inl ⟨q, h, e⟩
      · exact .inr ⟨p, by simp, by rw [e, h]⟩
    · exact .inr ⟨q, by simp [hq], e⟩
theorem add_take {a b : List It} {k : Nat} (hk : k < b.length) : addZ a (b.take (k + 1)) = putZ (addZ a (b.take k)) (b.getD k ([], 0)).1 (b.getD k ([], 0)).2 := by
  rw [List.take_succ_eq_append_getElem hk, addZ_snoc]
  simp [List.getD, hk]

/-- Items whose weights and sizes are small. -/
def Mild (zs : List It) : Prop := zs.length ≤ 1048576 ∧ (∀ k, k < zs.length → (zs.getD k ([], 0)).1.length ≤ 8796093022208) ∧ ∀ p ∈ zs, -2199023255552 ≤ p.2 ∧ p.2 ≤ 2199023255552
theorem getZ_mem {zs : List It} {k : Nat} (hk : k < zs.length) : zs.getD k ([], 0) ∈ zs := by simp [List.getD, hk]
theorem mild_bound {a b : List It} (ha : Mild a) (hb : Mild b) (k : Nat) : ∀ j, j < (addZ a (b.take k)).length → -4611686018427387904 ≤ ((addZ a (b.take k)).getD j ([], 0)).2 ∧ ((addZ a (b.take k)).getD j ([], 0)).2 ≤ 4611686018427387903 := by
  intro j hj
  have h1 := add_bound (B := 2199023255552) (C := 2199023255552) (by omega) (by omega) (b.take k) (a := a) (k := 0) (by omega) (fun p hp => by have := ha.2.2 p hp; omega) (fun p hp => hb.2.2 p (List.mem_of_mem_take hp)) _ (getZ_mem hj)
  have h2 : ((b.take k).length : Int) ≤ 1048576 := by
    have := hb.1
    have h3 : (b.take k).length ≤ b.length := by rw [List.length_take]; omega
    omega
  omega
theorem mild_len {a b : List It} (ha : Mild a) (hb : Mild b) (k : Nat) : (addZ a (b.take k)).length ≤ 2097152 := by
  have h1 := add_len (b.take k) a
  have h3 : (b.take k).length ≤ b.length := by rw [List.length_take]; omega
  have := ha.1
  have := hb.1
  omega

/-- What both sides answer. -/
def addOk (a b : List It) : Bool := zOkB a && zOkB b && zOkB (addZ a b)
def addOut (a b : List It) : List It := if addOk a b then addZ a b else []

theorem zOk_mild {zs : List It} (h : zOkB zs = true) : Mild zs := by
  refine ⟨by have := zOk_le h; omega, fun k hk => by have := rowOk_le (zOk_row h hk).1; omega, fun p hp => ?_⟩
  obtain ⟨j, hj, rfl⟩ := mem_getD (d := ([], 0)) hp
  have := (wB_in (zOk_row h hj).2).2
  omega

end Go.Proofs.Ytfmgohoddaobmaa

/-
  The contracts of impl.merge at items (with impl.compareItems and the closure that adds weights): the merged pairs, their rows as they lay.
-/
namespace Go.Proofs.Ytfmgohoddaobmaa
set_option maxRecDepth 100000
open Go.RowKit
attribute [local go_sem ↓] Go.wp_at_zero Go.wp_at_succ

/-- The rows of triples, in the memory w. -/
def RowsIn (w : World) (l : List Rw) : Prop := ∀ x ∈ l, IntsAt w x.1 x.2.1
theorem RowsIn.below {w w' : World} {l : List Rw} (h : RowsIn w l) (hb : Below w.heap.size w w') : RowsIn w' l := fun x hx => (h x hx).below hb
theorem RowsIn.shape {w : World} {l : List Rw} (h : RowsIn w l) : ∀ p ∈ prs l, ∃ a n c, p.1 = Value.slice a n c := fun p hp => by
  obtain ⟨q, hq, rfl⟩ := List.mem_map.1 hp
  exact (h q hq).shape

theorem ItemsAt.opened {w : World} {v : Value} {zs : List It} (h : ItemsAt w v zs) : ∃ l : List Rw, zs = its l ∧ PairsAt w v (prs l) ∧ RowsIn w l := by
  obtain ⟨ps, hp, he, hr⟩ := h.pairs
  have hl := snd_len he
  have hL : (List.zipWith (fun (p : Value × Int) (z : It) => ((p.1, z) : Rw)) ps zs).length = ps.length := by simp; omega
  have hg : ∀ j (hj : j < ps.length), (List.zipWith (fun (p : Value × Int) (z : It) => ((p.1, z) : Rw)) ps zs)[j]'(by omega) = ((ps.getD j (vn, 0)).1, zs.getD j ([], 0)) := fun j hj => by
    have hz : j < zs.length := by omega
    simp [List.getD, hj, hz]
  have e1 : its (List.zipWith (fun (p : Value × Int) (z : It) => ((p.1, z) : Rw)) ps zs) = zs := by
    apply List.ext_getElem
    · simp [its]; omega
    · intro j h1 h2
      simp [its]
  have e2 : prs (List.zipWith (fun (p : Value × Int) (z : It) => ((p.1, z) : Rw)) ps zs) = ps := by
    apply List.ext_getElem
    · simp [prs]; omega
    · intro j h1 h2
      have hz : j < zs.length := by omega
      have := snd_getD he j
      simp [List.getD, h2, hz] at this
      simp [prs, ← this]
  refine ⟨_, e1.symm, by rw [e2]; exact hp, fun x hx => ?_⟩
  obtain ⟨j, hj, rfl⟩ := List.getElem_of_mem hx
  rw [hL] at hj
  rw [hg j hj]
  exact hr j (by omega)
theorem PairsAt.itemsOf {w : World} {v : Value} {l : List Rw} (h : PairsAt w v (prs l)) (hr : RowsIn w l) : ItemsAt w v (its l) := by
  refine h.items (by simp [prs, its]) fun j hj => ?_
  rw [its_length] at hj
  have := hr _ (List.getElem_mem hj)
  simpa [prs, its, List.getD, hj] using this

def sLen (v : Value) : Nat := match v with
  | .slice _ n _ => n
  | _ => 0

/-- A slice of pairs, and that its capacity holds them. -/
def Tail (w : World) (s : Value) (ps : List (Value × Int)) : Prop := PairsAt w s ps ∧ ∃ a c, s = .slice a ps.length c ∧ ps.length ≤ c ∧ c ≤ 9223372036854775807
theorem Tail.below {w w' : World} {s : Value} {ps : List (Value × Int)} (h : Tail w s ps) (hb : Below w.heap.size w w') : Tail w' s ps := ⟨h.1.below hb, h.2⟩
theorem Tail.next {w : World} {s : Value} {p : Value × Int} {ps : List (Value × Int)} (h : Tail w s (p :: ps)) :
    ∃ (b off c : Nat) (ad : Addr), s = .slice (some ⟨b, off, none⟩) (ps.length + 1) c ∧ ps.length + 1 ≤ c ∧ c ≤ 9223372036854775807 ∧ b < w.heap.size ∧ w.cell? ⟨b, off, none⟩ = some p.1 ∧ w.cell? ⟨b, off + 1, none⟩ = some (.int .i64 p.2) ∧
      (if c = 1 then some (⟨b, off, none⟩ : Addr) else some ⟨b, off + 2, none⟩) = some ad ∧ Tail w (.slice (some ad) ps.length (c - 1)) ps := by
  obtain ⟨⟨h1, h2, a, cap, rfl, h4, hc⟩, a', c, e, hcap, hmax⟩ := h
  simp at e
  obtain ⟨rfl, rfl⟩ := e
  obtain ⟨b, off, rfl, hb, hcell⟩ := hc (by simp)
  obtain ⟨c0, c1⟩ := hcell 0 (by simp)
  simp at c0 c1 hcap h1
  have hp : PairsAt w (.slice (some ⟨b, off, none⟩) (ps.length + 1) cap) (p :: ps) := ⟨by simp; omega, h2, _, cap, by simp, fun h => by simp at h, fun _ => ⟨b, off, rfl, hb, hcell⟩⟩
  by_cases hc1 : cap = 1
  · refine ⟨b, off, cap, ⟨b, off, none⟩, by simp, hcap, hmax, hb, c0, c1, if_pos hc1, ?_, _, _, rfl, by omega, by omega⟩
    have h0 : ps = [] := List.length_eq_zero_iff.1 (by omega)
    subst h0
    exact ⟨by simp, fun p hp => by simp at hp, _, _, rfl, fun h => by simp at h, fun h => absurd rfl h⟩
  · refine ⟨b, off, cap, ⟨b, off + 2, none⟩, by simp, hcap, hmax, hb, c0, c1, if_neg hc1, ?_, _, _, rfl, by omega, by omega⟩
    have := hp.dropped (k := 1) (by simp) (cap - 1)
    simpa using this

/-- What is wanted to put a pair, written out in a new block, behind pairs of the call's own, and what it leaves. -/
theorem merge_ready {w : World} {lo hi : Nat} {v xv : Value} {done : List Rw} (y : Int) (S : Spine w lo hi v (prs done)) (hs : ∃ a n c, xv = Value.slice a n c) (hlo : lo ≤ w.heap.size) (hlim : done.length ≤ 1099511627776) :
    (w.alloc (.cells #[xv, .int .i64 y] 115)).ownsRow lo 115 2 v (prs done).length (cells2 (prs done)) ∧ PairsAt (w.alloc (.cells #[xv, .int .i64 y] 115)) (.slice (some ⟨w.heap.size, 0, none⟩) 1 1) [(xv, y)] ∧
      ∀ v' w' (x : List Int), w'.ownsRow lo 115 2 v' (prs done ++ [(xv, y)]).length (cells2 (prs done ++ [(xv, y)])) → (w.alloc (.cells #[xv, .int .i64 y] 115)).grownBy w' v.ownBlock → Spine w' lo w'.heap.size v' (prs (done ++ [(xv, (x, y))])) ∧ Below lo w w' := by
  have hb := below_alloc (w := w) (.cells #[xv, .int .i64 y] 115)
  refine ⟨(S.keep' hb).1, pairs_lit w _ y hs, fun v' w' x ho hg => ⟨?_, ?_⟩⟩
  · have e : prs (done ++ [(xv, (x, y))]) = prs done ++ [(xv, y)] := by simp [prs]
    rw [e]
    exact spine_new ho (by rw [List.length_append, prs_length]; simp; omega)
  · exact (hb.mono hlo).grown hg (by simp; omega) (fun k hk => (S.1.lt k hk).1)

theorem mrg_lt {x y : It} {a b : List It} (h : ordL x.1 y.1 = -1) : mrgZ (x :: a) (y :: b) = x :: mrgZ a (y :: b) := by rw [mrgZ_cons, if_pos h]
theorem mrg_gt {x y : It} {a b : List It} (h : ordL x.1 y.1 = 1) : mrgZ (x :: a) (y :: b) = y :: mrgZ (x :: a) b := by rw [mrgZ_cons, if_neg (by omega), if_pos h]
theorem mrg_eq {x y : It} {a b : List It} (h : ordL x.1 y.1 = 0) : mrgZ (x :: a) (y :: b) = (x.1, x.2 + y.2) :: mrgZ a b := by rw [mrgZ_cons, if_neg (by omega), if_neg (by omega)]

def Low (l : List Rw) : Prop := ∀ x ∈ l, -4611686018427387904 ≤ x.2.2 ∧ x.2.2 ≤ 4611686018427387903

end Go.Proofs.Ytfmgohoddaobmaa

/-
  The contracts of slices.IndexFunc and slices.DeleteFunc at items and the closure that asks for a weight of 0: pairs of the call's own, without those.
-/
namespace Go.Proofs.Ytfmgohoddaobmaa
set_option maxRecDepth 100000
open Go.RowKit
attribute [local go_sem ↓] Go.wp_at_zero Go.wp_at_succ

/-- The first place with a weight of 0. -/
def zAt (ps : List (Value × Int)) : Option Nat := ps.findIdx? fun p => decide (p.2 = 0)

theorem shape_getD {ps : List (Value × Int)} (hs : ∀ p ∈ ps, ∃ a n c, p.1 = Value.slice a n c) {k : Nat} (hk : k < ps.length) : ∃ a n c, (ps.getD k (vn, 0)).1 = Value.slice a n c := hs _ (by simp [List.getD, hk])

theorem run_clear_pairs (w : World) (ty : TypeId) (g a m c : Nat) (hm : 0 < m) (hc : ∀ j, j < m * 2 → (w.cell? ⟨g, a + j, none⟩).isSome = true) (hf : ∀ j, j < m * 2 → w.frozen? ⟨g, a + j, none⟩ = false) :
    (Builtin.clear_ #[81] ty #[.slice (some ⟨g, a, none⟩) m c]).run Try.prog w = .ok (.tuple #[]) (w.setCells g a (Builtin.zeroCells #[.slice none 0 0, .int .i64 0] m).toList) := by
  obtain ⟨i0, hi0, hz0, hz1, hz2⟩ := info_parts infoItem
  have hl : (Builtin.zeroCells #[Value.slice none 0 0, .int .i64 0] m).toList.length = m * 2 := by simp [Builtin.zeroCells]
  have h1 : ∀ u ∈ (Builtin.zeroCells #[Value.slice none 0 0, .int .i64 0] m).toList, u.oneCell' = true := by
    intro u hu
    simp [Builtin.zeroCells] at hu
    obtain ⟨j, _, rfl⟩ := hu
    rcases Nat.mod_two_eq_zero_or_one j with e | e <;> rw [e] <;> rfl
  have hst := run_storeCells_cells (P := Try.prog) g a (Builtin.zeroCells #[.slice none 0 0, .int .i64 0] m).toList 0 w (by rw [hl]; simpa using hc) (by rw [hl]; simpa using hf) h1
  simp only [Nat.add_zero] at hst
  have hv : ∀ w, (zeroValue 115).run Try.prog w = .ok (.agg #[.slice none 0 0, .int .i64 0]) w := fun w => by simp [zeroValue, typeInfo, hi0, hz0]
  obtain ⟨k, rfl⟩ : ∃ k, m = k + 1 := ⟨m - 1, by omega⟩
  simp [Builtin.clear_, run_underlying Try.underlying81, hv, hst, Value.cells]

theorem setCell_grown (w : World) (g o : Nat) (v : Value) : w.grownBy (w.setCell ⟨g, o, none⟩ v) (some g) :=
  ⟨rfl, rfl, rfl, by simp, fun k _ hk => Below.heap_setCell w ⟨g, o, none⟩ v k (fun e => hk (congrArg some e))⟩
theorem setCells_grown (g : Nat) : ∀ (vs : List Value) (o : Nat) (w : World), w.grownBy (w.setCells g o vs) (some g)
  | [], _, w => grown_refl _ _
  | v :: vs, o, w => by
    have h1 := setCell_grown w g o v
    have h2 := setCells_grown g vs (o + 1) (w.setCell ⟨g, o, none⟩ v)
    exact grown_trans h1 h2

theorem Spine.beyond {lo hi g n cap : Nat} {ps : List (Value × Int)} : ∀ (vs : List Value) {w : World} (o : Nat), Spine w lo hi (.slice (some ⟨g, 0, none⟩) n cap) ps → ps.length * 2 ≤ o → Spine (w.setCells g o vs) lo hi (.slice (some ⟨g, 0, none⟩) n cap) ps
  | [], _, _, h, _ => h
  | u :: vs, w, o, h, ho => by
    have hn : n = ps.length := by
      rcases h.1.2 with ⟨e, _⟩ | ⟨_, _, _, e, _⟩ <;> simp at e
      exact e.2.1
    subst hn
    have hst := h.1.stored o u
    rw [List.set_eq_of_length_le (by rw [cells2_length]; omega)] at hst
    exact Spine.beyond vs (o + 1) ⟨hst.1, h.2.1, h.2.2.1, Nat.le_trans h.2.2.2 hst.2.size⟩ (by omega)

def nzR (x : Rw) : Bool := decide (x.2.2 ≠ 0)
theorem nz_all {l : List Rw} (h : ∀ j, j < (prs l).length → ((prs l).getD j (vn, 0)).2 ≠ 0) : l.filter nzR = l := by
  rw [List.filter_eq_self]
  intro x hx
  obtain ⟨j, hj, rfl⟩ := List.getElem_of_mem hx
  have := h j (by rw [prs_length]; exact hj)
  simp [prs, List.getD, hj] at this
  simp [nzR, this]
theorem nz_start {l : List Rw} {k : Nat} (hk : k < l.length) (h0 : ((prs l).getD k (vn, 0)).2 = 0) (h : ∀ j, j < k → ((prs l).getD j (vn, 0)).2 ≠ 0) : (prs l).take k = prs ((l.take (k + 1)).filter nzR) := by
  have e1 : (l.take k).filter nzR = l.take k := by
    refine nz_all fun j hj => ?_
    rw [prs_length, List.length_take] at hj
    have := h j (by omega)
    rw [prs_take]
    simpa [List.getD, List.getElem?_take, show j < k by omega] using this
  have e2 : nzR l[k] = false := by
    simp [prs, List.getD, hk] at h0
    simp [nzR, h0]
  rw [List.take_succ_eq_append_getElem hk, List.filter_append, e1, ← prs_take]
  simp [prs, e2]
theorem nz_take {l : List Rw} {b : Nat} (hb : b < l.length) : (l.take (b + 1)).filter nzR = (l.take b).filter nzR ++ (if ((prs l).getD b (vn, 0)).2 = 0 then [] else [l[b]]) := by
  rw [List.take_succ_eq_append_getElem hb, List.filter_append]
  have e : ((prs l).getD b (vn, 0)).2 = l[b].2.2 := by simp [prs, List.getD, hb]
  rw [e]
  by_cases h : l[b].2.2 = 0 <;> simp [nzR, h]

theorem getD_drop {α : Type} {l m : List α} {b : Nat} {d : α} (h : l.drop b = m.drop b) : l.getD b d = m.getD b d := by
  have h1 : (l.drop b)[0]? = (m.drop b)[0]? := by rw [h]
  simp only [List.getElem?_drop, Nat.add_zero] at h1
  simp [List.getD, h1]
theorem drop_more {α : Type} {l m : List α} {b : Nat} (h : l.drop b = m.drop b) : l.drop (b + 1) = m.drop (b + 1) := by
  rw [← List.drop_drop, ← List.drop_drop, h]

end Go.Proofs.Ytfmgohoddaobmaa

/-
  The contracts of impl.together and impl.ZAdd: both together, in memory of their own, if that is right.
-/
namespace Go.Proofs.Ytfmgohoddaobmaa
set_option maxRecDepth 100000
open Go.RowKit

/-- Items in memory, their capacity told; their rows may lie wherever they do. -/
def TailZ (w : World) (v : Value) (zs : List It) : Prop := ∃ l : List Rw, zs = its l ∧ Tail w v (prs l) ∧ RowsIn w l
theorem TailZ.below {w w' : World} {v : Value} {zs : List It} (h : TailZ w v zs) (hb : Below w.heap.size w w') : TailZ w' v zs := by
  obtain ⟨l, e, t, r⟩ := h
  exact ⟨l, e, t.below hb, r.below hb⟩
theorem TailZ.items {w : World} {v : Value} {zs : List It} (h : TailZ w v zs) : ItemsAt w v zs := by
  obtain ⟨l, rfl, t, r⟩ := h
  exact t.1.itemsOf r
theorem OwnZ.tail {w : World} {lo hi : Nat} {v : Value} {zs : List It} (h : OwnZ w lo hi v zs) : TailZ w v zs := by
  obtain ⟨l, hl, S, R, _⟩ := h.opened
  have hr : RowsIn w l := fun x hx => (R x hx).ints
  refine ⟨l, hl, ⟨S.pairs hr.shape, ?_⟩, hr⟩
  rcases S.1.2 with ⟨rfl, h0⟩ | ⟨g, cap, cur, rfl, _, _, hnc, hcm, _⟩
  · exact ⟨none, 0, by rw [h0], by omega, by omega⟩
  · exact ⟨_, cap, rfl, hnc, by have := hcm; simp only [maxLen] at this; omega⟩
theorem its_filter (l : List Rw) : its (l.filter nzR) = (its l).filter fun p => decide (p.2 ≠ 0) := by
  unfold its nzR
  rw [List.filter_map]
  rfl
theorem low_of {l : List Rw} (h : Mild (its l)) : Low l := fun x hx => by
  have := h.2.2 x.2 (List.mem_map.2 ⟨x, hx, rfl⟩)
  omega

end Go.Proofs.Ytfmgohoddaobmaa

/-
  Plain facts on items put together: in any order, in any grouping, and taken away again.
-/
namespace Go.Proofs.Ytfmgohoddaobmaa

theorem zOk_nil : zOkB [] = true := by simp [zOkB]
theorem nz_nil : Nz [] := fun p hp => by simp at hp
theorem add_comm {a b : List It} (ha : Srt a) (hna : Nz a) (hb : Srt b) (hnb : Nz b) : addZ a b = addZ b a :=
  canon (srt_add ha) (nz_add hna) (srt_add hb) (nz_add hnb) fun q => by rw [getZ_add ha hb, getZ_add hb ha]; omega
theorem add_assoc {a b c : List It} (ha : Srt a) (hna : Nz a) (hb : Srt b) (hc : Srt c) : addZ (addZ a b) c = addZ a (addZ b c) :=
  canon (srt_add (srt_add ha)) (nz_add (nz_add hna)) (srt_add ha) (nz_add hna) fun q => by
    rw [getZ_add (srt_add ha) hc, getZ_add ha hb, getZ_add ha (srt_add hb), getZ_add hb hc]; omega
theorem getZ_neg (q : List Int) : ∀ a : List It, getZ (negZ a) q = -getZ a q
  | [] => rfl
  | p :: a => by
    have ih := getZ_neg q a
    have e : negZ (p :: a) = (p.1, -p.2) :: negZ a := rfl
    rw [e, getZ_cons, getZ_cons, ih]
    by_cases h : p.1 = q <;> simp [h]
theorem srt_neg {a : List It} (h : Srt a) : Srt (negZ a) := by
  unfold Srt negZ at *
  rw [List.pairwise_map]
  exact h
theorem nz_neg {a : List It} (h : Nz a) : Nz (negZ a) := fun p hp => by
  obtain ⟨q, hq, rfl⟩ := List.mem_map.1 hp
  have := h q hq
  show -q.2 ≠ 0
  omega
theorem add_neg {a : List It} (h : Srt a) (hn : Nz a) : addZ a (negZ a) = [] :=
  canon (srt_add h) (nz_add hn) Srt.nil nz_nil fun q => by rw [getZ_add h (srt_neg h), getZ_neg, getZ_nil]; omega
theorem add_back {a b : List It} (ha : Srt a) (hna : Nz a) (hb : Srt b) : addZ (addZ a b) (negZ b) = a :=
  canon (srt_add (srt_add ha)) (nz_add (nz_add hna)) ha hna fun q => by rw [getZ_add (srt_add ha) (srt_neg hb), getZ_add ha hb, getZ_neg]; omega
theorem negZ_getD (zs : List It) (j : Nat) : (negZ zs).getD j ([], 0) = ((zs.getD j ([], 0)).1, -(zs.getD j ([], 0)).2) := by
  unfold negZ
  simp only [List.getD, List.getElem?_map]
  cases zs[j]? <;> simp
theorem wB_neg (n : Int) : wB (-n) = wB n := by
  unfold wB
  congr 1
  apply propext
  omega
theorem zOk_neg (zs : List It) : zOkB (negZ zs) = zOkB zs := by
  have e : stepB (negZ zs) = stepB zs := by
    funext k
    unfold stepB
    rw [negZ_getD, negZ_getD, wB_neg]
  unfold zOkB
  rw [negZ_length, e]
theorem negneg (zs : List It) : negZ (negZ zs) = zs := by
  unfold negZ
  rw [List.map_map]
  conv => rhs; rw [← List.map_id zs]
  apply List.map_congr_left
  intro p _
  simp
theorem addOk_comm (a b : List It) (ha : zOkB a = true) (hb : zOkB b = true) : addZ b a = addZ a b := add_comm (zOk_srt hb) (zOk_nz hb) (zOk_srt ha) (zOk_nz ha)

end Go.Proofs.Ytfmgohoddaobmaa
