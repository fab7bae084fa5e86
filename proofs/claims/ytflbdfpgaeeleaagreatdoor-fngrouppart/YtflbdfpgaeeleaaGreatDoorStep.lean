/-
  append of pairs, as one step of a region that draws its order; an item put behind items of the call's own.
-/
import Derived.Test.YtflbdfpgaeeleaaGreatDoorClone
import Derived.Deep.RegionLaw
namespace Go.Proofs.YtflbdfpgaeeleaaGreatDoor
open Go.RowKit

theorem step_append_pairs {P : Program} {ops : Array Oper} {o : Oper} {a : Act} {w : World} {K : Act → World → Prop} {Q : Exit → Act → World → Prop} {E : Prop}
    (hg : o.guard = none) (s x : Operand) (t : TypeId) (hop : o.op = Op.call { callee := Callee.builtin Builtin.append, args := #[s, x], argTypes := #[t, t] })
    (base : Nat) (e : TypeId) (i : TypeInfo) (ht : P.underlying t = some (.slice e)) (hi : P.info? e = some i) (hz : i.zero = some (.agg #[.slice none 0 0, .int .i64 0]))
    (hsize : i.size = 2) (hby : i.bytes = 32)
    (v : Value) (ps : List (Value × Int)) (hs : a.eval s = v) (hown : w.ownsRow base e 2 v ps.length (cells2 ps))
    (ad : Addr) (m c : Nat) (qs : List (Value × Int)) (hx : a.eval x = .slice (some ad) m c) (hm : qs.length = m) (hnews : ∀ j u, (cells2 qs)[j]? = some u → w.cell? (ad.add j) = some u) (hsl : ∀ p ∈ qs, ∃ a n c, p.1 = Value.slice a n c)
    (hbytes : (ps.length + qs.length) * 32 ≤ 140737488355328) (hbase : base ≤ w.heap.size)
    (hK : ∀ v' w', w'.ownsRow base e 2 v' (ps ++ qs).length (cells2 (ps ++ qs)) → w.grownBy w' v.ownBlock → K (a.put o.dst v') w') :
    if Region.wanted o (yielded ops a.tmps) = true then Oper.wp P o a w K Q else E := by
  have hw : Region.wanted o (yielded ops a.tmps) = true := by simp [Region.wanted, hg]
  rw [if_pos hw]
  subst hm
  obtain ⟨v', w', hrun, r1, r2, _⟩ := run_append_own (P := P) w base t o.type e i (.agg #[.slice none 0 0, .int .i64 0]) 2 32 ht hi hz hsize hby rfl (by decide) v ps.length (cells2 ps) hown ad qs.length c (cells2 qs) (by rw [cells2_length]) hnews (cells2_one hsl) (by unfold maxLen; omega) hbytes hbase
  unfold Oper.wp
  simp [execOp, hop, resolve, invoke, builtin, hs, hx, hrun, Result.andThen]
  rw [← cells2_append] at r1
  exact hK v' w' (by rw [List.length_append]; exact r1) r2

theorem cells2_single (v : Value) (y : Int) : cells2 [(v, y)] = [v, .int .i64 y] := rfl

/-- The cells of an item that is written out in a new block. -/
theorem news_lit (w : World) (t : TypeId) (v : Value) (y : Int) : ∀ j u, (cells2 [(v, y)])[j]? = some u → (w.alloc (.cells #[v, .int .i64 y] t)).cell? ((⟨w.heap.size, 0, none⟩ : Addr).add j) = some u := by
  intro j u hu
  rw [cells2_single] at hu
  rw [Addr.add_lit]
  match j, hu with
  | 0, hu => simp at hu; subst hu; simp [go_sem]
  | 1, hu => simp at hu; subst hu; simp [go_sem]
  | j + 2, hu => simp at hu

/-- An item is put behind items of the call's own, its row in a new block. -/
theorem OwnZ.snoc {w w' : World} {lo hi : Nat} {v v' rv : Value} {zs : List It} {ps : List (Value × Int)} {xs : List Int} {y : Int} (he : ps.map (·.2) = zs.map (·.2)) (hs : Spine w lo hi v ps)
    (hr : ∀ j, j < ps.length → Own w lo hi (ps.getD j (vn, 0)).1 (zs.getD j ([], 0)).1)
    (ha : ∀ i j k, i < j → j < ps.length → (ps.getD i (vn, 0)).1.ownBlock = some k → (ps.getD j (vn, 0)).1.ownBlock ≠ some k)
    (hrow : Own w lo w.heap.size rv xs) (hf : ∀ b, rv.ownBlock = some b → hi ≤ b)
    (hown : w'.ownsRow lo 36 2 v' (ps ++ [(rv, y)]).length (cells2 (ps ++ [(rv, y)]))) (hg : w.grownBy w' v.ownBlock) (hlim : ps.length < 140737488355328) :
    OwnZ w' lo w'.heap.size v' (zs ++ [(xs, y)]) := by
  have hl := snd_len he
  refine ⟨ps ++ [(rv, y)], by simp [he], spine_new hown (by simp; omega), fun j hj => ?_, fun i j k hij hj hk => ?_⟩
  · by_cases hjl : j < ps.length
    · have e1 : (ps ++ [(rv, y)]).getD j (vn, 0) = ps.getD j (vn, 0) := by simp [List.getD, List.getElem?_append_left hjl]
      have e2 : (zs ++ [(xs, y)]).getD j ([], 0) = zs.getD j ([], 0) := by simp [List.getD, List.getElem?_append_left (show j < zs.length by omega)]
      rw [e1, e2]
      exact ((hr j hjl).keptB hg (row_ne_spine hs (hr j hjl))).wide (Nat.le_refl _) (Nat.le_trans hs.2.2.2 hg.size) (Nat.le_refl _)
    · have hj' : j = ps.length := by simp at hj; omega
      subst hj'
      have e1 : (ps ++ [(rv, y)]).getD ps.length (vn, 0) = (rv, y) := by simp [List.getD]
      have e2 : (zs ++ [(xs, y)]).getD ps.length ([], 0) = (xs, y) := by rw [hl]; simp [List.getD]
      rw [e1, e2]
      exact (hrow.keptB hg (row_ne_spine hs hrow)).wide (Nat.le_refl _) hg.size (Nat.le_refl _)
  · have hil : i < ps.length := by simp at hj; omega
    have e0 : (ps ++ [(rv, y)]).getD i (vn, 0) = ps.getD i (vn, 0) := by simp [List.getD, List.getElem?_append_left hil]
    rw [e0] at hk
    by_cases hjl : j < ps.length
    · have e1 : (ps ++ [(rv, y)]).getD j (vn, 0) = ps.getD j (vn, 0) := by simp [List.getD, List.getElem?_append_left hjl]
      rw [e1]
      exact ha i j k hij hjl hk
    · have hj' : j = ps.length := by simp at hj; omega
      subst hj'
      have e1 : (ps ++ [(rv, y)]).getD ps.length (vn, 0) = (rv, y) := by simp [List.getD]
      rw [e1]
      intro hk'
      have h1 := hf k hk'
      have h2 := (hr i hil).2.1 k hk
      omega

theorem pairs_lit (w : World) (t : TypeId) {rv : Value} (y : Int) (hs : ∃ a n c, rv = Value.slice a n c) : PairsAt (w.alloc (.cells #[rv, .int .i64 y] t)) (.slice (some ⟨w.heap.size, 0, none⟩) 1 1) [(rv, y)] := by
  refine ⟨by simp, fun p hp => by simp at hp; subst hp; exact hs, some ⟨w.heap.size, 0, none⟩, 1, rfl, fun h => by simp at h, fun _ => ⟨w.heap.size, 0, rfl, by simp, fun j hj => ?_⟩⟩
  obtain rfl : j = 0 := by simp at hj; omega
  simp [go_sem]

/-- What is wanted to put an item, written out in a new block, behind items of the call's own, and what it leaves. -/
theorem OwnZ.ready {w : World} {lo hi lo' : Nat} {v rv : Value} {zs : List It} {xs : List Int} (y : Int) (h : OwnZ w lo hi v zs) (hrow : Own w lo' w.heap.size rv xs) (h1 : hi ≤ lo') (h2 : lo ≤ lo') (h3 : lo ≤ w.heap.size) (hlim : zs.length ≤ 1099511627776) :
    ∃ ps : List (Value × Int), ps.length = zs.length ∧ (w.alloc (.cells #[rv, .int .i64 y] 36)).ownsRow lo 36 2 v ps.length (cells2 ps) ∧ PairsAt (w.alloc (.cells #[rv, .int .i64 y] 36)) (.slice (some ⟨w.heap.size, 0, none⟩) 1 1) [(rv, y)] ∧
      ∀ v' w', w'.ownsRow lo 36 2 v' (ps ++ [(rv, y)]).length (cells2 (ps ++ [(rv, y)])) → (w.alloc (.cells #[rv, .int .i64 y] 36)).grownBy w' v.ownBlock → OwnZ w' lo w'.heap.size v' (zs ++ [(xs, y)]) ∧ Below lo w w' := by
  obtain ⟨ps, he, hs, hr, ha⟩ := h
  have hl := snd_len he
  have hb := below_alloc (w := w) (.cells #[rv, .int .i64 y] 36)
  have hhi := hs.2.2.2
  refine ⟨ps, hl, (hs.keep (hb.mono hhi)).1, pairs_lit w _ y hrow.ints.shape, fun v' w' ho hg => ⟨?_, ?_⟩⟩
  · refine OwnZ.snoc he (hs.keep (hb.mono hhi)) (fun j hj => (hr j hj).keep (hb.mono hhi)) ha ((hrow.keep' hb).wide h2 hb.size (Nat.le_refl _)) (fun b hb' => ?_) ho hg (by omega)
    have := (hrow.1.lt b hb').1
    omega
  · refine (hb.mono h3).grown hg (by simp; omega) (fun k hk => (hs.1.lt k hk).1)

theorem zOk_le {zs : List It} (h : zOkB zs = true) : zs.length ≤ 100 := by
  unfold zOkB at h
  simp at h
  exact h.1
theorem zOk_row {zs : List It} (h : zOkB zs = true) {k : Nat} (hk : k < zs.length) : rowOkB (zs.getD k ([], 0)).1 = true ∧ wB (zs.getD k ([], 0)).2 = true := by
  unfold zOkB at h
  rw [Bool.and_eq_true, List.all_eq_true] at h
  have := h.2 k (List.mem_range.2 hk)
  unfold stepB at this
  rw [Bool.and_eq_true, Bool.and_eq_true] at this
  exact this.1
theorem rowOk_le {xs : List Int} (h : rowOkB xs = true) : xs.length ≤ 6 := by
  unfold rowOkB at h
  simp at h
  exact h.1.2

theorem zOk_mem {zs : List It} (h : zOkB zs = true) {p : It} (hp : p ∈ zs) : p.1.length ≤ 6 := by
  obtain ⟨j, hj, rfl⟩ := mem_getD (d := ([], 0)) hp
  exact rowOk_le (zOk_row h hj).1

theorem nil_ownZ (w : World) (lo : Nat) : OwnZ w lo w.heap.size (.slice none 0 0) [] :=
  ⟨[], rfl, ⟨World.ownsRow_nil _ _ _ _, fun k hk => by simp [Value.ownBlock] at hk, by simp, Nat.le_refl _⟩, fun j hj => by simp at hj, fun i j k _ hj => by simp at hj⟩
theorem lit_ownZ (w : World) : OwnZ (w.alloc (.cells #[] 36)) w.heap.size (w.alloc (.cells #[] 36)).heap.size (.slice (some ⟨w.heap.size, 0, none⟩) 0 0) [] :=
  ⟨[], rfl, spine_new (n := 0) (World.ownsRow_lit w #[] 0 (Nat.le_refl _) (by unfold maxLen; omega) rfl) (by simp), fun j hj => by simp at hj, fun i j k _ hj => by simp at hj⟩
theorem OwnZ.shape {w : World} {lo hi : Nat} {v : Value} {zs : List It} (h : OwnZ w lo hi v zs) : ∃ a cap, v = .slice a zs.length cap := by
  obtain ⟨ps, he, hs, _⟩ := h
  rw [← snd_len he]
  rcases hs.1.2 with ⟨rfl, h0⟩ | ⟨g, cap, cur, rfl, _⟩
  · exact ⟨none, 0, by rw [h0]⟩
  · exact ⟨_, _, rfl⟩

end Go.Proofs.YtflbdfpgaeeleaaGreatDoor
