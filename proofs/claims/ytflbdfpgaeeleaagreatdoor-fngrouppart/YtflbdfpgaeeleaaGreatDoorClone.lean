/-
  Pairs in memory as they lie (a row's slice value, a weight); append of such a slice to one that the call owns; the contracts of slices.Clone (ints, items) and impl.copyItems: copies in memory of their own.
-/
import Derived.Test.YtflbdfpgaeeleaaGreatDoorOwnZ
import Derived.Laws.AppendOwnNone
import Derived.Lib.SliceRun
namespace Go.Proofs.YtflbdfpgaeeleaaGreatDoor
open Go.RowKit

/-- The value v is a slice whose elements, in the memory w, are the pairs qs. -/
def PairsAt (w : World) (v : Value) (qs : List (Value × Int)) : Prop :=
  qs.length ≤ 140737488355328 ∧ (∀ p ∈ qs, ∃ a n c, p.1 = Value.slice a n c) ∧ ∃ (a : Option Addr) (cap : Nat), v = .slice a qs.length cap ∧ (a = none → cap = 0) ∧
    (qs ≠ [] → ∃ b off, a = some ⟨b, off, none⟩ ∧ b < w.heap.size ∧ ∀ j, j < qs.length → w.cell? ⟨b, off + j * 2, none⟩ = some (qs.getD j (vn, 0)).1 ∧ w.cell? ⟨b, off + j * 2 + 1, none⟩ = some (.int .i64 (qs.getD j (vn, 0)).2))

theorem PairsAt.below {w w' : World} {v : Value} {qs : List (Value × Int)} (h : PairsAt w v qs) (hb : Below w.heap.size w w') : PairsAt w' v qs := by
  obtain ⟨hl, hs, a, cap, rfl, hn, hc⟩ := h
  refine ⟨hl, hs, a, cap, rfl, hn, fun hne => ?_⟩
  obtain ⟨b, off, rfl, hbl, hcell⟩ := hc hne
  refine ⟨b, off, rfl, Nat.lt_of_lt_of_le hbl hb.size, fun j hj => ?_⟩
  obtain ⟨h1, h2⟩ := hcell j hj
  exact ⟨(hb.cell (p := ⟨b, off + j * 2, none⟩) hbl).trans h1, (hb.cell (p := ⟨b, off + j * 2 + 1, none⟩) hbl).trans h2⟩

theorem mem_getD {α : Type} {l : List α} {p d : α} (h : p ∈ l) : ∃ j, j < l.length ∧ l.getD j d = p := by
  obtain ⟨j, hj, rfl⟩ := List.getElem_of_mem h
  exact ⟨j, hj, by simp [List.getD, hj]⟩

/-- Items are pairs whose rows read so. -/
theorem ItemsAt.pairs {w : World} {v : Value} {zs : List It} (h : ItemsAt w v zs) : ∃ qs : List (Value × Int), PairsAt w v qs ∧ qs.map (·.2) = zs.map (·.2) ∧ ∀ j, j < zs.length → IntsAt w (qs.getD j (vn, 0)).1 (zs.getD j ([], 0)).1 := by
  obtain ⟨hl, a, cap, rfl, hn, hc⟩ := h
  by_cases hx : zs = []
  · subst hx
    exact ⟨[], ⟨by simp, fun p hp => by simp at hp, a, cap, rfl, hn, fun h => absurd rfl h⟩, rfl, fun j hj => by simp at hj⟩
  · obtain ⟨b, off, rfl, hbl, hcell⟩ := hc hx
    have : ∃ f : Nat → Value, ∀ j, j < zs.length → w.cell? ⟨b, off + j * 2, none⟩ = some (f j) ∧ w.cell? ⟨b, off + j * 2 + 1, none⟩ = some (.int .i64 (zs.getD j ([], 0)).2) ∧ IntsAt w (f j) (zs.getD j ([], 0)).1 := by
      classical
      refine ⟨fun j => if hj : j < zs.length then Classical.choose (hcell j hj) else vn, fun j hj => ?_⟩
      simp only [dif_pos hj]
      exact Classical.choose_spec (hcell j hj)
    obtain ⟨f, hf⟩ := this
    have hlen : ((List.range zs.length).map fun j => (f j, (zs.getD j ([], 0)).2)).length = zs.length := by simp
    have hg : ∀ j, j < zs.length → ((List.range zs.length).map fun j => (f j, (zs.getD j ([], 0)).2)).getD j (vn, 0) = (f j, (zs.getD j ([], 0)).2) := fun j hj => by simp [List.getD, hj]
    refine ⟨(List.range zs.length).map fun j => (f j, (zs.getD j ([], 0)).2), ⟨by omega, fun p hp => ?_, some ⟨b, off, none⟩, cap, by rw [hlen], fun h => by simp at h, fun _ => ⟨b, off, rfl, hbl, fun j hj => ?_⟩⟩, ?_, fun j hj => ?_⟩
    · obtain ⟨j, hj, rfl⟩ := mem_getD (d := (vn, 0)) hp
      rw [hlen] at hj
      rw [hg j hj]
      exact (hf j hj).2.2.shape
    · rw [hlen] at hj
      rw [hg j hj]
      exact ⟨(hf j hj).1, (hf j hj).2.1⟩
    · apply List.ext_getElem?
      intro j
      by_cases hj : j < zs.length
      · simp [hj, List.getD]
      · simp [hj]
    · rw [hg j hj]
      exact (hf j hj).2.2
theorem PairsAt.items {w : World} {v : Value} {zs : List It} {qs : List (Value × Int)} (h : PairsAt w v qs) (he : qs.map (·.2) = zs.map (·.2)) (hr : ∀ j, j < zs.length → IntsAt w (qs.getD j (vn, 0)).1 (zs.getD j ([], 0)).1) : ItemsAt w v zs := by
  have hl := snd_len he
  obtain ⟨h1, _, a, cap, rfl, hn, hc⟩ := h
  refine ⟨by omega, a, cap, by rw [hl], hn, fun hne => ?_⟩
  obtain ⟨b, off, rfl, hbl, hcell⟩ := hc (fun e => hne (by subst e; exact List.length_eq_zero_iff.1 (by simpa using hl.symm)))
  refine ⟨b, off, rfl, hbl, fun j hj => ?_⟩
  obtain ⟨h2, h3⟩ := hcell j (by omega)
  exact ⟨_, h2, by rw [h3, snd_getD he], hr j hj⟩
theorem Spine.pairs {w : World} {lo hi : Nat} {v : Value} {ps : List (Value × Int)} (h : Spine w lo hi v ps) (hs : ∀ p ∈ ps, ∃ a n c, p.1 = Value.slice a n c) : PairsAt w v ps := by
  refine ⟨h.2.2.1, hs, ?_⟩
  rcases h.1.2 with ⟨rfl, hn⟩ | ⟨g, cap, cur, rfl, _, hg, _⟩
  · have : ps = [] := List.length_eq_zero_iff.1 hn
    subst this
    exact ⟨none, 0, rfl, fun _ => rfl, fun h => absurd rfl h⟩
  · refine ⟨some ⟨g, 0, none⟩, cap, rfl, fun h => by simp at h, fun hne => ⟨g, 0, rfl, (Array.getElem?_eq_some_iff.1 hg).1, fun j hj => ?_⟩⟩
    rw [Nat.zero_add]
    exact ⟨h.cell0 hj, h.cell1 hj⟩

theorem cells2_one {qs : List (Value × Int)} (hs : ∀ p ∈ qs, ∃ a n c, p.1 = Value.slice a n c) : ∀ u ∈ cells2 qs, u.oneCell' = true := by
  intro u hu
  obtain ⟨p, hp, hu⟩ := List.mem_flatMap.1 hu
  obtain ⟨a, n, c, hpc⟩ := hs p hp
  simp [hpc] at hu
  rcases hu with rfl | rfl <;> rfl

/-- append of a slice of pairs, whatever it is, to one that the call owns. -/
theorem wpList_append_pairs {P : Program} {w : World} {ops : Array Oper} {rest : List Oper} {o : Oper} {a : Act} {Q : Exit → Act → World → Prop} (hgd : o.guard = none) (s x : Operand) (t : TypeId)
    (ho : o.op = .call { callee := .builtin .append, args := #[s, x], argTypes := #[t, t] })
    (base : Nat) (e : TypeId) (i : TypeInfo) (ht : P.underlying t = some (.slice e)) (hi : P.info? e = some i) (hz : i.zero = some (.agg #[.slice none 0 0, .int .i64 0]))
    (hsize : i.size = 2) (hby : i.bytes = 32)
    (v : Value) (ps : List (Value × Int)) (hs : a.eval s = v) (hown : w.ownsRow base e 2 v ps.length (cells2 ps))
    (vx : Value) (qs : List (Value × Int)) (hx : a.eval x = vx) (hsrc : PairsAt w vx qs)
    (hbytes : (ps.length + qs.length) * 32 ≤ 140737488355328) (hbase : base ≤ w.heap.size)
    (h : ∀ v' w', w'.ownsRow base e 2 v' (ps ++ qs).length (cells2 (ps ++ qs)) → w.grownBy w' v.ownBlock → (v ≠ .slice none 0 0 → v' ≠ .slice none 0 0) → wpList P ops Q rest (a.put o.dst v') w') : wpList P ops Q (o :: rest) a w := by
  obtain ⟨hl, hsl, ad, cap, rfl, hnone, hc⟩ := hsrc
  cases ad with
  | none =>
    have hsrc : qs = [] := by
      by_cases h0 : qs = []
      · exact h0
      · obtain ⟨b, off, hh, _⟩ := hc h0
        simp at hh
    subst hsrc
    have hcap := hnone rfl
    subst hcap
    refine wpList_append_own_none hgd s x t ho base e i 2 ht hi v ps.length (cells2 ps) hs hown hx ?_
    refine h v w (by simpa using hown) (grown_refl _ _) (fun h => h)
  | some ad =>
    have hnews : ∀ j u, (cells2 qs)[j]? = some u → w.cell? (ad.add j) = some u := by
      intro j u hu
      by_cases h0 : qs = []
      · subst h0; simp [cells2] at hu
      · obtain ⟨b, off, hh, _, hcell⟩ := hc h0
        simp at hh
        subst hh
        have hj : j < qs.length * 2 := by
          have := (List.getElem?_eq_some_iff.1 hu).1
          rwa [cells2_length] at this
        rw [Addr.add_lit]
        obtain ⟨q, r, hq, hr⟩ : ∃ q r, j = q * 2 + r ∧ r < 2 := ⟨j / 2, j % 2, by omega, by omega⟩
        have hqn : q < qs.length := by omega
        obtain ⟨h1, h2⟩ := hcell q hqn
        rcases Nat.lt_succ_iff_lt_or_eq.1 hr with h | h
        · obtain rfl : r = 0 := by omega
          subst hq
          rw [Nat.add_zero] at hu ⊢
          rw [cells2_get0 _ _ hqn] at hu
          rw [h1]; exact hu
        · subst h hq
          rw [cells2_get1 _ _ hqn] at hu
          rw [← Nat.add_assoc, h2]; exact hu
    refine wpList_append_own w hgd s x t ho base e i (.agg #[.slice none 0 0, .int .i64 0]) 2 32 ht hi hz hsize hby rfl (by decide) v ps.length (cells2 ps) hs hown ad qs.length cap (cells2 qs) hx (by rw [cells2_length]) hnews (cells2_one hsl) (by unfold maxLen; omega) hbytes hbase ?_
    intro v' w' h1 h2 h3
    rw [← cells2_append] at h1
    exact h v' w' (by rw [List.length_append]; exact h1) h2 (fun hv hv' => hv (h3.1 hv').1)

set_option maxHeartbeats 1000000 in
theorem cloneInts_any (v : Value) (xs : List Int) (w : World) (h : IntsAt w v xs) (hlim : xs.length ≤ 8796093022208) :
    Calls Tryz.prog 38 #[v] w fun e w' => ∃ v', e = .returned v' ∧ Own w' w.heap.size w'.heap.size v' xs ∧ Below w.heap.size w w' := by
  obtain ⟨i0, hi, hz0, hz1, hz2⟩ := info_parts infoInt
  have hx1 : IntsAt (w.alloc (.cells #[] 3)) v xs := h.below ((Below.refl _ _).alloc (Nat.le_refl _) _)
  have ho1 : (w.alloc (.cells #[] 3)).ownsRow w.heap.size 3 1 (.slice (some ⟨w.heap.size, 0, none⟩) 0 0) 0 [] := World.ownsRow_lit w #[] 0 (Nat.le_refl _) (by unfold maxLen; omega) rfl
  obtain ⟨_, a, cap, hv, hnone, hc⟩ := h
  cases a with
  | none =>
    have hxs : xs = [] := by
      by_cases h0 : xs = []
      · exact h0
      · obtain ⟨b, off, hh, _⟩ := hc h0
        simp at hh
    subst hxs
    have hcap := hnone rfl
    subst hcap
    subst hv
    clear hx1 ho1 hc hnone
    have qn : ∀ (w : World) (a : Option Addr) (n c n' c' : Nat), (binOp .eql 24 (.slice a n c) (.slice none n' c')).run Tryz.prog w = .ok (.bool a.isNone) w := fun w a n c n' c' => Lib.run_eql_slice_nil w _ _ a n c n' c' Tryz.underlying24
    go_enter Tryz.func38, Tryz.ntmps38
    go_wp2
    go_ret
    exact ⟨_, rfl, ⟨World.ownsRow_nil _ _ _ _, fun k hk => by simp [Value.ownBlock] at hk, by simp, Nat.le_refl _⟩, Below.refl _ _⟩
  | some ad =>
    clear hc hnone
    subst hv
    have qn : ∀ (w : World) (a : Option Addr) (n c n' c' : Nat), (binOp .eql 24 (.slice a n c) (.slice none n' c')).run Tryz.prog w = .ok (.bool a.isNone) w := fun w a n c n' c' => Lib.run_eql_slice_nil w _ _ a n c n' c' Tryz.underlying24
    go_enter Tryz.func38, Tryz.ntmps38
    go_wp2_with (at_builtin; refine wpList_append_ints rfl _ _ 24 rfl w.heap.size 3 i0 Tryz.underlying24 hi hz0 hz1 hz2 (.slice (some ⟨w.heap.size, 0, none⟩) 0 0) 0 [] rfl ho1 _ xs rfl hx1 (by omega) (by simp) ?_; intro v' w1 hown1 hgrow1 _)
    have hb1 : Below w.heap.size w w1 := ((Below.refl _ _).alloc (Nat.le_refl _) _).grown hgrow1 (by simp) (by simp [Value.ownBlock])
    have ho2 := own_new (xs := xs) (by simpa using hown1) (by omega)
    clear hown1 hgrow1 hx1 ho1
    go_wp2
    go_ret
    exact ⟨_, rfl, ho2, hb1⟩

set_option maxHeartbeats 1000000 in
theorem cloneItems_any (v : Value) (qs : List (Value × Int)) (w : World) (h : PairsAt w v qs) (hlim : qs.length ≤ 1099511627776) :
    Calls Tryz.prog 89 #[v] w fun e w' => ∃ v', e = .returned v' ∧ Spine w' w.heap.size w'.heap.size v' qs ∧ Below w.heap.size w w' := by
  obtain ⟨i0, hi, hz0, hz1, hz2⟩ := info_parts infoItem
  have hx1 : PairsAt (w.alloc (.cells #[] 36)) v qs := h.below ((Below.refl _ _).alloc (Nat.le_refl _) _)
  have ho1 : (w.alloc (.cells #[] 36)).ownsRow w.heap.size 36 2 (.slice (some ⟨w.heap.size, 0, none⟩) 0 0) 0 [] := World.ownsRow_lit w #[] 0 (Nat.le_refl _) (by unfold maxLen; omega) rfl
  obtain ⟨_, _, a, cap, hv, hnone, hc⟩ := h
  cases a with
  | none =>
    have hxs : qs = [] := by
      by_cases h0 : qs = []
      · exact h0
      · obtain ⟨b, off, hh, _⟩ := hc h0
        simp at hh
    subst hxs
    have hcap := hnone rfl
    subst hcap
    subst hv
    clear hx1 ho1 hc hnone
    have qn : ∀ (w : World) (a : Option Addr) (n c n' c' : Nat), (binOp .eql 23 (.slice a n c) (.slice none n' c')).run Tryz.prog w = .ok (.bool a.isNone) w := fun w a n c n' c' => Lib.run_eql_slice_nil w _ _ a n c n' c' Tryz.underlying23
    go_enter Tryz.func89, Tryz.ntmps89
    go_wp2
    go_ret
    exact ⟨_, rfl, ⟨World.ownsRow_nil _ _ _ _, fun k hk => by simp [Value.ownBlock] at hk, by simp, Nat.le_refl _⟩, Below.refl _ _⟩
  | some ad =>
    clear hc hnone
    subst hv
    have qn : ∀ (w : World) (a : Option Addr) (n c n' c' : Nat), (binOp .eql 23 (.slice a n c) (.slice none n' c')).run Tryz.prog w = .ok (.bool a.isNone) w := fun w a n c n' c' => Lib.run_eql_slice_nil w _ _ a n c n' c' Tryz.underlying23
    go_enter Tryz.func89, Tryz.ntmps89
    go_wp2_with (at_builtin; refine wpList_append_pairs rfl _ _ 23 rfl w.heap.size 36 i0 Tryz.underlying23 hi hz0 hz1 hz2 (.slice (some ⟨w.heap.size, 0, none⟩) 0 0) [] rfl ho1 _ qs rfl hx1 (by simp; omega) (by simp) ?_; intro v' w1 hown1 hgrow1 _)
    have hb1 : Below w.heap.size w w1 := ((Below.refl _ _).alloc (Nat.le_refl _) _).grown hgrow1 (by simp) (by simp [Value.ownBlock])
    have ho2 := spine_new (ps := qs) (by simpa using hown1) (by omega)
    clear hown1 hgrow1 hx1 ho1
    go_wp2
    go_ret
    exact ⟨_, rfl, ho2, hb1⟩

end Go.Proofs.YtflbdfpgaeeleaaGreatDoor
