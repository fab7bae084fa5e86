/-
  Plain facts on items of which something is so, and the contracts of WhereOf at a told answer.
-/
import Derived.Test.YtdponcnhdmkhiacDoorWhereImpl
import Derived.Test.YtdponcnhdmkhiacDoorWhereSpec
import Derived.Test.YtdponcnhdmkhiacDoorZVals
namespace Go.Proofs.YtdponcnhdmkhiacDoor
set_option maxRecDepth 100000
open Go.RowKit

theorem zOk_mkW {zs : List It} (hl : zs.length ≤ 100) (hp : ∀ p ∈ zs, rowOkB p.1 = true ∧ wB p.2 = true) (hs : Srt zs) : zOkB zs = true := by
  refine zOk_all hl fun j hj => ?_
  unfold Srt at hs
  rw [List.pairwise_iff_getElem] at hs
  have h1 := hp _ (getZ_mem hj)
  unfold stepB
  rw [h1.1, h1.2]
  by_cases h0 : j = 0
  · simp [h0]
  · have := hs (j - 1) j (by omega) hj (by omega)
    have hjl : j - 1 < zs.length := by omega
    have h2 : rowLessB (zs.getD (j - 1) ([], 0)).1 (zs.getD j ([], 0)).1 = true := less_of (by simpa [List.getD, hj, hjl] using this)
    rw [h2]
    simp
theorem zOk_filterW {zs : List It} (f : It → Bool) (h : zOkB zs = true) : zOkB (zs.filter f) = true :=
  zOk_mkW (by have := zOk_le h; have := List.length_filter_le f zs; omega) (fun p hp => by
    obtain ⟨j, hj, e⟩ := mem_getD (d := ([], 0)) (List.mem_filter.1 hp).1
    rw [← e]
    exact zOk_row h hj) (List.Pairwise.sublist List.filter_sublist (zOk_srt h))
theorem getZ_where (f : List Int → Bool) (q : List Int) : ∀ zs : List It, getZ (zs.filter fun p => f p.1) q = if f q then getZ zs q else 0
  | [] => by simp [getZ_nil]
  | p :: zs => by
    have ih := getZ_where f q zs
    rw [List.filter_cons]
    by_cases hp : f p.1 = true
    · rw [if_pos hp, getZ_cons, getZ_cons, ih]
      by_cases e : p.1 = q
      · rw [if_pos e, if_pos e, if_pos (by rw [← e]; exact hp)]
      · rw [if_neg e, if_neg e]
    · rw [if_neg hp, ih, getZ_cons]
      by_cases e : p.1 = q
      · rw [if_pos e, if_neg (by rw [← e]; exact hp), if_neg (by rw [← e]; exact hp)]
      · rw [if_neg e]
theorem getZ_in_row {zs : List It} {q : List Int} (h : getZ zs q ≠ 0) : ∃ p ∈ zs, p.1 = q := by
  apply Classical.byContradiction
  intro hc
  exact h (getZ_zero fun p hp e => hc ⟨p, hp, e⟩)
theorem getZ_self : ∀ {zs : List It}, Srt zs → ∀ p ∈ zs, getZ zs p.1 = p.2
  | [], _, p, hp => by simp at hp
  | x :: zs, h, p, hp => by
    rw [getZ_cons]
    rcases List.mem_cons.1 hp with rfl | hp
    · simp
    · rw [if_neg (ordL_ne ((Srt.cons.1 h).1 p hp))]
      exact getZ_self (Srt.cons.1 h).2 p hp

theorem where_true {t : Tst} {zs : List It} (h : whereOk t zs = true) : zOkB zs = true ∧ (∀ p ∈ zs, t.toldB p.1 = true) ∧ whereOut t zs = whereZ t zs := by
  have h0 := h
  unfold whereOk at h
  rw [Bool.and_eq_true, List.all_eq_true] at h
  exact ⟨h.1, h.2, by unfold whereOut; rw [h0]; rfl⟩
theorem where_mk {t : Tst} {zs : List It} (h : zOkB zs = true) (ht : ∀ p ∈ zs, t.toldB p.1 = true) : whereOk t zs = true ∧ whereOut t zs = whereZ t zs := by
  have : whereOk t zs = true := by unfold whereOk; rw [h, Bool.true_and, List.all_eq_true]; exact ht
  exact ⟨this, by unfold whereOut; rw [this]; rfl⟩
theorem where_false {t : Tst} {zs : List It} (h : whereOk t zs = false) : whereOut t zs = [] := by unfold whereOut; rw [h]; rfl
theorem whereZ_ok {t : Tst} {zs : List It} (h : zOkB zs = true) : zOkB (whereZ t zs) = true := zOk_filterW _ h
theorem told_not (t : Tst) (r : List Int) : Tst.toldB { t with no := !t.no } r = t.toldB r := rfl
theorem val_not {t : Tst} {r : List Int} (h : t.toldB r = true) : Tst.valB { t with no := !t.no } r = !t.valB r := by
  unfold Tst.valB
  rw [told_not, h, Bool.true_and, Bool.true_and]
  unfold Tst.holdsB
  cases t.no <;> simp
/-- Those of which it is so and those of which it is not are all. -/
theorem where_parts {t : Tst} {zs : List It} (h : whereOk t zs = true) : addZ (whereZ t zs) (whereZ { t with no := !t.no } zs) = zs := by
  obtain ⟨hz, ht, _⟩ := where_true h
  have s1 := zOk_srt (whereZ_ok (t := t) hz)
  have s2 := zOk_srt (whereZ_ok (t := { t with no := !t.no }) hz)
  refine canon (srt_add s1) (nz_add (zOk_nz (whereZ_ok hz))) (zOk_srt hz) (zOk_nz hz) fun q => ?_
  rw [getZ_add s1 s2]
  unfold whereZ
  rw [getZ_where, getZ_where]
  by_cases hq : getZ zs q = 0
  · rw [hq]; simp
  · obtain ⟨p, hp, rfl⟩ := getZ_in_row hq
    rw [val_not (ht p hp)]
    cases t.valB p.1 <;> simp
theorem where_twice (t : Tst) (zs : List It) : whereZ t (whereZ t zs) = whereZ t zs := by
  unfold whereZ
  rw [List.filter_filter]
  congr 1
  funext p
  simp
theorem where_swap (t u : Tst) (zs : List It) : whereZ t (whereZ u zs) = whereZ u (whereZ t zs) := by
  unfold whereZ
  rw [List.filter_filter, List.filter_filter]
  congr 1
  funext p
  exact Bool.and_comm _ _
theorem where_again {t : Tst} {zs : List It} (h : whereOk t zs = true) : whereOk t (whereZ t zs) = true ∧ whereOut t (whereZ t zs) = whereZ t zs := by
  obtain ⟨hz, ht, _⟩ := where_true h
  have := where_mk (whereZ_ok (t := t) hz) (fun p hp => ht p (whereZ_mem hp))
  exact ⟨this.1, this.2.trans (where_twice t zs)⟩
theorem where_row {t : Tst} {zs : List It} (h : whereOk t zs = true) {j : Nat} (hj : j < (whereZ t zs).length) : t.valB ((whereZ t zs).getD j ([], 0)).1 = true ∧ t.toldB ((whereZ t zs).getD j ([], 0)).1 = true ∧ getZ zs ((whereZ t zs).getD j ([], 0)).1 = ((whereZ t zs).getD j ([], 0)).2 := by
  obtain ⟨hz, ht, _⟩ := where_true h
  have hm : (whereZ t zs).getD j ([], 0) ∈ whereZ t zs := getZ_mem hj
  have h1 := List.mem_filter.1 hm
  exact ⟨h1.2, ht _ h1.1, getZ_self (zOk_srt hz) _ h1.1⟩

theorem TailZ.atW {w : World} {a : Option Addr} {n cap : Nat} {zs : List It} (h : TailZ w (.slice a n cap) zs) {k : Nat} (hk : k < zs.length) :
    ∃ b off xa xn xc, a = some ⟨b, off, none⟩ ∧ b < w.heap.size ∧ w.cell? ⟨b, off + k * 2, none⟩ = some (.slice xa xn xc) ∧ w.cell? ⟨b, off + k * 2 + 1, none⟩ = some (.int .i64 (zs.getD k ([], 0)).2) ∧ IntsAt w (.slice xa xn xc) (zs.getD k ([], 0)).1 := by
  obtain ⟨_, a', c', e, _, hc⟩ := h.items
  obtain ⟨b, off, rfl, hb, hcell⟩ := hc (fun e => by rw [e] at hk; simp at hk)
  obtain ⟨rv, c0, c1, c2⟩ := hcell k hk
  obtain ⟨xa, xn, xc, rfl⟩ := c2.shape
  simp at e
  exact ⟨b, off, xa, xn, xc, e.1, hb, c0, c1, c2⟩

theorem where_val {v : Value} {a os : List It} {t : Tst} {c : Bool} {w : World} {p : Addr} (hc : whereOk t a = c) (ho : whereOut t a = os) (hs : Sent w p) (h : TailZ w v a) :
    Calls Tryd.prog 6 #[v, .agg #[.int .i64 t.k, .bool t.no, .int .i64 t.l.k, .int .i64 t.l.a, .int .i64 t.l.b, .int .i64 t.l.n, .int .i64 t.r.k, .int .i64 t.r.a, .int .i64 t.r.b, .int .i64 t.r.n]] w fun e w' => ∃ v', e = .returned (.tuple #[v', .bool c]) ∧ TailZ w' v' os ∧ Below w.heap.size w w' := by
  subst hc ho
  refine (implWhere_any v a t w p hs h.items).mono ?_
  rintro e w' ⟨v', he, hz, hb⟩
  exact ⟨v', he, hz.tail, hb⟩
theorem specWhere_val {v : Value} {a os : List It} {t : Tst} {c : Bool} {w : World} (hc : whereOk t a = c) (ho : whereOut t a = os) (h : TailZ w v a) :
    Calls Tryd.prog 7 #[v, .agg #[.int .i64 t.k, .bool t.no, .int .i64 t.l.k, .int .i64 t.l.a, .int .i64 t.l.b, .int .i64 t.l.n, .int .i64 t.r.k, .int .i64 t.r.a, .int .i64 t.r.b, .int .i64 t.r.n]] w fun e w' => ∃ v', e = .returned (.tuple #[v', .bool c]) ∧ TailZ w' v' os ∧ Below w.heap.size w w' := by
  subst hc ho
  refine (specWhere_any v a t w h.items).mono ?_
  rintro e w' ⟨v', he, hz, hb⟩
  exact ⟨v', he, hz.tail, hb⟩

end Go.Proofs.YtdponcnhdmkhiacDoor
