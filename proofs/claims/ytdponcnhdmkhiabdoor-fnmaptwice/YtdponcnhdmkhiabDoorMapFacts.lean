/-
  Facts on what is reckoned of items: weights add up, there are not more of them, all places of it are what it is, and what is reckoned of what was reckoned is reckoned at once; the contracts at a told answer.
-/
import Derived.Test.YtdponcnhdmkhiabDoorMapOf
import Derived.Test.YtdponcnhdmkhiabDoorZVals
namespace Go.Proofs.YtdponcnhdmkhiabDoor
open Go.RowKit
set_option linter.unusedVariables false

/-- The sum of the weights of those rows. -/
def sumP (f : List Int → Bool) : List It → Int
  | [] => 0
  | p :: zs => (if f p.1 then p.2 else 0) + sumP f zs
theorem sumP_put (f : List Int → Bool) (r : List Int) (y : Int) : ∀ zs : List It, sumP f (putZ zs r y) = sumP f zs + if f r then y else 0
  | [] => by
    unfold putZ
    by_cases h : y = 0
    · rw [if_pos h]; simp [sumP, h]
    · rw [if_neg h]; simp [sumP]
  | p :: zs => by
    have ih := sumP_put f r y zs
    unfold putZ
    by_cases h1 : ordL p.1 r = -1
    · rw [if_pos h1, sumP, sumP, ih]; omega
    · rw [if_neg h1]
      by_cases h2 : p.1 = r
      · rw [if_pos h2]
        by_cases h3 : p.2 + y = 0
        · rw [if_pos h3, sumP, h2]; by_cases hf : f r = true <;> simp [hf] <;> omega
        · rw [if_neg h3, sumP, sumP]; simp only [h2]; by_cases hf : f r = true <;> simp [hf] <;> omega
      · rw [if_neg h2]
        by_cases h3 : y = 0
        · rw [if_pos h3, h3]; simp
        · rw [if_neg h3]
          show (if f r then y else 0) + sumP f (p :: zs) = _
          omega
theorem sumP_add (f : List Int → Bool) : ∀ (b a : List It), sumP f (addZ a b) = sumP f a + sumP f b
  | [], a => by simp [addZ_nil, sumP]
  | p :: b, a => by rw [addZ_cons, sumP_add f b, sumP_put, sumP]; omega
theorem mem_add {x : It} : ∀ (b a : List It), x ∈ addZ a b → x ∈ a ∨ (∃ p ∈ a, x.1 = p.1) ∨ ∃ p ∈ b, x.1 = p.1
  | [], a, h => .inl h
  | p :: b, a, h => by
    rw [addZ_cons] at h
    rcases mem_add b _ h with h | ⟨q, hq, e⟩ | ⟨q, hq, e⟩
    · rcases mem_put h with h | h
      · exact .inl h
      · exact .inr (.inr ⟨p, by simp, h⟩)
    · rcases mem_put hq with h | h
      · exact .inr (.inl ⟨q, h, e⟩)
      · exact .inr (.inr ⟨p, by simp, e.trans h⟩)
    · exact .inr (.inr ⟨q, by simp [hq], e⟩)
theorem mem_all {x : It} {b : List It} (h : x ∈ addZ [] b) : ∃ p ∈ b, x.1 = p.1 := by
  rcases mem_add b [] h with h | ⟨q, hq, _⟩ | h
  · simp at h
  · simp at hq
  · exact h
theorem sumP_map (f : List Int → Bool) (cs : List Cel) : ∀ zs : List It, sumP f (mapZ cs zs) = sumP (fun r => f (rowC cs r)) zs
  | [] => rfl
  | p :: zs => by
    have ih := sumP_map f cs zs
    unfold mapZ at *
    rw [List.map_cons, sumP, sumP, ih]
theorem sumP_congr {f g : List Int → Bool} : ∀ {zs : List It}, (∀ p ∈ zs, f p.1 = g p.1) → sumP f zs = sumP g zs
  | [], _ => rfl
  | p :: zs, h => by rw [sumP, sumP, h p (by simp), sumP_congr fun q hq => h q (by simp [hq])]
theorem sumZ_is (q : List Int) : ∀ zs : List It, sumZ zs q = sumP (fun r => decide (r = q)) zs
  | [] => rfl
  | p :: zs => by rw [sumZ, sumP, sumZ_is q zs]; simp
theorem getZ_all (L : List It) (q : List Int) : getZ (addZ [] L) q = sumP (fun r => decide (r = q)) L := by
  rw [getZ_addAll L [] Srt.nil, getZ_nil, sumZ_is]; omega
theorem nz_none : Nz [] := fun p hp => by simp at hp
/-- What is reckoned of what was reckoned is reckoned at once. -/
theorem map_map {cs ds es : List Cel} {zs : List It} (h : ∀ p ∈ zs, rowC ds (rowC cs p.1) = rowC es p.1) : addZ [] (mapZ ds (addZ [] (mapZ cs zs))) = addZ [] (mapZ es zs) := by
  refine canon (srt_add Srt.nil) (nz_add nz_none) (srt_add Srt.nil) (nz_add nz_none) fun q => ?_
  rw [getZ_all, getZ_all, sumP_map, sumP_add, sumP_map, sumP_map, sumP]
  rw [sumP_congr (g := fun r => decide (rowC es r = q)) (fun p hp => by rw [h p hp])]
  omega
theorem all_put {m : List It} (h : zOkB m = true) : addZ [] m = m := by
  refine canon (srt_add Srt.nil) (nz_add nz_none) (zOk_srt h) (zOk_nz h) fun q => ?_
  rw [getZ_add Srt.nil (zOk_srt h), getZ_nil]; omega

theorem map_true {cs : List Cel} {zs : List It} (h : mapOk cs zs = true) : zOkB zs = true ∧ (1 ≤ cs.length ∧ cs.length ≤ 6) ∧ (∀ p ∈ zs, toldC cs p.1 = true) ∧ zOkB (addZ [] (mapZ cs zs)) = true ∧ mapOut cs zs = addZ [] (mapZ cs zs) := by
  have h0 := h
  unfold mapOk mapCan at h0
  simp only [Bool.and_eq_true, decide_eq_true_eq, List.all_eq_true] at h0
  exact ⟨h0.1.1.1, h0.1.1.2, h0.1.2, h0.2, by unfold mapOut; rw [h]; rfl⟩
theorem map_false {cs : List Cel} {zs : List It} (h : mapOk cs zs = false) : mapOut cs zs = [] := by unfold mapOut; rw [h]; rfl
/-- The places of a row, one by one. -/
def colsC (n : Nat) : List Cel := (List.range n).map fun (i : Nat) => ⟨1, (i : Int), 0, 0⟩
theorem colsC_len (n : Nat) : (colsC n).length = n := by simp [colsC]
theorem colsC_succ (n : Nat) : colsC (n + 1) = colsC n ++ [⟨1, n, 0, 0⟩] := by simp [colsC, List.range_succ]
theorem row_parts {x : List Int} (h : rowOkB x = true) : (1 ≤ x.length ∧ x.length ≤ 6) ∧ ∀ i, i < x.length → cellB (x.getD i 0) = true := by
  simp only [rowOkB, Bool.and_eq_true, decide_eq_true_eq, List.all_eq_true] at h
  refine ⟨h.1, fun i hi => h.2 _ ?_⟩
  simp [List.getD, hi]
theorem col_told {x : List Int} {i : Nat} (h : rowOkB x = true) (hi : i < x.length) : Cel.toldB ⟨1, i, 0, 0⟩ x = true := by
  obtain ⟨h1, h2⟩ := row_parts h
  have hk : Cel.okB ⟨1, i, 0, 0⟩ x.length = true := by
    unfold Cel.okB
    rw [decide_eq_true_eq]
    exact .inl ⟨rfl, ⟨by show (0 : Int) ≤ (i : Int); omega, by show (i : Int) < (x.length : Int); omega, by show (i : Int) < 6; omega⟩, rfl, rfl⟩
  have h3 : Cel.num ⟨1, i, 0, 0⟩ x = x.getD i 0 := by simp [Cel.num]
  unfold Cel.toldB
  rw [h, hk, h3, h2 i hi]; rfl
theorem col_val {x : List Int} {i : Nat} (h : rowOkB x = true) (hi : i < x.length) : Cel.valI ⟨1, i, 0, 0⟩ x = x.getD i 0 := by
  unfold Cel.valI
  rw [col_told h hi]
  simp [Cel.num]
theorem cols_told {x : List Int} (h : rowOkB x = true) : toldC (colsC x.length) x = true := by
  unfold toldC colsC
  rw [List.all_eq_true]
  intro c hc
  obtain ⟨i, hi, rfl⟩ := List.mem_map.1 hc
  exact col_told h (List.mem_range.1 hi)
theorem cols_row {x : List Int} (h : rowOkB x = true) : rowC (colsC x.length) x = x := by
  unfold rowC colsC
  rw [List.map_map]
  refine List.ext_getElem (by simp) fun i h1 h2 => ?_
  have hi : i < x.length := h2
  simp only [List.getElem_map, List.getElem_range, Function.comp]
  rw [col_val h hi]
  simp [List.getD, hi]
theorem rowC_len (cs : List Cel) (x : List Int) : (rowC cs x).length = cs.length := by simp [rowC]
theorem told_row {cs : List Cel} {x : List Int} (hl : 1 ≤ cs.length ∧ cs.length ≤ 6) (h : toldC cs x = true) : rowOkB (rowC cs x) = true := by
  simp only [rowOkB, Bool.and_eq_true, decide_eq_true_eq, List.all_eq_true, rowC_len]
  refine ⟨hl, fun y hy => ?_⟩
  obtain ⟨c, hc, rfl⟩ := List.mem_map.1 hy
  have h1 : c.toldB x = true := List.all_eq_true.1 h c hc
  have h2 := h1
  unfold Cel.toldB at h2
  simp only [Bool.and_eq_true] at h2
  unfold Cel.valI
  rw [h1]
  exact h2.2
/-- All places of what was reckoned are what it is. -/
theorem map_cols {cs : List Cel} {zs : List It} (h : mapOk cs zs = true) : mapOk (colsC cs.length) (mapOut cs zs) = true ∧ mapOut (colsC cs.length) (mapOut cs zs) = mapOut cs zs := by
  obtain ⟨h1, h2, h3, h4, h5⟩ := map_true h
  rw [h5]
  obtain ⟨m, hm⟩ : ∃ m, m = addZ [] (mapZ cs zs) := ⟨_, rfl⟩
  rw [← hm] at h4 ⊢
  have hrow : ∀ p ∈ m, rowOkB p.1 = true ∧ p.1.length = cs.length := fun p hp => by
    obtain ⟨j, hj, e⟩ := mem_getD (d := ([], 0)) hp
    refine ⟨by rw [← e]; exact (zOk_row h4 hj).1, ?_⟩
    rw [hm] at hp
    obtain ⟨q, hq, e2⟩ := mem_all hp
    obtain ⟨r, hr, rfl⟩ := List.mem_map.1 hq
    rw [e2, rowC_len]
  have e1 : mapZ (colsC cs.length) m = m := by
    unfold mapZ
    conv => rhs; rw [← List.map_id m]
    refine List.map_congr_left fun p hp => ?_
    obtain ⟨a, b⟩ := hrow p hp
    rw [← b, cols_row a]; rfl
  have e2 : mapCan (colsC cs.length) m = true := by
    unfold mapCan
    simp only [Bool.and_eq_true, decide_eq_true_eq, List.all_eq_true, colsC_len]
    refine ⟨⟨h4, h2⟩, fun p hp => ?_⟩
    obtain ⟨a, b⟩ := hrow p hp
    rw [← b]; exact cols_told a
  have e3 : mapOk (colsC cs.length) m = true := by unfold mapOk; rw [e2, e1, all_put h4, h4]; rfl
  exact ⟨e3, by unfold mapOut; rw [e3, e1, all_put h4]; rfl⟩
theorem map_first {cs : List Cel} {zs : List It} (h : mapOk cs zs = true) (hq : mapOk (colsC 1) (mapOut cs zs) = true) (hr : mapOk (cs.take 1) zs = true) : mapOut (colsC 1) (mapOut cs zs) = mapOut (cs.take 1) zs := by
  obtain ⟨h1, h2, h3, h4, h5⟩ := map_true h
  rw [(map_true hq).2.2.2.2, (map_true hr).2.2.2.2, h5]
  refine map_map fun p hp => ?_
  have hk := told_row h2 (h3 p hp)
  have hl : 0 < (rowC cs p.1).length := by rw [rowC_len]; omega
  have e1 : rowC (colsC 1) (rowC cs p.1) = [(rowC cs p.1).getD 0 0] := by
    show [Cel.valI ⟨1, ((0 : Nat) : Int), 0, 0⟩ _] = _
    rw [col_val hk hl]
  rw [e1]
  match cs, h2 with
  | c :: r, _ => rfl
def sumW (zs : List It) : Int := sumP (fun _ => true) zs
theorem map_weights {cs : List Cel} {zs : List It} (h : mapOk cs zs = true) : sumW (mapOut cs zs) = sumW zs := by
  unfold sumW
  rw [(map_true h).2.2.2.2, sumP_add, sumP_map, sumP]
  omega
theorem map_few {cs : List Cel} {zs : List It} (h : mapOk cs zs = true) : (mapOut cs zs).length ≤ zs.length := by
  rw [(map_true h).2.2.2.2]
  have := add_len (mapZ cs zs) []
  rw [mapZ_len] at this
  simpa using this
theorem sumW_snoc (a : List It) (p : It) : sumW (a ++ [p]) = sumW a + p.2 := by
  induction a with
  | nil => simp [sumW, sumP]
  | cons x a ih => unfold sumW at *; rw [List.cons_append, sumP, sumP, ih]; simp; omega
theorem sumW_take {zs : List It} {k : Nat} (hk : k < zs.length) : sumW (zs.take (k + 1)) = sumW (zs.take k) + (zs.getD k ([], 0)).2 := by
  rw [List.take_succ_eq_append_getElem hk, sumW_snoc]
  simp [List.getD, hk]
theorem sumW_in {zs : List It} (h : zOkB zs = true) : ∀ k, k ≤ zs.length → -(10000 * (k : Int)) ≤ sumW (zs.take k) ∧ sumW (zs.take k) ≤ 10000 * (k : Int)
  | 0, _ => by simp [sumW, sumP]
  | k + 1, hk => by
    have ih := sumW_in h k (by omega)
    rw [sumW_take (by omega)]
    have := (wB_in (zOk_row h (show k < zs.length by omega)).2).2
    omega

theorem TailZ.atM {w : World} {a : Option Addr} {n cap : Nat} {zs : List It} (h : TailZ w (.slice a n cap) zs) {k : Nat} (hk : k < zs.length) :
    ∃ b off xa xn xc, a = some ⟨b, off, none⟩ ∧ b < w.heap.size ∧ w.cell? ⟨b, off + k * 2, none⟩ = some (.slice xa xn xc) ∧ w.cell? ⟨b, off + k * 2 + 1, none⟩ = some (.int .i64 (zs.getD k ([], 0)).2) ∧ IntsAt w (.slice xa xn xc) (zs.getD k ([], 0)).1 := by
  obtain ⟨_, a', c', e, _, hc⟩ := h.items
  obtain ⟨b, off, rfl, hb, hcell⟩ := hc (fun e => by rw [e] at hk; simp at hk)
  obtain ⟨rv, c0, c1, c2⟩ := hcell k hk
  obtain ⟨xa, xn, xc, rfl⟩ := c2.shape
  simp at e
  exact ⟨b, off, xa, xn, xc, e.1, hb, c0, c1, c2⟩


theorem map_val {v u : Value} {a os : List It} {cs : List Cel} {c : Bool} {w : World} {p : Addr} (hc : mapOk cs a = c) (ho : mapOut cs a = os) (hs : Sent w p) (h : TailZ w v a) (hu : CelsAt w u cs) :
    Calls Tryd.prog 7 #[v, u] w fun e w' => ∃ v', e = .returned (.tuple #[v', .bool c]) ∧ TailZ w' v' os ∧ Below w.heap.size w w' := by
  subst hc ho
  refine (implMap_any v u a cs w p hs h.items hu).mono ?_
  rintro e w' ⟨v', he, hz, hb⟩
  exact ⟨v', he, hz.tail, hb⟩
theorem specMap_val {v u : Value} {a os : List It} {cs : List Cel} {c : Bool} {w : World} (hc : mapOk cs a = c) (ho : mapOut cs a = os) (h : TailZ w v a) (hu : CelsAt w u cs) :
    Calls Tryd.prog 8 #[v, u] w fun e w' => ∃ v', e = .returned (.tuple #[v', .bool c]) ∧ TailZ w' v' os ∧ Below w.heap.size w w' := by
  subst hc ho
  refine (specMap_any v u a cs w h.items hu).mono ?_
  rintro e w' ⟨v', he, hz, hb⟩
  exact ⟨v', he, hz.tail, hb⟩

end Go.Proofs.YtdponcnhdmkhiabDoor
