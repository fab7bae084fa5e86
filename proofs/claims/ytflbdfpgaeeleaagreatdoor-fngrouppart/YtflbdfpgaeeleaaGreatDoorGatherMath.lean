/-
  Plain facts on items in any order: those of one row that stand beside each other are put together, and what weighs nothing is left out: of items sorted by their rows that is what is put one by one into nothing.
-/
import Derived.Test.YtflbdfpgaeeleaaGreatDoorPutMath
import Derived.Test.YtflbdfpgaeeleaaGreatDoorPut
namespace Go.Proofs.YtflbdfpgaeeleaaGreatDoor

def sumZ : List It → List Int → Int
  | [], _ => 0
  | p :: zs, q => (if p.1 = q then p.2 else 0) + sumZ zs q
theorem getZ_addAll {q : List Int} : ∀ (b a : List It), Srt a → getZ (addZ a b) q = getZ a q + sumZ b q
  | [], a, _ => by simp [addZ_nil, sumZ]
  | p :: b, a, h => by
    rw [addZ_cons, getZ_addAll b _ (srt_put h), getZ_put h, sumZ]
    omega
theorem sumZ_perm {q : List Int} {a b : List It} (h : a.Perm b) : sumZ a q = sumZ b q := by
  induction h with
  | nil => rfl
  | cons x _ ih => simp only [sumZ, ih]
  | swap x y l => simp only [sumZ]; omega
  | trans _ _ h1 h2 => rw [h1, h2]

/-- No later row is ahead of an earlier one. -/
def Asc (zs : List It) : Prop := zs.Pairwise fun p q => ¬ ordL q.1 p.1 = -1

def stepC (acc : List It) (p : It) : List It :=
  if 0 < acc.length ∧ (acc.getD (acc.length - 1) ([], 0)).1 = p.1 then acc.set (acc.length - 1) ((acc.getD (acc.length - 1) ([], 0)).1, (acc.getD (acc.length - 1) ([], 0)).2 + p.2) else acc ++ [p]
theorem stepC_nil (p : It) : stepC [] p = [p] := by simp [stepC]
theorem stepC_snoc (ini : List It) (l p : It) : stepC (ini ++ [l]) p = if l.1 = p.1 then ini ++ [(l.1, l.2 + p.2)] else (ini ++ [l]) ++ [p] := by
  unfold stepC
  have e1 : (ini ++ [l]).length - 1 = ini.length := by simp
  have e2 : (ini ++ [l]).getD ini.length ([], 0) = l := by simp [List.getD]
  rw [e1, e2]
  by_cases h : l.1 = p.1
  · rw [if_pos ⟨by simp, h⟩, if_pos h]
    simp
  · rw [if_neg (fun hc => h hc.2), if_neg h]
def clump (zs : List It) : List It := zs.foldl stepC []
theorem getZ_snoc {q : List Int} {x : It} : ∀ {ini : List It}, (∀ p ∈ ini, p.1 ≠ x.1) → getZ (ini ++ [x]) q = getZ ini q + (if x.1 = q then x.2 else 0)
  | [], _ => by simp [getZ_cons, getZ_nil]
  | p :: ini, h => by
    rw [List.cons_append, getZ_cons, getZ_cons, getZ_snoc (fun y hy => h y (by simp [hy]))]
    by_cases hp : p.1 = q
    · have : ¬ x.1 = q := fun e => h p (by simp) (by rw [hp, e])
      simp [hp, this]
    · simp [hp]
theorem srt_snoc {ini : List It} {x : It} : Srt (ini ++ [x]) ↔ Srt ini ∧ ∀ p ∈ ini, ordL p.1 x.1 = -1 := by
  unfold Srt
  rw [List.pairwise_append]
  simp

theorem clump_facts : ∀ (zs acc : List It), Srt acc → (∀ x ∈ acc, ∀ p ∈ zs, ¬ ordL p.1 x.1 = -1) → Asc zs → Srt (zs.foldl stepC acc) ∧ ∀ q, getZ (zs.foldl stepC acc) q = getZ acc q + sumZ zs q
  | [], acc, h, _, _ => ⟨h, fun q => by simp [sumZ]⟩
  | p :: zs, acc, h, hx, ha => by
    obtain ⟨ha1, ha2⟩ := List.pairwise_cons.1 ha
    rw [List.foldl_cons]
    rcases List.eq_nil_or_concat acc with rfl | ⟨ini, l, rfl⟩
    · rw [stepC_nil]
      have := clump_facts zs [p] (Srt.cons.2 ⟨fun x hx => by simp at hx, Srt.nil⟩) (fun x hx y hy => by simp at hx; rw [hx]; exact ha1 y hy) ha2
      refine ⟨this.1, fun q => ?_⟩
      rw [this.2 q, getZ_cons, getZ_nil, sumZ]
      omega
    · rw [List.concat_eq_append] at *
      obtain ⟨h1, h2⟩ := srt_snoc.1 h
      rw [stepC_snoc]
      by_cases he : l.1 = p.1
      · rw [if_pos he]
        have hs : Srt (ini ++ [(l.1, l.2 + p.2)]) := srt_snoc.2 ⟨h1, h2⟩
        have := clump_facts zs (ini ++ [(l.1, l.2 + p.2)]) hs (fun x hx' y hy => by
          rcases List.mem_append.1 hx' with hm | hm
          · exact hx x (by simp [hm]) y (by simp [hy])
          · simp at hm
            rw [hm]
            exact hx l (by simp) y (by simp [hy])) ha2
        refine ⟨this.1, fun q => ?_⟩
        rw [this.2 q, getZ_snoc (x := (l.1, l.2 + p.2)) (fun y hy e => ordL_ne (h2 y hy) e), getZ_snoc (x := l) (fun y hy e => ordL_ne (h2 y hy) e), sumZ, ← he]
        simp only
        by_cases hq : l.1 = q <;> simp [hq] <;> omega
      · rw [if_neg he]
        have hlp : ordL l.1 p.1 = -1 := ordL_flip (hx l (by simp) p (by simp)) (fun e => he e.symm)
        have hall : ∀ y ∈ ini ++ [l], ordL y.1 p.1 = -1 := fun y hy => by
          rcases List.mem_append.1 hy with hm | hm
          · exact ordL_trans _ _ _ (h2 y hm) hlp
          · simp at hm; rw [hm]; exact hlp
        have := clump_facts zs ((ini ++ [l]) ++ [p]) (srt_snoc.2 ⟨h, hall⟩) (fun x hx' y hy => by
          rcases List.mem_append.1 hx' with hm | hm
          · exact hx x hm y (by simp [hy])
          · simp at hm
            rw [hm]
            exact ha1 y hy) ha2
        refine ⟨this.1, fun q => ?_⟩
        rw [this.2 q, getZ_snoc (fun y hy e => ordL_ne (hall y hy) e), sumZ]
        omega

theorem srt_filter {zs : List It} (f : It → Bool) (h : Srt zs) : Srt (zs.filter f) := List.Pairwise.sublist List.filter_sublist h
theorem clump_add {srt zs : List It} (hp : srt.Perm zs) (ha : Asc srt) : (clump srt).filter (fun p => decide (p.2 ≠ 0)) = addZ [] zs := by
  obtain ⟨h1, h2⟩ : Srt (clump srt) ∧ ∀ q, getZ (clump srt) q = getZ [] q + sumZ srt q := clump_facts srt [] Srt.nil (fun x hx => by simp at hx) ha
  refine canon (srt_filter _ h1) (fun p hp => by simpa using (List.mem_filter.1 hp).2) (srt_add Srt.nil) (nz_add (fun p hp => by simp at hp)) fun q => ?_
  rw [getZ_filter h1, getZ_addAll zs [] Srt.nil, ← sumZ_perm hp]
  exact h2 q

/-- The same with the rows' values. -/
def stepR (acc : List Rw) (x : Rw) : List Rw :=
  if 0 < acc.length ∧ (acc.getD (acc.length - 1) (vn, ([], 0))).2.1 = x.2.1 then acc.set (acc.length - 1) ((acc.getD (acc.length - 1) (vn, ([], 0))).1, ((acc.getD (acc.length - 1) (vn, ([], 0))).2.1, (acc.getD (acc.length - 1) (vn, ([], 0))).2.2 + x.2.2)) else acc ++ [x]
theorem its_getD {l : List Rw} {k : Nat} (hk : k < l.length) : (its l).getD k ([], 0) = (l.getD k (vn, ([], 0))).2 := by simp [its, List.getD, hk]
theorem prs_getD {l : List Rw} {k : Nat} (hk : k < l.length) : (prs l).getD k (vn, 0) = ((l.getD k (vn, ([], 0))).1, (l.getD k (vn, ([], 0))).2.2) := by simp [prs, List.getD, hk]
theorem its_stepR (acc : List Rw) (x : Rw) : its (stepR acc x) = stepC (its acc) x.2 := by
  unfold stepR stepC
  rw [its_length]
  by_cases h0 : 0 < acc.length
  · rw [its_getD (by omega)]
    by_cases h : (acc.getD (acc.length - 1) (vn, ([], 0))).2.1 = x.2.1
    · rw [if_pos ⟨h0, h⟩, if_pos ⟨h0, h⟩]
      simp [its, List.map_set]
    · rw [if_neg (fun hc => h hc.2), if_neg (fun hc => h hc.2)]
      simp [its]
  · rw [if_neg (fun hc => h0 hc.1), if_neg (fun hc => h0 hc.1)]
    simp [its]
def clumpR (l : List Rw) : List Rw := l.foldl stepR []
theorem clumpR_snoc (l : List Rw) (x : Rw) : clumpR (l ++ [x]) = stepR (clumpR l) x := by simp [clumpR, List.foldl_append]
theorem its_clumpR_from : ∀ (l acc : List Rw), its (l.foldl stepR acc) = (its l).foldl stepC (its acc)
  | [], acc => rfl
  | x :: l, acc => by
    rw [List.foldl_cons, its_clumpR_from l, its_stepR]
    rfl
theorem its_clumpR (l : List Rw) : its (clumpR l) = clump (its l) := its_clumpR_from l []
/-- Rows of the one are rows of the other, in their order. -/
theorem stepR_sub (acc : List Rw) (x : Rw) : ((stepR acc x).map fun y => (y.1, y.2.1)).Sublist ((acc ++ [x]).map fun y => (y.1, y.2.1)) := by
  unfold stepR
  by_cases h : 0 < acc.length ∧ (acc.getD (acc.length - 1) (vn, ([], 0))).2.1 = x.2.1
  · rw [if_pos h]
    have e : (acc.set (acc.length - 1) ((acc.getD (acc.length - 1) (vn, ([], 0))).1, ((acc.getD (acc.length - 1) (vn, ([], 0))).2.1, (acc.getD (acc.length - 1) (vn, ([], 0))).2.2 + x.2.2))).map (fun y => (y.1, y.2.1)) = acc.map fun y => (y.1, y.2.1) := by
      rw [List.map_set]
      apply List.ext_getElem
      · simp
      · intro j h1 h2
        rw [List.getElem_set]
        split
        · rename_i hj
          simp at h2
          subst hj
          simp [List.getD, h2]
        · rfl
    rw [e, List.map_append]
    exact List.sublist_append_left _ _
  · rw [if_neg h]
    exact List.Sublist.refl _
theorem clumpR_sub_from : ∀ (l acc : List Rw), ((l.foldl stepR acc).map fun y => (y.1, y.2.1)).Sublist ((acc ++ l).map fun y => (y.1, y.2.1))
  | [], acc => by simp
  | x :: l, acc => by
    rw [List.foldl_cons]
    have h1 := clumpR_sub_from l (stepR acc x)
    have h2 := stepR_sub acc x
    refine h1.trans ?_
    rw [List.map_append, show acc ++ x :: l = (acc ++ [x]) ++ l by simp, List.map_append (l₂ := l)]
    exact h2.append (List.Sublist.refl _)
theorem clumpR_sub (l : List Rw) : ((clumpR l).map fun y => (y.1, y.2.1)).Sublist (l.map fun y => (y.1, y.2.1)) := by
  have := clumpR_sub_from l []
  rw [List.nil_append] at this
  exact this
theorem apart_iff (l : List Rw) : Apart l ↔ (l.map fun y => (y.1, y.2.1)).Pairwise fun a b => ∀ k, a.1.ownBlock = some k → b.1.ownBlock ≠ some k := by
  unfold Apart
  rw [List.pairwise_map]
theorem apart_sub {l m : List Rw} (h : Apart m) (hs : (l.map fun y => (y.1, y.2.1)).Sublist (m.map fun y => (y.1, y.2.1))) : Apart l := (apart_iff l).2 (List.Pairwise.sublist hs ((apart_iff m).1 h))
theorem sub_mem {l m : List Rw} (hs : (l.map fun y => (y.1, y.2.1)).Sublist (m.map fun y => (y.1, y.2.1))) {x : Rw} (hx : x ∈ l) : ∃ y ∈ m, y.1 = x.1 ∧ y.2.1 = x.2.1 := by
  have : (x.1, x.2.1) ∈ m.map fun y => (y.1, y.2.1) := hs.subset (List.mem_map.2 ⟨x, hx, rfl⟩)
  obtain ⟨y, hy, e⟩ := List.mem_map.1 this
  simp at e
  exact ⟨y, hy, e.1, e.2⟩
theorem apart_perm {l m : List Rw} (h : Apart l) (hp : l.Perm m) : Apart m := by
  unfold Apart at *
  refine (List.Perm.pairwise_iff ?_ hp).1 h
  intro a b hab k hk hc
  exact hab k hc hk
theorem stepC_len (acc : List It) (p : It) : (stepC acc p).length ≤ acc.length + 1 := by unfold stepC; split <;> simp
theorem stepC_bound {B C : Int} (_hC0 : 0 ≤ C) {acc : List It} {p : It} (h : ∀ x ∈ acc, -B ≤ x.2 ∧ x.2 ≤ B) (hp : -C ≤ p.2 ∧ p.2 ≤ C) (hB : 0 ≤ B) : ∀ x ∈ stepC acc p, -(B + C) ≤ x.2 ∧ x.2 ≤ B + C := by
  intro x hx
  unfold stepC at hx
  split at hx
  · rename_i hc
    rcases List.mem_or_eq_of_mem_set hx with hm | hm
    · have := h x hm; omega
    · have hl : acc.getD (acc.length - 1) ([], 0) ∈ acc := by simp [List.getD, show acc.length - 1 < acc.length by omega]
      have := h _ hl
      rw [hm]
      show -(B + C) ≤ (acc.getD (acc.length - 1) ([], 0)).2 + p.2 ∧ (acc.getD (acc.length - 1) ([], 0)).2 + p.2 ≤ B + C
      omega
  · rcases List.mem_append.1 hx with hm | hm
    · have := h x hm; omega
    · simp at hm; rw [hm]; omega
theorem clump_bound {C : Int} (hC0 : 0 ≤ C) : ∀ (zs acc : List It) (B : Int), 0 ≤ B → (∀ x ∈ acc, -B ≤ x.2 ∧ x.2 ≤ B) → (∀ p ∈ zs, -C ≤ p.2 ∧ p.2 ≤ C) → ∀ x ∈ zs.foldl stepC acc, -(B + zs.length * C) ≤ x.2 ∧ x.2 ≤ B + zs.length * C
  | [], acc, B, _, h, _, x, hx => by simpa using h x hx
  | p :: zs, acc, B, hB, h, hz, x, hx => by
    have h1 := stepC_bound hC0 h (hz p (by simp)) hB
    have h2 := clump_bound hC0 zs (stepC acc p) (B + C) (by omega) h1 (fun q hq => hz q (by simp [hq])) x hx
    have e : B + C + (zs.length : Int) * C = B + ((p :: zs).length : Int) * C := by
      rw [List.length_cons, Int.natCast_add, Int.add_mul]
      simp
      omega
    rw [e] at h2
    exact h2
theorem clump_len : ∀ (zs acc : List It), (zs.foldl stepC acc).length ≤ acc.length + zs.length
  | [], acc => by simp
  | p :: zs, acc => by
    have h1 := clump_len zs (stepC acc p)
    have h2 := stepC_len acc p
    simp
    omega

end Go.Proofs.YtflbdfpgaeeleaaGreatDoor
