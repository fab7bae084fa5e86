/-
  Plain facts on items that are there, each once.
-/
import Derived.Test.YtflbdfpgaeeleaaGreatDoorZPos
import Derived.Test.YtflbdfpgaeeleaaGreatDoorAddSpec
import Derived.Test.YtflbdfpgaeeleaaGreatDoorZFacts
namespace Go.Proofs.YtflbdfpgaeeleaaGreatDoor

theorem zOk_mkD {zs : List It} (hl : zs.length ≤ 100) (hp : ∀ p ∈ zs, rowOkB p.1 = true ∧ wB p.2 = true) (hs : Srt zs) : zOkB zs = true := by
  refine zOk_all hl fun j hj => ?_
  have h1 := hp _ (getZ_mem hj)
  unfold stepB
  rw [h1.1, h1.2]
  rcases Nat.eq_zero_or_pos j with e | e
  · simp [e]
  · have hj1 : j - 1 < zs.length := by omega
    have h2 := (List.pairwise_iff_getElem.1 hs) (j - 1) j hj1 hj (by omega)
    have h3 : rowLessB (zs.getD (j - 1) ([], 0)).1 (zs.getD j ([], 0)).1 = true := less_of (by simpa [List.getD, hj, hj1] using h2)
    rw [h3]; simp
theorem mem_posD {zs : List It} {p : It} (h : p ∈ posZ zs) : p.2 = 1 ∧ ∃ q ∈ zs, p.1 = q.1 ∧ 0 < q.2 := by
  unfold posZ at h
  obtain ⟨q, hq, rfl⟩ := List.mem_map.1 h
  obtain ⟨h1, h2⟩ := List.mem_filter.1 hq
  exact ⟨rfl, q, h1, rfl, by simpa using h2⟩
theorem srt_posD {zs : List It} (h : Srt zs) : Srt (posZ zs) := by
  unfold Srt posZ at *
  rw [List.pairwise_map]
  exact (h.sublist List.filter_sublist)
theorem nz_posD (zs : List It) : Nz (posZ zs) := fun q hq => by rw [(mem_posD hq).1]; omega
theorem zOk_partsD {zs : List It} (h : zOkB zs = true) {p : It} (hp : p ∈ zs) : rowOkB p.1 = true ∧ wB p.2 = true := by
  obtain ⟨j, hj, rfl⟩ := mem_getD (d := ([], 0)) hp
  exact zOk_row h hj
theorem zOk_posD {zs : List It} (h : zOkB zs = true) : zOkB (posZ zs) = true := by
  refine zOk_mkD (by have := posZ_len zs; have := zOk_le h; omega) (fun p hp => ?_) (srt_posD (zOk_srt h))
  obtain ⟨h1, q, hq, e, _⟩ := mem_posD hp
  rw [h1, e]
  exact ⟨(zOk_partsD h hq).1, by decide⟩
theorem getZ_posD {q : List Int} : ∀ {zs : List It}, Srt zs → getZ (posZ zs) q = if 0 < getZ zs q then 1 else 0
  | [], _ => by simp [posZ, getZ_nil]
  | p :: zs, h => by
    have ih := getZ_posD (q := q) (Srt.cons.1 h).2
    by_cases hp : 0 < p.2
    · have e : posZ (p :: zs) = (p.1, 1) :: posZ zs := by unfold posZ; rw [List.filter_cons_of_pos (by simpa using hp)]; rfl
      rw [e, getZ_cons, getZ_cons, ih]
      by_cases hq : p.1 = q
      · simp [hq, hp]
      · simp [hq]
    · have e : posZ (p :: zs) = posZ zs := by unfold posZ; rw [List.filter_cons_of_neg (by simpa using hp)]
      rw [e, getZ_cons, ih]
      by_cases hq : p.1 = q
      · have h0 := getZ_ahead h
        rw [hq] at h0
        simp [hq, hp, h0]
      · simp [hq]
theorem getZ_selfD : ∀ {zs : List It}, Srt zs → ∀ p ∈ zs, getZ zs p.1 = p.2
  | q :: zs, h, p, hp => by
    rw [getZ_cons]
    rcases List.mem_cons.1 hp with rfl | hp
    · rw [if_pos rfl]
    · rw [if_neg (ordL_ne ((Srt.cons.1 h).1 p hp))]
      exact getZ_selfD (Srt.cons.1 h).2 p hp
theorem getZ_hereD {zs : List It} {q : List Int} (h : getZ zs q ≠ 0) : ∃ p ∈ zs, p.1 = q :=
  Classical.byContradiction fun hn => h (getZ_zero fun p hp e => hn ⟨p, hp, e⟩)
theorem drop_rowD (r : List Int) : ∀ b : List It, (∃ q ∈ b, q.1 = r) → (b.filter fun q => decide (q.1 ≠ r)).length + 1 ≤ b.length
  | [], ⟨q, hq, _⟩ => by simp at hq
  | p :: b, h => by
    by_cases e : p.1 = r
    · rw [List.filter_cons_of_neg (by simp [e])]
      have := List.length_filter_le (fun q : It => decide (q.1 ≠ r)) b
      rw [List.length_cons]; omega
    · rw [List.filter_cons_of_pos (by simp [e]), List.length_cons, List.length_cons]
      have := drop_rowD r b (by
        obtain ⟨q, hq, hr⟩ := h
        rcases List.mem_cons.1 hq with rfl | hq
        · exact absurd hr e
        · exact ⟨q, hq, hr⟩)
      omega
theorem len_subD : ∀ {a b : List It}, Srt a → (∀ p ∈ a, ∃ q ∈ b, q.1 = p.1) → a.length ≤ b.length
  | [], _, _, _ => by simp
  | p :: a, b, hs, h => by
    have h1 := drop_rowD p.1 b (h p (by simp))
    have h2 := len_subD (a := a) (b := b.filter fun q => decide (q.1 ≠ p.1)) (Srt.cons.1 hs).2 (fun r hr => by
      obtain ⟨q, hq, e⟩ := h r (by simp [hr])
      refine ⟨q, List.mem_filter.2 ⟨hq, ?_⟩, e⟩
      have := ordL_ne ((Srt.cons.1 hs).1 r hr)
      simp only [decide_eq_true_eq]
      intro e2
      exact this (e2.symm.trans e))
    rw [List.length_cons]; omega
theorem mild_neg {b : List It} (h : Mild b) : Mild (negZ b) := by
  refine ⟨by rw [negZ_length]; exact h.1, fun k hk => ?_, fun p hp => ?_⟩
  · rw [negZ_getD]
    exact h.2.1 k (by rw [negZ_length] at hk; exact hk)
  · unfold negZ at hp
    obtain ⟨q, hq, rfl⟩ := List.mem_map.1 hp
    have := h.2.2 q hq
    show -2199023255552 ≤ -q.2 ∧ -q.2 ≤ 2199023255552
    omega
theorem minus_take {a b : List It} {k : Nat} (hk : k < b.length) : addZ a ((negZ b).take (k + 1)) = putZ (addZ a ((negZ b).take k)) (b.getD k ([], 0)).1 (-(b.getD k ([], 0)).2) := by
  rw [add_take (by rw [negZ_length]; exact hk), negZ_getD]

end Go.Proofs.YtflbdfpgaeeleaaGreatDoor
