/-
  Facts on what is joined the other way round, of rows of one width each: as many rows, as often.
-/
import Derived.Test.YtjaehoehfmklcaaJoinFacts
namespace Go.Proofs.Ytjaehoehfmklcaa
open Go.RowKit
set_option linter.unusedVariables false

/-- All rows are so wide. -/
def Wide (m : Nat) (zs : List It) : Prop := ∀ p ∈ zs, p.1.length = m
def RowsApart (zs : List It) : Prop := zs.Pairwise fun p q => p.1 ≠ q.1
theorem put_perm {r : List Int} {y : Int} (hy : y ≠ 0) : ∀ {zs : List It}, (∀ p ∈ zs, p.1 ≠ r) → (putZ zs r y).Perm ((r, y) :: zs)
  | [], _ => by unfold putZ; rw [if_neg hy]
  | p :: zs, h => by
    unfold putZ
    by_cases h1 : ordL p.1 r = -1
    · rw [if_pos h1]
      exact ((put_perm hy (zs := zs) fun q hq => h q (by simp [hq])).cons p).trans (List.Perm.swap _ _ _)
    · rw [if_neg h1, if_neg (h p (by simp)), if_neg hy]
theorem add_perm : ∀ (b a : List It), Nz b → RowsApart b → (∀ p ∈ a, ∀ q ∈ b, p.1 ≠ q.1) → (addZ a b).Perm (a ++ b)
  | [], a, _, _, _ => by simp [addZ_nil]
  | q :: b, a, hn, hb, ha => by
    rw [addZ_cons]
    obtain ⟨hb1, hb2⟩ := List.pairwise_cons.1 hb
    have h1 := put_perm (r := q.1) (hn q (by simp)) (zs := a) (fun p hp => ha p hp q (by simp))
    have h2 := add_perm b (putZ a q.1 q.2) (fun p hp => hn p (by simp [hp])) hb2 (fun p hp r hr => by
      rcases mem_put hp with h | h
      · exact ha p h r (by simp [hr])
      · rw [h]; exact hb1 r hr)
    refine h2.trans ((h1.append_right b).trans ?_)
    exact (List.perm_middle (a := q) (l₁ := a) (l₂ := b)).symm
theorem add_perm_all {L : List It} (hn : Nz L) (hb : RowsApart L) : (addZ [] L).Perm L := by
  simpa using add_perm L [] hn hb (fun p hp => by simp at hp)
theorem srt_apart {zs : List It} (h : Srt zs) : RowsApart zs := h.imp fun h => ordL_ne h
theorem with_apart {p : It} {qs : List It} (h : RowsApart qs) : RowsApart (withZ p qs) := by
  unfold RowsApart withZ at *
  rw [List.pairwise_map]
  exact h.imp fun h e => h (List.append_cancel_left e)
theorem meet_apart {b : List It} (y : Nat) (c : Int) (h : RowsApart b) : RowsApart (meetZ b y c) := h.sublist List.filter_sublist
theorem join_apart {b : List It} {x y m : Nat} (hb : RowsApart b) : ∀ {a : List It}, RowsApart a → Wide m a → RowsApart (joinZ a b x y)
  | [], _, _ => List.Pairwise.nil
  | p :: a, ha, hw => by
    obtain ⟨h1, h2⟩ := List.pairwise_cons.1 ha
    have ih := join_apart (x := x) (y := y) hb h2 (fun q hq => hw q (by simp [hq]))
    unfold joinZ at *
    rw [List.flatMap_cons]
    unfold RowsApart at *
    rw [List.pairwise_append]
    refine ⟨with_apart (meet_apart y _ hb), ih, fun u hu v hv e => ?_⟩
    obtain ⟨q, _, rfl⟩ := mem_with hu
    obtain ⟨p2, hp2, hv2⟩ := List.mem_flatMap.1 hv
    obtain ⟨q2, _, rfl⟩ := mem_with hv2
    have hl : p.1.length = p2.1.length := by rw [hw p (by simp), hw p2 (by simp [hp2])]
    exact h1 p2 hp2 (List.append_inj_left e hl)
theorem join_nz {a b : List It} {x y : Nat} (ha : Nz a) (hb : Nz b) : Nz (joinZ a b x y) := fun z hz => by
  obtain ⟨p, hp, q, hq, rfl⟩ := mem_join hz
  exact Int.mul_ne_zero (ha p hp) (hb q hq)
theorem mem_joinW {a b : List It} {x y : Nat} {z : It} : z ∈ joinZ a b x y ↔ ∃ p ∈ a, ∃ q ∈ b, q.1.getD y 0 = p.1.getD x 0 ∧ z = (p.1 ++ q.1, p.2 * q.2) := by
  unfold joinZ
  rw [List.mem_flatMap]
  constructor
  · rintro ⟨p, hp, hz⟩
    obtain ⟨q, hq, e⟩ := mem_with hz
    obtain ⟨h1, h2⟩ := List.mem_filter.1 hq
    exact ⟨p, hp, q, h1, by simpa using h2, e⟩
  · rintro ⟨p, hp, q, hq, hm, rfl⟩
    exact ⟨p, hp, List.mem_map.2 ⟨q, List.mem_filter.2 ⟨hq, by simpa using hm⟩, rfl⟩⟩
theorem join_snoc_len (b : List It) (p : It) (x y : Nat) : ∀ a : List It, (joinZ b (p :: a) x y).length = (joinZ b a x y).length + (b.filter fun q => decide (p.1.getD y 0 = q.1.getD x 0)).length
  | a => by
    induction b with
    | nil => simp [joinZ]
    | cons q b ih =>
      unfold joinZ at *
      rw [List.flatMap_cons, List.flatMap_cons, List.length_append, List.length_append, ih, withZ_len, withZ_len, List.filter_cons]
      unfold meetZ
      rw [List.filter_cons]
      by_cases h : p.1.getD y 0 = q.1.getD x 0
      · rw [if_pos (decide_eq_true h), if_pos (decide_eq_true h), List.length_cons, List.length_cons]; omega
      · rw [if_neg (by simpa using h), if_neg (by simpa using h)]; omega
theorem join_swap_len (b : List It) (x y : Nat) : ∀ a : List It, (joinZ a b x y).length = (joinZ b a y x).length
  | [] => by
    have : joinZ b [] y x = [] := by
      unfold joinZ
      rw [List.flatMap_eq_nil_iff]
      intro p _; rfl
    rw [this]; rfl
  | p :: a => by
    rw [join_snoc_len, ← join_swap_len b x y a]
    unfold joinZ
    rw [List.flatMap_cons, List.length_append, withZ_len]
    unfold meetZ
    have : (b.filter fun q => decide (q.1.getD y 0 = p.1.getD x 0)) = b.filter fun q => decide (p.1.getD x 0 = q.1.getD y 0) := by
      congr 1; funext q; rw [decide_eq_decide]; exact eq_comm
    rw [this]; omega
theorem sumG_zero : ∀ a : List It, sumG (fun _ => 0) a = 0
  | [] => rfl
  | p :: a => by rw [sumG, sumG_zero a]; simp
theorem sumG_swap (h : List Int → List Int → Int) (b : List It) : ∀ a : List It, sumG (fun p => sumG (h p) b) a = sumG (fun q => sumG (fun p => h p q) a) b
  | [] => by
    show 0 = sumG (fun _ => 0) b
    rw [sumG_zero]
  | p :: a => by
    have e : (fun q => sumG (fun p => h p q) (p :: a)) = fun q => p.2 * h p.1 q + sumG (fun p => h p q) a := by
      funext q; rw [sumG, Int.mul_comm]
    rw [sumG, sumG_swap h b a, e, sumG_plus, sumG_scale, Int.mul_comm]
/-- The weights add up to the same either way round. -/
theorem join_swap_sum (a b : List It) (x y : Nat) : sumG (fun _ => 1) (joinZ a b x y) = sumG (fun _ => 1) (joinZ b a y x) := by
  rw [sumG_join, sumG_join, sumG_swap]
  congr 1
  funext q
  congr 1
  funext p
  unfold meetG
  by_cases h : q.getD y 0 = p.getD x 0
  · rw [if_pos h, if_pos h.symm]
  · rw [if_neg h, if_neg fun e => h e.symm]

theorem zOk_mkJ {zs : List It} (hl : zs.length ≤ 100) (hp : ∀ p ∈ zs, rowOkB p.1 = true ∧ wB p.2 = true) (hs : Srt zs) : zOkB zs = true := by
  refine zOk_all hl fun j hj => ?_
  unfold Srt at hs
  rw [List.pairwise_iff_getElem] at hs
  have h1 := hp _ (getZ_mem hj)
  unfold stepB
  rw [h1.1, h1.2]
  by_cases h0 : j = 0
  · simp [h0]
  · have := hs (j - 1) j (by omega) hj (by omega)
    have hjl : j - 1 < zs.length := by omega
    have h2 : rowLessB (zs.getD (j - 1) ([], 0)).1 (zs.getD j ([], 0)).1 = true := less_of (by simpa [List.getD, hj, hjl] using this)
    rw [h2]
    simp
theorem can_swap (a b : List It) (x y : Int) : canB b a y x = canB a b x y := by
  unfold canB
  generalize placeB x = p1
  generalize placeB y = p2
  generalize decide (a.length = 0) = p3
  generalize decide (b.length = 0) = p4
  generalize hasAt x a = p5
  generalize hasAt y b = p6
  revert p1 p2 p3 p4 p5 p6
  decide
theorem rowOk_swap (p q : List Int) : rowOkB (p ++ q) = rowOkB (q ++ p) := by
  unfold rowOkB
  rw [List.length_append, List.length_append, Nat.add_comm, List.all_append, List.all_append, Bool.and_comm (p.all cellB)]
/-- The other way round there are as many rows, as often. -/
theorem join_swap {a b : List It} {x y : Int} {m n : Nat} (h : joinOk a b x y = true) (ha : Wide m a) (hb : Wide n b) :
    joinOk b a y x = true ∧ (joinOut b a y x).length = (joinOut a b x y).length ∧ sumG (fun _ => 1) (joinOut a b x y) = sumG (fun _ => 1) (joinOut b a y x) := by
  obtain ⟨h1, h2, h3, h4, h5⟩ := join_true h
  have q1 := add_perm_all (join_nz (x := x.toNat) (y := y.toNat) (zOk_nz h1) (zOk_nz h2)) (join_apart (srt_apart (zOk_srt h2)) (srt_apart (zOk_srt h1)) ha)
  have q2 := add_perm_all (join_nz (x := y.toNat) (y := x.toNat) (zOk_nz h2) (zOk_nz h1)) (join_apart (srt_apart (zOk_srt h1)) (srt_apart (zOk_srt h2)) hb)
  have hl : (addZ [] (joinZ b a y.toNat x.toNat)).length = (addZ [] (joinZ a b x.toNat y.toNat)).length := by
    rw [q1.length_eq, q2.length_eq, join_swap_len]
  have hz : zOkB (addZ [] (joinZ b a y.toNat x.toNat)) = true := by
    refine zOk_mkJ (by rw [hl]; exact zOk_le h4) (fun z hz => ?_) (srt_add Srt.nil)
    obtain ⟨q, hq, p, hp, hm, rfl⟩ := mem_joinW.1 (q2.mem_iff.1 hz)
    have hin : (p.1 ++ q.1, p.2 * q.2) ∈ addZ [] (joinZ a b x.toNat y.toNat) := q1.mem_iff.2 (mem_joinW.2 ⟨p, hp, q, hq, hm.symm, rfl⟩)
    obtain ⟨j, hj, e⟩ := mem_getD (d := ([], 0)) hin
    have hr := zOk_row h4 hj
    rw [e] at hr
    exact ⟨by show rowOkB (q.1 ++ p.1) = true; rw [rowOk_swap]; exact hr.1, by show wB (q.2 * p.2) = true; rw [Int.mul_comm]; exact hr.2⟩
  have hok : joinOk b a y x = true := by unfold joinOk; rw [h2, h1, can_swap, h3, hz]; rfl
  refine ⟨hok, ?_, ?_⟩
  · rw [h5, (join_true hok).2.2.2.2, hl]
  · rw [h5, (join_true hok).2.2.2.2, sumG_add, sumG_add, join_swap_sum]

end Go.Proofs.Ytjaehoehfmklcaa
