/-
  Plain facts on three lists that are joined by twos.
-/
import Derived.Test.YtehfpceghdaajaaSwapFacts
namespace Go.Proofs.Ytehfpceghdaajaa
open Go.RowKit
set_option linter.unusedVariables false

theorem sumG_same {f g : List Int → Int} : ∀ {zs : List It}, (∀ p ∈ zs, f p.1 = g p.1) → sumG f zs = sumG g zs
  | [], _ => rfl
  | p :: zs, h => by rw [sumG, sumG, h p (by simp), sumG_same (zs := zs) fun q hq => h q (by simp [hq])]
theorem getD_appL {p q : List Int} {k : Nat} (h : k < p.length) : (p ++ q).getD k 0 = p.getD k 0 := by
  simp only [List.getD]
  rw [List.getElem?_append_left h]
theorem getD_appR (p q : List Int) : (p ++ q).getD p.length 0 = q.getD 0 0 := by
  simp only [List.getD]
  rw [List.getElem?_append_right (Nat.le_refl _), Nat.sub_self]
/-- Joined by twos in either way it is the same. -/
theorem join_three {a b c : List It} {x y z n : Nat} (ha : ∀ p ∈ a, p.1.length = n) (hb : ∀ q ∈ b, y < q.1.length) :
    addZ [] (joinZ (addZ [] (joinZ a b x y)) c n z) = addZ [] (joinZ a (addZ [] (joinZ b c 0 z)) x y) := by
  refine canon (srt_add Srt.nil) (nz_add nz_noneJ) (srt_add Srt.nil) (nz_add nz_noneJ) fun q0 => ?_
  rw [getZ_gAll, getZ_gAll, sumG_join, sumG_join, sumG_add, sumG_join]
  show 0 + _ = _
  rw [Int.zero_add]
  refine sumG_same fun p hp => ?_
  rw [sumG_add]
  show _ = 0 + _
  rw [Int.zero_add, sumG_join]
  refine sumG_same fun q hq => ?_
  have e1 : (p.1 ++ q.1).getD n 0 = q.1.getD 0 0 := by rw [← ha p hp]; exact getD_appR _ _
  unfold meetG
  by_cases h : q.1.getD y 0 = p.1.getD x 0
  · rw [if_pos h]
    refine sumG_same fun r hr => ?_
    have e2 : (q.1 ++ r.1).getD y 0 = q.1.getD y 0 := getD_appL (hb q hq)
    simp only [e1, e2, h, if_true, List.append_assoc]
  · rw [if_neg h]
    have e3 : ∀ r : List Int, (if r.getD z 0 = q.1.getD 0 0 then (if (q.1 ++ r).getD y 0 = p.1.getD x 0 then (if p.1 ++ (q.1 ++ r) = q0 then (1 : Int) else 0) else 0) else 0) = 0 := fun r => by
      have e2 : (q.1 ++ r).getD y 0 = q.1.getD y 0 := getD_appL (hb q hq)
      rw [e2, if_neg h]
      by_cases h2 : r.getD z 0 = q.1.getD 0 0
      · rw [if_pos h2]
      · rw [if_neg h2]
    simp only [e3]
    exact (sumG_zero c).symm
theorem three_ok {a b c : List It} {x y z : Int} {n : Nat} (ha : ∀ p ∈ a, p.1.length = n) (hpa : 0 < a.length) (hpb : 0 < b.length) (hok : joinOk a b x y = true)
    (h1 : joinOk (joinOut a b x y) c n z = true) (h2 : joinOk b c 0 z = true) (h3 : joinOk a (joinOut b c 0 z) x y = true) :
    joinOut (joinOut a b x y) c n z = joinOut a (joinOut b c 0 z) x y := by
  obtain ⟨_, _, hcan, _, e0⟩ := join_true hok
  rw [(join_true h1).2.2.2.2, (join_true h3).2.2.2.2, e0, (join_true h2).2.2.2.2]
  obtain ⟨_, hy6, _, hy⟩ := can_at hcan hpa hpb
  refine join_three ha fun q hq => ?_
  obtain ⟨j, hj, e⟩ := mem_getD (d := ([], 0)) hq
  have := hy j hj
  rw [e] at this
  omega

end Go.Proofs.Ytehfpceghdaajaa
