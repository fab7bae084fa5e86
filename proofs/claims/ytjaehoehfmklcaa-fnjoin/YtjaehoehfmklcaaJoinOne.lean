/-
  Plain facts on what is joined: of one row each that it meets is a row of its own; how many pairs meet.
-/
import Derived.Test.YtjaehoehfmklcaaJoinFacts
import Derived.Test.YtjaehoehfmklcaaZVals
namespace Go.Proofs.Ytjaehoehfmklcaa
open Go.RowKit
set_option linter.unusedVariables false

theorem sum_get {q : List Int} : ∀ {z : List It}, Srt z → sumZ z q = getZ z q
  | [], _ => rfl
  | p :: z, h => by
    obtain ⟨h1, h2⟩ := Srt.cons.1 h
    rw [sumZ, sum_get h2, getZ_cons]
    by_cases e : p.1 = q
    · rw [if_pos e, if_pos e]
      have : getZ z q = 0 := by rw [← e]; exact getZ_ahead h
      omega
    · rw [if_neg e, if_neg e]; omega
theorem getZ_of {z : List It} (h : Srt z) {p : It} (hp : p ∈ z) : getZ z p.1 = p.2 := by
  induction z with
  | nil => simp at hp
  | cons x z ih =>
    obtain ⟨h1, h2⟩ := Srt.cons.1 h
    rw [getZ_cons]
    rcases List.mem_cons.1 hp with e | e
    · rw [e, if_pos rfl]
    · rw [if_neg (ordL_ne (h1 p e))]
      exact ih h2 e
/-- Of one row, each that it meets. -/
theorem one_meets {p q : It} {b : List It} {x y : Nat} (hb : Srt b) (hq : q ∈ b) (hm : q.1.getD y 0 = p.1.getD x 0) : getZ (addZ [] (joinZ [p] b x y)) (p.1 ++ q.1) = p.2 * q.2 := by
  rw [getZ_gAll, sumG_join]
  show sumG (meetG (fun r => if r = p.1 ++ q.1 then 1 else 0) x y p.1) b * p.2 + 0 = _
  have e : meetG (fun r => if r = p.1 ++ q.1 then (1 : Int) else 0) x y p.1 = fun r => if r = q.1 then 1 else 0 := by
    funext r
    unfold meetG
    by_cases h : r = q.1
    · rw [h, if_pos hm, if_pos rfl]
      exact if_pos rfl
    · rw [if_neg h]
      by_cases h2 : r.getD y 0 = p.1.getD x 0
      · rw [if_pos h2]
        exact if_neg (fun e => h (List.append_cancel_left e))
      · rw [if_neg h2]
  rw [e, ← sumZ_g, sum_get hb, getZ_of hb hq, Int.add_zero, Int.mul_comm]
theorem join_one {a b : List It} {x y : Int} (h : joinOk a b x y = true) (hl : a.length < 2) {i k : Nat} (hi : i < a.length) (hk : k < b.length) (hm : (b.getD k ([], 0)).1.getD y.toNat 0 = (a.getD i ([], 0)).1.getD x.toNat 0) :
    (if zOkB (joinOut a b x y) then getZ (joinOut a b x y) ((a.getD i ([], 0)).1 ++ (b.getD k ([], 0)).1) else 0) ≠ 0 := by
  obtain ⟨ha, hb, _, hz, e⟩ := join_true h
  rw [e, hz, if_pos rfl]
  match a, hi, hl with
  | [p], hi, _ =>
    have : i = 0 := by simp at hi; omega
    subst this
    show getZ (addZ [] (joinZ [p] b x.toNat y.toNat)) (p.1 ++ _) ≠ 0
    have hm' : (b.getD k ([], 0)).1.getD y.toNat 0 = p.1.getD x.toNat 0 := hm
    rw [one_meets (zOk_srt hb) (getZ_mem hk) hm']
    have h1 := zOk_nz ha p (by simp)
    have h2 := zOk_nz hb _ (getZ_mem hk)
    exact Int.mul_ne_zero h1 h2
theorem meet_count {b : List It} {y : Nat} {c : Int} {k : Nat} (hk : k < b.length) : (meetZ (b.take (k + 1)) y c).length = (meetZ (b.take k) y c).length + (if (b.getD k ([], 0)).1.getD y 0 = c then 1 else 0) := by
  rw [meetZ_take y c hk, List.length_append]
  split <;> rfl
theorem join_count {a b : List It} {x y : Nat} {i : Nat} (hi : i < a.length) : (joinZ (a.take (i + 1)) b x y).length = (joinZ (a.take i) b x y).length + (meetZ b y ((a.getD i ([], 0)).1.getD x 0)).length := by
  rw [joinZ_take b x y hi, List.length_append, withZ_len]
theorem join_le {a b : List It} {x y : Int} (h : joinOk a b x y = true) : (joinOut a b x y).length ≤ (joinZ a b x.toNat y.toNat).length := by
  rw [(join_true h).2.2.2.2]
  have := add_len (joinZ a b x.toNat y.toNat) []
  simpa using this
theorem join_sum {a b c : List It} {x y : Int} (h : joinOk a b x y = true) (h1 : addOk b c = true) (h2 : joinOk a c x y = true) (h3 : joinOk a (addOut b c) x y = true) (h4 : addOk (joinOut a b x y) (joinOut a c x y) = true) :
    addOut (joinOut a b x y) (joinOut a c x y) = joinOut a (addOut b c) x y := by
  rw [(addOk_true h4).2.2.2, (join_true h).2.2.2.2, (join_true h2).2.2.2.2, (join_true h3).2.2.2.2, (addOk_true h1).2.2.2]
  exact join_add a b c x.toNat y.toNat

end Go.Proofs.Ytjaehoehfmklcaa
