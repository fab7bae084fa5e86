/-
  Facts on what is joined: it is linear on both sides; what it is of no items; how many; the contracts at a told answer.
-/
import Derived.Test.YtjaehoehfmklcaaJoinOf
import Derived.Test.YtjaehoehfmklcaaZFacts
namespace Go.Proofs.Ytjaehoehfmklcaa
open Go.RowKit
set_option linter.unusedVariables false

/-- The sum of the weights, each as often as its row says. -/
def sumG (f : List Int → Int) : List It → Int
  | [] => 0
  | p :: zs => f p.1 * p.2 + sumG f zs
theorem sumG_put (f : List Int → Int) (r : List Int) (y : Int) : ∀ zs : List It, sumG f (putZ zs r y) = sumG f zs + f r * y
  | [] => by
    unfold putZ
    by_cases h : y = 0
    · rw [if_pos h]; simp [sumG, h]
    · rw [if_neg h]; simp [sumG]
  | p :: zs => by
    have ih := sumG_put f r y zs
    unfold putZ
    by_cases h1 : ordL p.1 r = -1
    · rw [if_pos h1, sumG, sumG, ih]; omega
    · rw [if_neg h1]
      by_cases h2 : p.1 = r
      · rw [if_pos h2]
        by_cases h3 : p.2 + y = 0
        · rw [if_pos h3, sumG, h2]
          have : f r * p.2 + f r * y = 0 := by rw [← Int.mul_add, h3, Int.mul_zero]
          omega
        · rw [if_neg h3, sumG, sumG]
          simp only [h2]
          rw [Int.mul_add]; omega
      · rw [if_neg h2]
        by_cases h3 : y = 0
        · rw [if_pos h3, h3]; simp
        · rw [if_neg h3]
          show f r * y + sumG f (p :: zs) = _
          omega
theorem sumG_add (f : List Int → Int) : ∀ (b a : List It), sumG f (addZ a b) = sumG f a + sumG f b
  | [], a => by simp [addZ_nil, sumG]
  | p :: b, a => by rw [addZ_cons, sumG_add f b, sumG_put, sumG]; omega
theorem sumG_append (f : List Int → Int) : ∀ a b : List It, sumG f (a ++ b) = sumG f a + sumG f b
  | [], b => by simp [sumG]
  | p :: a, b => by rw [List.cons_append, sumG, sumG, sumG_append f a]; omega
theorem sumG_scale (f : List Int → Int) (c : Int) : ∀ a : List It, sumG (fun r => c * f r) a = c * sumG f a
  | [] => by simp [sumG]
  | p :: a => by rw [sumG, sumG, sumG_scale f c a, Int.mul_add, Int.mul_assoc]
theorem sumG_plus (f g : List Int → Int) : ∀ a : List It, sumG (fun r => f r + g r) a = sumG f a + sumG g a
  | [] => by simp [sumG]
  | p :: a => by rw [sumG, sumG, sumG, sumG_plus f g a, Int.add_mul]; omega
theorem sumZ_g (q : List Int) : ∀ zs : List It, sumZ zs q = sumG (fun r => if r = q then 1 else 0) zs
  | [] => rfl
  | p :: zs => by rw [sumZ, sumG, sumZ_g q zs]; by_cases h : p.1 = q <;> simp [h]
theorem getZ_gAll (L : List It) (q : List Int) : getZ (addZ [] L) q = sumG (fun r => if r = q then 1 else 0) L := by
  rw [getZ_addAll L [] Srt.nil, getZ_nil, sumZ_g]; omega
/-- What one row meets, as often as its joined row says. -/
def meetG (f : List Int → Int) (x y : Nat) (p q : List Int) : Int := if q.getD y 0 = p.getD x 0 then f (p ++ q) else 0
theorem sumG_with (f : List Int → Int) (y x : Nat) (p : It) : ∀ b : List It, sumG f (withZ p (meetZ b y (p.1.getD x 0))) = p.2 * sumG (meetG f x y p.1) b
  | [] => by simp [withZ, meetZ, sumG]
  | q :: b => by
    have ih := sumG_with f y x p b
    unfold withZ meetZ at *
    rw [List.filter_cons]
    by_cases h : q.1.getD y 0 = p.1.getD x 0
    · rw [if_pos (by simpa using h), List.map_cons, sumG, ih, sumG, Int.mul_add]
      have : meetG f x y p.1 q.1 = f (p.1 ++ q.1) := if_pos h
      rw [this]
      show f (p.1 ++ q.1) * (p.2 * q.2) + _ = _
      rw [Int.mul_left_comm]
    · rw [if_neg (by simpa using h), ih, sumG]
      have : meetG f x y p.1 q.1 = 0 := if_neg h
      rw [this]; simp
theorem sumG_join (f : List Int → Int) (b : List It) (x y : Nat) : ∀ a : List It, sumG f (joinZ a b x y) = sumG (fun p => sumG (meetG f x y p) b) a
  | [] => rfl
  | p :: a => by
    have ih := sumG_join f b x y a
    unfold joinZ at *
    rw [List.flatMap_cons, sumG_append, ih, sumG_with, sumG, Int.mul_comm]
theorem nz_noneJ : Nz [] := fun p hp => by simp at hp
/-- It is linear on the right. -/
theorem join_add (a b c : List It) (x y : Nat) : addZ (addZ [] (joinZ a b x y)) (addZ [] (joinZ a c x y)) = addZ [] (joinZ a (addZ b c) x y) := by
  refine canon (srt_add (srt_add Srt.nil)) (nz_add (nz_add nz_noneJ)) (srt_add Srt.nil) (nz_add nz_noneJ) fun q => ?_
  rw [getZ_add (srt_add Srt.nil) (srt_add Srt.nil), getZ_gAll, getZ_gAll, getZ_gAll, sumG_join, sumG_join, sumG_join, ← sumG_plus]
  congr 1
  funext p
  rw [sumG_add]
/-- What takes the left side away takes away what is joined. -/
theorem sumG_neg (f : List Int → Int) : ∀ a : List It, sumG f (negZ a) = - sumG f a
  | [] => rfl
  | p :: a => by
    have ih := sumG_neg f a
    unfold negZ at *
    rw [List.map_cons, sumG, sumG, ih]
    show f p.1 * -p.2 + _ = _
    rw [Int.mul_neg]; omega
theorem join_neg (a b : List It) (x y : Nat) : addZ [] (joinZ (negZ a) b x y) = negZ (addZ [] (joinZ a b x y)) := by
  refine canon (srt_add Srt.nil) (nz_add nz_noneJ) (srt_neg (srt_add Srt.nil)) (nz_neg (nz_add nz_noneJ)) fun q => ?_
  rw [getZ_neg, getZ_gAll, getZ_gAll, sumG_join, sumG_join, sumG_neg]
theorem join_true {a b : List It} {x y : Int} (h : joinOk a b x y = true) : zOkB a = true ∧ zOkB b = true ∧ canB a b x y = true ∧ zOkB (addZ [] (joinZ a b x.toNat y.toNat)) = true ∧ joinOut a b x y = addZ [] (joinZ a b x.toNat y.toNat) := by
  have h0 := h
  unfold joinOk at h0
  simp only [Bool.and_eq_true] at h0
  exact ⟨h0.1.1.1, h0.1.1.2, h0.1.2, h0.2, by unfold joinOut; rw [h]; rfl⟩
theorem join_false {a b : List It} {x y : Int} (h : joinOk a b x y = false) : joinOut a b x y = [] := by unfold joinOut; rw [h]; rfl

theorem join_val {v u : Value} {a b os : List It} {x y : Int} {c : Bool} {w : World} (hc : joinOk a b x y = c) (ho : joinOut a b x y = os) (h : TailZ w v a) (hu : TailZ w u b) :
    Calls Try.prog 6 #[v, u, .int .i64 x, .int .i64 y] w fun e w' => ∃ v', e = .returned (.tuple #[v', .bool c]) ∧ TailZ w' v' os ∧ Below w.heap.size w w' := by
  subst hc ho
  refine (implJoin_any v u a b x y w h.items hu.items).mono ?_
  rintro e w' ⟨v', he, hz, hb⟩
  exact ⟨v', he, hz.tail, hb⟩
theorem specJoin_val {v u : Value} {a b os : List It} {x y : Int} {c : Bool} {w : World} (hc : joinOk a b x y = c) (ho : joinOut a b x y = os) (h : TailZ w v a) (hu : TailZ w u b) :
    Calls Try.prog 7 #[v, u, .int .i64 x, .int .i64 y] w fun e w' => ∃ v', e = .returned (.tuple #[v', .bool c]) ∧ TailZ w' v' os ∧ Below w.heap.size w w' := by
  subst hc ho
  refine (specJoin_any v u a b x y w h.items hu.items).mono ?_
  rintro e w' ⟨v', he, hz, hb⟩
  exact ⟨v', he, hz.tail, hb⟩

end Go.Proofs.Ytjaehoehfmklcaa
