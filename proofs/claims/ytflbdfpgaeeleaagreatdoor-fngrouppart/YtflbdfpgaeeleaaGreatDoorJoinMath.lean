/-
  Plain facts on items that are joined: for each row of the one and each row of the other that have the same in a cell each, both cells, both weights multiplied.
-/
import Derived.Test.YtflbdfpgaeeleaaGreatDoorGatherMath
import Derived.Test.YtflbdfpgaeeleaaGreatDoorStep
import Derived.Test.YtflbdfpgaeeleaaGreatDoorZNeg
namespace Go.Proofs.YtflbdfpgaeeleaaGreatDoor

def hasAt (x : Int) (zs : List It) : Bool := zs.all fun p => decide (0 ≤ x ∧ x < (p.1.length : Int))
def placeB (x : Int) : Bool := decide (0 ≤ x ∧ x < 6)
def canB (a b : List It) (x y : Int) : Bool := placeB x && placeB y && (decide (a.length = 0) || decide (b.length = 0) || (hasAt x a && hasAt y b))
def meetZ (b : List It) (y : Nat) (c : Int) : List It := b.filter fun q => decide (q.1.getD y 0 = c)
def withZ (p : It) (qs : List It) : List It := qs.map fun q => (p.1 ++ q.1, p.2 * q.2)
def joinZ (a b : List It) (x y : Nat) : List It := a.flatMap fun p => withZ p (meetZ b y (p.1.getD x 0))
def joinOk (a b : List It) (x y : Int) : Bool := zOkB a && zOkB b && canB a b x y && zOkB (addZ [] (joinZ a b x.toNat y.toNat))
def joinOut (a b : List It) (x y : Int) : List It := if joinOk a b x y then addZ [] (joinZ a b x.toNat y.toNat) else []

theorem joinZ_nil (b : List It) (x y : Nat) : joinZ [] b x y = [] := rfl
theorem joinZ_take {a : List It} (b : List It) (x y : Nat) {k : Nat} (hk : k < a.length) : joinZ (a.take (k + 1)) b x y = joinZ (a.take k) b x y ++ withZ (a.getD k ([], 0)) (meetZ b y ((a.getD k ([], 0)).1.getD x 0)) := by
  unfold joinZ
  rw [List.take_succ_eq_append_getElem hk, List.flatMap_append]
  simp [List.getD, hk]
theorem meetZ_take {b : List It} (y : Nat) (c : Int) {k : Nat} (hk : k < b.length) : meetZ (b.take (k + 1)) y c = meetZ (b.take k) y c ++ (if (b.getD k ([], 0)).1.getD y 0 = c then [b.getD k ([], 0)] else []) := by
  unfold meetZ
  rw [List.take_succ_eq_append_getElem hk, List.filter_append]
  congr 1
  have e : b.getD k ([], 0) = b[k] := by simp [List.getD, hk]
  rw [e, List.filter_cons, List.filter_nil]
  by_cases h : b[k].1.getD y 0 = c
  · rw [if_pos h, if_pos (by simpa using h)]
  · rw [if_neg h, if_neg (by simpa using h)]
theorem withZ_append (p : It) (qs rs : List It) : withZ p (qs ++ rs) = withZ p qs ++ withZ p rs := by simp [withZ]
theorem withZ_take {p : It} {qs : List It} {j : Nat} (hj : j < qs.length) : withZ p (qs.take (j + 1)) = withZ p (qs.take j) ++ [(p.1 ++ (qs.getD j ([], 0)).1, p.2 * (qs.getD j ([], 0)).2)] := by
  unfold withZ
  rw [List.take_succ_eq_append_getElem hj, List.map_append]
  simp [List.getD, hj]
theorem meetZ_len (b : List It) (y : Nat) (c : Int) : (meetZ b y c).length ≤ b.length := List.length_filter_le _ _
theorem withZ_len (p : It) (qs : List It) : (withZ p qs).length = qs.length := by simp [withZ]
theorem joinZ_len (b : List It) (x y : Nat) : ∀ a : List It, (joinZ a b x y).length ≤ a.length * b.length
  | [] => by simp [joinZ]
  | p :: a => by
    have ih := joinZ_len b x y a
    have h2 := meetZ_len b y (p.1.getD x 0)
    unfold joinZ at *
    rw [List.flatMap_cons, List.length_append, withZ_len, List.length_cons, Nat.add_mul]
    omega
theorem mem_with {p z : It} {qs : List It} (h : z ∈ withZ p qs) : ∃ q ∈ qs, z = (p.1 ++ q.1, p.2 * q.2) := by
  obtain ⟨q, hq, rfl⟩ := List.mem_map.1 h
  exact ⟨q, hq, rfl⟩
theorem mem_join {a b : List It} {x y : Nat} {z : It} (h : z ∈ joinZ a b x y) : ∃ p ∈ a, ∃ q ∈ b, z = (p.1 ++ q.1, p.2 * q.2) := by
  unfold joinZ at h
  obtain ⟨p, hp, hz⟩ := List.mem_flatMap.1 h
  obtain ⟨q, hq, e⟩ := mem_with hz
  exact ⟨p, hp, q, (List.mem_filter.1 hq).1, e⟩
theorem zOk_in {zs : List It} (h : zOkB zs = true) {p : It} (hp : p ∈ zs) : p.1.length ≤ 6 ∧ -10000 ≤ p.2 ∧ p.2 ≤ 10000 := by
  refine ⟨zOk_mem h hp, ?_⟩
  obtain ⟨j, hj, e⟩ := mem_getD (d := ([], 0)) hp
  have := (wB_in (zOk_row h hj).2).2
  rw [e] at this
  exact this
theorem mul_in {a b A B : Int} (ha : -A ≤ a ∧ a ≤ A) (hb : -B ≤ b ∧ b ≤ B) (hA : 0 ≤ A) (hB : 0 ≤ B) : -(A * B) ≤ a * b ∧ a * b ≤ A * B := by
  have h1 : a.natAbs ≤ A.natAbs := by omega
  have h2 : b.natAbs ≤ B.natAbs := by omega
  have h3 : (a * b).natAbs ≤ (A * B).natAbs := by
    rw [Int.natAbs_mul, Int.natAbs_mul]
    exact Nat.mul_le_mul h1 h2
  have h4 : 0 ≤ A * B := Int.mul_nonneg hA hB
  omega
theorem join_in {a b : List It} (ha : zOkB a = true) (hb : zOkB b = true) {x y : Nat} {z : It} (h : z ∈ joinZ a b x y) : z.1.length ≤ 12 ∧ -100000000 ≤ z.2 ∧ z.2 ≤ 100000000 := by
  obtain ⟨p, hp, q, hq, rfl⟩ := mem_join h
  have h1 := zOk_in ha hp
  have h2 := zOk_in hb hq
  have h3 := mul_in (A := 10000) (B := 10000) h1.2 h2.2 (by omega) (by omega)
  refine ⟨?_, by show -100000000 ≤ p.2 * q.2; omega, by show p.2 * q.2 ≤ 100000000; omega⟩
  show (p.1 ++ q.1).length ≤ 12
  rw [List.length_append]
  omega
theorem join_few {a b : List It} (ha : zOkB a = true) (hb : zOkB b = true) (x y : Nat) : (joinZ a b x y).length ≤ 10000 := by
  have h1 := joinZ_len b x y a
  have h2 := zOk_le ha
  have h3 := zOk_le hb
  have h4 : a.length * b.length ≤ 100 * 100 := Nat.mul_le_mul h2 h3
  omega
theorem can_at {a b : List It} {x y : Int} (h : canB a b x y = true) (ha : 0 < a.length) (hb : 0 < b.length) : (0 ≤ x ∧ x < 6) ∧ (0 ≤ y ∧ y < 6) ∧ (∀ k, k < a.length → x < ((a.getD k ([], 0)).1.length : Int)) ∧ ∀ k, k < b.length → y < ((b.getD k ([], 0)).1.length : Int) := by
  unfold canB placeB at h
  simp only [Bool.and_eq_true, Bool.or_eq_true, decide_eq_true_eq] at h
  obtain ⟨⟨hx, hy⟩, h3⟩ := h
  have h4 : hasAt x a = true ∧ hasAt y b = true := by
    rcases h3 with (h3 | h3) | h3
    · omega
    · omega
    · exact h3
  have at_of : ∀ {zs : List It} {x : Int}, hasAt x zs = true → ∀ k, k < zs.length → x < ((zs.getD k ([], 0)).1.length : Int) := fun {zs x} h k hk => by
    unfold hasAt at h
    rw [List.all_eq_true] at h
    have := h (zs.getD k ([], 0)) (by simp [List.getD, hk])
    simpa using (of_decide_eq_true this).2
  exact ⟨hx, hy, at_of h4.1, at_of h4.2⟩

end Go.Proofs.YtflbdfpgaeeleaaGreatDoor
