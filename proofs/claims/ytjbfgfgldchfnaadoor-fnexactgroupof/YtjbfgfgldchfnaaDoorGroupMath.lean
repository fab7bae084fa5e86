/-
  Plain facts on groups: the items that are there whose cells at the keys are so, and what is reckoned of them.
-/
import Derived.Test.YtjbfgfgldchfnaaDoorKeysMath
import Derived.Test.YtjbfgfgldchfnaaDoorPutMath
namespace Go.Proofs.YtjbfgfgldchfnaaDoor

def cntG : List It → Int
  | [] => 0
  | p :: g => p.2 + cntG g
def sumC (col : Nat) : List It → Int
  | [] => 0
  | p :: g => p.2 * p.1.getD col 0 + sumC col g
def leastC (col : Nat) : List It → Int
  | [] => 0
  | p :: g => g.foldl (fun n q => min n (q.1.getD col 0)) (p.1.getD col 0)
def mostC (col : Nat) : List It → Int
  | [] => 0
  | p :: g => g.foldl (fun n q => max n (q.1.getD col 0)) (p.1.getD col 0)
def aggB (agg : Int) : Bool := decide (0 ≤ agg ∧ agg ≤ 3)
def aggZ (agg : Int) (col : Nat) (g : List It) : Int := if agg = 0 then cntG g else if agg = 1 then sumC col g else if agg = 2 then leastC col g else mostC col g
theorem cntG_app : ∀ (a b : List It), cntG (a ++ b) = cntG a + cntG b
  | [], b => by simp [cntG]
  | p :: a, b => by rw [List.cons_append, cntG, cntG, cntG_app a]; omega
theorem sumC_app (col : Nat) : ∀ (a b : List It), sumC col (a ++ b) = sumC col a + sumC col b
  | [], b => by simp [sumC]
  | p :: a, b => by rw [List.cons_append, sumC, sumC, sumC_app col a]; omega
theorem take_one {g : List It} {k : Nat} (hk : k < g.length) : g.take (k + 1) = g.take k ++ [g.getD k ([], 0)] := by
  rw [List.take_succ_eq_append_getElem hk]
  simp [List.getD, hk]
theorem cnt_step {g : List It} {k : Nat} (hk : k < g.length) : cntG (g.take (k + 1)) = cntG (g.take k) + (g.getD k ([], 0)).2 := by
  rw [take_one hk, cntG_app]; simp [cntG]
theorem sum_step {col : Nat} {g : List It} {k : Nat} (hk : k < g.length) : sumC col (g.take (k + 1)) = sumC col (g.take k) + (g.getD k ([], 0)).2 * (g.getD k ([], 0)).1.getD col 0 := by
  rw [take_one hk, sumC_app]; simp [sumC]
theorem least_one {col : Nat} {g : List It} (hk : 0 < g.length) : leastC col (g.take 1) = (g.getD 0 ([], 0)).1.getD col 0 := by
  match g with
  | p :: g => simp [leastC]
theorem most_one {col : Nat} {g : List It} (hk : 0 < g.length) : mostC col (g.take 1) = (g.getD 0 ([], 0)).1.getD col 0 := by
  match g with
  | p :: g => simp [mostC]
theorem least_step {col : Nat} {g : List It} {k : Nat} (hk : k < g.length) (h0 : 0 < k) : leastC col (g.take (k + 1)) = min (leastC col (g.take k)) ((g.getD k ([], 0)).1.getD col 0) := by
  rw [take_one hk]
  match g, k with
  | p :: g, k + 1 => simp [leastC, List.foldl_append]
theorem most_step {col : Nat} {g : List It} {k : Nat} (hk : k < g.length) (h0 : 0 < k) : mostC col (g.take (k + 1)) = max (mostC col (g.take k)) ((g.getD k ([], 0)).1.getD col 0) := by
  rw [take_one hk]
  match g, k with
  | p :: g, k + 1 => simp [mostC, List.foldl_append]
/-- Items of a group: few, small, and each has the place. -/
def Fine (g : List It) (col : Nat) : Prop := g.length ≤ 100 ∧ ∀ p ∈ g, (-10000 ≤ p.2 ∧ p.2 ≤ 10000) ∧ col < p.1.length ∧ (-1000000000 ≤ p.1.getD col 0 ∧ p.1.getD col 0 ≤ 1000000000)
theorem Fine.at {g : List It} {col : Nat} (h : Fine g col) {k : Nat} (hk : k < g.length) : (-10000 ≤ (g.getD k ([], 0)).2 ∧ (g.getD k ([], 0)).2 ≤ 10000) ∧ col < (g.getD k ([], 0)).1.length ∧ (-1000000000 ≤ (g.getD k ([], 0)).1.getD col 0 ∧ (g.getD k ([], 0)).1.getD col 0 ≤ 1000000000) :=
  h.2 _ (by simp [List.getD, hk])
theorem cnt_in {g : List It} {col : Nat} (h : Fine g col) : ∀ k, k ≤ g.length → -(10000 * (k : Int)) ≤ cntG (g.take k) ∧ cntG (g.take k) ≤ 10000 * (k : Int)
  | 0, _ => by simp [cntG]
  | k + 1, hk => by
    have ih := cnt_in h k (by omega)
    have h1 := (h.at (show k < g.length by omega)).1
    rw [cnt_step (show k < g.length by omega)]
    omega
theorem sum_in {g : List It} {col : Nat} (h : Fine g col) : ∀ k, k ≤ g.length → -(10000000000000 * (k : Int)) ≤ sumC col (g.take k) ∧ sumC col (g.take k) ≤ 10000000000000 * (k : Int)
  | 0, _ => by simp [sumC]
  | k + 1, hk => by
    have ih := sum_in h k (by omega)
    have h1 := h.at (show k < g.length by omega)
    have h2 := mul_in (A := 10000) (B := 1000000000) h1.1 h1.2.2 (by omega) (by omega)
    rw [sum_step (show k < g.length by omega)]
    omega

end Go.Proofs.YtjbfgfgldchfnaaDoor
