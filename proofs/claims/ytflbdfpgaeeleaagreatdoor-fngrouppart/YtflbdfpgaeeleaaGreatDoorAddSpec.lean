/-
  The contracts of spec.l2Copy, spec.l2Add, spec.l2Told and spec.ZAdd: items in memory of their own; one list put into a copy of another one; both together, if that is right.
-/
import Derived.Test.YtflbdfpgaeeleaaGreatDoorPutWalk
import Derived.Test.YtflbdfpgaeeleaaGreatDoorZNeg
namespace Go.Proofs.YtflbdfpgaeeleaaGreatDoor
set_option maxRecDepth 100000
open Go.RowKit

theorem take_get {zs : List It} {k : Nat} (hk : k < zs.length) : zs.take (k + 1) = zs.take k ++ [((zs.getD k ([], 0)).1, (zs.getD k ([], 0)).2)] := by
  have e : zs.getD k ([], 0) = zs[k] := by simp [List.getD, hk]
  rw [e, List.take_succ_eq_append_getElem hk]

theorem add_bound {B C : Int} (hB0 : 0 ≤ B) (hC0 : 0 ≤ C) : ∀ (b : List It) {a : List It} {k : Int}, 0 ≤ k → (∀ p ∈ a, -(B + k * C) ≤ p.2 ∧ p.2 ≤ B + k * C) → (∀ p ∈ b, -C ≤ p.2 ∧ p.2 ≤ C) → ∀ x ∈ addZ a b, -(B + (k + b.length) * C) ≤ x.2 ∧ x.2 ≤ B + (k + b.length) * C
  | [], a, k, _, ha, _, x, hx => by simpa [addZ] using ha x hx
  | p :: b, a, k, hk, ha, hb, x, hx => by
    rw [addZ_cons] at hx
    have hkC : 0 ≤ k * C := Int.mul_nonneg hk hC0
    have h1 := put_bound (r := p.1) (hb p (by simp)) (show 0 ≤ B + k * C by omega) hC0 ha
    have h2 := add_bound hB0 hC0 b (k := k + 1) (by omega) (fun q hq => by have := h1 q hq; rw [Int.add_mul, Int.one_mul]; omega) (fun q hq => hb q (by simp [hq])) x hx
    have e : (k + 1 + (b.length : Int)) = k + ((p :: b).length : Int) := by simp; omega
    rw [e] at h2
    exact h2
theorem add_len : ∀ (b a : List It), (addZ a b).length ≤ a.length + b.length
  | [], a => by simp [addZ]
  | p :: b, a => by
    rw [addZ_cons]
    have h1 := add_len b (putZ a p.1 p.2)
    have h2 := put_len p.1 p.2 a
    simp; omega
theorem add_rows {x : It} : ∀ {b a : List It}, x ∈ addZ a b → (∃ p ∈ a, x.1 = p.1) ∨ ∃ p ∈ b, x.1 = p.1
  | [], a, h => .inl ⟨x, h, rfl⟩
  | p :: b, a, h => by
    rw [addZ_cons] at h
    rcases add_rows h with ⟨q, hq, e⟩ | ⟨q, hq, e⟩
    · rcases mem_put hq with h | h
      · exact .inl ⟨q, h, e⟩
      · exact .inr ⟨p, by simp, by rw [e, h]⟩
    · exact .inr ⟨q, by simp [hq], e⟩
theorem add_take {a b : List It} {k : Nat} (hk : k < b.length) : addZ a (b.take (k + 1)) = putZ (addZ a (b.take k)) (b.getD k ([], 0)).1 (b.getD k ([], 0)).2 := by
  rw [List.take_succ_eq_append_getElem hk, addZ_snoc]
  simp [List.getD, hk]

/-- Items whose weights and sizes are small. -/
def Mild (zs : List It) : Prop := zs.length ≤ 1048576 ∧ (∀ k, k < zs.length → (zs.getD k ([], 0)).1.length ≤ 8796093022208) ∧ ∀ p ∈ zs, -2199023255552 ≤ p.2 ∧ p.2 ≤ 2199023255552
theorem getZ_mem {zs : List It} {k : Nat} (hk : k < zs.length) : zs.getD k ([], 0) ∈ zs := by simp [List.getD, hk]
theorem mild_bound {a b : List It} (ha : Mild a) (hb : Mild b) (k : Nat) : ∀ j, j < (addZ a (b.take k)).length → -4611686018427387904 ≤ ((addZ a (b.take k)).getD j ([], 0)).2 ∧ ((addZ a (b.take k)).getD j ([], 0)).2 ≤ 4611686018427387903 := by
  intro j hj
  have h1 := add_bound (B := 2199023255552) (C := 2199023255552) (by omega) (by omega) (b.take k) (a := a) (k := 0) (by omega) (fun p hp => by have := ha.2.2 p hp; omega) (fun p hp => hb.2.2 p (List.mem_of_mem_take hp)) _ (getZ_mem hj)
  have h2 : ((b.take k).length : Int) ≤ 1048576 := by
    have := hb.1
    have h3 : (b.take k).length ≤ b.length := by rw [List.length_take]; omega
    omega
  omega
theorem mild_len {a b : List It} (ha : Mild a) (hb : Mild b) (k : Nat) : (addZ a (b.take k)).length ≤ 2097152 := by
  have h1 := add_len (b.take k) a
  have h3 : (b.take k).length ≤ b.length := by rw [List.length_take]; omega
  have := ha.1
  have := hb.1
  omega

/-- What both sides answer. -/
def addOk (a b : List It) : Bool := zOkB a && zOkB b && zOkB (addZ a b)
def addOut (a b : List It) : List It := if addOk a b then addZ a b else []

theorem zOk_mild {zs : List It} (h : zOkB zs = true) : Mild zs := by
  refine ⟨by have := zOk_le h; omega, fun k hk => by have := rowOk_le (zOk_row h hk).1; omega, fun p hp => ?_⟩
  obtain ⟨j, hj, rfl⟩ := mem_getD (d := ([], 0)) hp
  have := (wB_in (zOk_row h hj).2).2
  omega

set_option maxHeartbeats 1000000 in
theorem l2Told_any (v : Value) (zs : List It) (lo hi : Nat) (w : World) (h : OwnZ w lo hi v zs) (hlo : lo ≤ w.heap.size) :
    Calls Tryz.prog 34 #[v] w fun e w' => ∃ v', e = .returned (.tuple #[v', .bool (zOkB zs)]) ∧ OwnZ w' lo w'.heap.size v' (if zOkB zs then zs else []) ∧ Below w.heap.size w w' := by
  cases hz : zOkB zs with
  | false =>
    have hI := h.items
    go_enter Tryz.func34, Tryz.ntmps34
    go_wp2_with fail
    refine (specZOk_any v zs _ hI).mono ?_
    rw [hz]
    rintro e w1 ⟨rfl, hd1⟩
    have HK : Hid (Below w.heap.size w w1) := hd1.below
    clear h hI hd1
    go_wp2
    go_ret2
    exact ⟨_, rfl, by simpa using (lit_ownZ w1).wide (Nat.le_trans hlo HK.out.size) (Nat.le_refl _) (Nat.le_refl _), below_then HK.out (below_alloc _)⟩
  | true =>
    have hI := h.items
    go_enter Tryz.func34, Tryz.ntmps34
    go_wp2_with fail
    refine (specZOk_any v zs _ hI).mono ?_
    rw [hz]
    rintro e w1 ⟨rfl, hd1⟩
    have HK : Hid (Below w.heap.size w w1) := hd1.below
    have R : Hid (OwnZ w1 lo w1.heap.size v zs) := (h.keep' HK.out).wide (Nat.le_refl _) (by have := h.hi_le; have := HK.out.size; omega) (Nat.le_refl _)
    clear h hI hd1
    go_wp2
    go_ret2
    exact ⟨_, rfl, by simpa using R.out, HK.out⟩

end Go.Proofs.YtflbdfpgaeeleaaGreatDoor
