/-
  What the library's Split at a blank and Cut at a star do, as the lists that ZReadMath has; Atoi reads what the specification reads.
-/
import Derived.Test.YtnkhgppfnkglfaaGreatDoorZReadMath
import Derived.Test.YtnkhgppfnkglfaaGreatDoorAtoiMath
import Derived.Lib.SplitLaws
import Derived.Lib.IndexBytes
import Derived.Lib.AtoiAllCases
namespace Go.Proofs.YtnkhgppfnkglfaaGreatDoor

theorem splitK_cut : ∀ (k : Nat) (l : List UInt8), Lib.count l [32] = k → Lib.splitK [32] 0 k l = cutS l := by
  intro k
  induction k with
  | zero =>
    intro l hk
    rcases parts_of 32 l with h | ⟨p, r, rfl, h⟩
    · rw [cutS_none h]; rfl
    · have hi : Lib.index (p ++ 32 :: r) [32] = (p.length : Nat) := by rw [Lib.index_one, ib_at h]
      rw [Lib.count_hit (by simp) hi] at hk
      omega
  | succ k ih =>
    intro l hk
    rcases parts_of 32 l with h | ⟨p, r, rfl, h⟩
    · have hi : Lib.index l [32] = -1 := by rw [Lib.index_one, ib_none h]
      rw [Lib.count_miss hi] at hk
      omega
    · have hi : Lib.index (p ++ 32 :: r) [32] = (p.length : Nat) := by rw [Lib.index_one, ib_at h]
      rw [Lib.count_hit (by simp) hi] at hk
      have hd : (p ++ 32 :: r).drop (p.length + ([32] : List UInt8).length) = r := by simp
      rw [hd] at hk
      have hm : ¬ (((p.length : Nat) : Int) == -1) = true := fun e => by have := beq_iff_eq.1 e; omega
      rw [Lib.splitK, hi, if_neg hm, Int.toNat_natCast, hd, ih r (by omega), cutS_at h]
      simp
theorem split_pieces (s : ByteArray) : (Lib.splitB ⟨#[32]⟩ 0 (Lib.countB s ⟨#[32]⟩) s).map (fun p => p.data.toList) = cutS s.data.toList := by
  rw [Lib.splitB_data]
  exact splitK_cut _ _ rfl
theorem cut_star (l : List UInt8) : Lib.cut l [42] = match starAt l with | some q => (q.1, q.2, true) | none => (l, [], false) := by
  rcases parts_of 42 l with h | ⟨p, r, rfl, h⟩
  · have hs : starAt l = none := by
      cases hst : starAt l with
      | none => rfl
      | some q =>
        have := starAt_back (a := q.1) (b := q.2) hst
        exact absurd rfl (h 42 (by rw [this]; simp))
    have hi : Lib.index l [42] = -1 := by rw [Lib.index_one, ib_none h]
    rw [hs]
    unfold Lib.cut
    rw [hi, if_neg (by omega)]
  · have hi : Lib.index (p ++ 42 :: r) [42] = (p.length : Nat) := by rw [Lib.index_one, ib_at h]
    rw [starAt_at h]
    unfold Lib.cut
    rw [hi, if_pos (by omega)]
    simp

end Go.Proofs.YtnkhgppfnkglfaaGreatDoor
