/-
  The library's index of a byte, and Atoi at what the specification reads, as lists.
-/
import Derived.Test.YtnkhgppfnkglfaaGreatDoorReadMath
import Derived.Lib.IndexBytes
import Derived.Lib.AtoiAllCases
namespace Go.Proofs.YtnkhgppfnkglfaaGreatDoor

theorem parts_of (c : UInt8) : ∀ l : List UInt8, (∀ d ∈ l, d ≠ c) ∨ ∃ p r, l = p ++ c :: r ∧ ∀ d ∈ p, d ≠ c
  | [] => .inl (by simp)
  | b :: l => by
    by_cases hb : b = c
    · exact .inr ⟨[], l, by rw [hb]; rfl, by simp⟩
    · rcases parts_of c l with h | ⟨p, r, rfl, h⟩
      · exact .inl fun d hd => by
          rcases List.mem_cons.1 hd with rfl | hd
          · exact hb
          · exact h d hd
      · exact .inr ⟨b :: p, r, rfl, fun d hd => by
          rcases List.mem_cons.1 hd with rfl | hd
          · exact hb
          · exact h d hd⟩
theorem ib_none {c : UInt8} : ∀ {l : List UInt8}, (∀ d ∈ l, d ≠ c) → Lib.indexByte l c = -1
  | [], _ => rfl
  | b :: l, h => by
    have ih := ib_none (c := c) (l := l) fun d hd => h d (by simp [hd])
    have hb : b ≠ c := h b (by simp)
    simp [Lib.indexByte, ih, hb]
theorem ib_at {c : UInt8} {r : List UInt8} : ∀ {p : List UInt8}, (∀ d ∈ p, d ≠ c) → Lib.indexByte (p ++ c :: r) c = p.length
  | [], _ => by simp [Lib.indexByte]
  | b :: p, h => by
    have ih := ib_at (c := c) (r := r) (p := p) fun d hd => h d (by simp [hd])
    have hb : b ≠ c := h b (by simp)
    have hn : ¬ ((p.length : Int) = -1) := by omega
    simp [Lib.indexByte, ih, hb, hn]
theorem ten_le {m : Nat} (h : m ≤ 18) : 10 ^ m ≤ 1000000000000000000 := by
  have : 10 ^ m ≤ 10 ^ 18 := Nat.pow_le_pow_right (by omega) h
  simpa using this
theorem parse_digits : ∀ (l : List UInt8) (acc m : Nat), l.all isDig = true → acc < 10 ^ m → m + l.length ≤ 18 →
    Lib.parseUint10 acc l = .ok (l.foldl (fun n c => n * 10 + (c.toNat - 48)) acc) ∧ l.foldl (fun n c => n * 10 + (c.toNat - 48)) acc < 10 ^ (m + l.length)
  | [], acc, m, _, ha, _ => ⟨rfl, by simpa using ha⟩
  | c :: l, acc, m, hd, ha, hm => by
    rw [List.all_cons, Bool.and_eq_true] at hd
    have hc : 48 ≤ c.toNat ∧ c.toNat ≤ 57 := by simpa [isDig] using hd.1
    rw [List.length_cons] at hm
    have e : 10 ^ (m + 1) = 10 ^ m * 10 := Nat.pow_succ ..
    have h18 := ten_le (m := m + 1) (by omega)
    have hacc : acc * 10 + (c.toNat - 48) < 10 ^ (m + 1) := by omega
    have ih := parse_digits l (acc * 10 + (c.toNat - 48)) (m + 1) hd.2 hacc (by omega)
    have el : m + (c :: l).length = m + 1 + l.length := by rw [List.length_cons]; omega
    rw [Lib.parseUint10, if_pos hc, if_neg (by omega), if_neg (by omega), el]
    exact ih
theorem mag_digits {l : List UInt8} (hne : l ≠ []) (hd : l.all isDig = true) (hl : l.length ≤ 17) : Lib.parseMag l = .ok (decVal l) ∧ decVal l < 1000000000000000000 := by
  have h := parse_digits l 0 0 hd (by simp) (by omega)
  unfold Lib.parseMag
  rw [if_neg hne]
  exact ⟨h.1, Nat.lt_of_lt_of_le h.2 (ten_le (by omega))⟩
theorem dig_parts {neg : Bool} {l : List UInt8} (h : digB neg l = true) : l ≠ [] ∧ l.length ≤ 17 ∧ l.all isDig = true := by
  unfold digB at h
  rw [Bool.and_eq_true, Bool.and_eq_true, Bool.and_eq_true, decide_eq_true_eq, decide_eq_true_eq] at h
  exact ⟨h.1.1.1, h.1.1.2, h.2⟩
/-- What the specification reads as a number, Atoi reads so. -/
theorem num_atoi {l : List UInt8} {n : Int} (h : numB l = some n) : Lib.atoiAll l = .ok n := by
  unfold numB at h
  split at h
  · rename_i h45
    split at h
    · rename_i hd
      cases l with
      | nil => simp at h45
      | cons c r =>
        obtain rfl : c = 45 := by simpa using h45
        simp only [List.tail_cons] at hd h
        have hd' := dig_parts hd
        have hm := mag_digits hd'.1 hd'.2.2 hd'.2.1
        rw [Lib.atoiAll_minus, hm.1]
        unfold Lib.signed
        simp only
        rw [if_neg (by omega)]
        simpa using h
    · simp at h
  · rename_i h45
    split at h
    · rename_i hd
      have hd' := dig_parts hd
      have hm := mag_digits hd'.1 hd'.2.2 hd'.2.1
      cases l with
      | nil => exact absurd rfl hd'.1
      | cons c r =>
        have hc : 48 ≤ c.toNat ∧ c.toNat ≤ 57 := by
          have := hd'.2.2
          rw [List.all_cons, Bool.and_eq_true] at this
          simpa [isDig] using this.1
        rw [Lib.atoiAll_plain c r (by omega) (by omega), hm.1]
        unfold Lib.signless
        simp only
        rw [if_neg (by omega)]
        simpa using h
    · simp at h

end Go.Proofs.YtnkhgppfnkglfaaGreatDoor
