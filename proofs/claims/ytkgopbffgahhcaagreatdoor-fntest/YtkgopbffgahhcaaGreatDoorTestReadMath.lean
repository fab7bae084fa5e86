/-
  Texts of tests, as lists of bytes: what is written, what the document reads, what the program scans; that they are one another's.
-/
import Derived.Test.YtkgopbffgahhcaaGreatDoorCellReadMath
namespace Go.Proofs.YtkgopbffgahhcaaGreatDoor
open Go.RowKit
set_option linter.unusedVariables false

def sgnB (k : Int) : UInt8 := if k = 1 then 60 else 61
def Tst.tx (t : Tst) : List UInt8 := (if t.no then [33] else []) ++ (t.l.tx ++ sgnB t.k :: t.r.tx)
def notB (l : List UInt8) : Bool := decide (l.head? = some 33)
def restB (l : List UInt8) : List UInt8 := if l.head? = some 33 then l.tail else l
/-- The kind, and the two sides. -/
def sidesB (l : List UInt8) : Option (Int × List UInt8 × List UInt8) := match cutAt 60 l with
  | some q => some (1, q.1, q.2)
  | none => (cutAt 61 l).map fun q => (2, q.1, q.2)
def readT (l : List UInt8) : Option Tst := (sidesB (restB l)).bind fun q => (readC q.2.1).bind fun a => (readC q.2.2).map fun b => ⟨q.1, notB l, a, b⟩
def scanT (l : List UInt8) : Tst := match cutAt 60 (restB l) with
  | some q => ⟨1, notB l, scanC q.1, scanC q.2⟩
  | none => match cutAt 61 (restB l) with
    | some q => ⟨2, notB l, scanC q.1, scanC q.2⟩
    | none => ⟨2, notB l, scanC (restB l), scanC []⟩

theorem itoa_low (x : Int) : ∀ c ∈ Lib.itoa x, 45 ≤ c.toNat ∧ c.toNat < 58 := by
  intro c hc
  unfold Lib.itoa at hc
  by_cases h : x < 0
  · rw [if_pos h] at hc
    rcases List.mem_cons.1 hc with e | e
    · subst e; decide
    · have := List.all_eq_true.1 (dec_all _) _ e
      simp [isDig] at this
      omega
  · rw [if_neg h] at hc
    have := List.all_eq_true.1 (dec_all _) _ hc
    simp [isDig] at this
    omega
theorem tx_low (c : Cel) : ∀ d ∈ c.tx, d.toNat = 99 ∨ d.toNat = 35 ∨ d.toNat = 43 ∨ (45 ≤ d.toNat ∧ d.toNat < 58) := by
  intro d hd
  unfold Cel.tx at hd
  split at hd
  · rcases List.mem_cons.1 hd with rfl | h
    · exact .inl rfl
    · exact .inr (.inr (.inr (itoa_low _ _ h)))
  · split at hd
    · rcases List.mem_cons.1 hd with rfl | h
      · exact .inr (.inl rfl)
      · exact .inr (.inr (.inr (itoa_low _ _ h)))
    · rcases List.mem_append.1 hd with h | h
      · rcases List.mem_cons.1 h with rfl | h
        · exact .inl rfl
        · exact .inr (.inr (.inr (itoa_low _ _ h)))
      · rcases List.mem_cons.1 h with rfl | h
        · exact .inr (.inr (.inl rfl))
        · rcases List.mem_cons.1 h with rfl | h
          · exact .inl rfl
          · exact .inr (.inr (.inr (itoa_low _ _ h)))
theorem tx_no (c : Cel) {x : UInt8} (hx : x = 60 ∨ x = 61 ∨ x = 33) : ∀ d ∈ c.tx, d ≠ x := by
  intro d hd e
  have := tx_low c d hd
  rcases hx with rfl | rfl | rfl
  · subst e; revert this; decide
  · subst e; revert this; decide
  · subst e; revert this; decide
theorem tx_head (c : Cel) : ∃ x r, c.tx = x :: r ∧ x ≠ 33 := by
  unfold Cel.tx
  split
  · exact ⟨_, _, rfl, by decide⟩
  · split
    · exact ⟨_, _, rfl, by decide⟩
    · exact ⟨_, _, rfl, by decide⟩

theorem rest_tx (t : Tst) : restB t.tx = t.l.tx ++ sgnB t.k :: t.r.tx ∧ notB t.tx = t.no := by
  obtain ⟨x, r, e, hx⟩ := tx_head t.l
  unfold Tst.tx restB notB
  cases t.no
  · simp [e, hx]
  · simp
theorem sides_tx {t : Tst} (hk : t.k = 1 ∨ t.k = 2) : sidesB (t.l.tx ++ sgnB t.k :: t.r.tx) = some (t.k, t.l.tx, t.r.tx) := by
  unfold sidesB
  rcases hk with h | h
  · have e : sgnB t.k = 60 := by rw [h]; rfl
    rw [e, cutAt_at (tx_no _ (.inl rfl)), h]
  · have e : sgnB t.k = 61 := by rw [h]; rfl
    have hn : cutAt 60 (t.l.tx ++ 61 :: t.r.tx) = none := cutAt_none fun d hd => by
      rcases List.mem_append.1 hd with h | h
      · exact tx_no _ (.inl rfl) d h
      · rcases List.mem_cons.1 h with rfl | h
        · decide
        · exact tx_no _ (.inl rfl) d h
    rw [e, hn, cutAt_at (tx_no _ (.inr (.inl rfl))), h]
    rfl

theorem readT_tx {t : Tst} (h : t.okB 6 = true) : readT t.tx = some t := by
  simp only [Tst.okB, Bool.and_eq_true, decide_eq_true_eq] at h
  unfold readT
  rw [(rest_tx t).1, (rest_tx t).2, sides_tx h.1.1]
  simp only [Option.bind_some]
  rw [read_tx h.1.2, read_tx h.2]
  rfl
theorem rest_back (l : List UInt8) : l = (if notB l then [33] else []) ++ restB l := by
  unfold notB restB
  by_cases h : l.head? = some 33
  · rw [if_pos h, decide_eq_true h]
    cases l with
    | nil => simp at h
    | cons x r =>
      obtain rfl : x = 33 := by simpa using h
      simp
  · rw [if_neg h, decide_eq_false h]; simp

theorem readT_scan {l : List UInt8} {t : Tst} (h : readT l = some t) : t.okB 6 = true ∧ t.tx = l ∧ scanT l = t := by
  unfold readT at h
  obtain ⟨q, hq, h⟩ := Option.bind_eq_some_iff.1 h
  obtain ⟨a, ha, h⟩ := Option.bind_eq_some_iff.1 h
  obtain ⟨b, hb, rfl⟩ := Option.map_eq_some_iff.1 h
  obtain ⟨a1, a2, a3⟩ := read_scan ha
  obtain ⟨b1, b2, b3⟩ := read_scan hb
  unfold sidesB at hq
  cases h60 : cutAt 60 (restB l) with
  | some p =>
    rw [h60] at hq
    cases hq
    simp only at a2 a3 b2 b3 ⊢
    refine ⟨by simp [Tst.okB, a1, b1], ?_, ?_⟩
    · conv => rhs; rw [rest_back l, cutAt_back h60]
      simp only [Tst.tx, a2, b2]
      rfl
    · unfold scanT
      rw [h60]
      simp only [a3, b3]
  | none =>
    rw [h60] at hq
    simp only at hq
    obtain ⟨p, h61, rfl⟩ := Option.map_eq_some_iff.1 hq
    simp only at a2 a3 b2 b3 ⊢
    refine ⟨by simp [Tst.okB, a1, b1], ?_, ?_⟩
    · conv => rhs; rw [rest_back l, cutAt_back h61]
      simp only [Tst.tx, a2, b2]
      rfl
    · unfold scanT
      rw [h60]
      simp only
      rw [h61]
      simp only [a3, b3]

/-- The program's way to read is the document's. -/
theorem readT_is (l : List UInt8) : readT l = if (scanT l).okB 6 = true ∧ (scanT l).tx = l then some (scanT l) else none := by
  split
  · rename_i h
    conv => lhs; rw [← h.2]
    exact readT_tx h.1
  · rename_i h
    cases hr : readT l with
    | none => rfl
    | some c =>
      obtain ⟨h1, h2, h3⟩ := readT_scan hr
      exact absurd ⟨by rw [h3]; exact h1, by rw [h3]; exact h2⟩ h

end Go.Proofs.YtkgopbffgahhcaaGreatDoor
