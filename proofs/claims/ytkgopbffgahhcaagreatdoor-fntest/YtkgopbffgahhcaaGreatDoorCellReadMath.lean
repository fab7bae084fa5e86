/-
  Texts of cells, as lists of bytes: what is written, what the document reads, what the program scans; that they are one another's.
-/
import Derived.Test.YtkgopbffgahhcaaGreatDoorCellSpec
import Derived.Test.YtkgopbffgahhcaaGreatDoorAtoiMath
import Derived.Lib.IndexMore
namespace Go.Proofs.YtkgopbffgahhcaaGreatDoor
open Go.RowKit
set_option linter.unusedVariables false

def Cel.tx (c : Cel) : List UInt8 := if c.k = 1 then 99 :: Lib.itoa c.a else if c.k = 2 then 35 :: Lib.itoa c.n else 99 :: Lib.itoa c.a ++ 43 :: 99 :: Lib.itoa c.b
/-- The first such byte parts a text. -/
def cutAt (c : UInt8) : List UInt8 → Option (List UInt8 × List UInt8)
  | [] => none
  | x :: l => if x = c then some ([], l) else (cutAt c l).map fun q => (x :: q.1, q.2)
theorem cutAt_none {c : UInt8} : ∀ {l : List UInt8}, (∀ d ∈ l, d ≠ c) → cutAt c l = none
  | [], _ => rfl
  | x :: l, h => by
    have ih := cutAt_none (c := c) (l := l) fun d hd => h d (by simp [hd])
    simp [cutAt, h x (by simp), ih]
theorem cutAt_at {c : UInt8} {r : List UInt8} : ∀ {p : List UInt8}, (∀ d ∈ p, d ≠ c) → cutAt c (p ++ c :: r) = some (p, r)
  | [], _ => by simp [cutAt]
  | x :: p, h => by
    have ih := cutAt_at (c := c) (r := r) (p := p) fun d hd => h d (by simp [hd])
    simp [cutAt, h x (by simp), ih]
theorem cutAt_back {c : UInt8} {l : List UInt8} {q : List UInt8 × List UInt8} (h : cutAt c l = some q) : l = q.1 ++ c :: q.2 := by
  rcases parts_of c l with h1 | ⟨p, r, rfl, h1⟩
  · rw [cutAt_none h1] at h; cases h
  · rw [cutAt_at h1] at h; cases h; rfl
theorem cut_lib (c : UInt8) (l : List UInt8) : Lib.cut l [c] = match cutAt c l with | some q => (q.1, q.2, true) | none => (l, [], false) := by
  rcases parts_of c l with h | ⟨p, r, rfl, h⟩
  · have hi : Lib.index l [c] = -1 := by rw [Lib.index_one, ib_none h]
    rw [cutAt_none h]
    unfold Lib.cut
    rw [hi, if_neg (by omega)]
  · have hi : Lib.index (p ++ c :: r) [c] = (p.length : Nat) := by rw [Lib.index_one, ib_at h]
    rw [cutAt_at h]
    unfold Lib.cut
    rw [hi, if_pos (by omega)]
    simp

/-- A place that is read. -/
def placeB : List UInt8 → Option Int
  | [x, d] => if x = 99 ∧ 48 ≤ d.toNat ∧ d.toNat < 54 then some (d.toNat - 48) else none
  | _ => none
/-- What the document reads. -/
def readC (l : List UInt8) : Option Cel :=
  if 1 < l.length ∧ l.head? = some 35 then (numB l.tail).bind fun n => if cellB n = true then some ⟨2, 0, 0, n⟩ else none
  else match cutAt 43 l with
    | none => (placeB l).map fun a => ⟨1, a, 0, 0⟩
    | some q => (placeB q.1).bind fun a => (placeB q.2).map fun b => ⟨3, a, b, 0⟩
/-- What the program scans. -/
def atoi0 (l : List UInt8) : Int := match Lib.atoiAll l with
  | .ok n => n
  | _ => 0
def colS (l : List UInt8) : Int := atoi0 (if l.head? = some 99 then l.tail else l)
def scanC (l : List UInt8) : Cel :=
  if l.head? = some 35 then ⟨2, 0, 0, atoi0 l.tail⟩ else match cutAt 43 l with
    | some q => ⟨3, colS q.1, colS q.2, 0⟩
    | none => ⟨1, colS l, 0, 0⟩

theorem itoa_dig {a : Int} (h0 : 0 ≤ a) (h6 : a < 6) : Lib.itoa a = [UInt8.ofNat (48 + a.toNat)] := by
  obtain ⟨u, rfl⟩ : ∃ u : Nat, a = u := ⟨a.toNat, by omega⟩
  unfold Lib.itoa
  rw [if_neg (by omega)]
  have : ((u : Int)).natAbs = u := by omega
  simp only [Int.toNat_natCast]
  first | exact dec_lt (by omega) | (rw [this]; exact dec_lt (by omega))
theorem cell_dig {a : Int} (h0 : 0 ≤ a) (h6 : a < 6) : cellB a = true := by rw [cellB_iff]; omega
theorem dig_toNat {a : Int} (h0 : 0 ≤ a) (h6 : a < 6) : (UInt8.ofNat (48 + a.toNat)).toNat = 48 + a.toNat := by
  exact dig_of a.toNat (by omega)
theorem place_tx {a : Int} (h0 : 0 ≤ a) (h6 : a < 6) : placeB (99 :: Lib.itoa a) = some a := by
  rw [itoa_dig h0 h6]
  have h := dig_toNat h0 h6
  show (if (99 : UInt8) = 99 ∧ 48 ≤ (UInt8.ofNat (48 + a.toNat)).toNat ∧ (UInt8.ofNat (48 + a.toNat)).toNat < 54 then some (((UInt8.ofNat (48 + a.toNat)).toNat : Int) - 48) else none) = some a
  rw [if_pos ⟨rfl, by omega, by omega⟩, h]
  congr 1
  omega
theorem place_back {l : List UInt8} {a : Int} (h : placeB l = some a) : 0 ≤ a ∧ a < 6 ∧ l = 99 :: Lib.itoa a := by
  unfold placeB at h
  split at h
  · rename_i x d
    split at h
    · rename_i hc
      obtain ⟨rfl, h1, h2⟩ := hc
      have ha : (d.toNat : Int) - 48 = a := Option.some.inj h
      refine ⟨by omega, by omega, ?_⟩
      rw [itoa_dig (by omega) (by omega)]
      have : UInt8.ofNat (48 + a.toNat) = d := by
        apply UInt8.toNat_inj.1
        rw [dig_toNat (by omega) (by omega)]
        omega
      rw [this]
    · cases h
  · cases h
theorem col_tx {a : Int} (h0 : 0 ≤ a) (h6 : a < 6) : colS (99 :: Lib.itoa a) = a := by
  unfold colS
  simp only [List.head?_cons, if_true, List.tail_cons]
  unfold atoi0
  rw [num_atoi (num_itoa (cell_dig h0 h6))]
theorem no_plus {a : Int} (h0 : 0 ≤ a) (h6 : a < 6) : ∀ d ∈ (99 :: Lib.itoa a : List UInt8), d ≠ 43 := by
  rw [itoa_dig h0 h6]
  intro d hd e
  subst e
  rcases List.mem_cons.1 hd with h | h
  · exact absurd h (by decide)
  · rcases List.mem_cons.1 h with h | h
    · have := congrArg UInt8.toNat h
      rw [dig_toNat h0 h6] at this
      have e43 : (43 : UInt8).toNat = 43 := rfl
      omega
    · cases h
theorem itoa_ne (x : Int) (h : cellB x = true) : Lib.itoa x ≠ [] := fun e => by
  have := num_itoa h
  rw [e] at this
  simp [numB, digB] at this

theorem read_tx {c : Cel} (h : c.okB 6 = true) : readC c.tx = some c := by
  rw [ok_iff] at h
  obtain ⟨k, a, b, n⟩ := c
  simp only at h
  rcases h with ⟨rfl, h2, rfl, rfl⟩ | ⟨rfl, rfl, rfl, h4⟩ | ⟨rfl, h2, h3, rfl⟩
  · have ht : Cel.tx ⟨1, a, 0, 0⟩ = 99 :: Lib.itoa a := by simp [Cel.tx]
    rw [ht]
    unfold readC
    rw [if_neg (by simp), cutAt_none (no_plus h2.1 h2.2.2)]
    simp only
    rw [place_tx h2.1 h2.2.2]; rfl
  · have hc := cellB_iff.2 h4
    have ht : Cel.tx ⟨2, 0, 0, n⟩ = 35 :: Lib.itoa n := by simp [Cel.tx]
    rw [ht]
    unfold readC
    rw [if_pos ⟨by have := List.length_pos_iff.2 (itoa_ne n hc); simp; omega, by simp⟩]
    simp only [List.tail_cons]
    rw [num_itoa hc]
    simp [hc]
  · have ht : Cel.tx ⟨3, a, b, 0⟩ = (99 :: Lib.itoa a) ++ 43 :: (99 :: Lib.itoa b) := by simp [Cel.tx]
    rw [ht]
    unfold readC
    rw [if_neg (by simp), cutAt_at (no_plus h2.1 h2.2.2)]
    simp only
    rw [place_tx h2.1 h2.2.2, place_tx h3.1 h3.2.2]; rfl

theorem read_scan {l : List UInt8} {c : Cel} (h : readC l = some c) : c.okB 6 = true ∧ c.tx = l ∧ scanC l = c := by
  unfold readC at h
  split at h
  · rename_i hh
    obtain ⟨n, hn, h⟩ := Option.bind_eq_some_iff.1 h
    split at h
    · rename_i hc
      cases h
      cases l with
      | nil => simp at hh
      | cons x r =>
        obtain rfl : x = 35 := by simpa using hh.2
        simp only [List.tail_cons] at hn
        refine ⟨ok_yes (.inr (.inl ⟨rfl, rfl, rfl, cellB_iff.1 hc⟩)), ?_, ?_⟩
        · rw [num_back hn]; simp [Cel.tx]
        · unfold scanC
          simp only [List.head?_cons, if_true, List.tail_cons]
          unfold atoi0
          rw [num_atoi hn]
    · cases h
  · rename_i hh
    cases hc : cutAt 43 l with
    | none =>
      rw [hc] at h
      simp only at h
      obtain ⟨a, ha, rfl⟩ := Option.map_eq_some_iff.1 h
      obtain ⟨h0, h6, rfl⟩ := place_back ha
      refine ⟨ok_yes (.inl ⟨rfl, ⟨h0, h6, h6⟩, rfl, rfl⟩), by simp [Cel.tx], ?_⟩
      unfold scanC
      rw [if_neg (by simp), hc]
      simp only
      rw [col_tx h0 h6]
    | some q =>
      rw [hc] at h
      simp only at h
      obtain ⟨a, ha, h⟩ := Option.bind_eq_some_iff.1 h
      obtain ⟨b, hb, rfl⟩ := Option.map_eq_some_iff.1 h
      obtain ⟨h0, h6, e1⟩ := place_back ha
      obtain ⟨g0, g6, e2⟩ := place_back hb
      have hl := cutAt_back hc
      refine ⟨ok_yes (.inr (.inr ⟨rfl, ⟨h0, h6, h6⟩, ⟨g0, g6, g6⟩, rfl⟩)), by rw [hl, e1, e2]; simp [Cel.tx], ?_⟩
      unfold scanC
      rw [if_neg (by rw [hl, e1]; simp), hc]
      simp only
      rw [e1, e2, col_tx h0 h6, col_tx g0 g6]

/-- The program's way to read is the document's. -/
theorem read_is (l : List UInt8) : readC l = if (scanC l).okB 6 = true ∧ (scanC l).tx = l then some (scanC l) else none := by
  split
  · rename_i h
    conv => lhs; rw [← h.2]
    exact read_tx h.1
  · rename_i h
    cases hr : readC l with
    | none => rfl
    | some c =>
      obtain ⟨h1, h2, h3⟩ := read_scan hr
      exact absurd ⟨by rw [h3]; exact h1, by rw [h3]; exact h2⟩ h

end Go.Proofs.YtkgopbffgahhcaaGreatDoor
