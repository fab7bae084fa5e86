/-
  Plain facts on the texts of rows: what the specification reads (cut at the commas, each piece a number as it is written) and what the scan gathers are the same rows.
-/
import Derived.Test.YtflbdfpgaeeleaaGreatDoorTextMath
namespace Go.Proofs.YtflbdfpgaeeleaaGreatDoor

/-- A digit. -/
def isDig (c : UInt8) : Bool := 48 ≤ c.toNat && c.toNat ≤ 57
/-- The number that digits write. -/
def decVal (l : List UInt8) : Nat := l.foldl (fun n c => n * 10 + (c.toNat - 48)) 0
theorem decVal_snoc (l : List UInt8) (c : UInt8) : decVal (l ++ [c]) = decVal l * 10 + (c.toNat - 48) := by simp [decVal]

/-- Digits as a number is written: at most 17, no zero ahead unless it is all. -/
def digB (neg : Bool) (l : List UInt8) : Bool := decide (l ≠ []) && decide (l.length ≤ 17) && !(decide (l.head? = some 48) && (decide (1 < l.length) || neg)) && l.all isDig
/-- What l12Num reads. -/
def numB (l : List UInt8) : Option Int :=
  if l.head? = some 45 then (if digB true l.tail then some (-(decVal l.tail : Int)) else none)
  else (if digB false l then some (decVal l : Int) else none)

/-- The pieces between the commas. -/
def consHead (q : List UInt8) : List (List UInt8) → List (List UInt8)
  | [] => [q]
  | p :: ps => (q ++ p) :: ps
def cutL : List UInt8 → List (List UInt8)
  | [] => [[]]
  | c :: l => if c = 44 then [] :: cutL l else consHead [c] (cutL l)

def readAll : List (List UInt8) → Option (List Int)
  | [] => some []
  | p :: ps => match numB p, readAll ps with
    | some x, some xs => some (x :: xs)
    | _, _ => none
/-- What the specification's RowRead reads. -/
def readB (l : List UInt8) : Option (List Int) :=
  if 100 < l.length then none else match readAll (cutL l) with
    | some xs => if rowOkB xs then some xs else none
    | none => none

/-- What scanRow gathers. -/
def scanS : List UInt8 → List Int → Int → Int → List Int
  | [], row, c, s => row ++ [s * c]
  | b :: l, row, c, s =>
    if isDig b then (if cellB (c * 10 + (b.toNat - 48 : Nat)) then scanS l row (c * 10 + (b.toNat - 48 : Nat)) s else row ++ [s * (c * 10 + (b.toNat - 48 : Nat))])
    else if b = 45 then scanS l row c (-1) else if b = 44 then scanS l (row ++ [s * c]) 0 1 else row ++ [s * c]

theorem head_app {xs ys : List UInt8} (h : xs ≠ []) : (xs ++ ys).head? = xs.head? := by
  cases xs with
  | nil => exact absurd rfl h
  | cons x xs => rfl
theorem dig_of (u : Nat) (h : u < 10) : (UInt8.ofNat (48 + u)).toNat = 48 + u := by rw [UInt8.toNat_ofNat']; omega
theorem dec_lt {u : Nat} (h : u < 10) : Lib.decDigits u = [UInt8.ofNat (48 + u)] := by rw [Lib.decDigits, dif_pos h]
theorem dec_ge {u : Nat} (h : ¬ u < 10) : Lib.decDigits u = Lib.decDigits (u / 10) ++ [UInt8.ofNat (48 + u % 10)] := by rw [Lib.decDigits, dif_neg h]

theorem dec_all : ∀ u : Nat, (Lib.decDigits u).all isDig = true := by
  intro u
  induction u using Nat.strongRecOn with
  | ind u ih =>
    by_cases h : u < 10
    · rw [dec_lt h]
      simp [isDig]; omega
    · rw [dec_ge h, List.all_append, ih (u / 10) (by omega)]
      simp [isDig]; omega
theorem dec_ne (u : Nat) : Lib.decDigits u ≠ [] := by
  by_cases h : u < 10
  · rw [dec_lt h]; simp
  · rw [dec_ge h]; simp
theorem dec_val : ∀ u : Nat, decVal (Lib.decDigits u) = u := by
  intro u
  induction u using Nat.strongRecOn with
  | ind u ih =>
    by_cases h : u < 10
    · rw [dec_lt h]
      simp [decVal]; omega
    · rw [dec_ge h, decVal_snoc, ih (u / 10) (by omega), dig_of (u % 10) (by omega)]
      omega
theorem dec_head : ∀ u : Nat, 1 ≤ u → (Lib.decDigits u).head? ≠ some 48 := by
  intro u
  induction u using Nat.strongRecOn with
  | ind u ih =>
    intro hu
    by_cases h : u < 10
    · rw [dec_lt h]
      intro e
      have e2 : UInt8.ofNat (48 + u) = 48 := by simpa using e
      have e3 := congrArg UInt8.toNat e2
      rw [dig_of u h] at e3
      have : (48 : UInt8).toNat = 48 := rfl
      omega
    · rw [dec_ge h, head_app (dec_ne _)]
      exact ih (u / 10) (by omega) (by omega)
theorem dec_len : ∀ (k u : Nat), u < 10 ^ (k + 1) → (Lib.decDigits u).length ≤ k + 1
  | 0, u, h => by rw [dec_lt (by omega)]; simp
  | k + 1, u, h => by
    by_cases h1 : u < 10
    · rw [dec_lt h1]; simp
    · rw [dec_ge h1, List.length_append]
      have := dec_len k (u / 10) (by rw [Nat.pow_succ] at h; omega)
      simp; omega

theorem dig_back {l : List UInt8} (hne : l ≠ []) (hd : l.all isDig = true) (hz : l.head? = some 48 → l.length ≤ 1) : Lib.decDigits (decVal l) = l := by
  induction hl : l.length using Nat.strongRecOn generalizing l with
  | ind n ih =>
    obtain ⟨i, c, rfl⟩ : ∃ i c, l = i ++ [c] := ⟨l.dropLast, l.getLast hne, (List.dropLast_concat_getLast hne).symm⟩
    rw [List.all_append] at hd
    simp only [Bool.and_eq_true, List.all_cons, List.all_nil, and_true] at hd
    obtain ⟨hdi, hdc⟩ := hd
    have hc : 48 ≤ c.toNat ∧ c.toNat ≤ 57 := by simpa [isDig] using hdc
    rw [decVal_snoc]
    by_cases hi : i = []
    · subst hi
      have e0 : decVal ([] : List UInt8) = 0 := rfl
      rw [e0, Nat.zero_mul, Nat.zero_add, dec_lt (by omega)]
      have : 48 + (c.toNat - 48) = c.toNat := by omega
      rw [this, UInt8.ofNat_toNat]; rfl
    · have hzi : i.head? = some 48 → i.length ≤ 1 := by
        intro h0
        rw [head_app hi] at hz
        have := hz h0
        have h1 : 0 < i.length := List.length_pos_iff.2 hi
        rw [List.length_append, List.length_singleton] at this
        omega
      have hlt : i.length < n := by rw [← hl]; simp
      have back := ih i.length hlt hi hdi hzi rfl
      have hpos : 1 ≤ decVal i := by
        rcases Nat.eq_zero_or_pos (decVal i) with h0 | h0
        · rw [h0, dec_lt (by omega)] at back
          have hh : i.head? = some 48 := by rw [← back]; rfl
          rw [head_app hi] at hz
          have := hz hh
          have h1 : 0 < i.length := List.length_pos_iff.2 hi
          rw [List.length_append, List.length_singleton] at this
          omega
        · exact h0
      rw [dec_ge (by omega)]
      have e1 : (decVal i * 10 + (c.toNat - 48)) / 10 = decVal i := by omega
      have e2 : (decVal i * 10 + (c.toNat - 48)) % 10 = c.toNat - 48 := by omega
      rw [e1, e2, back]
      have : 48 + (c.toNat - 48) = c.toNat := by omega
      rw [this, UInt8.ofNat_toNat]

theorem num_itoa {x : Int} (h : cellB x = true) : numB (Lib.itoa x) = some x := by
  have hx : -1000000000 ≤ x ∧ x ≤ 1000000000 := by simpa [cellB] using h
  unfold numB Lib.itoa
  by_cases hn : x < 0
  · rw [if_pos hn]
    have hlen := dec_len 9 x.natAbs (by omega)
    have hh := dec_head x.natAbs (by omega)
    have hg : digB true (Lib.decDigits x.natAbs) = true := by
      simp [digB, dec_ne, dec_all, hh]; omega
    simp [hg, dec_val]; omega
  · rw [if_neg hn]
    have hlen := dec_len 9 x.toNat (by omega)
    have h45 : (Lib.decDigits x.toNat).head? ≠ some 45 := by
      intro e
      have hm : (45 : UInt8) ∈ Lib.decDigits x.toNat := List.mem_of_mem_head? e
      have := List.all_eq_true.1 (dec_all x.toNat) 45 hm
      simp [isDig] at this
    have hg : digB false (Lib.decDigits x.toNat) = true := by
      by_cases h0 : x.toNat = 0
      · rw [h0, dec_lt (by omega)]; decide
      · have hh := dec_head x.toNat (by omega)
        simp [digB, dec_ne, dec_all, hh]; omega
    rw [if_neg h45, if_pos hg, dec_val]
    simp; omega

theorem num_back {l : List UInt8} {x : Int} (h : numB l = some x) : l = Lib.itoa x := by
  unfold numB at h
  by_cases h45 : l.head? = some 45
  · rw [if_pos h45] at h
    by_cases hg : digB true l.tail = true
    · rw [if_pos hg] at h
      simp only [digB, Bool.and_eq_true, decide_eq_true_eq, Bool.not_eq_true', Bool.or_true, Bool.and_true, decide_eq_false_iff_not] at hg
      obtain ⟨⟨⟨hne, hlen⟩, hz⟩, hd⟩ := hg
      have back := dig_back hne hd (fun e => absurd e hz)
      have hpos : 1 ≤ decVal l.tail := by
        rcases Nat.eq_zero_or_pos (decVal l.tail) with h0 | h0
        · rw [h0, dec_lt (by omega)] at back
          exact absurd (by rw [← back]; rfl) hz
        · exact h0
      obtain rfl : x = -(decVal l.tail : Int) := by simpa using h.symm
      unfold Lib.itoa
      rw [if_pos (by omega)]
      have e : (-(decVal l.tail : Int)).natAbs = decVal l.tail := by omega
      rw [e, back]
      cases l with
      | nil => simp at h45
      | cons c l => simp at h45; subst h45; rfl
    · rw [if_neg hg] at h; cases h
  · rw [if_neg h45] at h
    by_cases hg : digB false l = true
    · rw [if_pos hg] at h
      simp only [digB, Bool.and_eq_true, decide_eq_true_eq, Bool.not_eq_true', Bool.or_false, Bool.and_eq_false_imp, decide_eq_false_iff_not] at hg
      obtain ⟨⟨⟨hne, hlen⟩, hz⟩, hd⟩ := hg
      have back := dig_back hne hd (fun e => by have := hz e; omega)
      obtain rfl : x = (decVal l : Int) := by simpa using h.symm
      unfold Lib.itoa
      rw [if_neg (by omega), Int.toNat_natCast, back]
    · rw [if_neg hg] at h; cases h

theorem cut_none : ∀ {p : List UInt8}, (∀ c ∈ p, c ≠ 44) → cutL p = [p]
  | [], _ => rfl
  | c :: p, h => by
    have ih := cut_none (p := p) (fun d hd => h d (by simp [hd]))
    simp [cutL, h c (by simp), ih, consHead]
theorem cut_at : ∀ {p l : List UInt8}, (∀ c ∈ p, c ≠ 44) → cutL (p ++ 44 :: l) = p :: cutL l
  | [], l, _ => by simp [cutL]
  | c :: p, l, h => by
    have ih := cut_at (p := p) (l := l) (fun d hd => h d (by simp [hd]))
    simp [cutL, h c (by simp), ih, consHead]
theorem itoa_no (x : Int) : ∀ c ∈ Lib.itoa x, c ≠ 44 := by
  intro c hc e
  subst e
  unfold Lib.itoa at hc
  by_cases h : x < 0
  · rw [if_pos h] at hc
    rcases List.mem_cons.1 hc with e | e
    · exact absurd e (by decide)
    · have := List.all_eq_true.1 (dec_all _) _ e
      simp [isDig] at this
  · rw [if_neg h] at hc
    have := List.all_eq_true.1 (dec_all _) _ hc
    simp [isDig] at this
theorem cut_row : ∀ (x : Int) (xs : List Int), cutL (rowTx (x :: xs)) = (x :: xs).map Lib.itoa
  | x, [] => by simp [rowTx, txTail, cut_none (itoa_no x)]
  | x, y :: ys => by
    have ih := cut_row y ys
    simp only [rowTx, txTail] at ih ⊢
    rw [cut_at (itoa_no x), ih]
    rfl
/-- The pieces with commas between them. -/
def joinC : List (List UInt8) → List UInt8
  | [] => []
  | [p] => p
  | p :: q :: ps => p ++ 44 :: joinC (q :: ps)
theorem cut_ne (l : List UInt8) : cutL l ≠ [] := by
  cases l with
  | nil => simp [cutL]
  | cons c l =>
    simp only [cutL]
    by_cases h : c = 44
    · simp [h]
    · rw [if_neg h]
      cases cutL l <;> simp [consHead]
theorem join_cons (c : UInt8) (ps : List (List UInt8)) (h : ps ≠ []) : joinC (consHead [c] ps) = c :: joinC ps := by
  match ps, h with
  | [p], _ => rfl
  | p :: q :: ps, _ => rfl
theorem join_nil (ps : List (List UInt8)) (h : ps ≠ []) : joinC ([] :: ps) = 44 :: joinC ps := by
  match ps, h with
  | p :: ps, _ => rfl
theorem join_cut : ∀ l : List UInt8, joinC (cutL l) = l
  | [] => rfl
  | c :: l => by
    have ih := join_cut l
    simp only [cutL]
    by_cases h : c = 44
    · subst h
      rw [if_pos rfl, join_nil _ (cut_ne l), ih]
    · rw [if_neg h, join_cons _ _ (cut_ne l), ih]
theorem join_row : ∀ (x : Int) (xs : List Int), joinC ((x :: xs).map Lib.itoa) = rowTx (x :: xs)
  | x, [] => by simp [joinC, rowTx, txTail]
  | x, y :: ys => by
    have ih := join_row y ys
    simp only [List.map_cons, joinC, rowTx, txTail] at ih ⊢
    rw [ih]
theorem all_itoa : ∀ xs : List Int, xs.all cellB = true → readAll (xs.map Lib.itoa) = some xs
  | [], _ => rfl
  | x :: xs, h => by
    simp only [List.all_cons, Bool.and_eq_true] at h
    simp [readAll, num_itoa h.1, all_itoa xs h.2]
theorem all_back : ∀ {ps : List (List UInt8)} {xs : List Int}, readAll ps = some xs → ps = xs.map Lib.itoa
  | [], xs, h => by simp [readAll] at h; subst h; rfl
  | p :: ps, xs, h => by
    simp only [readAll] at h
    cases h1 : numB p with
    | none => simp [h1] at h
    | some x =>
      cases h2 : readAll ps with
      | none => simp [h1, h2] at h
      | some ys =>
        simp [h1, h2] at h
        subst h
        rw [num_back h1, all_back h2]; rfl

theorem itoa_len {x : Int} (h : cellB x = true) : (Lib.itoa x).length ≤ 11 := by
  have hx : -1000000000 ≤ x ∧ x ≤ 1000000000 := by simpa [cellB] using h
  unfold Lib.itoa
  by_cases hn : x < 0
  · rw [if_pos hn]
    have := dec_len 9 x.natAbs (by omega)
    simp; omega
  · rw [if_neg hn]
    have := dec_len 9 x.toNat (by omega)
    omega
theorem tail_len : ∀ xs : List Int, xs.all cellB = true → (txTail xs).length ≤ 12 * xs.length
  | [], _ => by simp [txTail]
  | x :: xs, h => by
    simp only [List.all_cons, Bool.and_eq_true] at h
    have h1 := itoa_len h.1
    have h2 := tail_len xs h.2
    simp [txTail]; omega
theorem row_len {xs : List Int} (h : rowOkB xs = true) : (rowTx xs).length ≤ 72 := by
  simp only [rowOkB, Bool.and_eq_true, decide_eq_true_eq] at h
  obtain ⟨⟨h1, h6⟩, ha⟩ := h
  match xs, h1, h6, ha with
  | x :: xs, _, h6, ha =>
    simp only [List.all_cons, Bool.and_eq_true] at ha
    have h1 := itoa_len ha.1
    have h2 := tail_len xs ha.2
    simp at h6
    simp [rowTx]; omega

/-- A row is read from its text. -/
theorem read_row {xs : List Int} (h : rowOkB xs = true) : readB (rowTx xs) = some xs := by
  have hl := row_len h
  unfold readB
  rw [if_neg (by omega)]
  have h' := h
  simp only [rowOkB, Bool.and_eq_true, decide_eq_true_eq] at h'
  match xs, h, h' with
  | x :: xs, h, h' =>
    rw [cut_row, all_itoa _ h'.2]
    simp [h]
/-- What is read is that text's row. -/
theorem read_back {l : List UInt8} {xs : List Int} (h : readB l = some xs) : rowOkB xs = true ∧ l = rowTx xs := by
  unfold readB at h
  by_cases hl : 100 < l.length
  · rw [if_pos hl] at h; cases h
  · rw [if_neg hl] at h
    cases hr : readAll (cutL l) with
    | none => simp [hr] at h
    | some ys =>
      simp only [hr] at h
      by_cases ho : rowOkB ys = true
      · rw [if_pos ho] at h
        obtain rfl : ys = xs := by simpa using h
        refine ⟨ho, ?_⟩
        have hb := all_back hr
        have hj := join_cut l
        rw [hb] at hj
        have ho' := ho
        simp only [rowOkB, Bool.and_eq_true, decide_eq_true_eq] at ho'
        match ys, ho', hj with
        | y :: ys, _, hj => rw [join_row] at hj; exact hj.symm
      · rw [if_neg ho] at h; cases h

theorem scan_dec (row : List Int) (s : Int) : ∀ (u : Nat) (rest : List UInt8), u ≤ 1000000000 → scanS (Lib.decDigits u ++ rest) row 0 s = scanS rest row u s := by
  intro u
  induction u using Nat.strongRecOn with
  | ind u ih =>
    intro rest hu
    by_cases h : u < 10
    · rw [dec_lt h]
      have e := dig_of u h
      have hd : isDig (UInt8.ofNat (48 + u)) = true := by simp only [isDig, e]; simp; omega
      have e2 : ((UInt8.ofNat (48 + u)).toNat - 48 : Nat) = u := by rw [e]; omega
      have hc : cellB ((0 : Int) * 10 + (u : Nat)) = true := by simp [cellB]; omega
      simp only [List.singleton_append, scanS, hd, if_true, e2, hc]
      simp
    · rw [dec_ge h, List.append_assoc, ih (u / 10) (by omega) _ (by omega)]
      have e := dig_of (u % 10) (by omega)
      have hd : isDig (UInt8.ofNat (48 + u % 10)) = true := by simp only [isDig, e]; simp; omega
      have e2 : ((UInt8.ofNat (48 + u % 10)).toNat - 48 : Nat) = u % 10 := by rw [e]; omega
      have e3 : (((u / 10 : Nat) : Int) * 10 + (u % 10 : Nat)) = (u : Int) := by omega
      have hc : cellB (u : Int) = true := by simp [cellB]; omega
      simp only [List.singleton_append, scanS, hd, if_true, e2, e3, hc]
theorem scan_itoa (row : List Int) {x : Int} (h : cellB x = true) (rest : List UInt8) :
    ∃ c s : Int, s * c = x ∧ scanS (Lib.itoa x ++ rest) row 0 1 = scanS rest row c s := by
  have hx : -1000000000 ≤ x ∧ x ≤ 1000000000 := by simpa [cellB] using h
  unfold Lib.itoa
  by_cases hn : x < 0
  · rw [if_pos hn]
    refine ⟨x.natAbs, -1, by omega, ?_⟩
    have h45 : isDig 45 = false := by decide
    have := scan_dec row (-1) x.natAbs rest (by omega)
    simp only [List.cons_append, scanS, h45, if_true]
    simpa using this
  · rw [if_neg hn]
    refine ⟨x.toNat, 1, by omega, ?_⟩
    exact scan_dec row 1 x.toNat rest (by omega)
theorem scan_tail : ∀ (xs row : List Int) (c s : Int), xs.all cellB = true → scanS (txTail xs) row c s = row ++ [s * c] ++ xs
  | [], row, c, s, _ => by simp [txTail, scanS]
  | x :: xs, row, c, s, h => by
    simp only [List.all_cons, Bool.and_eq_true] at h
    obtain ⟨c2, s2, hx, he⟩ := scan_itoa (row ++ [s * c]) h.1 (txTail xs)
    have h44 : isDig 44 = false := by decide
    have h1 : scanS (44 :: (Lib.itoa x ++ txTail xs)) row c s = scanS (Lib.itoa x ++ txTail xs) (row ++ [s * c]) 0 1 := by
      simp [scanS, h44]
    rw [txTail, h1, he, scan_tail xs _ c2 s2 h.2, hx]
    simp
/-- The scan of a row's text is the row. -/
theorem scan_row {xs : List Int} (h : rowOkB xs = true) : scanS (rowTx xs) [] 0 1 = xs := by
  simp only [rowOkB, Bool.and_eq_true, decide_eq_true_eq] at h
  match xs, h with
  | x :: xs, h =>
    have ha := h.2
    simp only [List.all_cons, Bool.and_eq_true] at ha
    obtain ⟨c, s, hx, he⟩ := scan_itoa [] ha.1 (txTail xs)
    rw [rowTx, he, scan_tail xs [] c s ha.2, hx]
    rfl

/-- Both read the same: the scan, held against the text of what it gathered, and the specification. -/
theorem read_same (l : List UInt8) (hl : ¬ 100 < l.length) :
    readB l = if rowOkB (scanS l [] 0 1) = true ∧ rowTx (scanS l [] 0 1) = l then some (scanS l [] 0 1) else none := by
  by_cases h : rowOkB (scanS l [] 0 1) = true ∧ rowTx (scanS l [] 0 1) = l
  · rw [if_pos h]
    have := read_row h.1
    rwa [h.2] at this
  · rw [if_neg h]
    cases hr : readB l with
    | none => rfl
    | some xs =>
      obtain ⟨ho, rfl⟩ := read_back hr
      rw [scan_row ho] at h
      exact absurd ⟨ho, rfl⟩ h

end Go.Proofs.YtflbdfpgaeeleaaGreatDoor
