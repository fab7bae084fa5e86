/-
  Items read from a text, as plain lists of bytes: just the text of items that are right is read, and as what it was.
-/
import Derived.Test.YtnkhgppfnkglfaaGreatDoorZInj
namespace Go.Proofs.YtnkhgppfnkglfaaGreatDoor

/-- The pieces of a text between blanks. -/
def cutS : List UInt8 → List (List UInt8)
  | [] => [[]]
  | c :: l => if c = 32 then [] :: cutS l else consHead [c] (cutS l)
theorem cutS_none : ∀ {p : List UInt8}, (∀ c ∈ p, c ≠ 32) → cutS p = [p]
  | [], _ => rfl
  | c :: p, h => by
    have ih := cutS_none (p := p) (fun d hd => h d (by simp [hd]))
    simp [cutS, h c (by simp), ih, consHead]
theorem cutS_at : ∀ {p l : List UInt8}, (∀ c ∈ p, c ≠ 32) → cutS (p ++ 32 :: l) = p :: cutS l
  | [], l, _ => by simp [cutS]
  | c :: p, l, h => by
    have ih := cutS_at (p := p) (l := l) (fun d hd => h d (by simp [hd]))
    simp [cutS, h c (by simp), ih, consHead]
theorem cutS_ne (l : List UInt8) : cutS l ≠ [] := by
  cases l with
  | nil => simp [cutS]
  | cons c l =>
    unfold cutS
    split
    · simp
    · cases cutS l <;> simp [consHead]
theorem cutS_items : ∀ (p : It) (zs : List It), cutS (itemTx p ++ zTail zs) = (p :: zs).map itemTx
  | p, [] => by simp [zTail, cutS_none (itemTx_no p)]
  | p, q :: zs => by
    rw [zTail, cutS_at (itemTx_no p), cutS_items q zs]
    rfl
/-- Pieces put together with blanks between. -/
def joinS : List (List UInt8) → List UInt8
  | [] => []
  | [p] => p
  | p :: q :: ps => p ++ 32 :: joinS (q :: ps)
theorem joinS_cons (c : UInt8) (ps : List (List UInt8)) (h : ps ≠ []) : joinS (consHead [c] ps) = c :: joinS ps := by
  match ps, h with
  | [p], _ => simp [consHead, joinS]
  | p :: q :: ps, _ => simp [consHead, joinS]
theorem joinS_nil (ps : List (List UInt8)) (h : ps ≠ []) : joinS ([] :: ps) = 32 :: joinS ps := by
  match ps, h with
  | p :: ps, _ => simp [joinS]
theorem joinS_cut : ∀ l : List UInt8, joinS (cutS l) = l
  | [] => rfl
  | c :: l => by
    have ih := joinS_cut l
    unfold cutS
    split
    · rename_i h
      rw [joinS_nil _ (cutS_ne l), ih, h]
    · rw [joinS_cons _ _ (cutS_ne l), ih]
theorem joinS_items : ∀ (p : It) (zs : List It), joinS ((p :: zs).map itemTx) = zTx (p :: zs)
  | p, [] => by simp [joinS, zTx, zTail]
  | p, q :: zs => by
    have ih := joinS_items q zs
    simp only [List.map_cons] at ih ⊢
    rw [joinS, ih]
    simp [zTx, zTail]

/-- What is ahead of the first star and what is behind it. -/
def starAt : List UInt8 → Option (List UInt8 × List UInt8)
  | [] => none
  | c :: l => if c = 42 then some ([], l) else (starAt l).map fun q => (c :: q.1, q.2)
theorem starAt_at : ∀ {a b : List UInt8}, (∀ c ∈ a, c ≠ 42) → starAt (a ++ 42 :: b) = some (a, b)
  | [], b, _ => by simp [starAt]
  | c :: a, b, h => by
    have ih := starAt_at (a := a) (b := b) (fun d hd => h d (by simp [hd]))
    simp [starAt, h c (by simp), ih]
theorem starAt_back : ∀ {l a b : List UInt8}, starAt l = some (a, b) → l = a ++ 42 :: b
  | [], _, _, h => by simp [starAt] at h
  | c :: l, a, b, h => by
    unfold starAt at h
    split at h
    · rename_i hc
      simp at h
      obtain ⟨rfl, rfl⟩ := h
      rw [hc]; rfl
    · obtain ⟨q, hq, e⟩ := Option.map_eq_some_iff.1 h
      simp at e
      obtain ⟨rfl, rfl⟩ := e
      rw [starAt_back (a := q.1) (b := q.2) hq]
      rfl
/-- An item read. -/
def oneB (l : List UInt8) : Option It := (starAt l).bind fun q => (readB q.1).bind fun r => (numB q.2).map fun n => (r, n)
theorem one_item {p : It} (h : okIt p) : oneB (itemTx p) = some p := by
  unfold oneB itemTx
  rw [starAt_at (fun c hc => (rowTx_no _ c hc).1)]
  simp [read_row h.1, num_itoa (wB_cell h.2)]
theorem one_back {l : List UInt8} {p : It} (h : oneB l = some p) : l = itemTx p ∧ rowOkB p.1 = true := by
  unfold oneB at h
  obtain ⟨q, hq, h⟩ := Option.bind_eq_some_iff.1 h
  obtain ⟨r, hr, h⟩ := Option.bind_eq_some_iff.1 h
  obtain ⟨n, hn, rfl⟩ := Option.map_eq_some_iff.1 h
  have h1 := starAt_back (a := q.1) (b := q.2) hq
  have h2 := read_back hr
  have h3 := num_back hn
  exact ⟨by rw [h1, h2.2, h3]; rfl, h2.1⟩
def allZ : List (List UInt8) → Option (List It)
  | [] => some []
  | l :: ls => (oneB l).bind fun p => (allZ ls).map fun zs => p :: zs
theorem all_items : ∀ {zs : List It}, (∀ p ∈ zs, okIt p) → allZ (zs.map itemTx) = some zs
  | [], _ => rfl
  | p :: zs, h => by
    have ih := all_items (zs := zs) fun q hq => h q (by simp [hq])
    simp [allZ, one_item (h p (by simp)), ih]
theorem allZ_back : ∀ {ls : List (List UInt8)} {zs : List It}, allZ ls = some zs → ls = zs.map itemTx
  | [], zs, h => by simp [allZ] at h; subst h; rfl
  | l :: ls, zs, h => by
    unfold allZ at h
    obtain ⟨p, hp, h⟩ := Option.bind_eq_some_iff.1 h
    obtain ⟨ys, hy, rfl⟩ := Option.map_eq_some_iff.1 h
    rw [(one_back hp).1, allZ_back hy]
    rfl
/-- Items read from a text. -/
def readZ (l : List UInt8) : Option (List It) :=
  if l = [] then some [] else if 9000 < l.length then none else (allZ (cutS l)).bind fun zs => if zOkB zs then some zs else none
theorem readZ_back {l : List UInt8} {zs : List It} (h : readZ l = some zs) : zOkB zs = true ∧ l = zTx zs ∧ l.length ≤ 9000 := by
  unfold readZ at h
  split at h
  · rename_i hl
    simp at h
    subst h hl
    exact ⟨by simp [zOkB], rfl, by simp⟩
  · split at h
    · simp at h
    · rename_i hne hlen
      obtain ⟨ys, hy, h⟩ := Option.bind_eq_some_iff.1 h
      split at h
      · rename_i hz
        simp at h
        subst h
        refine ⟨hz, ?_, by omega⟩
        have h1 := allZ_back hy
        have h2 := joinS_cut l
        rw [h1] at h2
        cases ys with
        | nil => exact absurd h1 (cutS_ne l)
        | cons p ys => rw [joinS_items] at h2; exact h2.symm
      · simp at h
theorem readZ_items {zs : List It} (h : zOkB zs = true) (hl : (zTx zs).length ≤ 9000) : readZ (zTx zs) = some zs := by
  unfold readZ
  cases zs with
  | nil => simp [zTx]
  | cons p zs =>
    have hne : zTx (p :: zs) ≠ [] := fun e => itemTx_ne p (List.append_eq_nil_iff.1 e).1
    rw [if_neg hne, if_neg (by omega)]
    have e : zTx (p :: zs) = itemTx p ++ zTail zs := rfl
    rw [e, cutS_items, all_items (zOk_okIt h)]
    simp [h]

end Go.Proofs.YtnkhgppfnkglfaaGreatDoor
