/-
  Items that are right are told by their text.
-/
import Derived.Test.YtnkhgppfnkglfaaGreatDoorReadMath
import Derived.Test.YtnkhgppfnkglfaaGreatDoorZTextMath
import Derived.Test.YtnkhgppfnkglfaaGreatDoorStep
namespace Go.Proofs.YtnkhgppfnkglfaaGreatDoor

theorem itoa_chars (x : Int) : ∀ c ∈ Lib.itoa x, isDig c = true ∨ c = 45 := by
  intro c hc
  unfold Lib.itoa at hc
  split at hc
  · rcases List.mem_cons.1 hc with h | h
    · exact .inr h
    · exact .inl (List.all_eq_true.1 (dec_all _) c h)
  · exact .inl (List.all_eq_true.1 (dec_all _) c hc)
theorem row_chars : ∀ (xs : List Int), (∀ c ∈ txTail xs, isDig c = true ∨ c = 45 ∨ c = 44)
  | [], c, h => by simp [txTail] at h
  | x :: xs, c, h => by
    simp only [txTail, List.mem_cons, List.mem_append] at h
    rcases h with h | h | h
    · exact .inr (.inr h)
    · rcases itoa_chars x c h with h | h
      · exact .inl h
      · exact .inr (.inl h)
    · exact row_chars xs c h
theorem rowTx_chars (xs : List Int) : ∀ c ∈ rowTx xs, isDig c = true ∨ c = 45 ∨ c = 44 := by
  cases xs with
  | nil => intro c h; simp [rowTx] at h
  | cons x xs =>
    intro c h
    simp only [rowTx, List.mem_append] at h
    rcases h with h | h
    · rcases itoa_chars x c h with h | h
      · exact .inl h
      · exact .inr (.inl h)
    · exact row_chars xs c h
theorem dig_ne {c : UInt8} (h : isDig c = true) : c ≠ 42 ∧ c ≠ 32 := by
  unfold isDig at h
  simp at h
  constructor
  · rintro rfl
    simp at h
  · rintro rfl
    simp at h
theorem rowTx_no (xs : List Int) : ∀ c ∈ rowTx xs, c ≠ 42 ∧ c ≠ 32 := fun c h => by
  rcases rowTx_chars xs c h with h | h | h
  · exact dig_ne h
  · subst h; decide
  · subst h; decide
theorem itoa_not (x : Int) : ∀ c ∈ Lib.itoa x, c ≠ 42 ∧ c ≠ 32 := fun c h => by
  rcases itoa_chars x c h with h | h
  · exact dig_ne h
  · subst h; decide
theorem itemTx_no (p : It) : ∀ c ∈ itemTx p, c ≠ 32 := fun c h => by
  simp only [itemTx, List.mem_append, List.mem_cons] at h
  rcases h with h | h | h
  · exact (rowTx_no _ c h).2
  · subst h; decide
  · exact (itoa_not _ c h).2

theorem split_at {k : UInt8} : ∀ {a a' b b' : List UInt8}, (∀ c ∈ a, c ≠ k) → (∀ c ∈ a', c ≠ k) → a ++ k :: b = a' ++ k :: b' → a = a' ∧ b = b'
  | [], [], b, b', _, _, h => by simpa using h
  | [], x :: a', b, b', _, h2, h => by
    simp at h
    exact absurd h.1.symm (h2 x (by simp))
  | x :: a, [], b, b', h1, _, h => by
    simp at h
    exact absurd h.1 (h1 x (by simp))
  | x :: a, y :: a', b, b', h1, h2, h => by
    simp at h
    obtain ⟨rfl, h⟩ := h
    obtain ⟨e1, e2⟩ := split_at (fun c hc => h1 c (by simp [hc])) (fun c hc => h2 c (by simp [hc])) h
    exact ⟨by rw [e1], e2⟩
/-- What is behind ends there, or begins with a sign that is not in what is ahead. -/
theorem split_end {k : UInt8} {a a' b b' : List UInt8} (h1 : ∀ c ∈ a, c ≠ k) (h2 : ∀ c ∈ a', c ≠ k) (hb : b = [] ∨ ∃ t, b = k :: t) (hb' : b' = [] ∨ ∃ t, b' = k :: t) (h : a ++ b = a' ++ b') : a = a' ∧ b = b' := by
  rcases hb with rfl | ⟨t, rfl⟩
  · rcases hb' with rfl | ⟨t', rfl⟩
    · simpa using h
    · rw [List.append_nil] at h
      exact absurd rfl (h1 k (by rw [h]; simp))
  · rcases hb' with rfl | ⟨t', rfl⟩
    · rw [List.append_nil] at h
      exact absurd rfl (h2 k (by rw [← h]; simp))
    · obtain ⟨e1, e2⟩ := split_at h1 h2 h
      exact ⟨e1, by rw [e2]⟩
/-- An item that is right. -/
def okIt (p : It) : Prop := rowOkB p.1 = true ∧ wB p.2 = true
theorem wB_cell {n : Int} (h : wB n = true) : cellB n = true := by
  unfold wB at h
  have := of_decide_eq_true h
  unfold cellB
  rw [decide_eq_true_iff]
  omega
theorem item_inj {p q : It} (hp : okIt p) (hq : okIt q) (h : itemTx p = itemTx q) : p = q := by
  unfold itemTx at h
  obtain ⟨e1, e2⟩ := split_at (fun c hc => (rowTx_no _ c hc).1) (fun c hc => (rowTx_no _ c hc).1) h
  have r1 := read_row hp.1
  have r2 := read_row hq.1
  rw [e1, r2] at r1
  have n1 := num_itoa (wB_cell hp.2)
  have n2 := num_itoa (wB_cell hq.2)
  rw [e2, n2] at n1
  exact Prod.ext (Option.some.inj r1).symm (Option.some.inj n1).symm
theorem tail_form (zs : List It) : zTail zs = [] ∨ ∃ t, zTail zs = 32 :: t := by
  cases zs with
  | nil => exact .inl rfl
  | cons p zs => exact .inr ⟨_, rfl⟩
theorem zTail_inj : ∀ {zs ys : List It}, (∀ p ∈ zs, okIt p) → (∀ p ∈ ys, okIt p) → zTail zs = zTail ys → zs = ys
  | [], [], _, _, _ => rfl
  | [], _ :: _, _, _, h => by simp [zTail] at h
  | _ :: _, [], _, _, h => by simp [zTail] at h
  | p :: zs, q :: ys, hz, hy, h => by
    simp only [zTail, List.cons.injEq, true_and] at h
    obtain ⟨e1, e2⟩ := split_end (itemTx_no p) (itemTx_no q) (tail_form zs) (tail_form ys) h
    rw [item_inj (hz p (by simp)) (hy q (by simp)) e1, zTail_inj (fun x hx => hz x (by simp [hx])) (fun x hx => hy x (by simp [hx])) e2]
theorem itemTx_ne (p : It) : itemTx p ≠ [] := by
  unfold itemTx
  simp
theorem zTx_inj {zs ys : List It} (hz : ∀ p ∈ zs, okIt p) (hy : ∀ p ∈ ys, okIt p) (h : zTx zs = zTx ys) : zs = ys := by
  cases zs with
  | nil =>
    cases ys with
    | nil => rfl
    | cons q ys =>
      simp only [zTx] at h
      exact absurd (List.append_eq_nil_iff.1 h.symm).1 (itemTx_ne q)
  | cons p zs =>
    cases ys with
    | nil =>
      simp only [zTx] at h
      exact absurd (List.append_eq_nil_iff.1 h).1 (itemTx_ne p)
    | cons q ys =>
      simp only [zTx] at h
      obtain ⟨e1, e2⟩ := split_end (itemTx_no p) (itemTx_no q) (tail_form zs) (tail_form ys) h
      rw [item_inj (hz p (by simp)) (hy q (by simp)) e1, zTail_inj (fun x hx => hz x (by simp [hx])) (fun x hx => hy x (by simp [hx])) e2]
theorem zOk_okIt {zs : List It} (h : zOkB zs = true) : ∀ p ∈ zs, okIt p := fun p hp => by
  obtain ⟨j, hj, rfl⟩ := mem_getD (d := ([], 0)) hp
  exact zOk_row h hj

end Go.Proofs.YtnkhgppfnkglfaaGreatDoor
