/-
  Plain facts on items as lists: a row put so often into items in order, two lists merged, and what is looked up there; two lists in order without a weight of 0 that answer the same at every row are one.
-/
import Derived.Test.YtflbdfpgaeeleaaGreatDoorZGet
namespace Go.Proofs.YtflbdfpgaeeleaaGreatDoor

/-- Rows in order, each once. -/
def Srt (zs : List It) : Prop := zs.Pairwise fun p q => ordL p.1 q.1 = -1
def Nz (zs : List It) : Prop := ∀ p ∈ zs, p.2 ≠ 0

theorem ordL_ne {a b : List Int} (h : ordL a b = -1) : a ≠ b := fun e => by rw [e, ordL_self] at h; omega
theorem ordL_flip {a b : List Int} (h : ¬ ordL a b = -1) (hne : a ≠ b) : ordL b a = -1 := by
  rcases ordL_cases a b with c | c | c
  · exact absurd c.1 h
  · exact absurd c.2.2 hne
  · exact c.2

theorem getZ_nil (q : List Int) : getZ [] q = 0 := rfl
theorem getZ_cons (p : It) (zs : List It) (q : List Int) : getZ (p :: zs) q = if p.1 = q then p.2 else getZ zs q := by
  unfold getZ
  by_cases h : p.1 = q
  · simp [h]
  · simp [h]
theorem getZ_zero {zs : List It} {q : List Int} (h : ∀ p ∈ zs, p.1 ≠ q) : getZ zs q = 0 := by
  induction zs with
  | nil => rfl
  | cons p zs ih =>
    rw [getZ_cons, if_neg (h p (by simp))]
    exact ih fun x hx => h x (by simp [hx])
theorem Srt.cons {p : It} {zs : List It} : Srt (p :: zs) ↔ (∀ x ∈ zs, ordL p.1 x.1 = -1) ∧ Srt zs := List.pairwise_cons
theorem Srt.nil : Srt [] := List.Pairwise.nil
theorem getZ_ahead {p : It} {zs : List It} (h : Srt (p :: zs)) : getZ zs p.1 = 0 := getZ_zero fun x hx e => ordL_ne ((Srt.cons.1 h).1 x hx) e.symm
theorem getZ_below {p : It} {zs : List It} {q : List Int} (h : Srt (p :: zs)) (hq : ordL q p.1 = -1) : getZ (p :: zs) q = 0 := by
  refine getZ_zero fun x hx e => ?_
  rcases List.mem_cons.1 hx with rfl | hx
  · exact ordL_ne hq e.symm
  · exact ordL_ne (ordL_trans _ _ _ hq ((Srt.cons.1 h).1 x hx)) e.symm

/-- A row is put so often into items in order. -/
def putZ : List It → List Int → Int → List It
  | [], r, y => if y = 0 then [] else [(r, y)]
  | p :: zs, r, y => if ordL p.1 r = -1 then p :: putZ zs r y
      else if p.1 = r then (if p.2 + y = 0 then zs else (p.1, p.2 + y) :: zs)
      else if y = 0 then p :: zs else (r, y) :: p :: zs

theorem putZ_drop (r : List Int) (y : Int) : ∀ (k : Nat) (zs : List It), (∀ j, j < k → ordL (zs.getD j ([], 0)).1 r = -1) → k ≤ zs.length → putZ zs r y = zs.take k ++ putZ (zs.drop k) r y
  | 0, zs, _, _ => by simp
  | k + 1, [], _, h => by simp at h
  | k + 1, p :: zs, h, hl => by
    have h0 := h 0 (by omega)
    simp at h0
    have ih := putZ_drop r y k zs (fun j hj => by simpa using h (j + 1) (by omega)) (by simpa using hl)
    rw [putZ, if_pos h0, ih]
    simp
theorem putZ_same {zs : List It} {r : List Int} {k : Nat} (y : Int) (h : ∀ j, j < k → ordL (zs.getD j ([], 0)).1 r = -1) (hk : k < zs.length) (he : (zs.getD k ([], 0)).1 = r) :
    putZ zs r y = if (zs.getD k ([], 0)).2 + y = 0 then zs.take k ++ zs.drop (k + 1) else zs.set k (r, (zs.getD k ([], 0)).2 + y) := by
  have e1 : zs.getD k ([], 0) = zs[k] := by simp [List.getD, hk]
  rw [putZ_drop r y k zs h (by omega), List.drop_eq_getElem_cons hk, putZ]
  rw [e1] at he ⊢
  have h1 : ¬ ordL zs[k].1 r = -1 := by rw [he, ordL_self]; omega
  rw [if_neg h1, if_pos he]
  by_cases h0 : zs[k].2 + y = 0
  · rw [if_pos h0, if_pos h0]
  · rw [if_neg h0, if_neg h0, he, List.set_eq_take_append_cons_drop, if_pos hk]
theorem putZ_new {zs : List It} {r : List Int} {k : Nat} {y : Int} (hy : y ≠ 0) (h : ∀ j, j < k → ordL (zs.getD j ([], 0)).1 r = -1) (hk : k ≤ zs.length) (he : k < zs.length → ordL (zs.getD k ([], 0)).1 r ≠ -1 ∧ (zs.getD k ([], 0)).1 ≠ r) :
    putZ zs r y = zs.take k ++ (r, y) :: zs.drop k := by
  rw [putZ_drop r y k zs h hk]
  by_cases hlt : k < zs.length
  · have e1 : zs.getD k ([], 0) = zs[k] := by simp [List.getD, hlt]
    obtain ⟨h1, h2⟩ := he hlt
    rw [e1] at h1 h2
    rw [List.drop_eq_getElem_cons hlt, putZ, if_neg h1, if_neg h2, if_neg hy]
  · rw [List.drop_eq_nil_of_le (by omega), putZ, if_neg hy]
theorem putZ_zero {zs : List It} {r : List Int} {k : Nat} (h : ∀ j, j < k → ordL (zs.getD j ([], 0)).1 r = -1) (hk : k ≤ zs.length) (he : k < zs.length → ordL (zs.getD k ([], 0)).1 r ≠ -1 ∧ (zs.getD k ([], 0)).1 ≠ r) :
    putZ zs r 0 = zs := by
  rw [putZ_drop r 0 k zs h hk]
  by_cases hlt : k < zs.length
  · have e1 : zs.getD k ([], 0) = zs[k] := by simp [List.getD, hlt]
    obtain ⟨h1, h2⟩ := he hlt
    rw [e1] at h1 h2
    conv => lhs; rw [List.drop_eq_getElem_cons hlt, putZ, if_neg h1, if_neg h2, if_pos rfl]
    rw [← List.drop_eq_getElem_cons hlt, List.take_append_drop]
  · rw [List.drop_eq_nil_of_le (by omega), putZ, if_pos rfl, List.append_nil, List.take_of_length_le (by omega)]

theorem mem_put {x : It} {r : List Int} {y : Int} : ∀ {zs : List It}, x ∈ putZ zs r y → x ∈ zs ∨ x.1 = r
  | [], h => by
    unfold putZ at h
    split at h <;> simp at h
    exact .inr (by rw [h])
  | p :: zs, h => by
    unfold putZ at h
    split at h
    · rcases List.mem_cons.1 h with rfl | h
      · exact .inl (by simp)
      · rcases mem_put h with h | h
        · exact .inl (by simp [h])
        · exact .inr h
    · split at h
      · rename_i hp
        split at h
        · exact .inl (by simp [h])
        · rcases List.mem_cons.1 h with rfl | h
          · exact .inr hp
          · exact .inl (by simp [h])
      · split at h
        · exact .inl h
        · rcases List.mem_cons.1 h with rfl | h
          · exact .inr rfl
          · exact .inl h
theorem put_bound {B C : Int} {r : List Int} {y : Int} (hC : -C ≤ y ∧ y ≤ C) (hB0 : 0 ≤ B) (hC0 : 0 ≤ C) : ∀ {zs : List It}, (∀ p ∈ zs, -B ≤ p.2 ∧ p.2 ≤ B) → ∀ x ∈ putZ zs r y, -(B + C) ≤ x.2 ∧ x.2 ≤ B + C
  | [], _, x, hx => by
    unfold putZ at hx
    split at hx <;> simp at hx
    rw [hx]
    show -(B + C) ≤ y ∧ y ≤ B + C
    omega
  | p :: zs, hB, x, hx => by
    have hp := hB p (by simp)
    have hz : ∀ q ∈ zs, -B ≤ q.2 ∧ q.2 ≤ B := fun q hq => hB q (by simp [hq])
    have wide : ∀ q ∈ p :: zs, -(B + C) ≤ q.2 ∧ q.2 ≤ B + C := fun q hq => by have := hB q hq; omega
    unfold putZ at hx
    split at hx
    · rcases List.mem_cons.1 hx with rfl | hx
      · exact wide _ (by simp)
      · exact put_bound hC hB0 hC0 hz x hx
    · split at hx
      · split at hx
        · exact wide x (by simp [hx])
        · rcases List.mem_cons.1 hx with rfl | hx
          · show -(B + C) ≤ p.2 + y ∧ p.2 + y ≤ B + C
            omega
          · exact wide x (by simp [hx])
      · split at hx
        · exact wide x hx
        · rcases List.mem_cons.1 hx with rfl | hx
          · show -(B + C) ≤ y ∧ y ≤ B + C
            omega
          · exact wide x hx
theorem put_len (r : List Int) (y : Int) : ∀ zs : List It, (putZ zs r y).length ≤ zs.length + 1
  | [] => by unfold putZ; split <;> simp
  | p :: zs => by
    have := put_len r y zs
    unfold putZ
    split
    · simp; omega
    · split
      · split <;> simp <;> omega
      · split <;> simp
theorem srt_put {r : List Int} {y : Int} : ∀ {zs : List It}, Srt zs → Srt (putZ zs r y)
  | [], _ => by
    unfold putZ
    split
    · exact Srt.nil
    · exact Srt.cons.2 ⟨fun x hx => by simp at hx, Srt.nil⟩
  | p :: zs, h => by
    obtain ⟨h1, h2⟩ := Srt.cons.1 h
    unfold putZ
    split
    · rename_i hp
      refine Srt.cons.2 ⟨fun x hx => ?_, srt_put h2⟩
      rcases mem_put hx with hx | hx
      · exact h1 x hx
      · rw [hx]; exact hp
    · rename_i hp
      split
      · split
        · exact h2
        · exact Srt.cons.2 ⟨h1, h2⟩
      · rename_i hne
        split
        · exact h
        · have hr := ordL_flip hp hne
          refine Srt.cons.2 ⟨fun x hx => ?_, h⟩
          rcases List.mem_cons.1 hx with rfl | hx
          · exact hr
          · exact ordL_trans _ _ _ hr (h1 x hx)
theorem nz_put {r : List Int} {y : Int} : ∀ {zs : List It}, Nz zs → Nz (putZ zs r y)
  | [], _ => by
    unfold putZ
    split
    · intro p hp; simp at hp
    · rename_i hy
      intro p hp
      simp at hp
      rw [hp]; exact hy
  | p :: zs, h => by
    have hp := h p (by simp)
    have hz : Nz zs := fun q hq => h q (by simp [hq])
    intro x hx
    unfold putZ at hx
    split at hx
    · rcases List.mem_cons.1 hx with rfl | hx
      · exact hp
      · exact nz_put hz x hx
    · split at hx
      · split at hx
        · exact hz x hx
        · rename_i h0
          rcases List.mem_cons.1 hx with rfl | hx
          · exact h0
          · exact hz x hx
      · split at hx
        · exact h x hx
        · rename_i hy
          rcases List.mem_cons.1 hx with rfl | hx
          · exact hy
          · exact h x hx
theorem getZ_put {r q : List Int} {y : Int} : ∀ {zs : List It}, Srt zs → getZ (putZ zs r y) q = getZ zs q + (if r = q then y else 0)
  | [], _ => by
    unfold putZ
    split
    · rename_i hy
      subst hy
      simp [getZ_nil]
    · rw [getZ_cons, getZ_nil]; simp
  | p :: zs, h => by
    obtain ⟨h1, h2⟩ := Srt.cons.1 h
    have ih := getZ_put (r := r) (q := q) (y := y) h2
    unfold putZ
    split
    · rename_i hp
      rw [getZ_cons, getZ_cons]
      by_cases hq : p.1 = q
      · have hne : r ≠ q := fun e => ordL_ne hp (hq.trans e.symm)
        simp [hq, hne]
      · rw [if_neg hq, if_neg hq, ih]
    · rename_i hp
      split
      · rename_i hpr
        have h0 := getZ_ahead h
        split
        · rename_i hs
          rw [getZ_cons]
          by_cases hq : r = q
          · subst hq
            rw [hpr] at h0
            rw [if_pos hpr, if_pos rfl, h0]; omega
          · have hq' : p.1 ≠ q := fun e => hq (hpr.symm.trans e)
            rw [if_neg hq', if_neg hq]; omega
        · rw [getZ_cons, getZ_cons]
          by_cases hq : r = q
          · subst hq
            rw [if_pos hpr, if_pos hpr, if_pos rfl]
          · have hq' : p.1 ≠ q := fun e => hq (hpr.symm.trans e)
            rw [if_neg hq', if_neg hq', if_neg hq]; omega
      · rename_i hne
        split
        · rename_i hy
          subst hy
          simp
        · have hr := ordL_flip hp hne
          rw [getZ_cons]
          by_cases hq : r = q
          · subst hq
            have := getZ_below h hr
            rw [if_pos rfl, if_pos rfl, this]; omega
          · rw [if_neg hq, if_neg hq]; omega

/-- Items in order without a weight of 0 are told by what they answer. -/
theorem canon : ∀ {xs ys : List It}, Srt xs → Nz xs → Srt ys → Nz ys → (∀ q, getZ xs q = getZ ys q) → xs = ys
  | [], [], _, _, _, _, _ => rfl
  | [], y :: ys, _, _, _, hn, h => by
    have := h y.1
    rw [getZ_nil, getZ_cons, if_pos rfl] at this
    exact absurd this.symm (hn y (by simp))
  | x :: xs, [], _, hn, _, _, h => by
    have := h x.1
    rw [getZ_nil, getZ_cons, if_pos rfl] at this
    exact absurd this (hn x (by simp))
  | x :: xs, y :: ys, hx, hnx, hy, hny, h => by
    by_cases e : x.1 = y.1
    · have hw : x.2 = y.2 := by
        have := h x.1
        rwa [getZ_cons, if_pos rfl, getZ_cons, if_pos e.symm] at this
      have ih : xs = ys := canon (Srt.cons.1 hx).2 (fun q hq => hnx q (by simp [hq])) (Srt.cons.1 hy).2 (fun q hq => hny q (by simp [hq])) fun q => by
        by_cases hq : x.1 = q
        · subst hq
          rw [getZ_ahead hx, e, getZ_ahead hy]
        · have := h q
          rwa [getZ_cons, if_neg hq, getZ_cons, if_neg (by rw [← e]; exact hq)] at this
      rw [ih, show x = y from Prod.ext e hw]
    · by_cases hl : ordL x.1 y.1 = -1
      · have := h x.1
        rw [getZ_below hy hl, getZ_cons, if_pos rfl] at this
        exact absurd this (hnx x (by simp))
      · have hl' := ordL_flip hl e
        have := h y.1
        rw [getZ_below hx hl', getZ_cons, if_pos rfl] at this
        exact absurd this.symm (hny y (by simp))

/-- All of one list put into another one, one behind the other. -/
def addZ (a b : List It) : List It := b.foldl (fun z p => putZ z p.1 p.2) a
theorem addZ_nil (a : List It) : addZ a [] = a := rfl
theorem addZ_cons (a : List It) (p : It) (b : List It) : addZ a (p :: b) = addZ (putZ a p.1 p.2) b := rfl
theorem addZ_snoc (a b : List It) (p : It) : addZ a (b ++ [p]) = putZ (addZ a b) p.1 p.2 := by simp [addZ, List.foldl_append]
theorem srt_add : ∀ {b a : List It}, Srt a → Srt (addZ a b)
  | [], _, h => h
  | p :: b, a, h => by rw [addZ_cons]; exact srt_add (srt_put h)
theorem nz_add : ∀ {b a : List It}, Nz a → Nz (addZ a b)
  | [], _, h => h
  | p :: b, a, h => by rw [addZ_cons]; exact nz_add (nz_put h)
theorem getZ_add {q : List Int} : ∀ {b a : List It}, Srt a → Srt b → getZ (addZ a b) q = getZ a q + getZ b q
  | [], a, _, _ => by rw [addZ_nil, getZ_nil]; omega
  | p :: b, a, ha, hb => by
    rw [addZ_cons, getZ_add (srt_put ha) (Srt.cons.1 hb).2, getZ_put ha, getZ_cons]
    by_cases hq : p.1 = q
    · have := getZ_ahead hb
      rw [hq] at this
      rw [if_pos hq, if_pos hq, this]; omega
    · rw [if_neg hq, if_neg hq]; omega

/-- One item and a list merged into another list: what is behind the item is merged by rest. -/
def mrgIn (x : It) (rest : List It → List It) : List It → List It
  | [] => x :: rest []
  | y :: b => if ordL x.1 y.1 = -1 then x :: rest (y :: b) else if ordL x.1 y.1 = 1 then y :: mrgIn x rest b else (x.1, x.2 + y.2) :: rest b
/-- Two lists merged, however much a weight comes to. -/
def mrgZ : List It → List It → List It
  | [] => fun b => b
  | x :: a => mrgIn x (mrgZ a)
theorem mrgZ_nil (b : List It) : mrgZ [] b = b := rfl
theorem mrgZ_nil' : ∀ a : List It, mrgZ a [] = a
  | [] => rfl
  | x :: a => by
    show x :: mrgZ a [] = x :: a
    rw [mrgZ_nil' a]
theorem mrgZ_cons (x y : It) (a b : List It) : mrgZ (x :: a) (y :: b) = if ordL x.1 y.1 = -1 then x :: mrgZ a (y :: b) else if ordL x.1 y.1 = 1 then y :: mrgZ (x :: a) b else (x.1, x.2 + y.2) :: mrgZ a b := rfl
theorem mem_mrg {x : It} : ∀ (n : Nat) {a b : List It}, a.length + b.length ≤ n → x ∈ mrgZ a b → (∃ p ∈ a, x.1 = p.1) ∨ ∃ p ∈ b, x.1 = p.1
  | _, [], b, _, h => by rw [mrgZ_nil] at h; exact .inr ⟨x, h, rfl⟩
  | _, p :: a, [], _, h => by rw [mrgZ_nil'] at h; exact .inl ⟨x, h, rfl⟩
  | 0, _ :: _, _ :: _, hn, _ => by simp at hn
  | n + 1, p :: a, q :: b, hn, h => by
    rw [mrgZ_cons] at h
    simp only [List.length_cons] at hn
    split at h
    · rcases List.mem_cons.1 h with rfl | h
      · exact .inl ⟨_, by simp, rfl⟩
      · rcases mem_mrg n (by simp only [List.length_cons]; omega) h with ⟨z, hz, e⟩ | h
        · exact .inl ⟨z, by simp [hz], e⟩
        · exact .inr h
    · split at h
      · rcases List.mem_cons.1 h with rfl | h
        · exact .inr ⟨_, by simp, rfl⟩
        · rcases mem_mrg n (by simp only [List.length_cons]; omega) h with h | ⟨z, hz, e⟩
          · exact .inl h
          · exact .inr ⟨z, by simp [hz], e⟩
      · rcases List.mem_cons.1 h with rfl | h
        · exact .inl ⟨p, by simp, rfl⟩
        · rcases mem_mrg n (by omega) h with ⟨z, hz, e⟩ | ⟨z, hz, e⟩
          · exact .inl ⟨z, by simp [hz], e⟩
          · exact .inr ⟨z, by simp [hz], e⟩
theorem mrg_facts (q : List Int) : ∀ (n : Nat) {a b : List It}, a.length + b.length ≤ n → Srt a → Srt b → Srt (mrgZ a b) ∧ getZ (mrgZ a b) q = getZ a q + getZ b q
  | _, [], b, _, _, hb => by rw [mrgZ_nil, getZ_nil]; exact ⟨hb, by omega⟩
  | _, p :: a, [], _, ha, _ => by rw [mrgZ_nil', getZ_nil]; exact ⟨ha, by omega⟩
  | 0, _ :: _, _ :: _, hn, _, _ => by simp at hn
  | n + 1, x :: a, y :: b, hn, ha, hb => by
    simp only [List.length_cons] at hn
    obtain ⟨ha1, ha2⟩ := Srt.cons.1 ha
    obtain ⟨hb1, hb2⟩ := Srt.cons.1 hb
    rw [mrgZ_cons]
    split
    · rename_i hl
      obtain ⟨h1, h2⟩ := mrg_facts q n (a := a) (b := y :: b) (by simp only [List.length_cons]; omega) ha2 hb
      refine ⟨Srt.cons.2 ⟨fun z hz => ?_, h1⟩, ?_⟩
      · rcases mem_mrg n (by simp only [List.length_cons]; omega) hz with ⟨p, hp, e⟩ | ⟨p, hp, e⟩
        · rw [e]; exact ha1 p hp
        · rw [e]
          rcases List.mem_cons.1 hp with rfl | hp
          · exact hl
          · exact ordL_trans _ _ _ hl (hb1 p hp)
      · rw [getZ_cons, h2, getZ_cons x a]
        by_cases hq : x.1 = q
        · rw [if_pos hq, if_pos hq, ← hq, getZ_below hb hl]; omega
        · rw [if_neg hq, if_neg hq]
    · rename_i hnl
      split
      · rename_i hg
        have hl : ordL y.1 x.1 = -1 := ordL_flip hnl (fun e => by rw [e, ordL_self] at hg; omega)
        obtain ⟨h1, h2⟩ := mrg_facts q n (a := x :: a) (b := b) (by simp only [List.length_cons]; omega) ha hb2
        refine ⟨Srt.cons.2 ⟨fun z hz => ?_, h1⟩, ?_⟩
        · rcases mem_mrg n (by simp only [List.length_cons]; omega) hz with ⟨p, hp, e⟩ | ⟨p, hp, e⟩
          · rw [e]
            rcases List.mem_cons.1 hp with rfl | hp
            · exact hl
            · exact ordL_trans _ _ _ hl (ha1 p hp)
          · rw [e]; exact hb1 p hp
        · rw [getZ_cons, h2, getZ_cons y b]
          by_cases hq : y.1 = q
          · rw [if_pos hq, if_pos hq, ← hq, getZ_below ha hl]; omega
          · rw [if_neg hq, if_neg hq]
      · rename_i hng
        have he : x.1 = y.1 := by
          rcases ordL_cases x.1 y.1 with c | c | c
          · exact absurd c.1 hnl
          · exact c.2.2
          · exact absurd c.1 hng
        obtain ⟨h1, h2⟩ := mrg_facts q n (a := a) (b := b) (by omega) ha2 hb2
        refine ⟨Srt.cons.2 ⟨fun z hz => ?_, h1⟩, ?_⟩
        · show ordL x.1 z.1 = -1
          rcases mem_mrg n (by omega) hz with ⟨p, hp, e⟩ | ⟨p, hp, e⟩
          · rw [e]; exact ha1 p hp
          · rw [e, he]; exact hb1 p hp
        · rw [getZ_cons, h2, getZ_cons x a, getZ_cons y b]
          by_cases hq : x.1 = q
          · rw [if_pos hq, if_pos hq, if_pos (he.symm.trans hq)]
          · rw [if_neg hq, if_neg hq, if_neg (by rw [← he]; exact hq)]

theorem getZ_filter {q : List Int} : ∀ {zs : List It}, Srt zs → getZ (zs.filter fun p => decide (p.2 ≠ 0)) q = getZ zs q
  | [], _ => rfl
  | p :: zs, h => by
    have ih := getZ_filter (q := q) (Srt.cons.1 h).2
    rw [getZ_cons]
    by_cases h0 : p.2 = 0
    · rw [List.filter_cons_of_neg (by simp [h0]), ih]
      by_cases hq : p.1 = q
      · have := getZ_ahead h
        rw [hq] at this
        rw [if_pos hq, h0, this]
      · rw [if_neg hq]
    · rw [List.filter_cons_of_pos (by simp [h0]), getZ_cons, ih]

/-- What is merged, without what comes to 0, is what is put together. -/
theorem mrg_add {a b : List It} (ha : Srt a) (hna : Nz a) (hb : Srt b) : (mrgZ a b).filter (fun p => decide (p.2 ≠ 0)) = addZ a b := by
  have hm := fun q => mrg_facts q _ (Nat.le_refl (a.length + b.length)) ha hb
  refine canon ((hm []).1.sublist List.filter_sublist) (fun p hp => ?_) (srt_add ha) (nz_add hna) fun q => ?_
  · have := (List.mem_filter.1 hp).2
    simpa using this
  · rw [getZ_filter (hm []).1, (hm q).2, getZ_add ha hb]

theorem zOk_srt {zs : List It} (h : zOkB zs = true) : Srt zs := by
  unfold Srt
  rw [List.pairwise_iff_getElem]
  intro i j hi hj hij
  have := zOk_ord h hij hj
  simpa [List.getD, hi, hj] using this
theorem zOk_nz {zs : List It} (h : zOkB zs = true) : Nz zs := by
  intro p hp
  obtain ⟨j, hj, rfl⟩ := mem_getD (d := ([], 0)) hp
  have := (zOk_row h hj).2
  unfold wB at this
  exact (of_decide_eq_true this).1

theorem mrg_len (a b : List It) : (mrgZ a b).length ≤ a.length + b.length := by
  suffices ∀ (n : Nat) (a b : List It), a.length + b.length ≤ n → (mrgZ a b).length ≤ a.length + b.length from this _ a b (Nat.le_refl _)
  intro n
  induction n with
  | zero => intro a b h; cases a <;> cases b <;> simp at h <;> simp [mrgZ_nil]
  | succ n ih =>
    intro a b h
    match a, b, h with
    | [], b, _ => rw [mrgZ_nil]; simp
    | x :: a, [], _ => rw [mrgZ_nil']; simp
    | x :: a, y :: b, h =>
      simp only [List.length_cons] at h
      rw [mrgZ_cons]
      have h1 := ih a (y :: b) (by simp only [List.length_cons]; omega)
      have h2 := ih (x :: a) b (by simp only [List.length_cons]; omega)
      have h3 := ih a b (by omega)
      simp only [List.length_cons] at *
      split
      · simp only [List.length_cons]; omega
      · split <;> simp only [List.length_cons] <;> omega

end Go.Proofs.YtflbdfpgaeeleaaGreatDoor
