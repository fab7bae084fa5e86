/-
  The contract of spec.ZRead: at every text it answers what readZ reads: the items in memory of the call's own, or nothing.
-/
import Derived.Test.YtnkhgppfnkglfaaGreatDoorZReadSpec
import Derived.Test.YtnkhgppfnkglfaaGreatDoorStep
namespace Go.Proofs.YtnkhgppfnkglfaaGreatDoor
set_option maxRecDepth 100000
open Go.RowKit

theorem allZ_app : ∀ (a b : List (List UInt8)), allZ (a ++ b) = (allZ a).bind fun xs => (allZ b).map fun ys => xs ++ ys
  | [], b => by cases h : allZ b <;> simp [allZ, h]
  | l :: a, b => by
    have ih := allZ_app a b
    simp only [List.cons_append, allZ, ih]
    cases oneB l <;> cases allZ a <;> cases allZ b <;> simp
theorem allZ_step {l : List (List UInt8)} {k : Nat} {zs : List It} {p : It} (hk : k < l.length) (h : allZ (l.take k) = some zs) (hx : oneB l[k] = some p) : allZ (l.take (k + 1)) = some (zs ++ [p]) := by
  rw [List.take_succ_eq_append_getElem hk, allZ_app, h]
  simp [allZ, hx]
theorem allZ_stop {l : List (List UInt8)} {k : Nat} {zs : List It} (hk : k < l.length) (h : allZ (l.take k) = some zs) (hx : oneB l[k] = none) : allZ l = none := by
  have e : l = l.take k ++ l[k] :: l.drop (k + 1) := by
    rw [← List.drop_eq_getElem_cons hk, List.take_append_drop]
  rw [e, allZ_app, h]
  simp [allZ, hx]
theorem readZ_none {s : ByteArray} (h0 : s.size ≠ 0) (h : ¬ 9000 < s.size) (hr : allZ (cutS s.data.toList) = none) : readZ s.data.toList = none := by
  unfold readZ
  rw [if_neg (fun e => h0 (by rw [← len_list, e]; rfl)), if_neg (by rw [len_list]; exact h), hr]
  rfl
theorem readZ_some {s : ByteArray} {zs : List It} (h0 : s.size ≠ 0) (h : ¬ 9000 < s.size) (hr : allZ (cutS s.data.toList) = some zs) : readZ s.data.toList = if zOkB zs = true then some zs else none := by
  unfold readZ
  rw [if_neg (fun e => h0 (by rw [← len_list, e]; rfl)), if_neg (by rw [len_list]; exact h), hr]
  rfl

theorem rows_apart {w : World} {b b' : Nat} {e e' : TypeId} {s s' : Nat} {v v' : Value} {n n' : Nat} {xs xs' : List Value} (h : w.ownsRow b e s v n xs) (h' : w.ownsRow b' e' s' v' n' xs') (hne : e ≠ e') : v.ownBlock = none ∨ v.ownBlock ≠ v'.ownBlock := by
  rcases h.2 with ⟨rfl, _⟩ | ⟨g, cap, cur, rfl, _, hg, _⟩
  · exact .inl rfl
  · refine .inr fun he => ?_
    rcases h'.2 with ⟨rfl, _⟩ | ⟨g', cap', cur', rfl, _, hg', _⟩
    · simp [Value.ownBlock] at he
    · simp only [Value.ownBlock, Option.some.injEq] at he
      subst he
      rw [hg] at hg'
      simp at hg'
      exact hne hg'.2
theorem row_keep {w w' : World} {b : Nat} {e : TypeId} {s : Nat} {v : Value} {n : Nat} {xs : List Value} (h : w.ownsRow b e s v n xs) (hb : Below w.heap.size w w') : w'.ownsRow b e s v n xs := by
  have hl := h.lt
  obtain ⟨h1, h2⟩ := h
  refine ⟨h1, ?_⟩
  rcases h2 with h2 | ⟨g, cap, cur, hv, hg, hh, r⟩
  · exact .inl h2
  · exact .inr ⟨g, cap, cur, hv, hg, (hb.block g (hl g (by rw [hv]; rfl)).2).trans hh, r⟩

theorem row_mono {w : World} {b : Nat} {e : TypeId} {s : Nat} {v : Value} {n : Nat} {xs : List Value} (h : w.ownsRow b e s v n xs) : w.ownsRow 0 e s v n xs := by
  obtain ⟨h1, h2⟩ := h
  refine ⟨h1, ?_⟩
  rcases h2 with h2 | ⟨g, cap, cur, hv, hg, r⟩
  · exact .inl h2
  · exact .inr ⟨g, cap, cur, hv, Nat.zero_le _, r⟩

/-- The answer of ZRead: items that are read, of the call's own; or nothing. -/
def ReadZEnd (w w' : World) (o : Option (List It)) (e : Ending) : Prop :=
  (∃ (zs : List It) (v : Value), o = some zs ∧ e = .returned (.tuple #[v, .bool true]) ∧ OwnZ w' w.heap.size w'.heap.size v zs) ∨ (o = none ∧ e = .returned (.tuple #[.slice none 0 0, .bool false]))

end Go.Proofs.YtnkhgppfnkglfaaGreatDoor
