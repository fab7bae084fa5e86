/-
  The contracts of laws.markItemS and laws.heldItemS: numbers from k on are written into items of the call's own, and are found there.
-/
import Derived.Test.YtjaehoehfmklcaaOwnZ
import Derived.Test.YtjaehoehfmklcaaMarks
namespace Go.Proofs.Ytjaehoehfmklcaa
open Go.RowKit

/-- Rows of these lengths and weights, filled with k, k + 1, .. -/
def marksZ : Int → List Nat → List It
  | _, [] => []
  | k, n :: ns => (marks k n, k + n) :: marksZ (k + n + 1) ns
def tot (ns : List Nat) : Nat := (ns.map (· + 1)).sum
theorem tot_append (ns ms : List Nat) : tot (ns ++ ms) = tot ns + tot ms := by simp [tot]
theorem marksZ_length : ∀ (k : Int) (ns : List Nat), (marksZ k ns).length = ns.length
  | _, [] => rfl
  | k, n :: ns => by simp [marksZ, marksZ_length]
theorem marksZ_append : ∀ (k : Int) (ns ms : List Nat), marksZ k (ns ++ ms) = marksZ k ns ++ marksZ (k + tot ns) ms
  | k, [], ms => by simp [marksZ, tot]
  | k, n :: ns, ms => by
    rw [List.cons_append, marksZ, marksZ, marksZ_append, List.cons_append]
    congr 3
    simp [tot]; omega

def lens (zs : List It) : List Nat := zs.map (·.1.length)
/-- What stands there behind j rounds. -/
def markAt (zs : List It) (k : Int) (j : Nat) : List It := marksZ k (lens (zs.take j)) ++ zs.drop j
theorem markAt_length (zs : List It) (k : Int) (j : Nat) (hj : j ≤ zs.length) : (markAt zs k j).length = zs.length := by
  simp [markAt, marksZ_length, lens]; omega
theorem markAt_get {zs : List It} {k : Int} {j : Nat} (hj : j < zs.length) : (markAt zs k j).getD j ([], 0) = zs.getD j ([], 0) := by
  unfold markAt
  have h1 : (marksZ k (lens (zs.take j))).length = j := by simp [marksZ_length, lens]; omega
  simp only [List.getD]
  rw [List.getElem?_append_right (by omega), h1, List.getElem?_drop]
  simp
theorem lens_take {zs : List It} {j : Nat} (hj : j < zs.length) : lens (zs.take (j + 1)) = lens (zs.take j) ++ [(zs.getD j ([], 0)).1.length] := by
  unfold lens
  rw [List.take_succ_eq_append_getElem hj, List.map_append]
  simp [List.getD, hj]
theorem tot_take {zs : List It} {j : Nat} (hj : j < zs.length) : tot (lens (zs.take (j + 1))) = tot (lens (zs.take j)) + (zs.getD j ([], 0)).1.length + 1 := by
  rw [lens_take hj, tot_append]
  simp [tot]; omega
theorem tot_le (zs : List It) (j : Nat) : tot (lens (zs.take j)) ≤ tot (lens zs) := by
  have : tot (lens zs) = tot (lens (zs.take j)) + tot (lens (zs.drop j)) := by
    rw [← tot_append]; unfold lens; rw [← List.map_append, List.take_append_drop]
  omega
theorem markAt_set {zs : List It} {k : Int} {j : Nat} (hj : j < zs.length) :
    (markAt zs k j).set j (marks (k + tot (lens (zs.take j))) (zs.getD j ([], 0)).1.length, k + tot (lens (zs.take j)) + (zs.getD j ([], 0)).1.length) = markAt zs k (j + 1) := by
  unfold markAt
  have h1 : (marksZ k (lens (zs.take j))).length = j := by simp [marksZ_length, lens]; omega
  rw [List.set_append_right _ _ (by omega), h1, Nat.sub_self, List.drop_eq_getElem_cons hj, List.set_cons_zero, lens_take hj, marksZ_append]
  simp [marksZ]

/-- One row is written in its place. -/
theorem OwnZ.rowAt {w : World} {lo hi : Nat} {g n cap : Nat} {zs : List It} (h : OwnZ w lo hi (.slice (some ⟨g, 0, none⟩) n cap) zs) {j : Nat} (hj : j < zs.length) :
    ∃ rv, w.cell? ⟨g, j * 2, none⟩ = some rv ∧ Own w lo hi rv (zs.getD j ([], 0)).1 ∧ (∀ w' xs', w.grownBy w' rv.ownBlock → Own w' lo hi rv xs' → OwnZ w' lo hi (.slice (some ⟨g, 0, none⟩) n cap) (zs.set j (xs', (zs.getD j ([], 0)).2))) := by
  obtain ⟨ps, he, hs, hr, ha⟩ := h
  have hl := snd_len he
  have hj' : j < ps.length := by omega
  refine ⟨_, hs.cell0 hj', hr j hj', fun w' xs' hg ho => ?_⟩
  refine ⟨ps, ?_, hs.kept hg ?_, fun i hi' => ?_, ha⟩
  · rw [List.map_set, ← snd_getD he, he]
    apply List.ext_getElem?
    intro i
    by_cases hij : i = j
    · subst hij
      rw [List.getElem?_set_self (by simpa using hj), List.getElem?_map, List.getElem?_eq_getElem hj]
      rw [snd_getD he]
      simp [List.getD, hj]
    · rw [List.getElem?_set_ne (by omega)]
  · rcases row_ne_spine hs (hr j hj') with h | h
    · exact .inr (by rw [h]; simp [Value.ownBlock])
    · exact .inr (fun e => h e.symm)
  · by_cases hij : i = j
    · subst hij
      rw [getD_set_self hj]
      exact ho
    · rw [getD_set_ne hij]
      refine (hr i hi').keptB hg ?_
      cases hb : (ps.getD i (vn, 0)).1.ownBlock with
      | none => exact .inl rfl
      | some b =>
        refine .inr fun e => ?_
        rcases Nat.lt_or_gt_of_ne hij with hlt | hgt
        · exact ha i j b hlt hj' hb e.symm
        · exact ha j i b hgt hi' e.symm hb

theorem Own.range {w : World} {lo hi : Nat} {v : Value} {xs : List Int} (h : Own w lo hi v xs) : ∀ k, v.ownBlock = some k → lo ≤ k ∧ k < hi := fun k hk => ⟨(h.1.lt k hk).1, h.2.1 k hk⟩

theorem marksZ_get : ∀ (k : Int) (ns : List Nat) (j : Nat), j < ns.length → (marksZ k ns).getD j ([], 0) = (marks (k + tot (ns.take j)) (ns.getD j 0), k + tot (ns.take j) + ns.getD j 0)
  | k, n :: ns, 0, _ => by simp [marksZ, tot]
  | k, n :: ns, j + 1, h => by
    have := marksZ_get (k + n + 1) ns j (by simpa using h)
    have e : k + ↑n + 1 + ↑(tot (ns.take j)) = k + ↑(tot (n :: ns.take j)) := by simp [tot]; omega
    rw [e] at this
    simpa [marksZ] using this
theorem tot_takeN {ns : List Nat} {j : Nat} (hj : j < ns.length) : tot (ns.take (j + 1)) = tot (ns.take j) + ns.getD j 0 + 1 := by
  rw [List.take_succ_eq_append_getElem hj, tot_append]
  simp [tot, List.getD, hj]; omega
theorem tot_leN (ns : List Nat) (j : Nat) : tot (ns.take j) ≤ tot ns := by
  have : tot ns = tot (ns.take j) + tot (ns.drop j) := by rw [← tot_append, List.take_append_drop]
  omega

end Go.Proofs.Ytjaehoehfmklcaa
