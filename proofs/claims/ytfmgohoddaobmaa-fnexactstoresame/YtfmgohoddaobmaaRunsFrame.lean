/-
  What a frame tells of a spine that came in: a list of lists of rows and weights, of whatever lengths.
-/
import Derived.Test.YtfmgohoddaobmaaRunsMem
import Derived.Deep.Slices
namespace Go.Proofs.Ytfmgohoddaobmaa
open Go.RowKit Go.ChangeShapes Go.WideShapes Go.ChangeAt

theorem raw_runs {H : Type} {enc : TypeId × Value → H} {w : World} {base : Nat} {spare : Nat → Bool} {held : Bool} {fuel : Nat} {v : Value} {x : DataW H × List MemPlace}
    (h : DataW.trod enc Try.prog w base spare held fuel 31 [v] = some x) : ∃ zss, RawRuns w v zss := by
  have ce : Try.prog.cellsOf 108 = 1 := by kernel_rfl
  rcases Go.Deep.open_slice Try.underlying31 h with ⟨hcs, _⟩ | ⟨a, len, cap, m, n, D, Pl, hcs, _, hl, hm, hmm, _, hx⟩
  · simp at hcs
    subst hcs
    exact ⟨[], by simp, none, 0, rfl, fun h => absurd rfl h⟩
  · simp at hcs
    subst hcs
    have hmax : cap ≤ 9223372036854775807 := by have := hm; simp only [maxLen] at this; omega
    have hlm : len ≤ m := by rw [hmm]; split <;> omega
    have each : ∀ j, j < len → ∃ q : Value × List It, w.cell? (a.add j) = some q.1 ∧ RawItems w q.1 q.2 := by
      intro j hj
      obtain ⟨cs', h1, h2⟩ := hx j (by omega)
      rw [ce] at h1
      obtain ⟨_, hlen, hcell⟩ := World.cells?_some h1
      match cs', hlen with
      | [u], _ =>
        obtain ⟨zs, hz, _⟩ := raw_items h2
        have e0 := hcell 0 (by omega)
        exact ⟨(u, zs), by simpa [Addr.add] using e0, hz⟩
    obtain ⟨q, hq⟩ := Go.Deep.choose_lt each
    have hzl : ((List.range len).map fun j => (q j).2).length = len := by simp
    have hg : ∀ j, j < len → ((List.range len).map fun j => (q j).2).getD j [] = (q j).2 := fun j hj => by simp [List.getD, hj]
    refine ⟨(List.range len).map fun j => (q j).2, by omega, some a, cap, by rw [hzl], fun hne => ?_⟩
    have h0 : 0 < len := by
      rcases Nat.eq_zero_or_pos len with h | h
      · subst h; simp at hne
      · exact h
    obtain ⟨b, off, spot⟩ := a
    have hc0 := (hq 0 (by omega)).1
    have hspot : spot = none := by simpa [Addr.add] using World.cell?_spot hc0
    subst hspot
    refine ⟨b, off, rfl, lt_of_cell hc0, fun j hj => ?_⟩
    rw [hzl] at hj
    obtain ⟨e0, e1⟩ := hq j hj
    rw [Addr.add_lit] at e0
    rw [hg j hj]
    exact ⟨_, e0, e1⟩

theorem field_one {H : Type} {enc : TypeId × Value → H} {P : Program} {w : World} {base : Nat} {spare : Nat → Bool} {held : Bool} {fuel : Nat} {t : TypeId} {fs : Array Field} {cs : List Value} {x : DataW H × List MemPlace}
    (ht : P.underlying t = some (.struct fs)) (h : DataW.trod enc P w base spare held fuel t cs = some x) (i : Nat) (u : TypeId) (o : Nat) (hi : (fs[i]?).map (fun f => (f.type, f.offset)) = some (u, o)) :
    ∃ n y, DataW.trod enc P w base spare held n u ((cs.drop o).take (P.cellsOf u)) = some y := by
  obtain ⟨xs, n, _, rfl, hl, hlen, hf⟩ := DataW.trod_struct ht h
  obtain ⟨f, hfi, e⟩ := Option.map_eq_some_iff.1 hi
  simp only [Prod.mk.injEq] at e
  obtain ⟨rfl, rfl⟩ := e
  have h1 := hf i f hfi
  have hlt : i < xs.length := by
    rw [hlen]
    exact (Array.getElem?_eq_some_iff.1 hfi).1
  rw [List.getElem?_eq_getElem hlt] at h1
  exact ⟨n, _, h1⟩

theorem spine_in {H : Type} {enc : TypeId × Value → H} {w : World} {base : Nat} {spare : Nat → Bool} {held : Bool} {fuel : Nat} {cs : List Value} {x : DataW H × List MemPlace}
    (h : DataW.trod enc Try.prog w base spare held fuel 33 cs = some x) : ∃ v zss, cs = [v] ∧ RawRuns w v zss := by
  obtain ⟨_, _, _, _, hl, _, _⟩ := DataW.trod_struct Try.underlying33 h
  rw [show Try.prog.cellsOf 33 = 1 from by kernel_rfl] at hl
  have hi : Try.prog.cellsOf 31 = 1 := by kernel_rfl
  rcases cs with _ | ⟨v, _ | ⟨v1, cs⟩⟩ <;> simp at hl
  obtain ⟨m0, y0, h0⟩ := field_one Try.underlying33 h 0 31 0 rfl
  rw [hi] at h0
  obtain ⟨zss, hz⟩ := raw_runs (x := y0) (by simpa using h0)
  exact ⟨v, zss, rfl, hz⟩

end Go.Proofs.Ytfmgohoddaobmaa
