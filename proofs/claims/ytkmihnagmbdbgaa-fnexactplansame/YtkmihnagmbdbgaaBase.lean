/-
  What the walks of this seat share: an int slice as a list of numbers, and that list in a later memory. No condition of its own.
-/
import Derived.Test.YtkmihnagmbdbgaaRows
import Derived.WalkKit
import Derived.BigQuiet
import Derived.WalkSmall
import Derived.Deep.QuietTactic
namespace Go.Proofs.Ytkmihnagmbdbgaa
open Go.RowKit

/-- The value v is an int slice whose elements, in the memory w, are the numbers xs. -/
def IntsAt (w : World) (v : Value) (xs : List Int) : Prop :=
  xs.length ≤ 140737488355328 ∧ ∃ (a : Option Addr) (cap : Nat), v = .slice a xs.length cap ∧ (a = none → cap = 0) ∧
    (xs ≠ [] → ∃ b off, a = some ⟨b, off, none⟩ ∧ b < w.heap.size ∧ ∀ j, j < xs.length → w.cell? ⟨b, off + j, none⟩ = some (.int .i64 (xs.getD j 0)))

theorem IntsAt.below {w w' : World} {v : Value} {xs : List Int} (h : IntsAt w v xs) (hb : Below w.heap.size w w') : IntsAt w' v xs := by
  obtain ⟨hl, a, cap, rfl, hn, hc⟩ := h
  refine ⟨hl, a, cap, rfl, hn, fun hne => ?_⟩
  obtain ⟨b, off, rfl, hbl, hcell⟩ := hc hne
  exact ⟨b, off, rfl, Nat.lt_of_lt_of_le hbl hb.size, fun j hj => (hb.cell (p := ⟨b, off + j, none⟩) hbl).trans (hcell j hj)⟩

/-- As IntsAt, of whatever length a slice may have. -/
def RawInts (w : World) (v : Value) (xs : List Int) : Prop :=
  xs.length ≤ 9223372036854775807 ∧ ∃ (a : Option Addr) (cap : Nat), v = .slice a xs.length cap ∧ (a = none → cap = 0) ∧
    (xs ≠ [] → ∃ b off, a = some ⟨b, off, none⟩ ∧ b < w.heap.size ∧ ∀ j, j < xs.length → w.cell? ⟨b, off + j, none⟩ = some (.int .i64 (xs.getD j 0)))
theorem RawInts.ints {w : World} {v : Value} {xs : List Int} (h : RawInts w v xs) (hl : xs.length ≤ 140737488355328) : IntsAt w v xs := ⟨hl, h.2⟩
theorem RawInts.below {w w' : World} {v : Value} {xs : List Int} (h : RawInts w v xs) (hb : Below w.heap.size w w') : RawInts w' v xs := by
  obtain ⟨hl, a, cap, rfl, hn, hc⟩ := h
  refine ⟨hl, a, cap, rfl, hn, fun hne => ?_⟩
  obtain ⟨b, off, rfl, hbl, hcell⟩ := hc hne
  exact ⟨b, off, rfl, Nat.lt_of_lt_of_le hbl hb.size, fun j hj => (hb.cell (p := ⟨b, off + j, none⟩) hbl).trans (hcell j hj)⟩

theorem IntsAt.cases {w : World} {v : Value} {xs : List Int} (h : IntsAt w v xs) :
    (∃ a cap, xs = [] ∧ v = .slice a 0 cap) ∨
    (∃ b off cap, 0 < xs.length ∧ xs.length ≤ 140737488355328 ∧ v = .slice (some ⟨b, off, none⟩) xs.length cap ∧ b < w.heap.size ∧ ∀ j, j < xs.length → w.cell? ⟨b, off + j, none⟩ = some (.int .i64 (xs.getD j 0))) := by
  obtain ⟨hl, a, cap, rfl, _, hc⟩ := h
  by_cases hx : xs = []
  · subst hx
    exact .inl ⟨a, cap, rfl, rfl⟩
  · obtain ⟨b, off, rfl, hbl, hcell⟩ := hc hx
    exact .inr ⟨b, off, cap, List.length_pos_iff.2 hx, hl, rfl, hbl, hcell⟩

/-- What a frame tells of a slice of integers that came in: nil, or a row of cap cells, the numbers zs, of which the first len are its elements. -/
def IsRow (k : IntKind) (w : World) (a : Option Addr) (len cap : Nat) (zs : List Int) : Prop :=
  (a = none ∧ len = 0 ∧ cap = 0 ∧ zs = []) ∨
  ∃ x, a = some x ∧ len ≤ cap ∧ cap ≤ maxLen ∧ zs.length = cap ∧ (∀ i, i < zs.length → w.cell? (x.add i) = some (.int k (zs.getD i 0))) ∧ ∀ n ∈ zs, (Lit.int k n).wf = true

theorem lt_of_cell {w : World} {p : Addr} {u : Value} (h : w.cell? p = some u) : p.block < w.heap.size := by
  by_cases hp : p.block < w.heap.size
  · exact hp
  · simp [World.cell?, Array.getElem?_eq_none (Nat.le_of_not_lt hp)] at h

theorem IsRow.below {k : IntKind} {w w' : World} {a : Option Addr} {len cap : Nat} {zs : List Int} (h : IsRow k w a len cap zs) (hb : Below w.heap.size w w') : IsRow k w' a len cap zs := by
  rcases h with h | ⟨x, rfl, hl, hm, hz, hcell, hwf⟩
  · exact .inl h
  · refine .inr ⟨x, rfl, hl, hm, hz, fun i hi => ?_, hwf⟩
    have hc := hcell i hi
    exact (hb.cell (lt_of_cell hc)).trans hc

theorem IsRow.ints {w : World} {a : Option Addr} {len cap : Nat} {zs : List Int} (h : IsRow .i64 w a len cap zs) (hlim : len ≤ 140737488355328) :
    ∃ xs : List Int, xs.length = len ∧ IntsAt w (.slice a len cap) xs := by
  rcases h with ⟨rfl, rfl, rfl, rfl⟩ | ⟨x, rfl, hl, hm, hz, hcell, _⟩
  · exact ⟨[], rfl, by simp, _, _, rfl, fun _ => rfl, fun h => absurd rfl h⟩
  · have hlen : (zs.take len).length = len := by simp; omega
    refine ⟨zs.take len, hlen, ?_⟩
    by_cases h0 : len = 0
    · subst h0
      exact ⟨by simp, _, _, rfl, fun h => by simp at h, fun h => absurd (by simp) h⟩
    · obtain ⟨b, off, spot⟩ := x
      have hc0 := hcell 0 (by omega)
      have hspot : spot = none := by simpa [Addr.add] using World.cell?_spot hc0
      subst hspot
      refine ⟨by omega, _, _, by rw [hlen], fun h => by simp at h, fun _ => ⟨b, off, rfl, ?_, fun j hj => ?_⟩⟩
      · exact lt_of_cell hc0
      · rw [hlen] at hj
        have := hcell j (by omega)
        rw [Addr.add_lit] at this
        simpa [List.getD, hj] using this

/-- Each number is one that an int holds. -/
def WfInts (xs : List Int) : Prop := ∀ x ∈ xs, -9223372036854775808 ≤ x ∧ x ≤ 9223372036854775807

theorem wf_i64 {n : Int} (h : (Lit.int .i64 n).wf = true) : -9223372036854775808 ≤ n ∧ n ≤ 9223372036854775807 := by
  simp [Lit.wf, IntKind.min, IntKind.max, IntKind.signed, IntKind.bits] at h
  omega

theorem IsRow.intsWf {w : World} {a : Option Addr} {len cap : Nat} {zs : List Int} (h : IsRow .i64 w a len cap zs) (hlim : len ≤ 140737488355328) :
    ∃ xs : List Int, xs.length = len ∧ IntsAt w (.slice a len cap) xs ∧ WfInts xs := by
  have h2 := h.ints hlim
  rcases h with ⟨rfl, rfl, rfl, rfl⟩ | ⟨x, rfl, hl, hm, hz, hcell, hwf⟩
  · obtain ⟨xs, h1, h2⟩ := h2
    refine ⟨xs, h1, h2, fun x hx => ?_⟩
    have := List.length_eq_zero_iff.1 h1
    subst this
    simp at hx
  · obtain ⟨xs, h1, h2⟩ := h2
    refine ⟨xs, h1, h2, fun x hx => ?_⟩
    obtain ⟨j, hj, rfl⟩ := List.getElem_of_mem hx
    obtain ⟨_, a, cap', hv, _, hc⟩ := h2
    obtain ⟨b, off, ha, _, hcell2⟩ := hc (List.ne_nil_of_mem hx)
    simp only [Value.slice.injEq] at hv
    obtain ⟨ha', _, _⟩ := hv
    rw [ha, Option.some.injEq] at ha'
    subst ha'
    have e1 := hcell2 j hj
    have e2 := hcell j (by omega)
    rw [Addr.add_lit, e1] at e2
    have e3 : xs.getD j 0 = zs.getD j 0 := by simpa using e2
    have e4 : xs[j] = zs.getD j 0 := by rw [← e3]; simp [List.getD, hj]
    rw [e4]
    have hjz : j < zs.length := by omega
    exact wf_i64 (hwf _ (by simp [List.getD, hjz]))

theorem infoInt : (Try.prog.info? 3).map (fun i => (i.zero, i.size, i.bytes)) = some (some (.int .i64 0), 1, 8) := by kernel_rfl

theorem ints_of_row {wr : World} {cap : Nat} {base g : Nat} {xs : List Int} (hlim : xs.length ≤ 140737488355328)
    (hown : wr.ownsRow base 3 1 (.slice (some ⟨g, 0, none⟩) xs.length cap) xs.length (xs.map (Value.int .i64))) :
    IntsAt wr (.slice (some ⟨g, 0, none⟩) xs.length cap) xs := by
  refine ⟨hlim, _, _, rfl, fun h => by simp at h, fun _ => ⟨_, _, rfl, (hown.lt g rfl).2, fun j hj => ?_⟩⟩
  have := hown.cellAt j (by omega)
  rw [Nat.zero_add, this]
  simp [List.getD, hj]

theorem ret_bool {a b : Bool} (h : a = b) : Ending.returned (.bool a) = .returned (.bool b) := by rw [h]
theorem ret_int {a b : Int} (h : a = b) : Ending.returned (.int .i64 a) = .returned (.int .i64 b) := by rw [h]

end Go.Proofs.Ytkmihnagmbdbgaa
