/-
  What a frame tells of a cell or a test that came in: four numbers; a number, a bool and two cells.
-/
import Derived.Test.YtkmihnagmbdbgaaCellMath
import Derived.OpenShut
import Derived.ProofKit
namespace Go.Proofs.Ytkmihnagmbdbgaa
open Go.RowKit Go.ChangeShapes Go.WideShapes Go.ChangeAt

def I64 (n : Int) : Prop := -9223372036854775808 ≤ n ∧ n ≤ 9223372036854775807
def Cel.Wf (c : Cel) : Prop := I64 c.k ∧ I64 c.a ∧ I64 c.b ∧ I64 c.n
def Tst.Wf (t : Tst) : Prop := I64 t.k ∧ t.l.Wf ∧ t.r.Wf

theorem field_at {H : Type} {enc : TypeId × Value → H} {P : Program} {w : World} {base : Nat} {spare : Nat → Bool} {held : Bool} {fuel : Nat} {t : TypeId} {fs : Array Field} {cs : List Value} {x : DataW H × List MemPlace}
    (ht : P.underlying t = some (.struct fs)) (h : DataW.trod enc P w base spare held fuel t cs = some x) (i : Nat) (u : TypeId) (o : Nat) (hi : (fs[i]?).map (fun f => (f.type, f.offset)) = some (u, o)) :
    ∃ n y, DataW.trod enc P w base spare held n u ((cs.drop o).take (P.cellsOf u)) = some y := by
  obtain ⟨xs, n, _, rfl, hl, hlen, hf⟩ := DataW.trod_struct ht h
  obtain ⟨f, hfi, e⟩ := Option.map_eq_some_iff.1 hi
  simp only [Prod.mk.injEq] at e
  obtain ⟨rfl, rfl⟩ := e
  have h1 := hf i f hfi
  have hlt : i < xs.length := by
    rw [hlen]
    exact (Array.getElem?_eq_some_iff.1 hfi).1
  rw [List.getElem?_eq_getElem hlt] at h1
  exact ⟨n, _, h1⟩

theorem cel_in {H : Type} {enc : TypeId × Value → H} {w : World} {base : Nat} {spare : Nat → Bool} {held : Bool} {fuel : Nat} {cs : List Value} {x : DataW H × List MemPlace}
    (h : DataW.trod enc Try.prog w base spare held fuel 23 cs = some x) : ∃ c : Cel, cs = [.int .i64 c.k, .int .i64 c.a, .int .i64 c.b, .int .i64 c.n] ∧ c.Wf := by
  obtain ⟨_, _, _, _, hl, _, _⟩ := DataW.trod_struct Try.underlying23 h
  rw [show Try.prog.cellsOf 23 = 4 from by kernel_rfl] at hl
  have hi : Try.prog.cellsOf 3 = 1 := by kernel_rfl
  rcases cs with _ | ⟨v0, _ | ⟨v1, _ | ⟨v2, _ | ⟨v3, _ | ⟨v4, cs⟩⟩⟩⟩⟩ <;> simp at hl
  case cons.cons.cons.cons.nil =>
    obtain ⟨m0, y0, h0⟩ := field_at Try.underlying23 h 0 3 0 rfl
    obtain ⟨m1, y1, h1⟩ := field_at Try.underlying23 h 1 3 1 rfl
    obtain ⟨m2, y2, h2⟩ := field_at Try.underlying23 h 2 3 2 rfl
    obtain ⟨m3, y3, h3⟩ := field_at Try.underlying23 h 3 3 3 rfl
    simp only [hi] at h0 h1 h2 h3
    obtain ⟨n0, e0, _, w0⟩ := DataW.trod_int Try.underlying3 h0
    obtain ⟨n1, e1, _, w1⟩ := DataW.trod_int Try.underlying3 h1
    obtain ⟨n2, e2, _, w2⟩ := DataW.trod_int Try.underlying3 h2
    obtain ⟨n3, e3, _, w3⟩ := DataW.trod_int Try.underlying3 h3
    simp at e0 e1 e2 e3
    subst e0 e1 e2 e3
    exact ⟨⟨n0, n1, n2, n3⟩, rfl, wf_i64 w0, wf_i64 w1, wf_i64 w2, wf_i64 w3⟩

theorem tst_in {H : Type} {enc : TypeId × Value → H} {w : World} {base : Nat} {spare : Nat → Bool} {held : Bool} {fuel : Nat} {cs : List Value} {x : DataW H × List MemPlace}
    (h : DataW.trod enc Try.prog w base spare held fuel 25 cs = some x) :
    ∃ t : Tst, cs = [.int .i64 t.k, .bool t.no, .int .i64 t.l.k, .int .i64 t.l.a, .int .i64 t.l.b, .int .i64 t.l.n, .int .i64 t.r.k, .int .i64 t.r.a, .int .i64 t.r.b, .int .i64 t.r.n] ∧ t.Wf := by
  obtain ⟨_, _, _, _, hl, _, _⟩ := DataW.trod_struct Try.underlying25 h
  rw [show Try.prog.cellsOf 25 = 10 from by kernel_rfl] at hl
  have hi : Try.prog.cellsOf 3 = 1 := by kernel_rfl
  have hb : Try.prog.cellsOf 4 = 1 := by kernel_rfl
  have hc : Try.prog.cellsOf 23 = 4 := by kernel_rfl
  rcases cs with _ | ⟨v0, _ | ⟨v1, _ | ⟨v2, _ | ⟨v3, _ | ⟨v4, _ | ⟨v5, _ | ⟨v6, _ | ⟨v7, _ | ⟨v8, _ | ⟨v9, _ | ⟨v10, cs⟩⟩⟩⟩⟩⟩⟩⟩⟩⟩⟩ <;> simp at hl
  case cons.cons.cons.cons.cons.cons.cons.cons.cons.cons.nil =>
    obtain ⟨m0, y0, h0⟩ := field_at Try.underlying25 h 0 3 0 rfl
    obtain ⟨m1, y1, h1⟩ := field_at Try.underlying25 h 1 4 1 rfl
    obtain ⟨m2, y2, h2⟩ := field_at Try.underlying25 h 2 23 2 rfl
    obtain ⟨m3, y3, h3⟩ := field_at Try.underlying25 h 3 23 6 rfl
    simp only [hi, hb, hc] at h0 h1 h2 h3
    obtain ⟨n0, e0, _, w0⟩ := DataW.trod_int Try.underlying3 h0
    obtain ⟨b1, e1, _⟩ := DataW.trod_bool Try.underlying4 h1
    obtain ⟨l, e2, wl⟩ := cel_in h2
    obtain ⟨r, e3, wr⟩ := cel_in h3
    simp at e0 e1 e2 e3
    obtain ⟨rfl, rfl, rfl, rfl⟩ := e2
    obtain ⟨rfl, rfl, rfl, rfl⟩ := e3
    subst e0 e1
    exact ⟨⟨n0, b1, l, r⟩, rfl, wf_i64 w0, wl, wr⟩

end Go.Proofs.Ytkmihnagmbdbgaa
