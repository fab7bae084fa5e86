/-
  The draws of rows: spec.l12Open, l1Row, l1Bent, l1Two and what calls them: whatever the bytes are, they return rows of at most seven numbers in memory of their own, and write nothing that was there but the reader.
-/
import Derived.Test.YtkgopbffgahhcaaDoorRd
import Derived.OpenShut
namespace Go.Proofs.YtkgopbffgahhcaaDoor
open Go.RowKit

/-- Each number is small. -/
def Small (xs : List Int) : Prop := ∀ x ∈ xs, -2000000000 ≤ x ∧ x ≤ 2000000000
theorem Small.wf {xs : List Int} (h : Small xs) : WfInts xs := fun x hx => by have := h x hx; omega
theorem small_snoc {xs : List Int} {z : Int} (h : Small xs) (hz : -2000000000 ≤ z ∧ z ≤ 2000000000) : Small (xs ++ [z]) := fun x hx => by
  rcases List.mem_append.1 hx with e | e
  · exact h x e
  · have : x = z := by simpa using e
    rw [this]; exact hz
theorem small_set {xs : List Int} {z : Int} (h : Small xs) (hz : -2000000000 ≤ z ∧ z ≤ 2000000000) (k : Nat) : Small (xs.set k z) := fun x hx => by
  rcases List.mem_or_eq_of_mem_set hx with e | e
  · exact h x e
  · rw [e]; exact hz

theorem Rd.le {w : World} {g P Q : Nat} (h : Rd w g P) (hq : P ≤ Q) : Rd w g Q := by
  obtain ⟨ab, nb, cb, p, zs, hh, hp, r⟩ := h
  exact ⟨ab, nb, cb, p, zs, hh, by omega, r⟩

/-- A step that writes into another row than the reader's and its bytes': of the call's own, so a later one. -/
theorem Rd.grown {w w' : World} {g P : Nat} {row : Option Nat} (h : Rd w g P) (hg : w.grownBy w' row) (hold : ∀ b, row = some b → g < b) : Rd w' g P := by
  have hgl := h.lt
  obtain ⟨ab, nb, cb, p, zs, hh, hp, hn, hc, hz⟩ := h
  refine ⟨ab, nb, cb, p, zs, (hg.block g hgl (fun e => by have := hold g e.symm; omega)).trans hh, hp, hn, fun h0 => ?_, hz⟩
  obtain ⟨b, off, rfl, hbg, hbl, hcell⟩ := hc h0
  exact ⟨b, off, rfl, hbg, Nat.lt_of_lt_of_le hbl hg.size, fun j hj => hg.cell (hcell j hj) (fun e => by have := hold b e.symm; omega)⟩

theorem rd_new (w : World) (ab : Option Addr) (nb cb : Nat) (zs : List Int) (hn : nb ≤ 2000)
    (hc : 0 < nb → ∃ b off, ab = some ⟨b, off, none⟩ ∧ b < w.heap.size ∧ ∀ j, j < nb → w.cell? ⟨b, off + j, none⟩ = some (.int .u8 (zs.getD j 0))) (hz : ∀ j, 0 ≤ zs.getD j 0 ∧ zs.getD j 0 ≤ 255) :
    Rd (w.alloc (.cells #[.slice ab nb cb, .int .i64 0] 56)) w.heap.size 0 := by
  have hb : Below w.heap.size w (w.alloc (.cells #[.slice ab nb cb, .int .i64 0] 56)) := (Below.refl _ _).alloc (Nat.le_refl _) _
  refine ⟨ab, nb, cb, 0, zs, heap_alloc_new w _, Nat.le_refl _, hn, fun h0 => ?_, hz⟩
  obtain ⟨b, off, rfl, hbl, hcell⟩ := hc h0
  exact ⟨b, off, rfl, by omega, by simp; omega, fun j hj => (hb.cell (p := ⟨b, off + j, none⟩) hbl).trans (hcell j hj)⟩

theorem bytes_of {zs : List Int} (h : ∀ n ∈ zs, (Lit.int .u8 n).wf = true) : ∀ j, 0 ≤ zs.getD j 0 ∧ zs.getD j 0 ≤ 255 := by
  intro j
  by_cases hj : j < zs.length
  · exact bounds_u8 (h _ (getD_mem hj))
  · simp [List.getD, hj]

set_option maxHeartbeats 1000000 in
theorem l12Open_any (a : Option Addr) (len cap : Nat) (zs : List Int) (w : World) (h : IsRow .u8 w a len cap zs) :
    Calls Tryd.prog 11 #[.slice a len cap] w fun e w' => e = .returned (.pointer (some ⟨w.heap.size, 0, none⟩)) ∧ Rd w' w.heap.size 0 ∧ Below w.heap.size w w' := by
  by_cases hl : len ≤ 2000
  · rcases h with ⟨rfl, rfl, rfl, rfl⟩ | ⟨x, rfl, hlc, hm, hz, hcell, hwf⟩
    · go_enter Tryd.func11, Tryd.ntmps11
      go_wp2
      go_ret
      exact ⟨rfl, rd_new w none 0 0 [] (by omega) (fun h => by omega) (fun j => by simp), (Below.refl _ _).alloc (Nat.le_refl _) _⟩
    · have hd : ¬ (2000 : Int) < (len : Int) := by omega
      obtain ⟨b, off, spot⟩ := x
      have hR : Rd (w.alloc (.cells #[.slice (some ⟨b, off, spot⟩) len cap, .int .i64 0] 56)) w.heap.size 0 := by
        refine rd_new w _ len cap zs hl (fun h0 => ?_) (bytes_of hwf)
        have hc0 := hcell 0 (by omega)
        have hspot : spot = none := by simpa [Addr.add] using World.cell?_spot hc0
        subst hspot
        exact ⟨b, off, rfl, lt_of_cell hc0, fun j hj => by have := hcell j (by omega); rwa [Addr.add_lit] at this⟩
      clear hcell hwf
      go_enter Tryd.func11, Tryd.ntmps11
      go_wp2
      go_ret
      exact ⟨rfl, hR, (Below.refl _ _).alloc (Nat.le_refl _) _⟩
  · rcases h with ⟨rfl, rfl, rfl, rfl⟩ | ⟨x, rfl, hlc, hm, hz, hcell, hwf⟩
    · omega
    · obtain ⟨b, off, spot⟩ := x
      have hc0 := hcell 0 (by omega)
      have hspot : spot = none := by simpa [Addr.add] using World.cell?_spot hc0
      subst hspot
      have hd : (2000 : Int) < (len : Int) := by omega
      have hR : Rd (w.alloc (.cells #[.slice (some ⟨b, off, none⟩) 2000 cap, .int .i64 0] 56)) w.heap.size 0 :=
        rd_new w _ 2000 cap zs (by omega) (fun _ => ⟨b, off, rfl, lt_of_cell hc0, fun j hj => by have := hcell j (by omega); rwa [Addr.add_lit] at this⟩) (bytes_of hwf)
      clear hcell hwf
      go_enter Tryd.func11, Tryd.ntmps11
      go_wp2
      go_ret
      exact ⟨rfl, hR, (Below.refl _ _).alloc (Nat.le_refl _) _⟩

end Go.Proofs.YtkgopbffgahhcaaDoor
