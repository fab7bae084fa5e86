/-
  strings.Split at a blank and strings.Cut at a star, from the library's contracts, as the reader of items wants them.
-/
import Derived.Test.YtkgopbffgahhcaaGreatDoorZReadScan
import Derived.Test.YtkgopbffgahhcaaGreatDoorShelf2
namespace Go.Proofs.YtkgopbffgahhcaaGreatDoor
set_option maxRecDepth 100000
open Go.RowKit

theorem split_reads (s : ByteArray) (w : World) (hs : s.size ≤ 9000) (m : Int) (hm : w.cell? ⟨1, 0, none⟩ = some (.int .i64 m)) :
    Calls Tryz.prog 89 #[.string s, .string ⟨#[32]⟩] w fun e w' => ∃ v, e = .returned v ∧ ∃ ps : List ByteArray, w'.ownsRow w.heap.size 9 1 v ps.length (ps.map Value.string) ∧ ps.length ≤ 9001 ∧ (∀ p ∈ ps, p.size ≤ 9000) ∧ ps.map (fun p => p.data.toList) = cutS s.data.toList ∧ Below w.heap.size w w' := by
  refine (Tryz.strings_Split s ⟨#[32]⟩ m w (by omega) hm (by decide)).mono ?_
  rintro e w' ⟨rfl, rfl⟩
  have h1 : (Lib.splitB ⟨#[32]⟩ 0 (Lib.countB s ⟨#[32]⟩) s).length = Lib.countB s ⟨#[32]⟩ + 1 := Lib.splitB_all ⟨#[32]⟩ (by decide) 0 _ s rfl
  have h2 : Lib.countB s ⟨#[32]⟩ ≤ s.size := Lib.countB_le ⟨#[32]⟩ (by decide) s.size s (Nat.le_refl _)
  refine ⟨_, rfl, Lib.splitB ⟨#[32]⟩ 0 (Lib.countB s ⟨#[32]⟩) s, ?_, by omega, ?_, split_pieces s, below_alloc _⟩
  · rw [← h1]
    have := World.ownsRow_lit (base := w.heap.size) (e := 9) (size := 1) w ((Lib.splitB ⟨#[32]⟩ 0 (Lib.countB s ⟨#[32]⟩) s).map Value.string).toArray (Lib.splitB ⟨#[32]⟩ 0 (Lib.countB s ⟨#[32]⟩) s).length (Nat.le_refl _) (by unfold maxLen; omega) (by simp)
    simpa using this
  · intro p hp
    have h3 : p.data.toList ∈ cutS s.data.toList := by rw [← split_pieces s]; exact List.mem_map_of_mem hp
    have h4 : ∀ (l : List UInt8) (x : List UInt8), x ∈ cutS l → x.length ≤ l.length := by
      intro l
      induction l with
      | nil => intro x hx; simp [cutS] at hx; simp [hx]
      | cons c l ih =>
        intro x hx
        unfold cutS at hx
        split at hx
        · rcases List.mem_cons.1 hx with rfl | hx
          · simp
          · have := ih x hx; simp; omega
        · cases hc : cutS l with
          | nil => exact absurd hc (cutS_ne l)
          | cons q qs =>
            rw [hc] at hx ih
            simp only [consHead] at hx
            rcases List.mem_cons.1 hx with rfl | hx
            · have := ih q (by simp); simp; omega
            · have := ih x (by simp [hx]); simp; omega
    have := h4 _ _ h3
    rw [len_list, len_list] at this
    omega
theorem cut_reads (s : ByteArray) (w : World) (hs : s.size ≤ 9000) (m : Int) (hm : w.cell? ⟨1, 0, none⟩ = some (.int .i64 m)) :
    Calls Tryz.prog 90 #[.string s, .string ⟨#[42]⟩] w fun e w' => ∃ (a b : ByteArray) (c : Bool), e = .returned (.tuple #[.string a, .string b, .bool c]) ∧ (a.data.toList, b.data.toList, c) = Lib.cut s.data.toList [42] ∧ a.size ≤ 9000 ∧ b.size ≤ 9000 ∧ Below w.heap.size w w' := by
  refine (Tryz.strings_Cut s ⟨#[42]⟩ m w (by omega) hm).mono ?_
  rintro e w' ⟨rfl, n, rfl⟩
  have h1 : (Lib.cut s.data.toList [42]).1.length ≤ s.data.toList.length ∧ (Lib.cut s.data.toList [42]).2.1.length ≤ s.data.toList.length := by
    unfold Lib.cut
    split
    · simp; omega
    · simp
  rw [len_list] at h1
  refine ⟨_, _, _, rfl, rfl, ?_, ?_, (Below.refl _ _).trans ⟨rfl, rfl, rfl, Nat.le_refl _, fun _ _ => rfl⟩⟩
  · have := h1.1; simpa [ByteArray.size] using Nat.le_trans this hs
  · have := h1.2; simpa [ByteArray.size] using Nat.le_trans this hs

theorem var_stays {P : Program} {w w' : World} {n : String} {cs : Array Value} (h : w.var? P n = some cs) (hb : Below w.heap.size w w') : w'.var? P n = some cs := by
  unfold World.var? at h ⊢
  obtain ⟨g, hg, h⟩ := Option.bind_eq_some_iff.1 h
  rw [hg, Option.bind_some]
  have hlt : g < w.heap.size := by
    rcases Nat.lt_or_ge g w.heap.size with h1 | h1
    · exact h1
    · rw [Array.getElem?_eq_none h1] at h
      simp at h
  rw [hb.block g hlt]
  exact h
theorem cell_stays {w w' : World} {b o : Nat} {v : Value} (h : w.cell? ⟨b, o, none⟩ = some v) (hb : Below w.heap.size w w') (hlt : b < w.heap.size) : w'.cell? ⟨b, o, none⟩ = some v := (hb.cell (p := ⟨b, o, none⟩) hlt).trans h

/-- The worlds in which the reader works. -/
def ReadsIn (w : World) : Prop :=
  Tab w ∧ 1 < w.heap.size ∧ (∃ m : Int, w.cell? ⟨1, 0, none⟩ = some (.int .i64 m)) ∧
  (∃ (t : TypeId) (p : Value), w.var? Tryz.prog "strconv.ErrSyntax" = some #[.iface t p]) ∧ (∃ (t : TypeId) (p : Value), w.var? Tryz.prog "strconv.ErrRange" = some #[.iface t p])
theorem reads_of (hat : ∀ (s : ByteArray) (w : World), s.size ≤ 9000 → ReadsIn w → Calls Tryz.prog 92 #[.string s] w fun e w' => AtoiEnd s.data.toList e ∧ Below w.heap.size w w') : Reads ReadsIn where
  keep := fun ⟨h1, h2, ⟨m, hm⟩, ⟨t, p, hs⟩, ⟨u, q, hr⟩⟩ hb => ⟨h1.below hb, Nat.lt_of_lt_of_le h2 hb.size, ⟨m, cell_stays hm hb h2⟩, ⟨t, p, var_stays hs hb⟩, ⟨u, q, var_stays hr hb⟩⟩
  tab := fun h => h.1
  split := fun s w hs ⟨_, _, ⟨m, hm⟩, _⟩ => split_reads s w hs m hm
  cut := fun s w hs ⟨_, _, ⟨m, hm⟩, _⟩ => cut_reads s w hs m hm
  atoi := hat

end Go.Proofs.YtkgopbffgahhcaaGreatDoor
