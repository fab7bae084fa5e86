/-
  strconv.Atoi at every text, from the library's contracts: a number that is read, or an error. Condition: its two errors are there.
-/
import Derived.Test.YtkgopbffgahhcaaGreatDoorAtoiEnd
import Derived.Test.YtkgopbffgahhcaaGreatDoorShelf2
namespace Go.Proofs.YtkgopbffgahhcaaGreatDoor
open Go.RowKit

theorem atoi_any (s : ByteArray) (hs : s.size ≤ 1048576) (w : World) (hy : ∃ (t : TypeId) (p : Value), w.var? Tryz.prog "strconv.ErrSyntax" = some #[.iface t p]) (hr : ∃ (t : TypeId) (p : Value), w.var? Tryz.prog "strconv.ErrRange" = some #[.iface t p]) :
    Calls Tryz.prog 92 #[.string s] w fun e w' => AtoiEnd s.data.toList e ∧ Below w.heap.size w w' := by
  obtain ⟨t, p, hy⟩ := hy
  obtain ⟨t2, p2, hr⟩ := hr
  by_cases hok : ∃ v, Lib.atoiAll s.data.toList = .ok v
  · obtain ⟨v, h⟩ := hok
    refine (Tryz.strconv_Atoi_ok s (by omega) v h w).mono ?_
    rintro e w' ⟨rfl, hw⟩
    refine ⟨.inl ⟨v, h, rfl⟩, ?_⟩
    rcases hw with rfl | ⟨u, rfl⟩
    · exact Below.refl _ _
    · exact Lib.bytesWorld_below _ _ _
  · have hno : ∀ v : Int, Lib.atoiAll s.data.toList ≠ .ok v := fun v h => hok ⟨v, h⟩
    by_cases h : Lib.atoiAll s.data.toList = .range
    · refine (Tryz.strconv_Atoi_range_var s (by omega) h t2 p2 w hr).mono ?_
      rintro e w' ⟨N, rfl, _, _, hb⟩
      exact ⟨.inr ⟨hno, _, _, _, rfl⟩, hb⟩
    · refine (Tryz.strconv_Atoi_syntax_var s (by omega) hno h t p w hy).mono ?_
      rintro e w' ⟨N, rfl, _, _, hb⟩
      exact ⟨.inr ⟨hno, _, _, _, rfl⟩, hb⟩

end Go.Proofs.YtkgopbffgahhcaaGreatDoor
