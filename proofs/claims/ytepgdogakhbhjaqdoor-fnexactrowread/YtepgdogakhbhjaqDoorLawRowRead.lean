/-
  The walk of laws.FnExactRowRead, out of the contracts: it answers true at every text, and nothing that was there is written. Condition: the table of powers of ten reads as it was laid.
-/
import Derived.Test.YtepgdogakhbhjaqDoorRead
import Derived.Test.YtepgdogakhbhjaqDoorInts
import Derived.Test.YtepgdogakhbhjaqDoorMarks
namespace Go.Proofs.YtepgdogakhbhjaqDoor
open Go.RowKit

theorem own_nil (w : World) (lo : Nat) : Own w lo w.heap.size (.slice none 0 0) [] :=
  ⟨World.ownsRow_nil _ _ _ _, fun k hk => by simp [Value.ownBlock] at hk, by simp, Nat.le_refl _⟩

theorem ReadEnd.out {w w' : World} {o : Option (List Int)} {e : Ending} (h : ReadEnd w w' o e) : ∃ v, e = .returned (.tuple #[v, .bool o.isSome]) ∧ Own w' w.heap.size w'.heap.size v (o.getD []) := by
  rcases h with ⟨xs, v, rfl, he, ho⟩ | ⟨rfl, he⟩
  · exact ⟨v, he, ho⟩
  · exact ⟨_, he, own_nil _ _⟩

theorem read_len (l : List UInt8) : ((readB l).getD []).length ≤ 6 := by
  cases h : readB l with
  | none => simp
  | some xs => exact len_ok (read_back h).1

set_option maxHeartbeats 2000000 in
theorem lawRowRead (s : ByteArray) (_h : s.size ≤ maxLen) (w : World) (htab : Tab w) :
    Calls Tryd.prog 4 #[.string s] w fun e w' => e = .returned (.bool true) ∧ Below w.heap.size w w' := by
  by_cases hlim : s.size ≤ 1048576
  · obtain ⟨o, HO⟩ : ∃ o, Hid (o = readB s.data.toList) := ⟨_, Eq.refl _⟩
    obtain ⟨xs, HXS⟩ : ∃ xs, Hid (xs = o.getD []) := ⟨_, Eq.refl _⟩
    obtain ⟨b, HBB⟩ : ∃ b, Hid (b = o.isSome) := ⟨_, Eq.refl _⟩
    have hlen : xs.length ≤ 6 := by rw [HXS.out, HO.out]; exact read_len _
    go_enter Tryd.func4, Tryd.ntmps4
    go_wp2_with fail
    refine (specRowRead_any s _).mono ?_
    rintro e w1 ⟨hr, hb1⟩
    rw [← HO.out] at hr
    obtain ⟨v0, rfl, P1⟩ := hr.out
    rw [← HXS.out] at P1
    rw [← HBB.out]
    clear hr
    go_wp2_with fail
    refine (implRowRead_any s hlim _ (htab.below hb1)).mono ?_
    rintro e w2 ⟨hr, hb2⟩
    rw [← HO.out] at hr
    obtain ⟨g0, rfl, G2⟩ := hr.out
    rw [← HXS.out] at G2
    rw [← HBB.out]
    have P2 := P1.keep' hb2
    have hk2 : Below w.heap.size w w2 := hb1.trans (hb2.mono hb1.size)
    have s1 := hb1.size
    have s2 := hb2.size
    clear hr P1 hb1 hb2
    go_wp2_with fail
    refine (eqIntS_any _ _ xs xs _ G2.ints P2.ints).mono ?_
    rintro e w3 ⟨rfl, hb3⟩
    rw [sameB_refl]
    have P3 := P2.keep' hb3
    have G3 := G2.keep' hb3
    have hk3 : Below w.heap.size w w3 := hk2.trans (hb3.mono hk2.size)
    clear P2 G2 hk2 hb3
    go_wp2_with fail
    refine (markIntS_any _ _ _ xs 1 _ (by omega) (by omega) G3).mono ?_
    rintro e w4 ⟨rfl, G4, hg4⟩
    have hr4 := fun k hk => And.intro (G3.1.lt k hk).1 (G3.2.1 k hk)
    have hk4 : Below w.heap.size w w4 := hk3.grown hg4 hk3.size (fun k hk => by have := hr4 k hk; omega)
    have P4 := P3.kept hg4 (fun k hk => by have := hr4 k hk; omega)
    clear P3 G3 hk3 hg4 hr4
    go_wp2_with fail
    refine (heldIntS_any _ xs.length 1 _ (by omega) (by omega) G4.ints).mono ?_
    rintro e w5 ⟨rfl, rfl⟩
    go_wp2_with fail
    refine (implRowRead_any s hlim _ (htab.below hk4)).mono ?_
    rintro e w6 ⟨hr, hb6⟩
    rw [← HO.out] at hr
    obtain ⟨h0, rfl, H6⟩ := hr.out
    rw [← HXS.out] at H6
    rw [← HBB.out]
    have P6 := P4.keep' hb6
    have G6 := G4.keep' hb6
    have hk6 : Below w.heap.size w w6 := hk4.trans (hb6.mono hk4.size)
    clear hr P4 G4 hk4 hb6
    go_wp2_with fail
    refine (eqIntS_any _ _ xs xs _ H6.ints P6.ints).mono ?_
    rintro e w7 ⟨rfl, hb7⟩
    rw [sameB_refl]
    have G7 := G6.keep' hb7
    have hk7 : Below w.heap.size w w7 := hk6.trans (hb7.mono hk6.size)
    clear P6 G6 H6 hk6 hb7
    go_wp2_with fail
    refine (heldIntS_any _ xs.length 1 _ (by omega) (by omega) G7.ints).mono ?_
    rintro e w8 ⟨rfl, rfl⟩
    clear G7 htab
    go_wp2
    go_ret
    exact ⟨rfl, hk7⟩
  · have hbig : (1048576 : Int) < (s.size : Int) := by omega
    go_enter Tryd.func4, Tryd.ntmps4
    go_wp2
    go_ret
    exact ⟨rfl, Below.refl _ _⟩

end Go.Proofs.YtepgdogakhbhjaqDoor
