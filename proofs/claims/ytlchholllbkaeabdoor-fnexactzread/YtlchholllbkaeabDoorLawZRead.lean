/-
  The walk of laws.FnExactZRead, out of the contracts: it answers true at every text, and nothing that was there is written. Condition: what the reader wants of the library (Reads).
-/
import Derived.Test.YtlchholllbkaeabDoorZReadScan
import Derived.Test.YtlchholllbkaeabDoorLawKit
namespace Go.Proofs.YtlchholllbkaeabDoor
open Go.RowKit

theorem ReadZEnd.out {w w' : World} {o : Option (List It)} {e : Ending} (h : ReadZEnd w w' o e) : ∃ v, e = .returned (.tuple #[v, .bool o.isSome]) ∧ OwnZ w' w.heap.size w'.heap.size v (o.getD []) := by
  rcases h with ⟨zs, v, rfl, he, ho⟩ | ⟨rfl, he⟩
  · exact ⟨v, he, ho⟩
  · exact ⟨_, he, nil_ownZ _ _⟩

theorem readZ_small (l : List UInt8) : ((readZ l).getD []).length ≤ 100 ∧ tot (lens ((readZ l).getD [])) ≤ 4194304 := by
  cases h : readZ l with
  | none => simp [tot, lens]
  | some zs =>
    have hok := (readZ_back h).1
    have h1 := zOk_le hok
    have h2 := okZ_rows hok
    simp only [Option.getD_some]
    rw [tot_lens]
    exact ⟨h1, by omega⟩

set_option maxHeartbeats 8000000 in
theorem lawZRead {V : World → Prop} (R : Reads V) (s : ByteArray) (_h : s.size ≤ maxLen) (w : World) (hv : V w) :
    Calls Tryd.prog 4 #[.string s] w fun e w' => e = .returned (.bool true) ∧ Below w.heap.size w w' := by
  by_cases hlim : s.size ≤ 1048576
  · obtain ⟨o, HO⟩ : ∃ o, Hid (o = readZ s.data.toList) := ⟨_, Eq.refl _⟩
    obtain ⟨zs, HZS⟩ : ∃ zs, Hid (zs = o.getD []) := ⟨_, Eq.refl _⟩
    obtain ⟨b, HBB⟩ : ∃ b, Hid (b = o.isSome) := ⟨_, Eq.refl _⟩
    have hos : zs.length ≤ 100 ∧ tot (lens zs) ≤ 4194304 := by rw [HZS.out, HO.out]; exact readZ_small _
    obtain ⟨hos1, hos2⟩ := hos
    go_enter Tryd.func4, Tryd.ntmps4
    go_wp2_with fail
    refine (specZRead_any s _).mono ?_
    rintro e w1 ⟨hr, hb1⟩
    rw [← HO.out] at hr
    obtain ⟨v0, rfl, P1⟩ := hr.out
    rw [← HZS.out] at P1
    rw [← HBB.out]
    clear hr
    go_wp2_with fail
    refine (implZRead_any R s _ (R.keep hv hb1)).mono ?_
    rintro e w2 ⟨hr, hb2⟩
    rw [← HO.out] at hr
    obtain ⟨g0, rfl, G2⟩ := hr.out
    rw [← HZS.out] at G2
    rw [← HBB.out]
    have P2 := P1.keep' hb2
    have hk2 := below_then hb1 hb2
    have s1 := hb1.size
    have s2 := hb2.size
    clear hr P1 hb1 hb2
    go_wp2_with fail
    refine (eqItemS_self g0 v0 zs _ G2.items P2.items).mono ?_
    rintro e w3 ⟨rfl, hb3⟩
    have P3 := P2.keep' hb3
    have G3 := G2.keep' hb3
    have hk3 := below_then hk2 hb3
    clear P2 G2 hk2 hb3
    go_wp2_with fail
    refine (markItemS_any g0 _ _ zs 1 _ (by omega) (by omega) hos2 G3).mono ?_
    rintro e w4 ⟨rfl, G4, O4⟩
    have hk4 : Below w.heap.size w w4 := O4.below hk3 (by omega) hk3.size
    have P4 := P3.only O4 (.inl (by omega))
    clear P3 G3 hk3 O4
    go_wp2_with fail
    refine (heldItemS_any g0 (lens zs) 1 _ (by omega) (by omega) hos2 G4.items).mono ?_
    rintro e w5 ⟨rfl, rfl⟩
    go_wp2_with fail
    refine (implZRead_any R s _ (R.keep hv hk4)).mono ?_
    rintro e w6 ⟨hr, hb6⟩
    rw [← HO.out] at hr
    obtain ⟨h0, rfl, H6⟩ := hr.out
    rw [← HZS.out] at H6
    rw [← HBB.out]
    have P6 := P4.keep' hb6
    have G6 := G4.keep' hb6
    have hk6 := below_then hk4 hb6
    clear hr P4 G4 hk4 hb6
    go_wp2_with fail
    refine (eqItemS_self h0 v0 zs _ H6.items P6.items).mono ?_
    rintro e w7 ⟨rfl, hb7⟩
    have G7 := G6.keep' hb7
    have hk7 := below_then hk6 hb7
    clear P6 G6 H6 hk6 hb7
    go_wp2_with fail
    refine (heldItemS_any g0 (lens zs) 1 _ (by omega) (by omega) hos2 G7.items).mono ?_
    rintro e w8 ⟨rfl, rfl⟩
    clear G7 hv
    go_wp2
    go_ret
    exact ⟨rfl, hk7⟩
  · have hbig : (1048576 : Int) < (s.size : Int) := by omega
    go_enter Tryd.func4, Tryd.ntmps4
    go_wp2
    go_ret
    exact ⟨rfl, Below.refl _ _⟩

end Go.Proofs.YtlchholllbkaeabDoor
