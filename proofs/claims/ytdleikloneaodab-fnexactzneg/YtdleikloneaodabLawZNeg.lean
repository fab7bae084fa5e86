/-
  The walk of laws.FnExactZNeg, out of the contracts: it answers true at all items, and nothing that was there is written.
-/
import Derived.Test.YtdleikloneaodabZNeg
import Derived.Test.YtdleikloneaodabLawKit
namespace Go.Proofs.Ytdleikloneaodab
open Go.RowKit

theorem negOut_small (zs : List It) : (if zOkB zs then negZ zs else []).length ≤ 100 ∧ tot (lens (if zOkB zs then negZ zs else [])) ≤ 4194304 := by
  cases hok : zOkB zs with
  | false => simp [tot, lens]
  | true =>
    have h1 := zOk_le hok
    have h2 := negZ_length zs
    have h3 : rowsLen (negZ zs) ≤ (negZ zs).length * 6 := rowsLen_le (fun p hp => by
      unfold negZ at hp
      obtain ⟨q, hq, rfl⟩ := List.mem_map.1 hp
      exact (show q.1.length ≤ 6 from zOk_mem hok hq))
    simp only [if_true]
    rw [tot_lens]
    exact ⟨by omega, by omega⟩

set_option maxHeartbeats 8000000 in
theorem lawZNeg (v : Value) (zs : List It) (w : World) (h : RawItems w v zs) (_ : WfItems zs) :
    Calls Try.prog 7 #[v] w fun e w' => e = .returned (.bool true) ∧ Below w.heap.size w w' := by
  obtain ⟨os, HO⟩ : ∃ os, Hid (os = if zOkB zs then negZ zs else []) := ⟨_, rfl⟩
  have hos : os.length ≤ 100 ∧ tot (lens os) ≤ 4194304 := by rw [HO.out]; exact negOut_small zs
  obtain ⟨hos1, hos2⟩ := hos
  go_enter Try.func7, Try.ntmps7
  go_wp2_with fail
  refine (szItemS_any v zs 1048576 _ h (by omega) (by omega)).mono ?_
  rintro e w1 ⟨r, rfl, hr, hb1⟩
  by_cases hneg : r < 0
  · clear hr
    go_wp2
    go_ret
    exact ⟨rfl, hb1⟩
  · have hlim : zs.length + rowsLen zs ≤ 1048576 := by omega
    have hz0 := (h.items hlim)
    have htz : tot (lens zs) ≤ 4194304 := by rw [tot_lens]; omega
    clear hr h
    go_wp2_with fail
    refine (toItemS_any v zs _ (hz0.below hb1) hlim).mono ?_
    rintro e w2 ⟨v2, rfl, Z2, hb2⟩
    have hk2 := below_then hb1 hb2
    go_wp2_with fail
    refine (specZNeg_any v2 zs _ Z2.items).mono ?_
    rintro e w3 ⟨vw, rfl, W3, hb3⟩
    rw [← HO.out] at W3
    have hk3 := below_then hk2 hb3
    have s1 := hb1.size
    have s2 := hk2.size
    have s3 := hk3.size
    clear Z2 hb1 hb2 hb3 hk2
    go_wp2_with fail
    refine (toItemS_any v zs _ (hz0.below hk3) hlim).mono ?_
    rintro e w4 ⟨vx, rfl, X4, hb4⟩
    have hk4 := below_then hk3 hb4
    have W4 := W3.keep' hb4
    go_wp2_with fail
    refine (implZNeg_any vx zs _ X4.items).mono ?_
    rintro e w5 ⟨vg, rfl, G5, hb5⟩
    rw [← HO.out] at G5
    have hk5 := below_then hk4 hb5
    have W5 := W4.keep' hb5
    have X5 := X4.keep' hb5
    have s4 := hb4.size
    have s5 := hb5.size
    clear W3 W4 X4 hb4 hb5 hk3 hk4
    go_wp2_with fail
    refine (eqItemS_self vg vw os _ G5.items W5.items).mono ?_
    rintro e w6 ⟨rfl, hb6⟩
    have hk6 := below_then hk5 hb6
    have W6 := W5.keep' hb6
    have X6 := X5.keep' hb6
    have G6 := G5.keep' hb6
    clear W5 X5 G5 hb6 hk5
    go_wp2_with fail
    refine (toItemS_any v zs _ (hz0.below hk6) hlim).mono ?_
    rintro e w7 ⟨v7, rfl, Z7, hb7⟩
    have hk7 := below_then hk6 hb7
    have W7 := W6.keep' hb7
    have X7 := X6.keep' hb7
    have G7 := G6.keep' hb7
    clear W6 X6 G6 hb7 hk6
    go_wp2_with fail
    refine (eqItemS_self vx v7 zs _ X7.items Z7.items).mono ?_
    rintro e w8 ⟨rfl, hb8⟩
    have hk8 := below_then hk7 hb8
    have W8 := W7.keep' hb8
    have X8 := X7.keep' hb8
    have G8 := G7.keep' hb8
    clear W7 X7 G7 Z7 hb8 hk7
    go_wp2_with fail
    refine (markItemS_any vx _ _ zs 1 _ (by omega) (by omega) htz X8).mono ?_
    rintro e w9 ⟨rfl, -, O9⟩
    have hk9 : Below w.heap.size w w9 := O9.below hk8 (by omega) hk8.size
    have W9 := W8.only O9 (.inl (by omega))
    have G9 := G8.only O9 (.inr (by omega))
    clear W8 X8 G8 O9 hk8
    go_wp2_with fail
    refine (eqItemS_self vg vw os _ G9.items W9.items).mono ?_
    rintro e w10 ⟨rfl, hb10⟩
    have hk10 := below_then hk9 hb10
    have W10 := W9.keep' hb10
    have G10 := G9.keep' hb10
    clear W9 G9 hb10 hk9
    go_wp2_with fail
    refine (markItemS_any vg _ _ os 1 _ (by omega) (by omega) hos2 G10).mono ?_
    rintro e w11 ⟨rfl, G11, O11⟩
    have hk11 : Below w.heap.size w w11 := O11.below hk10 (by omega) hk10.size
    have W11 := W10.only O11 (.inl (by omega))
    clear W10 G10 O11 hk10
    go_wp2_with fail
    refine (heldItemS_any vg (lens os) 1 _ (by omega) (by omega) hos2 G11.items).mono ?_
    rintro e w12 ⟨rfl, rfl⟩
    go_wp2_with fail
    refine (toItemS_any v zs _ (hz0.below hk11) hlim).mono ?_
    rintro e w13 ⟨v13, rfl, Z13, hb13⟩
    have hk13 := below_then hk11 hb13
    have W13 := W11.keep' hb13
    have G13 := G11.keep' hb13
    clear W11 G11 hb13 hk11
    go_wp2_with fail
    refine (implZNeg_any v13 zs _ Z13.items).mono ?_
    rintro e w14 ⟨vh, rfl, H14, hb14⟩
    rw [← HO.out] at H14
    have hk14 := below_then hk13 hb14
    have W14 := W13.keep' hb14
    have G14 := G13.keep' hb14
    clear W13 G13 Z13 hb14 hk13
    go_wp2_with fail
    refine (eqItemS_self vh vw os _ H14.items W14.items).mono ?_
    rintro e w15 ⟨rfl, hb15⟩
    have hk15 := below_then hk14 hb15
    have G15 := G14.keep' hb15
    clear W14 G14 H14 hb15 hk14
    go_wp2_with fail
    refine (heldItemS_any vg (lens os) 1 _ (by omega) (by omega) hos2 G15.items).mono ?_
    rintro e w16 ⟨rfl, rfl⟩
    clear G15 hz0
    go_wp2
    go_ret
    exact ⟨rfl, hk15⟩

end Go.Proofs.Ytdleikloneaodab
