/-
  The walk of laws.FnRunMost, out of the contracts: it answers true whatever the bytes are, and nothing that was there is written.
-/
import Derived.Test.YtegnoebpnpdogaaDrawRunPut
import Derived.Test.YtegnoebpnpdogaaRunOkSpec
namespace Go.Proofs.Ytegnoebpnpdogaa
set_option maxRecDepth 100000
set_option linter.unusedVariables false
open Go.RowKit

theorem specZOk_b {v : Value} {zs : List It} {w : World} (h : TailZ w v zs) :
    Calls Try.prog 15 #[v] w fun e w' => e = .returned (.bool (zOkB zs)) ∧ Below w.heap.size w w' := by
  refine (specZOk_any v zs w h.items).mono ?_
  rintro e w1 ⟨rfl, hd⟩
  exact ⟨rfl, hd.below⟩
theorem put_add {s : Rn} {z : List It} (hs : runOkB s = true) (hz : zOkB z = true) : addOk (sumR s) z = putOk s z := by
  by_cases h0 : z = []
  · subst h0
    simp [addOk, putOk, hs, addZ_nil, sum_ok hs, zOk_nil]
  · simp [addOk, putOk, hs, hz, h0, sum_ok hs]

/-- What is at hand in the loop: the runs in their box, what they have together, and the two lists of items. -/
def Most (w wr : World) (vs : Value) (s : Rn) (va vz vy : Value) (z y : List It) : Prop :=
  BoxAt wr w.heap.size vs ∧ FrR (w.heap.size + 1) wr vs s ∧ Fr (w.heap.size + 1) wr va (sumR s) ∧ Fr (w.heap.size + 1) wr vz z ∧ Fr (w.heap.size + 1) wr vy y ∧ Below w.heap.size w wr ∧ runOkB s = true ∧ zOkB z = true ∧ zOkB y = true
theorem Most.below {w wr w' : World} {vs : Value} {s : Rn} {va vz vy : Value} {z y : List It} (h : Most w wr vs s va vz vy z y) (hb : Below wr.heap.size wr w') : Most w w' vs s va vz vy z y :=
  ⟨h.1.below hb, h.2.1.below hb, h.2.2.1.below hb, h.2.2.2.1.below hb, h.2.2.2.2.1.below hb, below_then h.2.2.2.2.2.1 hb, h.2.2.2.2.2.2⟩
theorem Most.put {w wr : World} {vs : Value} {s : Rn} {va vz vy : Value} {z y : List It} (h : Most w wr vs s va vz vy z y) {vs' va' : Value} {s' : Rn} (h1 : FrR (w.heap.size + 1) wr vs' s') (h2 : Fr (w.heap.size + 1) wr va' (sumR s')) (h3 : runOkB s' = true) :
    Most w (wr.setCell ⟨w.heap.size, 0, none⟩ vs') vs' s' va' vz vy z y :=
  ⟨h.1.put _, h1.put (by omega), h2.put (by omega), h.2.2.2.1.put (by omega), h.2.2.2.2.1.put (by omega), h.2.2.2.2.2.1.setCell (Nat.le_refl _) _, h3, h.2.2.2.2.2.2.2⟩
theorem Most.swap {w wr : World} {vs : Value} {s : Rn} {va vz vy : Value} {z y : List It} (h : Most w wr vs s va vz vy z y) : Most w wr vs s va vy vz y z :=
  ⟨h.1, h.2.1, h.2.2.1, h.2.2.2.2.1, h.2.2.2.1, h.2.2.2.2.2.1, h.2.2.2.2.2.2.1, h.2.2.2.2.2.2.2.2, h.2.2.2.2.2.2.2.1⟩

set_option maxHeartbeats 4000000 in
theorem lawFnRunMost (a : Option Addr) (len cap : Nat) (bs : List Int) (a2 : Option Addr) (len2 cap2 : Nat) (bs2 : List Int) (w : World) (h : IsRow .u8 w a len cap bs) (h2 : IsRow .u8 w a2 len2 cap2 bs2) :
    Calls Try.prog 8 #[.slice a len cap, .slice a2 len2 cap2] w fun e w' => e = .returned (.bool true) ∧ Below w.heap.size w w' := by
  by_cases hl : ¬ len ≤ 1048576
  · have hbig : (1048576 : Int) < (len : Int) := by omega
    clear h h2
    go_enter Try.func8, Try.ntmps8
    go_wp2
    go_ret
    exact ⟨rfl, Below.refl _ _⟩
  replace hl : len ≤ 1048576 := by omega
  have hlI : ¬ (1048576 : Int) < (len : Int) := by omega
  by_cases hl2 : ¬ len2 ≤ 1048576
  · have hbig : (1048576 : Int) < (len2 : Int) := by omega
    clear h h2
    go_enter Try.func8, Try.ntmps8
    go_wp2
    go_ret
    exact ⟨rfl, Below.refl _ _⟩
  replace hl2 : len2 ≤ 1048576 := by omega
  have hlI2 : ¬ (1048576 : Int) < (len2 : Int) := by omega
  have hbA : Below w.heap.size w (w.alloc (.cells #[.slice none 0 0] 25)) := below_alloc _
  have b0 : BoxAt (w.alloc (.cells #[.slice none 0 0] 25)) w.heap.size (.slice none 0 0) := boxAt_new _ _
  have hA := h.below hbA
  have hA2 := h2.below hbA
  have zA : (w.alloc (.cells #[.slice none 0 0] 25)).heap.size = w.heap.size + 1 := by simp
  have DR := drawRunPut_any a len cap bs _ hA
  rw [zA] at DR
  clear h h2 hA
  go_enter Try.func8, Try.ntmps8
  go_wp2_with fail
  refine DR.mono ?_
  rintro e w1 ⟨v1, u1, rfl, s1, z, hR1, hz1, hb1⟩
  rw [← zA] at hb1
  have hk1 := below_then hbA hb1
  have b1 := b0.below hb1
  have hB2 := hA2.below hb1
  obtain ⟨va1, vn1, vc1, rfl⟩ := hR1.shapeN
  obtain ⟨ua1, un1, uc1, rfl⟩ : ∃ a n c, u1 = Value.slice a n c := by obtain ⟨a, c, e⟩ := hz1.now.shape1; exact ⟨a, _, c, e⟩
  have hbB : Below w1.heap.size w1 (w1.alloc (.cells #[.slice va1 vn1 vc1] 25)) := below_alloc _
  have hk2 := below_then hk1 hbB
  have b2 := b1.below hbB
  have hz2 := hz1.below hbB
  have hB3 := hB2.below hbB
  have zk1 := hk1.size
  have zb2 := b1.lt
  clear DR hbA b0 hA2 zA hR1 hz1 hb1 hk1 b1 hB2
  go_wp2_with fail
  refine (drawRunPut_any a2 len2 cap2 bs2 _ hB3).mono ?_
  rintro e w3 ⟨v3, u3, rfl, s3, y, hR3, hy3, hb3⟩
  have hk3 := below_then hk2 hb3
  have b3 := b2.below hb3
  have hz3 := hz2.below hb3
  obtain ⟨va3, vn3, vc3, rfl⟩ := hR3.shapeN
  obtain ⟨ua3, un3, uc3, rfl⟩ : ∃ a n c, u3 = Value.slice a n c := by obtain ⟨a, c, e⟩ := hy3.now.shape1; exact ⟨a, _, c, e⟩
  have hbC : Below w3.heap.size w3 ((w3.alloc (.cells #[.slice va3 vn3 vc3] 25)).alloc (.cells #[] 52)) := below_then (below_alloc _) (below_alloc _)
  have zC : (w3.alloc (.cells #[.slice va3 vn3 vc3] 25)).heap.size = w3.heap.size + 1 := by simp
  have hal := lit_ownZ (w3.alloc (.cells #[.slice va3 vn3 vc3] 25))
  rw [zC] at hal
  have hk4 := below_then hk3 hbC
  have b4 := b3.below hbC
  have hz4 := hz3.below hbC
  have hy4 : Fr (w.heap.size + 1) ((w3.alloc (.cells #[.slice va3 vn3 vc3] 25)).alloc (.cells #[] 52)) (.slice ua3 un3 uc3) y := fun w'' hw => (hy3.below hbC) w'' (only_wide hw (by simp; omega))
  have ha4 := hal.fr (B := w.heap.size + 1) (by have := hk3.size; omega)
  have H4 := hidK (And.intro ha4 (And.intro hz4 (And.intro hy4 (And.intro hk4 b4))))
  clear hk2 b2 hz2 hB3 hbB hk3 b3 hz3 hb3 hbC zC hal hk4 b4 hz4 hy4 ha4 hR3 hy3
  go_wp2_with fail
  refine (implZOk_any _ z _ H4.out.2.1.now.items).mono ?_
  rintro e w5 ⟨rfl, hb5⟩
  go_wp2_with fail
  refine (specZOk_b (H4.out.2.1.below hb5).now).mono ?_
  rintro e w6 ⟨rfl, hb6⟩
  have hb6' := below_then hb5 hb6
  clear hb5 hb6
  cases hzo : zOkB z with
  | false =>
    go_wp2_with fail
    refine (specZOk_b (H4.out.2.1.below hb6').now).mono ?_
    rw [hzo]
    rintro e w7 ⟨rfl, hb7⟩
    have hb7' := below_then hb6' hb7
    clear hb6' hb7
    go_wp2_with fail
    refine (implZOk_any _ z _ (H4.out.2.1.below hb7').now.items).mono ?_
    rw [hzo]
    rintro e w8 ⟨rfl, hb8⟩
    have hb8' := below_then hb7' hb8
    clear hb7' hb8
    go_wp2_with fail
    refine (specZOk_b (H4.out.2.1.below hb8').now).mono ?_
    rw [hzo]
    rintro e w9 ⟨rfl, hb9⟩
    have HK := hidK (below_then H4.out.2.2.2.1 (below_then hb8' hb9))
    clear hb8' hb9 H4 hzo
    go_wp2
    go_ret
    exact ⟨rfl, HK.out⟩
  | true =>
    go_wp2_with fail
    refine (specZOk_b (H4.out.2.1.below hb6').now).mono ?_
    rw [hzo]
    rintro e w7 ⟨rfl, hb7⟩
    have hb7' := below_then hb6' hb7
    clear hb6' hb7
    cases hyo : zOkB y with
    | false =>
      go_wp2_with fail
      refine (specZOk_b (H4.out.2.2.1.below hb7').now).mono ?_
      rw [hyo]
      rintro e w8 ⟨rfl, hb8⟩
      have hb8' := below_then hb7' hb8
      clear hb7' hb8
      go_wp2_with fail
      refine (implZOk_any _ z _ (H4.out.2.1.below hb8').now.items).mono ?_
      rw [hzo]
      rintro e w9 ⟨rfl, hb9⟩
      have hb9' := below_then hb8' hb9
      clear hb8' hb9
      go_wp2_with fail
      refine (specZOk_b (H4.out.2.1.below hb9').now).mono ?_
      rw [hzo]
      rintro e w10 ⟨rfl, hb10⟩
      have HK := hidK (below_then H4.out.2.2.2.1 (below_then hb9' hb10))
      clear hb9' hb10 H4 hzo hyo
      go_wp2
      go_ret
      exact ⟨rfl, HK.out⟩
    | true =>
      go_wp2_with fail
      refine (specZOk_b (H4.out.2.2.1.below hb7').now).mono ?_
      rw [hyo]
      rintro e w8 ⟨rfl, hb8⟩
      have hb8' := below_then hb7' hb8
      have M8 : Hid (Most w w8 (.slice none 0 0) [] (.slice (some ⟨w3.heap.size + 1, 0, none⟩) 0 0) (.slice ua1 un1 uc1) (.slice ua3 un3 uc3) z y) :=
        ⟨H4.out.2.2.2.2.below hb8', (OwnR.nil w8 (w.heap.size + 1) (by have := (H4.out.2.2.2.2.below hb8').lt; omega)).fr (Nat.le_refl _), H4.out.1.below hb8', H4.out.2.1.below hb8', H4.out.2.2.1.below hb8', below_then H4.out.2.2.2.1 hb8', none_ok, hzo, hyo⟩
      clear hb7' hb8 hb8' H4 hzo hyo
      go_wp2
      go_loopw [7, 9, 10, 11] (fun pz py pa i wr => ∃ (k : Nat) (vs : Value) (s : Rn) (z y : List It), k ≤ 9 ∧ i = .int .i64 k ∧ Hid (Most w wr vs s pa pz py z y)) (fun _ _ _ i _ => 9 - (intOf i).toNat)
      case atStart => exact ⟨0, _, [], z, y, by omega, rfl, M8.out⟩
      case round =>
        obtain ⟨k, vs, s, zz, yy, hk, rfl, HM⟩ := hrel
        clear M8
        have M := HM.out
        clear HM
        by_cases hlt : k < 9
        · have hltI : (k : Int) < 9 := by omega
          obtain ⟨sa, sc, hsh⟩ := M.2.1.now.shape
          obtain ⟨sn, HSN⟩ : ∃ n, Hid (n = s.length) := ⟨_, rfl⟩
          rw [← HSN.out] at hsh
          subst hsh
          have hso := M.2.2.2.2.2.2.1
          have hzo := M.2.2.2.2.2.2.2.1
          have hsn : sn ≤ 5 := by rw [HSN.out]; exact runOk_le hso
          have hadd := put_add hso hzo
          have cB := M.1.cell
          obtain ⟨c, HC⟩ : ∃ c, Hid (c = putOk s zz) := ⟨_, rfl⟩
          have HSO := hidK (And.intro hso hzo)
          clear hso hzo
          go_wp2_with fail
          refine (implRunPut_any _ s _ zz _ M.2.1.now M.2.2.2.1.now).mono ?_
          rw [← HC.out]
          rintro e w9 ⟨v9, rfl, O9, hb9⟩
          obtain ⟨xa, xc, hshx⟩ := O9.shape
          obtain ⟨xn, HXN⟩ : ∃ n, Hid (n = (putOut s zz).length) := ⟨_, rfl⟩
          rw [← HXN.out] at hshx
          subst hshx
          have hbX : Below w9.heap.size w9 (w9.alloc (.cells #[.slice xa xn xc] 25)) := below_alloc _
          have M9 := (M.below hb9).below hbX
          have x9 : BoxAt (w9.alloc (.cells #[.slice xa xn xc] 25)) w9.heap.size (.slice xa xn xc) := boxAt_new _ _
          have hlo : w.heap.size + 1 ≤ wr.heap.size := M.1.lt
          have X9 : FrR (w.heap.size + 1) (w9.alloc (.cells #[.slice xa xn xc] 25)) (.slice xa xn xc) (putOut s zz) := (O9.fr hlo).below hbX
          have hlo9 : w.heap.size + 1 ≤ (w9.alloc (.cells #[.slice xa xn xc] 25)).heap.size := Nat.le_trans hlo (Nat.le_trans hb9.size hbX.size)
          have hne : w.heap.size ≠ w9.heap.size := by have := hb9.size; omega
          clear M O9 hb9 hbX cB
          go_wp2_with fail
          refine (implZAdd_any _ _ (sumR s) zz _ M9.2.2.1.now M9.2.2.2.1.now).mono ?_
          rw [hadd, ← HC.out]
          rintro e w10 ⟨v10, rfl, Z10, hb10⟩
          obtain ⟨ta, tn, tc, rfl⟩ := Z10.shapeN
          have M10 := M9.below hb10
          have x10 := x9.below hb10
          have X10 := X9.below hb10
          have T10 := Z10.fr hlo9
          clear M9 x9 X9 Z10 hb10 hadd
          have c10 := M10.1.cell
          have f10 := M10.1.frozen
          have cx10 := x10.cell
          cases c with
          | true =>
            have hpo : putOk s zz = true := HC.out.symm
            obtain ⟨p1, p2, _, _⟩ := putRuns_ok hpo
            rw [← putOut_ok hpo] at p1 p2
            have hao : addOut (sumR s) zz = sumR (putOut s zz) := by
              rw [p2]
              simp [addOut, put_add HSO.out.1 HSO.out.2, hpo]
            rw [hao] at T10
            have hxn : xn ≤ 5 := by rw [HXN.out]; exact runOk_le p1
            have hxnI : ¬ (5 : Int) < (xn : Int) := by omega
            have M11 := M10.put X10 T10 p1
            have c11 := M11.1.cell
            clear M10 X10 T10 x10
            go_wp2_with fail
            refine (implRunOk_any _ (putOut s zz) _ M11.2.1.now).mono ?_
            rw [p1]
            rintro e w12 ⟨rfl, hb12⟩
            have M12 := M11.below hb12
            have c12 := M12.1.cell
            clear M11 hb12
            go_wp2_with fail
            refine (implRunAll_any _ (putOut s zz) _ M12.2.1.now).mono ?_
            rintro e w13 ⟨v13, rfl, Z13, hb13⟩
            have M13 := M12.below hb13
            have hto : togOut (putOut s zz) = sumR (putOut s zz) := by simp [togOut, p1]
            rw [hto] at Z13
            clear M12 hb13
            go_wp2_with fail
            refine (implZSame_any _ _ (sumR (putOut s zz)) (sumR (putOut s zz)) _ Z13.items M13.2.2.1.now.items).mono ?_
            rw [show zsB (sumR (putOut s zz)) (sumR (putOut s zz)) = true by simp [zsB]]
            rintro e w14 ⟨rfl, hb14⟩
            have M14 := hidK (M13.below hb14).swap
            clear M13 Z13 hb14 c10 f10 cx10 c11 c12 p1 p2 hao hto hpo
            go_wp2
            go_roundw
            case rel => exact ⟨k + 1, _, _, _, _, by omega, by go_num, M14.out⟩
            case measure => simp [intOf]; omega
          | false =>
            have hsnI : ¬ (5 : Int) < (sn : Int) := by omega
            clear X10 T10 x10
            go_wp2_with fail
            refine (implRunOk_any _ s _ M10.2.1.now).mono ?_
            rw [HSO.out.1]
            rintro e w12 ⟨rfl, hb12⟩
            have M12 := M10.below hb12
            have c12 := M12.1.cell
            clear M10 hb12
            go_wp2_with fail
            refine (implRunAll_any _ s _ M12.2.1.now).mono ?_
            rintro e w13 ⟨v13, rfl, Z13, hb13⟩
            have M13 := M12.below hb13
            have hto : togOut s = sumR s := by simp [togOut, HSO.out.1]
            rw [hto] at Z13
            clear M12 hb13
            go_wp2_with fail
            refine (implZSame_any _ _ (sumR s) (sumR s) _ Z13.items M13.2.2.1.now.items).mono ?_
            rw [show zsB (sumR s) (sumR s) = true by simp [zsB]]
            rintro e w14 ⟨rfl, hb14⟩
            have M14 := hidK (M13.below hb14).swap
            clear M13 Z13 hb14 c10 f10 cx10 c12 hto
            go_wp2
            go_roundw
            case rel => exact ⟨k + 1, _, _, _, _, by omega, by go_num, M14.out⟩
            case measure => simp [intOf]; omega
        · obtain rfl : k = 9 := by omega
          have HK := hidK M.2.2.2.2.2.1
          clear M
          go_wp2
          go_ret
          exact ⟨rfl, HK.out⟩

end Go.Proofs.Ytegnoebpnpdogaa
