/-
  The walk of laws.FnJoinThree, out of the contracts: whatever the bytes are, it answers true, and nothing that was there is written.
-/
import Derived.Test.YtehfpceghdaajaaThreeFacts
import Derived.Test.YtehfpceghdaajaaDrawWide
import Derived.Test.YtehfpceghdaajaaZVals
namespace Go.Proofs.Ytehfpceghdaajaa
open Go.RowKit
set_option linter.unusedVariables false
attribute [local go_sem ↓] Go.wp_at_zero Go.wp_at_succ

theorem TailZ.at3 {w : World} {a : Option Addr} {n cap : Nat} {zs : List It} (h : TailZ w (.slice a n cap) zs) {k : Nat} (hk : k < zs.length) :
    ∃ b off xa xc, a = some ⟨b, off, none⟩ ∧ b < w.heap.size ∧ w.cell? ⟨b, off + k * 2, none⟩ = some (.slice xa (zs.getD k ([], 0)).1.length xc) := by
  obtain ⟨_, a', c', e, _, hc⟩ := h.items
  obtain ⟨b, off, rfl, hb, hcell⟩ := hc (fun e => by rw [e] at hk; simp at hk)
  obtain ⟨rv, c0, c1, c2⟩ := hcell k hk
  obtain ⟨_, xa, xc, rfl, _⟩ := c2
  simp at e
  exact ⟨b, off, xa, xc, e.1, hb, c0⟩

set_option maxRecDepth 100000 in
set_option maxHeartbeats 16000000 in
theorem lawFnJoinThree (a : Option Addr) (len cap : Nat) (bs : List Int) (a2 : Option Addr) (len2 cap2 : Nat) (bs2 : List Int) (w : World) (h : IsRow .u8 w a len cap bs) (h2 : IsRow .u8 w a2 len2 cap2 bs2) :
    Calls Try.prog 3 #[.slice a len cap, .slice a2 len2 cap2] w fun e w' => e = .returned (.bool true) ∧ Below w.heap.size w w' := by
  by_cases hbig : (1048576 : Int) < (len : Int)
  · go_enter Try.func3, Try.ntmps3
    go_wp2
    go_ret
    exact ⟨rfl, Below.refl _ _⟩
  by_cases hbig2 : (1048576 : Int) < (len2 : Int)
  · go_enter Try.func3, Try.ntmps3
    go_wp2
    go_ret
    exact ⟨rfl, Below.refl _ _⟩
  go_enter Try.func3, Try.ntmps3
  go_wp2_with fail
  refine (drawJoinOf_wide a len cap bs _ h).mono ?_
  rintro e w1 ⟨va, vb, x, y, za, zb, rfl, hx, hy, hgz, hgy, hone1, hone2, TA, TB, hk1⟩
  have h2' := h2.below hk1
  clear h h2 hgz hgy hx hy hone2
  go_wp2_with fail
  refine (drawJoinOf_wide a2 len2 cap2 bs2 _ h2').mono ?_
  rintro e w2 ⟨vc, vo, z, z', zc, zo, rfl, hx, hy, hgz, hgy, hone3, hone4, TC, TO, hb2⟩
  have hk2 := below_then hk1 hb2
  have TA2 := TA.below hb2
  have TB2 := TB.below hb2
  clear hk1 hb2 TA TB h2' hx hy hgz hgy hone3 hone4 TO
  cases hok : joinOk za zb x y with
  | false =>
    have e2 := join_false hok
    go_wp2_with fail
    refine (join_val hok e2 TA2 TB2).mono ?_
    rintro e w3 ⟨vx, rfl, TX, hb3⟩
    have hk3 := below_then hk2 hb3
    have A_3 := TA2.below hb3
    have B_3 := TB2.below hb3
    have C_3 := TC.below hb3
    clear hb3 hk2 TA2 TB2 TC
    go_wp2_with fail
    refine (specJoin_val hok e2 A_3 B_3).mono ?_
    rintro e w4 ⟨vy, rfl, TY, hb4⟩
    have hk4 := below_then hk3 hb4
    have A_4 := A_3.below hb4
    have B_4 := B_3.below hb4
    have C_4 := C_3.below hb4
    have X_4 := TX.below hb4
    clear hb4 hk3 A_3 B_3 C_3 TX
    go_wp2_with fail
    refine (zsame_val (zsB_refl _) X_4 TY).mono ?_
    rintro e w5 ⟨rfl, hb5⟩
    have hk5 := below_then hk4 hb5
    have A_5 := A_4.below hb5
    have B_5 := B_4.below hb5
    have C_5 := C_4.below hb5
    have X_5 := X_4.below hb5
    have Y_5 := TY.below hb5
    clear hb5 hk4 A_4 B_4 C_4 X_4 TY
    go_wp2_with fail
    refine (zsame_val (zsB_refl _) X_5 Y_5).mono ?_
    rintro e w6 ⟨rfl, hb6⟩
    have hk6 := below_then hk5 hb6
    have A_6 := A_5.below hb6
    have B_6 := B_5.below hb6
    have C_6 := C_5.below hb6
    have X_6 := X_5.below hb6
    have Y_6 := Y_5.below hb6
    clear hb6 hk5 A_5 B_5 C_5 X_5 Y_5
    clear A_6 B_6 C_6 X_6 Y_6
    clear e2
    go_wp2
    go_ret
    exact ⟨rfl, hk6⟩
  | true =>
    have hz := (join_true hok).1
    go_wp2_with fail
    refine (join_val hok rfl TA2 TB2).mono ?_
    rintro e w3 ⟨vx, rfl, TX, hb3⟩
    have hk3 := below_then hk2 hb3
    have A_3 := TA2.below hb3
    have B_3 := TB2.below hb3
    have C_3 := TC.below hb3
    clear hb3 hk2 TA2 TB2 TC
    go_wp2_with fail
    refine (specJoin_val hok rfl A_3 B_3).mono ?_
    rintro e w4 ⟨vy, rfl, TY, hb4⟩
    have hk4 := below_then hk3 hb4
    have A_4 := A_3.below hb4
    have B_4 := B_3.below hb4
    have C_4 := C_3.below hb4
    have X_4 := TX.below hb4
    clear hb4 hk3 A_3 B_3 C_3 TX
    go_wp2_with fail
    refine (zsame_val (zsB_refl _) X_4 TY).mono ?_
    rintro e w5 ⟨rfl, hb5⟩
    have hk5 := below_then hk4 hb5
    have A_5 := A_4.below hb5
    have B_5 := B_4.below hb5
    have C_5 := C_4.below hb5
    have X_5 := X_4.below hb5
    have Y_5 := TY.below hb5
    clear hb5 hk4 A_4 B_4 C_4 X_4 TY
    obtain ⟨aa, ac, rfl⟩ := A_5.shape
    obtain ⟨ba, bc, rfl⟩ := B_5.shape
    obtain ⟨ca, cc, rfl⟩ := C_5.shape
    by_cases ha0 : za.length = 0
    · have hz0 : ((za.length : Int) == 0) = true := by rw [ha0]; rfl
      go_wp2_with fail
      refine (zsame_val (zsB_refl _) X_5 Y_5).mono ?_
      rintro e w6 ⟨rfl, hb6⟩
      have hk6 := below_then hk5 hb6
      have A_6 := A_5.below hb6
      have B_6 := B_5.below hb6
      have C_6 := C_5.below hb6
      have X_6 := X_5.below hb6
      have Y_6 := Y_5.below hb6
      clear hb6 hk5 A_5 B_5 C_5 X_5 Y_5
      clear A_6 B_6 C_6 X_6 Y_6
      go_wp2
      go_ret
      exact ⟨rfl, hk6⟩
    · have hz1 : ((za.length : Int) == 0) = false := by simp [ha0]
      by_cases hb0 : zb.length = 0
      · have hz0 : ((zb.length : Int) == 0) = true := by rw [hb0]; rfl
        go_wp2_with fail
        refine (zsame_val (zsB_refl _) X_5 Y_5).mono ?_
        rintro e w6 ⟨rfl, hb6⟩
        have hk6 := below_then hk5 hb6
        have A_6 := A_5.below hb6
        have B_6 := B_5.below hb6
        have C_6 := C_5.below hb6
        have X_6 := X_5.below hb6
        have Y_6 := Y_5.below hb6
        clear hb6 hk5 A_5 B_5 C_5 X_5 Y_5
        clear A_6 B_6 C_6 X_6 Y_6
        go_wp2
        go_ret
        exact ⟨rfl, hk6⟩
      · have hz2 : ((zb.length : Int) == 0) = false := by simp [hb0]
        by_cases hc0 : zc.length = 0
        · have hz0 : ((zc.length : Int) == 0) = true := by rw [hc0]; rfl
          go_wp2_with fail
          refine (zsame_val (zsB_refl _) X_5 Y_5).mono ?_
          rintro e w6 ⟨rfl, hb6⟩
          have hk6 := below_then hk5 hb6
          have A_6 := A_5.below hb6
          have B_6 := B_5.below hb6
          have C_6 := C_5.below hb6
          have X_6 := X_5.below hb6
          have Y_6 := Y_5.below hb6
          clear hb6 hk5 A_5 B_5 C_5 X_5 Y_5
          clear A_6 B_6 C_6 X_6 Y_6
          go_wp2
          go_ret
          exact ⟨rfl, hk6⟩
        · have hz3 : ((zc.length : Int) == 0) = false := by simp [hc0]
          clear Y_5
          have hpa : 0 < za.length := by omega
          have hpb : 0 < zb.length := by omega
          have hpaI : (0 : Int) < (za.length : Int) := by omega
          obtain ⟨m, hm⟩ := hone1 hz
          have hm0 : (za.getD 0 ([], 0)).1.length = m := hm _ (getZ_mem hpa)
          obtain ⟨b0, o0, ra, rc, rfl, hb0', c0⟩ := A_5.at3 hpa
          rw [hm0] at c0
          simp only [Nat.zero_mul, Nat.add_zero] at c0
          have HOK : Hid (joinOk za zb x y = true) := hok
          have HM : Hid (∀ p ∈ za, p.1.length = m) := hm
          obtain ⟨c1, H1⟩ : ∃ c : Bool, Hid (c = joinOk (joinOut za zb x y) zc m z) := ⟨_, rfl⟩
          obtain ⟨c2, H2⟩ : ∃ c : Bool, Hid (c = joinOk zb zc 0 z) := ⟨_, rfl⟩
          obtain ⟨c3, H3⟩ : ∃ c : Bool, Hid (c = joinOk za (joinOut zb zc 0 z) x y) := ⟨_, rfl⟩
          clear hone1 hm hm0 hok hz
          go_wp2_with fail
          refine (join_val H1.out.symm rfl X_5 C_5).mono ?_
          rintro e w6 ⟨vp, rfl, TP, hb6⟩
          have hk6 := below_then hk5 hb6
          have A_6 := A_5.below hb6
          have B_6 := B_5.below hb6
          have C_6 := C_5.below hb6
          have X_6 := X_5.below hb6
          clear hb6 hk5 A_5 B_5 C_5 X_5
          clear c0
          go_wp2_with fail
          refine (join_val H2.out.symm rfl B_6 C_6).mono ?_
          rintro e w7 ⟨vq, rfl, TQ, hb7⟩
          have hk7 := below_then hk6 hb7
          have A_7 := A_6.below hb7
          have B_7 := B_6.below hb7
          have C_7 := C_6.below hb7
          have X_7 := X_6.below hb7
          have P_7 := TP.below hb7
          clear hb7 hk6 A_6 B_6 C_6 X_6 TP
          clear C_7
          clear B_7
          go_wp2_with fail
          refine (join_val H3.out.symm rfl A_7 TQ).mono ?_
          rintro e w8 ⟨vr, rfl, TR, hb8⟩
          have hk8 := below_then hk7 hb8
          have A_8 := A_7.below hb8
          have X_8 := X_7.below hb8
          have P_8 := P_7.below hb8
          have Q_8 := TQ.below hb8
          clear hb8 hk7 A_7 X_7 P_7 TQ
          clear A_8
          clear Q_8
          obtain ⟨xa, xc, rfl⟩ := X_8.shape
          cases c1 with
          | false =>
            clear X_8 P_8 TR
            go_wp2
            go_ret
            exact ⟨rfl, hk8⟩
          | true =>
            cases c2 with
            | false =>
              clear X_8 P_8 TR
              go_wp2
              go_ret
              exact ⟨rfl, hk8⟩
            | true =>
              cases c3 with
              | false =>
                clear X_8 P_8 TR
                go_wp2
                go_ret
                exact ⟨rfl, hk8⟩
              | true =>
                by_cases hj0 : (joinOut za zb x y).length = 0
                · have hz0 : (((joinOut za zb x y).length : Int) == 0) = true := by rw [hj0]; rfl
                  clear X_8 P_8 TR
                  go_wp2
                  go_ret
                  exact ⟨rfl, hk8⟩
                · have hz4 : (((joinOut za zb x y).length : Int) == 0) = false := by simp [hj0]
                  have hs : zsB (joinOut (joinOut za zb x y) zc m z) (joinOut za (joinOut zb zc 0 z) x y) = true := by
                    rw [three_ok HM.out hpa hpb HOK.out H1.out.symm H2.out.symm H3.out.symm]; exact zsB_refl _
                  go_wp2_with fail
                  refine (zsame_val hs P_8 TR).mono ?_
                  rintro e w9 ⟨rfl, hb9⟩
                  have hk9 := below_then hk8 hb9
                  have X_9 := X_8.below hb9
                  have P_9 := P_8.below hb9
                  have R_9 := TR.below hb9
                  clear hb9 hk8 X_8 P_8 TR
                  clear X_9 P_9 R_9
                  clear hs
                  go_wp2
                  go_ret
                  exact ⟨rfl, hk9⟩

end Go.Proofs.Ytehfpceghdaajaa
