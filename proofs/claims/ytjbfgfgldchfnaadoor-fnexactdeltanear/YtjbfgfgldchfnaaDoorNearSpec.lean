/-
  The contract of spec.DeltaNear.
-/
import Derived.Test.YtjbfgfgldchfnaaDoorNear
namespace Go.Proofs.YtjbfgfgldchfnaaDoor
set_option maxRecDepth 100000
open Go.RowKit
attribute [local go_sem ↓] Go.wp_at_zero Go.wp_at_succ

set_option maxHeartbeats 4000000 in
theorem specNear_any (v u kv : Value) (z d : List It) (ks : List Int) (w : World) (h : ItemsAt w v z) (h2 : ItemsAt w u d) (h3 : IntsAt w kv ks) :
    Calls Tryd.prog 6 #[v, u, kv] w fun e w' => ∃ v', e = .returned v' ∧ OwnZ w' w.heap.size w'.heap.size v' (nearOut z d ks) ∧ Below w.heap.size w w' := by
  cases hz : zOkB z with
  | false =>
    rw [near_not (by unfold nearOk; rw [hz]; rfl)]
    go_enter Tryd.func6, Tryd.ntmps6
    go_wp2_with fail
    refine (specZOk_any v z _ h).mono ?_
    rw [hz]
    rintro e w1 ⟨rfl, b1⟩
    have k1 := b1.below
    clear b1
    have HK : Hid (Below w.heap.size w w1) := k1
    clear h h2 h3 k1
    go_wp2
    go_ret
    exact ⟨_, rfl, (lit_ownZ w1).wide HK.out.size (Nat.le_refl _) (Nat.le_refl _), below_then HK.out (below_alloc _)⟩
  | true =>
    cases hd : zOkB d with
    | false =>
      rw [near_not (by unfold nearOk; rw [hz, hd]; rfl)]
      go_enter Tryd.func6, Tryd.ntmps6
      go_wp2_with fail
      refine (specZOk_any v z _ h).mono ?_
      rw [hz]
      rintro e w1 ⟨rfl, b1⟩
      have k1 := b1.below
      clear b1
      go_wp2_with fail
      refine (specZOk_any u d _ (h2.below k1)).mono ?_
      rw [hd]
      rintro e w2 ⟨rfl, b2⟩
      have k2 := below_then k1 b2.below
      clear b2 k1
      have HK : Hid (Below w.heap.size w w2) := k2
      clear h h2 h3 k2
      go_wp2
      go_ret
      exact ⟨_, rfl, (lit_ownZ w2).wide HK.out.size (Nat.le_refl _) (Nat.le_refl _), below_then HK.out (below_alloc _)⟩
    | true =>
      cases hk : keysB ks 6 with
      | false =>
        rw [near_not (by unfold nearOk nearCan; rw [hz, hd, hk]; rfl)]
        go_enter Tryd.func6, Tryd.ntmps6
        go_wp2_with fail
        refine (specZOk_any v z _ h).mono ?_
        rw [hz]
        rintro e w1 ⟨rfl, b1⟩
        have k1 := b1.below
        clear b1
        go_wp2_with fail
        refine (specZOk_any u d _ (h2.below k1)).mono ?_
        rw [hd]
        rintro e w2 ⟨rfl, b2⟩
        have k2 := below_then k1 b2.below
        clear b2 k1
        go_wp2_with fail
        refine (l4Keys_any kv ks 6 _ (h3.below k2) (by omega)).mono ?_
        rw [hk]
        rintro e w3 ⟨rfl, b3⟩
        have k3 := below_then k2 b3
        clear b3 k2
        have HK : Hid (Below w.heap.size w w3) := k3
        clear h h2 h3 k3
        go_wp2
        go_ret
        exact ⟨_, rfl, (lit_ownZ w3).wide HK.out.size (Nat.le_refl _) (Nat.le_refl _), below_then HK.out (below_alloc _)⟩
      | true =>
        have hw1 : ∀ k, k < z.length → (z.getD k ([], 0)).1.length ≤ 6 := fun k hk => rowOk_le (zOk_row hz hk).1
        have hw2 : ∀ k, k < d.length → (d.getD k ([], 0)).1.length ≤ 6 := fun k hk => rowOk_le (zOk_row hd hk).1
        have hnc := near_can hz hd hk
        cases f1 : fitsB z ks 0 with
        | false =>
          rw [near_not (by unfold nearOk nearCan; rw [hz, hd, hk]; simp only [Bool.true_and]; rw [← hnc, f1]; rfl)]
          go_enter Tryd.func6, Tryd.ntmps6
          go_wp2_with fail
          refine (specZOk_any v z _ h).mono ?_
          rw [hz]
          rintro e w1 ⟨rfl, b1⟩
          have k1 := b1.below
          clear b1
          go_wp2_with fail
          refine (specZOk_any u d _ (h2.below k1)).mono ?_
          rw [hd]
          rintro e w2 ⟨rfl, b2⟩
          have k2 := below_then k1 b2.below
          clear b2 k1
          go_wp2_with fail
          refine (l4Keys_any kv ks 6 _ (h3.below k2) (by omega)).mono ?_
          rw [hk]
          rintro e w3 ⟨rfl, b3⟩
          have k3 := below_then k2 b3
          clear b3 k2
          go_wp2_with fail
          refine (l5Fits_any v kv z ks 0 _ (h.below k3) (h3.below k3) hw1).mono ?_
          rw [f1]
          rintro e w4 ⟨rfl, b4⟩
          have k4 := below_then k3 b4
          clear b4 k3
          have HK : Hid (Below w.heap.size w w4) := k4
          clear h h2 h3 k4
          go_wp2
          go_ret
          exact ⟨_, rfl, (lit_ownZ w4).wide HK.out.size (Nat.le_refl _) (Nat.le_refl _), below_then HK.out (below_alloc _)⟩
        | true =>
          cases f2 : fitsB d ks 0 with
          | false =>
            rw [near_not (by unfold nearOk nearCan; rw [hz, hd, hk]; simp only [Bool.true_and]; rw [← hnc, f1, f2]; rfl)]
            go_enter Tryd.func6, Tryd.ntmps6
            go_wp2_with fail
            refine (specZOk_any v z _ h).mono ?_
            rw [hz]
            rintro e w1 ⟨rfl, b1⟩
            have k1 := b1.below
            clear b1
            go_wp2_with fail
            refine (specZOk_any u d _ (h2.below k1)).mono ?_
            rw [hd]
            rintro e w2 ⟨rfl, b2⟩
            have k2 := below_then k1 b2.below
            clear b2 k1
            go_wp2_with fail
            refine (l4Keys_any kv ks 6 _ (h3.below k2) (by omega)).mono ?_
            rw [hk]
            rintro e w3 ⟨rfl, b3⟩
            have k3 := below_then k2 b3
            clear b3 k2
            go_wp2_with fail
            refine (l5Fits_any v kv z ks 0 _ (h.below k3) (h3.below k3) hw1).mono ?_
            rw [f1]
            rintro e w4 ⟨rfl, b4⟩
            have k4 := below_then k3 b4
            clear b4 k3
            go_wp2_with fail
            refine (l5Fits_any u kv d ks 0 _ (h2.below k4) (h3.below k4) hw2).mono ?_
            rw [f2]
            rintro e w5 ⟨rfl, b5⟩
            have k5 := below_then k4 b5
            clear b5 k4
            have HK : Hid (Below w.heap.size w w5) := k5
            clear h h2 h3 k5
            go_wp2
            go_ret
            exact ⟨_, rfl, (lit_ownZ w5).wide HK.out.size (Nat.le_refl _) (Nat.le_refl _), below_then HK.out (below_alloc _)⟩
          | true =>
            have hcan : nearCan z d ks = true := by unfold nearCan; rw [hk, Bool.true_and, ← hnc, f1, f2]; rfl
            obtain ⟨_, hkz, hkd⟩ := near_parts hcan
            have hl : ks.length ≤ 6 := by have := (keys_parts hk).1; omega
            have e0 : nearOut z d ks = nearZ z d ks := by unfold nearOut nearOk; rw [hz, hd, hcan]; rfl
            rw [e0]
            clear e0 hcan hnc
            go_enter Tryd.func6, Tryd.ntmps6
            go_wp2_with fail
            refine (specZOk_any v z _ h).mono ?_
            rw [hz]
            rintro e w1 ⟨rfl, b1⟩
            have k1 := b1.below
            clear b1
            go_wp2_with fail
            refine (specZOk_any u d _ (h2.below k1)).mono ?_
            rw [hd]
            rintro e w2 ⟨rfl, b2⟩
            have k2 := below_then k1 b2.below
            clear b2 k1
            go_wp2_with fail
            refine (l4Keys_any kv ks 6 _ (h3.below k2) (by omega)).mono ?_
            rw [hk]
            rintro e w3 ⟨rfl, b3⟩
            have k3 := below_then k2 b3
            clear b3 k2
            go_wp2_with fail
            refine (l5Fits_any v kv z ks 0 _ (h.below k3) (h3.below k3) hw1).mono ?_
            rw [f1]
            rintro e w4 ⟨rfl, b4⟩
            have k4 := below_then k3 b4
            clear b4 k3
            go_wp2_with fail
            refine (l5Fits_any u kv d ks 0 _ (h2.below k4) (h3.below k4) hw2).mono ?_
            rw [f2]
            rintro e w5 ⟨rfl, b5⟩
            have k5 := below_then k4 b5
            clear b5 k4
            have s5 := k5.size
            go_wp2_with fail
            refine (l6Near_any v u kv z d ks _ (h.below k5) (h2.below k5) (h3.below k5) hz hkz hkd hl).mono ?_
            rintro e w6 ⟨v6, rfl, Z6, b6⟩
            have HK : Hid (Below w.heap.size w w6) := below_then k5 b6
            have R : Hid (OwnZ w6 w.heap.size w6.heap.size v6 (nearZ z d ks)) := Z6.wide s5 (Nat.le_refl _) (Nat.le_refl _)
            clear k5 b6 Z6 h h2 h3
            go_wp2
            go_ret
            exact ⟨_, rfl, R.out, HK.out⟩
end Go.Proofs.YtjbfgfgldchfnaaDoor
