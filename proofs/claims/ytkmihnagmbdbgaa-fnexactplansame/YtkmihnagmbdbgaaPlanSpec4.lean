/-
  The contract of spec.PlanSame, at every two plans.
-/
import Derived.Test.YtkmihnagmbdbgaaPlanSpec3
namespace Go.Proofs.Ytkmihnagmbdbgaa
set_option maxRecDepth 100000
open Go.RowKit
set_option linter.unusedVariables false
set_option linter.unusedSimpArgs false


theorem same_ne {n : Nat} {p q : Pl n} (h : p ≠ q) : Pl.same n p q = false := by
  rw [Bool.eq_false_iff, Ne, Pl.same_iff]
  exact h
theorem nd_ext {x y : Nd} (h0 : x.k = y.k) (h1 : x.n = y.n) (h2 : x.t = y.t) (h3 : x.a = y.a) (h4 : x.b = y.b) (h5 : x.g = y.g) (h6 : x.c = y.c) (h7 : x.ks = y.ks) (h8 : x.cs = y.cs) : x = y := by
  obtain ⟨k, n, t, cs, a, b, ks, g, c⟩ := x
  obtain ⟨k', n', t', cs', a', b', ks', g', c'⟩ := y
  simp only at h0 h1 h2 h3 h4 h5 h6 h7 h8
  subst h0 h1 h2 h3 h4 h5 h6 h7 h8
  rfl
theorem no_kids (l : List (Pl 0)) : l = [] := by
  cases l with
  | nil => rfl
  | cons x _ => cases x
set_option maxHeartbeats 2000000 in
theorem specPlan_step (n : Nat) (IH : ∀ m, n = m + 1 → SpOk m) : SpOk n := by
  intro p q vc vk vd vc2 vk2 vd2 w hp hq hlim hlim2
  obtain ⟨hcs, hks, hkd⟩ := hp
  obtain ⟨hcs2, hks2, hkd2⟩ := hq
  have hsz := Pl.sz_succ p
  have hsz2 := Pl.sz_succ q
  obtain ⟨-, ca, cc, rfl, -⟩ := id hcs
  obtain ⟨-, ka, kc, rfl, -⟩ := id hks
  obtain ⟨-, xa, xc, rfl, -⟩ := id hkd
  obtain ⟨-, ca2, cc2, rfl, -⟩ := id hcs2
  obtain ⟨-, ka2, kc2, rfl, -⟩ := id hks2
  obtain ⟨-, xa2, xc2, rfl, -⟩ := id hkd2
  by_cases e0 : p.nd.k = q.nd.k
  case neg =>
    rw [same_ne (fun h => e0 (by rw [h]))]
    exact specNot0 p.nd.k p.nd.n p.nd.a p.nd.b p.nd.g p.nd.c p.nd.t p.nd.ks q.nd.k q.nd.n q.nd.a q.nd.b q.nd.g q.nd.c q.nd.t q.nd.ks ca ka xa ca2 ka2 xa2 _ cc _ kc _ xc _ cc2 _ kc2 _ xc2 w hks hks2 (by omega) (by omega) e0
  by_cases e1 : p.nd.n = q.nd.n
  case neg =>
    rw [same_ne (fun h => e1 (by rw [h]))]
    exact specNot1 p.nd.k p.nd.n p.nd.a p.nd.b p.nd.g p.nd.c p.nd.t p.nd.ks q.nd.k q.nd.n q.nd.a q.nd.b q.nd.g q.nd.c q.nd.t q.nd.ks ca ka xa ca2 ka2 xa2 _ cc _ kc _ xc _ cc2 _ kc2 _ xc2 w hks hks2 (by omega) (by omega) e0 e1
  by_cases e2 : p.nd.t = q.nd.t
  case neg =>
    rw [same_ne (fun h => e2 (by rw [h]))]
    exact specNot2 p.nd.k p.nd.n p.nd.a p.nd.b p.nd.g p.nd.c p.nd.t p.nd.ks q.nd.k q.nd.n q.nd.a q.nd.b q.nd.g q.nd.c q.nd.t q.nd.ks ca ka xa ca2 ka2 xa2 _ cc _ kc _ xc _ cc2 _ kc2 _ xc2 w hks hks2 (by omega) (by omega) e0 e1 e2
  by_cases e3 : p.nd.a = q.nd.a
  case neg =>
    rw [same_ne (fun h => e3 (by rw [h]))]
    exact specNot3 p.nd.k p.nd.n p.nd.a p.nd.b p.nd.g p.nd.c p.nd.t p.nd.ks q.nd.k q.nd.n q.nd.a q.nd.b q.nd.g q.nd.c q.nd.t q.nd.ks ca ka xa ca2 ka2 xa2 _ cc _ kc _ xc _ cc2 _ kc2 _ xc2 w hks hks2 (by omega) (by omega) e0 e1 e2 e3
  by_cases e4 : p.nd.b = q.nd.b
  case neg =>
    rw [same_ne (fun h => e4 (by rw [h]))]
    exact specNot4 p.nd.k p.nd.n p.nd.a p.nd.b p.nd.g p.nd.c p.nd.t p.nd.ks q.nd.k q.nd.n q.nd.a q.nd.b q.nd.g q.nd.c q.nd.t q.nd.ks ca ka xa ca2 ka2 xa2 _ cc _ kc _ xc _ cc2 _ kc2 _ xc2 w hks hks2 (by omega) (by omega) e0 e1 e2 e3 e4
  by_cases e5 : p.nd.g = q.nd.g
  case neg =>
    rw [same_ne (fun h => e5 (by rw [h]))]
    exact specNot5 p.nd.k p.nd.n p.nd.a p.nd.b p.nd.g p.nd.c p.nd.t p.nd.ks q.nd.k q.nd.n q.nd.a q.nd.b q.nd.g q.nd.c q.nd.t q.nd.ks ca ka xa ca2 ka2 xa2 _ cc _ kc _ xc _ cc2 _ kc2 _ xc2 w hks hks2 (by omega) (by omega) e0 e1 e2 e3 e4 e5
  by_cases e6 : p.nd.c = q.nd.c
  case neg =>
    rw [same_ne (fun h => e6 (by rw [h]))]
    exact specNot6 p.nd.k p.nd.n p.nd.a p.nd.b p.nd.g p.nd.c p.nd.t p.nd.ks q.nd.k q.nd.n q.nd.a q.nd.b q.nd.g q.nd.c q.nd.t q.nd.ks ca ka xa ca2 ka2 xa2 _ cc _ kc _ xc _ cc2 _ kc2 _ xc2 w hks hks2 (by omega) (by omega) e0 e1 e2 e3 e4 e5 e6
  by_cases e7 : p.nd.ks = q.nd.ks
  case neg =>
    rw [same_ne (fun h => e7 (by rw [h]))]
    exact specNot7 p.nd.k p.nd.n p.nd.a p.nd.b p.nd.g p.nd.c p.nd.t p.nd.ks q.nd.k q.nd.n q.nd.a q.nd.b q.nd.g q.nd.c q.nd.t q.nd.ks ca ka xa ca2 ka2 xa2 _ cc _ kc _ xc _ cc2 _ kc2 _ xc2 w hks hks2 (by omega) (by omega) e0 e1 e2 e3 e4 e5 e6 e7
  by_cases e8 : p.nd.cs.length = q.nd.cs.length
  case neg =>
    rw [same_ne (fun h => e8 (by rw [h]))]
    exact specNot8 p.nd.k p.nd.n p.nd.a p.nd.b p.nd.g p.nd.c p.nd.t p.nd.ks q.nd.k q.nd.n q.nd.a q.nd.b q.nd.g q.nd.c q.nd.t q.nd.ks ca ka xa ca2 ka2 xa2 _ cc _ kc _ xc _ cc2 _ kc2 _ xc2 w hks hks2 (by omega) (by omega) e0 e1 e2 e3 e4 e5 e6 e7 e8
  by_cases e9 : p.kids.length = q.kids.length
  case neg =>
    rw [same_ne (fun h => e9 (by rw [h]))]
    exact specNot9 p.nd.k p.nd.n p.nd.a p.nd.b p.nd.g p.nd.c p.nd.t p.nd.ks q.nd.k q.nd.n q.nd.a q.nd.b q.nd.g q.nd.c q.nd.t q.nd.ks ca ka xa ca2 ka2 xa2 _ cc _ kc _ xc _ cc2 _ kc2 _ xc2 w hks hks2 (by omega) (by omega) e0 e1 e2 e3 e4 e5 e6 e7 e8 e9
  have fin : ∀ c : Bool, (c = true ↔ (p.nd.cs = q.nd.cs ∧ p.kids = q.kids)) → c = Pl.same (n + 1) p q := fun c hc => by
    have h2 : c = true ↔ Pl.same (n + 1) p q = true := by
      rw [hc, Pl.same_iff]
      exact ⟨fun h => Pl.ext (nd_ext e0 e1 e2 e3 e4 e5 e6 e7 h.1) h.2, fun h => by rw [h]; exact ⟨rfl, rfl⟩⟩
    cases c <;> cases h3 : Pl.same (n + 1) p q <;> simp_all
  cases n with
  | zero =>
    have k1 := no_kids p.kids
    have k2 := no_kids q.kids
    have x1 : KidsV (NodeAt 1) w (.slice xa p.kids.length xc) ([] : List (Pl 1)) := by
      obtain ⟨h1, a, cap, h2, h3, _⟩ := hkd
      rw [k1] at h1 h2 ⊢
      exact ⟨h1, a, cap, h2, h3, fun h => absurd rfl h⟩
    have x2 : KidsV (NodeAt 1) w (.slice xa2 q.kids.length xc2) ([] : List (Pl 1)) := by
      obtain ⟨h1, a, cap, h2, h3, _⟩ := hkd2
      rw [k2] at h1 h2 ⊢
      exact ⟨h1, a, cap, h2, h3, fun h => absurd rfl h⟩
    refine (specThrough 0 p.nd.cs q.nd.cs [] [] (fun h => absurd h (by simp)) p.nd.k p.nd.n p.nd.a p.nd.b p.nd.g p.nd.c p.nd.t p.nd.ks q.nd.k q.nd.n q.nd.a q.nd.b q.nd.g q.nd.c q.nd.t q.nd.ks ca ka xa ca2 ka2 xa2 _ cc _ kc _ xc _ cc2 _ kc2 _ xc2 w hks hks2 (by omega) (by omega) hcs hcs2 x1 x2 (by omega) (by omega) (fun j hj => absurd hj (by simp)) (fun j hj => absurd hj (by simp)) e0 e1 e2 e3 e4 e5 e6 e7 e8 e9).mono ?_
    rintro r w' ⟨⟨c, rfl, hc⟩, hb⟩
    refine ⟨?_, hb⟩
    rw [fin c (by rw [hc, k1, k2]; simp)]
  | succ n =>
    refine (specThrough n p.nd.cs q.nd.cs p.kids q.kids (fun _ => IH n rfl) p.nd.k p.nd.n p.nd.a p.nd.b p.nd.g p.nd.c p.nd.t p.nd.ks q.nd.k q.nd.n q.nd.a q.nd.b q.nd.g q.nd.c q.nd.t q.nd.ks ca ka xa ca2 ka2 xa2 _ cc _ kc _ xc _ cc2 _ kc2 _ xc2 w hks hks2 (by omega) (by omega) hcs hcs2 hkd hkd2 (by omega) (by omega) (fun j hj => by have := kidsSz_at hj; unfold kidsSz at this; omega) (fun j hj => by have := kidsSz_at hj; unfold kidsSz at this; omega) e0 e1 e2 e3 e4 e5 e6 e7 e8 e9).mono ?_
    rintro r w' ⟨⟨c, rfl, hc⟩, hb⟩
    refine ⟨?_, hb⟩
    rw [fin c hc]
theorem specPlan_any : ∀ n, SpOk n
  | 0 => specPlan_step 0 fun m h => by omega
  | n + 1 => specPlan_step (n + 1) fun m h => by obtain rfl : n = m := by omega
                                                 exact specPlan_any n

end Go.Proofs.Ytkmihnagmbdbgaa
