/-
  The walk of laws.FnCellBent, out of the contracts: whatever the bytes are, it answers true, and nothing that was there is written. Condition: the error of chapter 3 reads as it was laid.
-/
import Derived.Test.YtkgopbffgahhcaaDoorTestImpl
import Derived.Test.YtkgopbffgahhcaaDoorTestSpec
import Derived.Test.YtkgopbffgahhcaaDoorDrawT2
import Derived.Test.YtkgopbffgahhcaaDoorLaidSent
import Derived.Deep.RegionWith
import Derived.Deep.RegionHeld3
import Derived.Deep.DeepCutAuto
namespace Go.Proofs.YtkgopbffgahhcaaDoor
set_option maxRecDepth 100000
open Go.RowKit
set_option linter.unusedVariables false
set_option linter.unusedSimpArgs false

theorem kind_four (a b n : Int) : Cel.kindB ⟨4, a, b, n⟩ = false := by simp [Cel.kindB]
theorem bent_no (a b n wide : Int) : Cel.okB ⟨4, a, b, n⟩ wide = false := ok_no (by simp)
theorem ok_six {c : Cel} {wide : Int} (h : c.okB wide = true) : c.okB 6 = true := by
  rw [ok_iff] at h ⊢
  omega
theorem ok_narrow {k a b n : Int} (h : ¬ k = 2) : Cel.okB ⟨k, a, b, n⟩ a = false := ok_no (by simp only; omega)

set_option maxRecDepth 100000 in
set_option maxHeartbeats 1000000 in
theorem cellText_none (c : Cel) (w : World) (p : Addr) (hs : Sent w p) (hk : c.kindB = false) :
    Calls Tryd.prog 10 #[.agg #[.int .i64 c.k, .int .i64 c.a, .int .i64 c.b, .int .i64 c.n]] w fun e w' => e = .returned (.string ⟨#[]⟩) ∧ Below w.heap.size w w' := by
  go_enter Tryd.func10, Tryd.ntmps10
  go_wp2_with fail
  refine (reck_none c _ p (hs.below (bel_alloc _)) hk).mono ?_
  rintro e w2 ⟨rfl, hb2⟩
  have HB : Hid (Below w.heap.size w w2) := bel_then (bel_alloc _) hb2
  have hg := (hs.below HB.out).2
  clear hb2
  go_wp2_with fail
  refine (is_same p _).mono ?_
  rintro e w3 ⟨rfl, rfl⟩
  go_wp2
  go_ret
  exact ⟨rfl, HB.out⟩

set_option maxHeartbeats 8000000 in
theorem lawFnCellBent (a : Option Addr) (len cap : Nat) (zs : List Int) (w : World) (h : IsRow .u8 w a len cap zs) (hs : HasSent w) :
    Calls Tryd.prog 3 #[.slice a len cap] w fun e w' => e = .returned (.bool true) ∧ Below w.heap.size w w' := by
  by_cases hbig : (1048576 : Int) < (len : Int)
  · go_enter Tryd.func3, Tryd.ntmps3
    go_wp2
    go_ret
    exact ⟨rfl, Below.refl _ _⟩
  obtain ⟨p, hp⟩ := hs
  go_enter Tryd.func3, Tryd.ntmps3
  go_wp2_with fail
  refine (drawCellOk_any a len cap zs _ h).mono ?_
  rintro e w1 ⟨⟨ck, ca, cb, cn⟩, n1, rfl, -, -, -, hb1⟩
  simp only
  have B1 : Hid (Below w.heap.size w w1) := hb1
  have HP : Hid (Sent w p) := hp
  have H : Hid (IsRow .u8 w a len cap zs) := h
  clear hb1 hp h
  go_wp2_with fail
  refine (drawTestOk_any a len cap zs _ (H.out.below (bel_then B1.out (bel_alloc _)))).mono ?_
  rintro e w2 ⟨⟨tk, tn, ⟨lk, la, lb, ln⟩, ⟨rk, ra, rb, rn⟩⟩, n2, rfl, -, -, -, hb2⟩
  simp only
  have B2 : Hid (Below w.heap.size w w2) := bel_then B1.out (bel_then (bel_alloc _) hb2)
  have XC0 : Hid (Box4 (w2.alloc (.cells #[.int .i64 tk, .bool tn, .int .i64 lk, .int .i64 la, .int .i64 lb, .int .i64 ln, .int .i64 rk, .int .i64 ra, .int .i64 rb, .int .i64 rn] 28)) w1.heap.size ⟨ck, ca, cb, cn⟩) := (Box4.start w1 ⟨ck, ca, cb, cn⟩ _).below (bel_then hb2 (bel_alloc _))
  have XT0 : Hid (Box10 (w2.alloc (.cells #[.int .i64 tk, .bool tn, .int .i64 lk, .int .i64 la, .int .i64 lb, .int .i64 ln, .int .i64 rk, .int .i64 ra, .int .i64 rb, .int .i64 rn] 28)) w2.heap.size ⟨tk, tn, ⟨lk, la, lb, ln⟩, ⟨rk, ra, rb, rn⟩⟩) := Box10.start w2 ⟨tk, tn, ⟨lk, la, lb, ln⟩, ⟨rk, ra, rb, rn⟩⟩ _
  have B0 : Hid (Below w.heap.size w (w2.alloc (.cells #[.int .i64 tk, .bool tn, .int .i64 lk, .int .i64 la, .int .i64 lb, .int .i64 ln, .int .i64 rk, .int .i64 ra, .int .i64 rb, .int .i64 rn] 28))) := bel_then B2.out (bel_alloc _)
  clear hb2
  have Y0 : (w2.alloc (.cells #[.int .i64 tk, .bool tn, .int .i64 lk, .int .i64 la, .int .i64 lb, .int .i64 ln, .int .i64 rk, .int .i64 ra, .int .i64 rb, .int .i64 rn] 28)).cell? ⟨w1.heap.size, 0, none⟩ = some (.int .i64 ck) ∧ (w2.alloc (.cells #[.int .i64 tk, .bool tn, .int .i64 lk, .int .i64 la, .int .i64 lb, .int .i64 ln, .int .i64 rk, .int .i64 ra, .int .i64 rb, .int .i64 rn] 28)).cell? ⟨w1.heap.size, 1, none⟩ = some (.int .i64 ca) ∧ (w2.alloc (.cells #[.int .i64 tk, .bool tn, .int .i64 lk, .int .i64 la, .int .i64 lb, .int .i64 ln, .int .i64 rk, .int .i64 ra, .int .i64 rb, .int .i64 rn] 28)).cell? ⟨w1.heap.size, 2, none⟩ = some (.int .i64 cb) ∧ (w2.alloc (.cells #[.int .i64 tk, .bool tn, .int .i64 lk, .int .i64 la, .int .i64 lb, .int .i64 ln, .int .i64 rk, .int .i64 ra, .int .i64 rb, .int .i64 rn] 28)).cell? ⟨w1.heap.size, 3, none⟩ = some (.int .i64 cn) ∧ (w2.alloc (.cells #[.int .i64 tk, .bool tn, .int .i64 lk, .int .i64 la, .int .i64 lb, .int .i64 ln, .int .i64 rk, .int .i64 ra, .int .i64 rb, .int .i64 rn] 28)).cell? ⟨w2.heap.size, 0, none⟩ = some (.int .i64 tk) ∧ (w2.alloc (.cells #[.int .i64 tk, .bool tn, .int .i64 lk, .int .i64 la, .int .i64 lb, .int .i64 ln, .int .i64 rk, .int .i64 ra, .int .i64 rb, .int .i64 rn] 28)).cell? ⟨w2.heap.size, 1, none⟩ = some (.bool tn) ∧ (w2.alloc (.cells #[.int .i64 tk, .bool tn, .int .i64 lk, .int .i64 la, .int .i64 lb, .int .i64 ln, .int .i64 rk, .int .i64 ra, .int .i64 rb, .int .i64 rn] 28)).cell? ⟨w2.heap.size, 2, none⟩ = some (.int .i64 lk) ∧ (w2.alloc (.cells #[.int .i64 tk, .bool tn, .int .i64 lk, .int .i64 la, .int .i64 lb, .int .i64 ln, .int .i64 rk, .int .i64 ra, .int .i64 rb, .int .i64 rn] 28)).cell? ⟨w2.heap.size, 3, none⟩ = some (.int .i64 la) ∧ (w2.alloc (.cells #[.int .i64 tk, .bool tn, .int .i64 lk, .int .i64 la, .int .i64 lb, .int .i64 ln, .int .i64 rk, .int .i64 ra, .int .i64 rb, .int .i64 rn] 28)).cell? ⟨w2.heap.size, 4, none⟩ = some (.int .i64 lb) ∧ (w2.alloc (.cells #[.int .i64 tk, .bool tn, .int .i64 lk, .int .i64 la, .int .i64 lb, .int .i64 ln, .int .i64 rk, .int .i64 ra, .int .i64 rb, .int .i64 rn] 28)).cell? ⟨w2.heap.size, 5, none⟩ = some (.int .i64 ln) ∧ (w2.alloc (.cells #[.int .i64 tk, .bool tn, .int .i64 lk, .int .i64 la, .int .i64 lb, .int .i64 ln, .int .i64 rk, .int .i64 ra, .int .i64 rb, .int .i64 rn] 28)).cell? ⟨w2.heap.size, 6, none⟩ = some (.int .i64 rk) ∧ (w2.alloc (.cells #[.int .i64 tk, .bool tn, .int .i64 lk, .int .i64 la, .int .i64 lb, .int .i64 ln, .int .i64 rk, .int .i64 ra, .int .i64 rb, .int .i64 rn] 28)).cell? ⟨w2.heap.size, 7, none⟩ = some (.int .i64 ra) ∧ (w2.alloc (.cells #[.int .i64 tk, .bool tn, .int .i64 lk, .int .i64 la, .int .i64 lb, .int .i64 ln, .int .i64 rk, .int .i64 ra, .int .i64 rb, .int .i64 rn] 28)).cell? ⟨w2.heap.size, 8, none⟩ = some (.int .i64 rb) ∧ (w2.alloc (.cells #[.int .i64 tk, .bool tn, .int .i64 lk, .int .i64 la, .int .i64 lb, .int .i64 ln, .int .i64 rk, .int .i64 ra, .int .i64 rb, .int .i64 rn] 28)).cell? ⟨w2.heap.size, 9, none⟩ = some (.int .i64 rn) := (by obtain ⟨_, a0, a1, a2, a3⟩ := XC0.out; obtain ⟨_, b0, b1, ⟨b2, b3, b4, b5⟩, b6, b7, b8, b9⟩ := XT0.out; exact ⟨a0, a1, a2, a3, b0, b1, b2, b3, b4, b5, b6, b7, b8, b9⟩)
  obtain ⟨x, HXV⟩ : ∃ x, Hid (x = Cel.okB ⟨ck, ca, cb, cn⟩ n1) := ⟨_, Eq.refl _⟩
  obtain ⟨y, HYV⟩ : ∃ y, Hid (y = Tst.okB ⟨tk, tn, ⟨lk, la, lb, ln⟩, ⟨rk, ra, rb, rn⟩⟩ n2) := ⟨_, Eq.refl _⟩
  have hx : (x != x) = false := by simp
  have hy : (y != y) = false := by simp
  go_wp2_with fail
  go_cut [36] (fun c wx => c = .bool false ∧ Hid (Below w.heap.size w wx) ∧ Hid (Box4 wx w1.heap.size ⟨ck, ca, cb, cn⟩) ∧ Hid (Box10 wx w2.heap.size ⟨tk, tn, ⟨lk, la, lb, ln⟩, ⟨rk, ra, rb, rn⟩⟩))
  case first =>
    go_region_held3 (fun w' => w'.cell? ⟨w1.heap.size, 0, none⟩ = some (.int .i64 ck) ∧ w'.cell? ⟨w1.heap.size, 1, none⟩ = some (.int .i64 ca) ∧ w'.cell? ⟨w1.heap.size, 2, none⟩ = some (.int .i64 cb) ∧ w'.cell? ⟨w1.heap.size, 3, none⟩ = some (.int .i64 cn) ∧ w'.cell? ⟨w2.heap.size, 0, none⟩ = some (.int .i64 tk) ∧ w'.cell? ⟨w2.heap.size, 1, none⟩ = some (.bool tn) ∧ w'.cell? ⟨w2.heap.size, 2, none⟩ = some (.int .i64 lk) ∧ w'.cell? ⟨w2.heap.size, 3, none⟩ = some (.int .i64 la) ∧ w'.cell? ⟨w2.heap.size, 4, none⟩ = some (.int .i64 lb) ∧ w'.cell? ⟨w2.heap.size, 5, none⟩ = some (.int .i64 ln) ∧ w'.cell? ⟨w2.heap.size, 6, none⟩ = some (.int .i64 rk) ∧ w'.cell? ⟨w2.heap.size, 7, none⟩ = some (.int .i64 ra) ∧ w'.cell? ⟨w2.heap.size, 8, none⟩ = some (.int .i64 rb) ∧ w'.cell? ⟨w2.heap.size, 9, none⟩ = some (.int .i64 rn)) (first | go_keep | (exact Y0) | (exact Y3) | (exact Y4) | (exact Y5) | (exact Y6))
      (first
        | (have hG := B5; clear hG; go_at_call 9; refine (specTestOk_any ⟨tk, tn, ⟨lk, la, lb, ln⟩, ⟨rk, ra, rb, rn⟩⟩ _ _).mono ?_; rw [← HYV.out]; rintro e w6 ⟨rfl, hb6⟩; have hb : Below w5.heap.size w5 w6 := (by first | exact hb6 | exact (Below.drew (Below.refl _ _)).trans hb6); have B6 : Hid (Below w.heap.size w w6) := bel_then B5.out hb; have XC6 : Hid (Box4 w6 w1.heap.size ⟨ck, ca, cb, cn⟩) := XC5.out.below hb; have XT6 : Hid (Box10 w6 w2.heap.size ⟨tk, tn, ⟨lk, la, lb, ln⟩, ⟨rk, ra, rb, rn⟩⟩) := XT5.out.below hb; have Y6 : w6.cell? ⟨w1.heap.size, 0, none⟩ = some (.int .i64 ck) ∧ w6.cell? ⟨w1.heap.size, 1, none⟩ = some (.int .i64 ca) ∧ w6.cell? ⟨w1.heap.size, 2, none⟩ = some (.int .i64 cb) ∧ w6.cell? ⟨w1.heap.size, 3, none⟩ = some (.int .i64 cn) ∧ w6.cell? ⟨w2.heap.size, 0, none⟩ = some (.int .i64 tk) ∧ w6.cell? ⟨w2.heap.size, 1, none⟩ = some (.bool tn) ∧ w6.cell? ⟨w2.heap.size, 2, none⟩ = some (.int .i64 lk) ∧ w6.cell? ⟨w2.heap.size, 3, none⟩ = some (.int .i64 la) ∧ w6.cell? ⟨w2.heap.size, 4, none⟩ = some (.int .i64 lb) ∧ w6.cell? ⟨w2.heap.size, 5, none⟩ = some (.int .i64 ln) ∧ w6.cell? ⟨w2.heap.size, 6, none⟩ = some (.int .i64 rk) ∧ w6.cell? ⟨w2.heap.size, 7, none⟩ = some (.int .i64 ra) ∧ w6.cell? ⟨w2.heap.size, 8, none⟩ = some (.int .i64 rb) ∧ w6.cell? ⟨w2.heap.size, 9, none⟩ = some (.int .i64 rn) := (by obtain ⟨_, a0, a1, a2, a3⟩ := XC6.out; obtain ⟨_, b0, b1, ⟨b2, b3, b4, b5⟩, b6, b7, b8, b9⟩ := XT6.out; exact ⟨a0, a1, a2, a3, b0, b1, b2, b3, b4, b5, b6, b7, b8, b9⟩); clear hb hb6)
        | (have hG := B4; clear hG; go_at_call 8; refine (implTestOk_any ⟨tk, tn, ⟨lk, la, lb, ln⟩, ⟨rk, ra, rb, rn⟩⟩ _ _ p (HP.out.below (by first | exact B4.out | exact B4.out.drew | exact below_drewN B4.out _))).mono ?_; rw [← HYV.out]; rintro e w5 ⟨rfl, hb5⟩; have hb : Below w4.heap.size w4 w5 := (by first | exact hb5 | exact (Below.drew (Below.refl _ _)).trans hb5); have B5 : Hid (Below w.heap.size w w5) := bel_then B4.out hb; have XC5 : Hid (Box4 w5 w1.heap.size ⟨ck, ca, cb, cn⟩) := XC4.out.below hb; have XT5 : Hid (Box10 w5 w2.heap.size ⟨tk, tn, ⟨lk, la, lb, ln⟩, ⟨rk, ra, rb, rn⟩⟩) := XT4.out.below hb; have Y5 : w5.cell? ⟨w1.heap.size, 0, none⟩ = some (.int .i64 ck) ∧ w5.cell? ⟨w1.heap.size, 1, none⟩ = some (.int .i64 ca) ∧ w5.cell? ⟨w1.heap.size, 2, none⟩ = some (.int .i64 cb) ∧ w5.cell? ⟨w1.heap.size, 3, none⟩ = some (.int .i64 cn) ∧ w5.cell? ⟨w2.heap.size, 0, none⟩ = some (.int .i64 tk) ∧ w5.cell? ⟨w2.heap.size, 1, none⟩ = some (.bool tn) ∧ w5.cell? ⟨w2.heap.size, 2, none⟩ = some (.int .i64 lk) ∧ w5.cell? ⟨w2.heap.size, 3, none⟩ = some (.int .i64 la) ∧ w5.cell? ⟨w2.heap.size, 4, none⟩ = some (.int .i64 lb) ∧ w5.cell? ⟨w2.heap.size, 5, none⟩ = some (.int .i64 ln) ∧ w5.cell? ⟨w2.heap.size, 6, none⟩ = some (.int .i64 rk) ∧ w5.cell? ⟨w2.heap.size, 7, none⟩ = some (.int .i64 ra) ∧ w5.cell? ⟨w2.heap.size, 8, none⟩ = some (.int .i64 rb) ∧ w5.cell? ⟨w2.heap.size, 9, none⟩ = some (.int .i64 rn) := (by obtain ⟨_, a0, a1, a2, a3⟩ := XC5.out; obtain ⟨_, b0, b1, ⟨b2, b3, b4, b5⟩, b6, b7, b8, b9⟩ := XT5.out; exact ⟨a0, a1, a2, a3, b0, b1, b2, b3, b4, b5, b6, b7, b8, b9⟩); clear hb hb5)
        | (have hG := B3; clear hG; go_at_call 7; refine (specCellOk_any ⟨ck, ca, cb, cn⟩ _ _).mono ?_; rw [← HXV.out]; rintro e w4 ⟨rfl, hb4⟩; have hb : Below w3.heap.size w3 w4 := (by first | exact hb4 | exact (Below.drew (Below.refl _ _)).trans hb4); have B4 : Hid (Below w.heap.size w w4) := bel_then B3.out hb; have XC4 : Hid (Box4 w4 w1.heap.size ⟨ck, ca, cb, cn⟩) := XC3.out.below hb; have XT4 : Hid (Box10 w4 w2.heap.size ⟨tk, tn, ⟨lk, la, lb, ln⟩, ⟨rk, ra, rb, rn⟩⟩) := XT3.out.below hb; have Y4 : w4.cell? ⟨w1.heap.size, 0, none⟩ = some (.int .i64 ck) ∧ w4.cell? ⟨w1.heap.size, 1, none⟩ = some (.int .i64 ca) ∧ w4.cell? ⟨w1.heap.size, 2, none⟩ = some (.int .i64 cb) ∧ w4.cell? ⟨w1.heap.size, 3, none⟩ = some (.int .i64 cn) ∧ w4.cell? ⟨w2.heap.size, 0, none⟩ = some (.int .i64 tk) ∧ w4.cell? ⟨w2.heap.size, 1, none⟩ = some (.bool tn) ∧ w4.cell? ⟨w2.heap.size, 2, none⟩ = some (.int .i64 lk) ∧ w4.cell? ⟨w2.heap.size, 3, none⟩ = some (.int .i64 la) ∧ w4.cell? ⟨w2.heap.size, 4, none⟩ = some (.int .i64 lb) ∧ w4.cell? ⟨w2.heap.size, 5, none⟩ = some (.int .i64 ln) ∧ w4.cell? ⟨w2.heap.size, 6, none⟩ = some (.int .i64 rk) ∧ w4.cell? ⟨w2.heap.size, 7, none⟩ = some (.int .i64 ra) ∧ w4.cell? ⟨w2.heap.size, 8, none⟩ = some (.int .i64 rb) ∧ w4.cell? ⟨w2.heap.size, 9, none⟩ = some (.int .i64 rn) := (by obtain ⟨_, a0, a1, a2, a3⟩ := XC4.out; obtain ⟨_, b0, b1, ⟨b2, b3, b4, b5⟩, b6, b7, b8, b9⟩ := XT4.out; exact ⟨a0, a1, a2, a3, b0, b1, b2, b3, b4, b5, b6, b7, b8, b9⟩); clear hb hb4)
        | (go_at_call 6; refine (implCellOk_any ⟨ck, ca, cb, cn⟩ _ _ p (HP.out.below (by first | exact B0.out | exact B0.out.drew | exact below_drewN B0.out _))).mono ?_; rw [← HXV.out]; rintro e w3 ⟨rfl, hb3⟩; have hb : Below (w2.alloc (.cells #[.int .i64 tk, .bool tn, .int .i64 lk, .int .i64 la, .int .i64 lb, .int .i64 ln, .int .i64 rk, .int .i64 ra, .int .i64 rb, .int .i64 rn] 28)).heap.size (w2.alloc (.cells #[.int .i64 tk, .bool tn, .int .i64 lk, .int .i64 la, .int .i64 lb, .int .i64 ln, .int .i64 rk, .int .i64 ra, .int .i64 rb, .int .i64 rn] 28)) w3 := (by first | exact hb3 | exact (Below.drew (Below.refl _ _)).trans hb3); have B3 : Hid (Below w.heap.size w w3) := bel_then B0.out hb; have XC3 : Hid (Box4 w3 w1.heap.size ⟨ck, ca, cb, cn⟩) := XC0.out.below hb; have XT3 : Hid (Box10 w3 w2.heap.size ⟨tk, tn, ⟨lk, la, lb, ln⟩, ⟨rk, ra, rb, rn⟩⟩) := XT0.out.below hb; have Y3 : w3.cell? ⟨w1.heap.size, 0, none⟩ = some (.int .i64 ck) ∧ w3.cell? ⟨w1.heap.size, 1, none⟩ = some (.int .i64 ca) ∧ w3.cell? ⟨w1.heap.size, 2, none⟩ = some (.int .i64 cb) ∧ w3.cell? ⟨w1.heap.size, 3, none⟩ = some (.int .i64 cn) ∧ w3.cell? ⟨w2.heap.size, 0, none⟩ = some (.int .i64 tk) ∧ w3.cell? ⟨w2.heap.size, 1, none⟩ = some (.bool tn) ∧ w3.cell? ⟨w2.heap.size, 2, none⟩ = some (.int .i64 lk) ∧ w3.cell? ⟨w2.heap.size, 3, none⟩ = some (.int .i64 la) ∧ w3.cell? ⟨w2.heap.size, 4, none⟩ = some (.int .i64 lb) ∧ w3.cell? ⟨w2.heap.size, 5, none⟩ = some (.int .i64 ln) ∧ w3.cell? ⟨w2.heap.size, 6, none⟩ = some (.int .i64 rk) ∧ w3.cell? ⟨w2.heap.size, 7, none⟩ = some (.int .i64 ra) ∧ w3.cell? ⟨w2.heap.size, 8, none⟩ = some (.int .i64 rb) ∧ w3.cell? ⟨w2.heap.size, 9, none⟩ = some (.int .i64 rn) := (by obtain ⟨_, a0, a1, a2, a3⟩ := XC3.out; obtain ⟨_, b0, b1, ⟨b2, b3, b4, b5⟩, b6, b7, b8, b9⟩ := XT3.out; exact ⟨a0, a1, a2, a3, b0, b1, b2, b3, b4, b5, b6, b7, b8, b9⟩); clear hb hb3))
    all_goals (go_wp2_with fail)
    all_goals go_meet
    all_goals (case rel => exact ⟨rfl, B6.out, XC6.out, XT6.out⟩)
  case rest =>
    obtain ⟨rfl, B6, XC6, XT6⟩ := hcut
    clear Y0 XC0 XT0 B0 B2
    obtain ⟨w6, hw6⟩ : ∃ w6, w6 = wc := ⟨_, rfl⟩
    subst hw6
    have Y6 : w6.cell? ⟨w1.heap.size, 0, none⟩ = some (.int .i64 ck) ∧ w6.cell? ⟨w1.heap.size, 1, none⟩ = some (.int .i64 ca) ∧ w6.cell? ⟨w1.heap.size, 2, none⟩ = some (.int .i64 cb) ∧ w6.cell? ⟨w1.heap.size, 3, none⟩ = some (.int .i64 cn) ∧ w6.cell? ⟨w2.heap.size, 0, none⟩ = some (.int .i64 tk) ∧ w6.cell? ⟨w2.heap.size, 1, none⟩ = some (.bool tn) ∧ w6.cell? ⟨w2.heap.size, 2, none⟩ = some (.int .i64 lk) ∧ w6.cell? ⟨w2.heap.size, 3, none⟩ = some (.int .i64 la) ∧ w6.cell? ⟨w2.heap.size, 4, none⟩ = some (.int .i64 lb) ∧ w6.cell? ⟨w2.heap.size, 5, none⟩ = some (.int .i64 ln) ∧ w6.cell? ⟨w2.heap.size, 6, none⟩ = some (.int .i64 rk) ∧ w6.cell? ⟨w2.heap.size, 7, none⟩ = some (.int .i64 ra) ∧ w6.cell? ⟨w2.heap.size, 8, none⟩ = some (.int .i64 rb) ∧ w6.cell? ⟨w2.heap.size, 9, none⟩ = some (.int .i64 rn) := (by obtain ⟨_, a0, a1, a2, a3⟩ := XC6.out; obtain ⟨_, b0, b1, ⟨b2, b3, b4, b5⟩, b6, b7, b8, b9⟩ := XT6.out; exact ⟨a0, a1, a2, a3, b0, b1, b2, b3, b4, b5, b6, b7, b8, b9⟩)
    go_wp2_with fail
    go_cut [60] (fun c wx => c = .bool false ∧ Hid (Below w.heap.size w wx) ∧ Hid (Box4 wx w1.heap.size ⟨ck, ca, cb, cn⟩) ∧ Hid (Box10 wx w2.heap.size ⟨tk, tn, ⟨lk, la, lb, ln⟩, ⟨rk, ra, rb, rn⟩⟩))
    case first =>
      cases hl : Cel.okB ⟨lk, la, lb, ln⟩ n2
      · obtain rfl : y = false := by rw [HYV.out]; simp [Tst.okB, hl]
        refine wp_region_held_drew (S := (fun w' => w'.cell? ⟨w1.heap.size, 0, none⟩ = some (.int .i64 ck) ∧ w'.cell? ⟨w1.heap.size, 1, none⟩ = some (.int .i64 ca) ∧ w'.cell? ⟨w1.heap.size, 2, none⟩ = some (.int .i64 cb) ∧ w'.cell? ⟨w1.heap.size, 3, none⟩ = some (.int .i64 cn) ∧ w'.cell? ⟨w2.heap.size, 0, none⟩ = some (.int .i64 tk) ∧ w'.cell? ⟨w2.heap.size, 1, none⟩ = some (.bool tn) ∧ w'.cell? ⟨w2.heap.size, 2, none⟩ = some (.int .i64 lk) ∧ w'.cell? ⟨w2.heap.size, 3, none⟩ = some (.int .i64 la) ∧ w'.cell? ⟨w2.heap.size, 4, none⟩ = some (.int .i64 lb) ∧ w'.cell? ⟨w2.heap.size, 5, none⟩ = some (.int .i64 ln) ∧ w'.cell? ⟨w2.heap.size, 6, none⟩ = some (.int .i64 rk) ∧ w'.cell? ⟨w2.heap.size, 7, none⟩ = some (.int .i64 ra) ∧ w'.cell? ⟨w2.heap.size, 8, none⟩ = some (.int .i64 rb) ∧ w'.cell? ⟨w2.heap.size, 9, none⟩ = some (.int .i64 rn))) (by kernel_rfl) ?_ (fun hHeld => ?_)
        · (try dsimp only); exact Y6
        refine wpAnyH_take (i := 0) (v := ?_) rfl (by kernel_rfl) (by kernel_rfl) (by kernel_rfl) (fun _ _ _ h => h) (Or.inl ⟨by rfl, ?_⟩) (by assumption) ?_
        rotate_left 1
        · intro w hSw; (try dsimp only at hSw); go_simp; try with_reducible rfl
        simp only [Act.put, List.getElem_toArray, List.getElem_cons_succ, List.getElem_cons_zero, List.setIfInBounds_toArray, List.set_cons_zero, List.set_cons_succ]
        refine wpAnyH_take (i := 1) (v := ?_) rfl (by kernel_rfl) (by kernel_rfl) (by kernel_rfl) (fun _ _ _ h => h) (Or.inl ⟨by rfl, ?_⟩) (by assumption) ?_
        rotate_left 1
        · intro w hSw; (try dsimp only at hSw); go_simp; try with_reducible rfl
        simp only [Act.put, List.getElem_toArray, List.getElem_cons_succ, List.getElem_cons_zero, List.setIfInBounds_toArray, List.set_cons_zero, List.set_cons_succ]
        refine wpAnyH_take (i := 3) (v := ?_) rfl (by kernel_rfl) (by kernel_rfl) (by kernel_rfl) (fun _ _ _ h => h) (Or.inl ⟨by rfl, ?_⟩) (by assumption) ?_
        rotate_left 1
        · intro w hSw; (try dsimp only at hSw); go_simp; try with_reducible rfl
        simp only [Act.put, List.getElem_toArray, List.getElem_cons_succ, List.getElem_cons_zero, List.setIfInBounds_toArray, List.set_cons_zero, List.set_cons_succ]
        refine wpAnyH_take (i := 4) (v := ?_) rfl (by kernel_rfl) (by kernel_rfl) (by kernel_rfl) (fun _ _ _ h => h) (Or.inl ⟨by rfl, ?_⟩) (by assumption) ?_
        rotate_left 1
        · intro w hSw; (try dsimp only at hSw); go_simp; try with_reducible rfl
        simp only [Act.put, List.getElem_toArray, List.getElem_cons_succ, List.getElem_cons_zero, List.setIfInBounds_toArray, List.set_cons_zero, List.set_cons_succ]
        refine wpAnyH_take (i := 5) (v := ?_) rfl (by kernel_rfl) (by kernel_rfl) (by kernel_rfl) (fun _ _ _ h => h) (Or.inl ⟨by rfl, ?_⟩) (by assumption) ?_
        rotate_left 1
        · intro w hSw; (try dsimp only at hSw); go_simp; try with_reducible rfl
        simp only [Act.put, List.getElem_toArray, List.getElem_cons_succ, List.getElem_cons_zero, List.setIfInBounds_toArray, List.set_cons_zero, List.set_cons_succ]
        refine wpAnyH_ready (rs := [2]) (by kernel_rfl) (by simp) ?_
        refine AllReadyH.cons rfl (fun K hK => ?_) AllReadyH.nil
        go_simp
        go_at_call 8; refine (implTestOk_any ⟨tk, tn, ⟨lk, la, lb, ln⟩, ⟨rk, ra, rb, rn⟩⟩ _ _ p (HP.out.below (by first | exact B6.out | exact B6.out.drew | exact below_drewN B6.out _))).mono ?_; rw [← HYV.out]; rintro e w7 ⟨rfl, hb7⟩; have hb : Below w6.heap.size w6 w7 := (by first | exact hb7 | exact (Below.drew (Below.refl _ _)).trans hb7); have B7 : Hid (Below w.heap.size w w7) := bel_then B6.out hb; have XC7 : Hid (Box4 w7 w1.heap.size ⟨ck, ca, cb, cn⟩) := XC6.out.below hb; have XT7 : Hid (Box10 w7 w2.heap.size ⟨tk, tn, ⟨lk, la, lb, ln⟩, ⟨rk, ra, rb, rn⟩⟩) := XT6.out.below hb; have Y7 : w7.cell? ⟨w1.heap.size, 0, none⟩ = some (.int .i64 ck) ∧ w7.cell? ⟨w1.heap.size, 1, none⟩ = some (.int .i64 ca) ∧ w7.cell? ⟨w1.heap.size, 2, none⟩ = some (.int .i64 cb) ∧ w7.cell? ⟨w1.heap.size, 3, none⟩ = some (.int .i64 cn) ∧ w7.cell? ⟨w2.heap.size, 0, none⟩ = some (.int .i64 tk) ∧ w7.cell? ⟨w2.heap.size, 1, none⟩ = some (.bool tn) ∧ w7.cell? ⟨w2.heap.size, 2, none⟩ = some (.int .i64 lk) ∧ w7.cell? ⟨w2.heap.size, 3, none⟩ = some (.int .i64 la) ∧ w7.cell? ⟨w2.heap.size, 4, none⟩ = some (.int .i64 lb) ∧ w7.cell? ⟨w2.heap.size, 5, none⟩ = some (.int .i64 ln) ∧ w7.cell? ⟨w2.heap.size, 6, none⟩ = some (.int .i64 rk) ∧ w7.cell? ⟨w2.heap.size, 7, none⟩ = some (.int .i64 ra) ∧ w7.cell? ⟨w2.heap.size, 8, none⟩ = some (.int .i64 rb) ∧ w7.cell? ⟨w2.heap.size, 9, none⟩ = some (.int .i64 rn) := (by obtain ⟨_, a0, a1, a2, a3⟩ := XC7.out; obtain ⟨_, b0, b1, ⟨b2, b3, b4, b5⟩, b6, b7, b8, b9⟩ := XT7.out; exact ⟨a0, a1, a2, a3, b0, b1, b2, b3, b4, b5, b6, b7, b8, b9⟩); clear hb hb7
        first | (refine hK.out _ _ ?_ (fun hHeld => ?_)) | (go_wp2_with fail; refine hK.out _ _ ?_ (fun hHeld => ?_))
        · (try dsimp only); exact Y7
        clear hK K
        try simp only [Act.put, List.getElem_toArray, List.getElem_cons_succ, List.getElem_cons_zero, List.setIfInBounds_toArray, List.set_cons_zero, List.set_cons_succ]
        refine wpAnyH_ready (rs := [6]) (by kernel_rfl) (by simp) ?_
        refine AllReadyH.cons rfl (fun K hK => ?_) AllReadyH.nil
        go_simp
        go_at_call 6; refine (implCellOk_any ⟨lk, la, lb, ln⟩ _ _ p (HP.out.below (by first | exact B7.out | exact B7.out.drew | exact below_drewN B7.out _))).mono ?_; rw [hl]; rintro e w8 ⟨rfl, hb8⟩; have hb : Below w7.heap.size w7 w8 := (by first | exact hb8 | exact (Below.drew (Below.refl _ _)).trans hb8); have B8 : Hid (Below w.heap.size w w8) := bel_then B7.out hb; have XC8 : Hid (Box4 w8 w1.heap.size ⟨ck, ca, cb, cn⟩) := XC7.out.below hb; have XT8 : Hid (Box10 w8 w2.heap.size ⟨tk, tn, ⟨lk, la, lb, ln⟩, ⟨rk, ra, rb, rn⟩⟩) := XT7.out.below hb; have Y8 : w8.cell? ⟨w1.heap.size, 0, none⟩ = some (.int .i64 ck) ∧ w8.cell? ⟨w1.heap.size, 1, none⟩ = some (.int .i64 ca) ∧ w8.cell? ⟨w1.heap.size, 2, none⟩ = some (.int .i64 cb) ∧ w8.cell? ⟨w1.heap.size, 3, none⟩ = some (.int .i64 cn) ∧ w8.cell? ⟨w2.heap.size, 0, none⟩ = some (.int .i64 tk) ∧ w8.cell? ⟨w2.heap.size, 1, none⟩ = some (.bool tn) ∧ w8.cell? ⟨w2.heap.size, 2, none⟩ = some (.int .i64 lk) ∧ w8.cell? ⟨w2.heap.size, 3, none⟩ = some (.int .i64 la) ∧ w8.cell? ⟨w2.heap.size, 4, none⟩ = some (.int .i64 lb) ∧ w8.cell? ⟨w2.heap.size, 5, none⟩ = some (.int .i64 ln) ∧ w8.cell? ⟨w2.heap.size, 6, none⟩ = some (.int .i64 rk) ∧ w8.cell? ⟨w2.heap.size, 7, none⟩ = some (.int .i64 ra) ∧ w8.cell? ⟨w2.heap.size, 8, none⟩ = some (.int .i64 rb) ∧ w8.cell? ⟨w2.heap.size, 9, none⟩ = some (.int .i64 rn) := (by obtain ⟨_, a0, a1, a2, a3⟩ := XC8.out; obtain ⟨_, b0, b1, ⟨b2, b3, b4, b5⟩, b6, b7, b8, b9⟩ := XT8.out; exact ⟨a0, a1, a2, a3, b0, b1, b2, b3, b4, b5, b6, b7, b8, b9⟩); clear hb hb8
        first | (refine hK.out _ _ ?_ (fun hHeld => ?_)) | (go_wp2_with fail; refine hK.out _ _ ?_ (fun hHeld => ?_))
        · (try dsimp only); exact Y8
        clear hK K
        try simp only [Act.put, List.getElem_toArray, List.getElem_cons_succ, List.getElem_cons_zero, List.setIfInBounds_toArray, List.set_cons_zero, List.set_cons_succ]
        refine wpAnyH_take (i := 7) (v := ?_) rfl (by kernel_rfl) (by kernel_rfl) (by kernel_rfl) (fun _ _ _ h => h) (Or.inl ⟨by rfl, ?_⟩) (by assumption) ?_
        rotate_left 1
        · intro w hSw; (try dsimp only at hSw); go_simp; try with_reducible rfl
        simp only [Act.put, List.getElem_toArray, List.getElem_cons_succ, List.getElem_cons_zero, List.setIfInBounds_toArray, List.set_cons_zero, List.set_cons_succ]
        refine wpAnyH_take (i := 8) (v := undef) rfl (by kernel_rfl) (by kernel_rfl) (by kernel_rfl) (fun _ _ _ h => h) (Or.inr ⟨by rfl, rfl⟩) (by assumption) ?_
        simp only [Act.put, List.getElem_toArray, List.getElem_cons_succ, List.getElem_cons_zero, List.setIfInBounds_toArray, List.set_cons_zero, List.set_cons_succ]
        refine wpAnyH_take (i := 9) (v := undef) rfl (by kernel_rfl) (by kernel_rfl) (by kernel_rfl) (fun _ _ _ h => h) (Or.inr ⟨by rfl, rfl⟩) (by assumption) ?_
        simp only [Act.put, List.getElem_toArray, List.getElem_cons_succ, List.getElem_cons_zero, List.setIfInBounds_toArray, List.set_cons_zero, List.set_cons_succ]
        refine wpAnyH_take (i := 10) (v := undef) rfl (by kernel_rfl) (by kernel_rfl) (by kernel_rfl) (fun _ _ _ h => h) (Or.inr ⟨by rfl, rfl⟩) (by assumption) ?_
        simp only [Act.put, List.getElem_toArray, List.getElem_cons_succ, List.getElem_cons_zero, List.setIfInBounds_toArray, List.set_cons_zero, List.set_cons_succ]
        refine wpAnyH_take (i := 11) (v := undef) rfl (by kernel_rfl) (by kernel_rfl) (by kernel_rfl) (fun _ _ _ h => h) (Or.inr ⟨by rfl, rfl⟩) (by assumption) ?_
        simp only [Act.put, List.getElem_toArray, List.getElem_cons_succ, List.getElem_cons_zero, List.setIfInBounds_toArray, List.set_cons_zero, List.set_cons_succ]
        refine wpAnyH_take (i := 12) (v := ?_) rfl (by kernel_rfl) (by kernel_rfl) (by kernel_rfl) (fun _ _ _ h => h) (Or.inl ⟨by rfl, ?_⟩) (by assumption) ?_
        rotate_left 1
        · intro w hSw; (try dsimp only at hSw); go_simp; try with_reducible rfl
        simp only [Act.put, List.getElem_toArray, List.getElem_cons_succ, List.getElem_cons_zero, List.setIfInBounds_toArray, List.set_cons_zero, List.set_cons_succ]
        refine wpAnyH_take (i := 13) (v := ?_) rfl (by kernel_rfl) (by kernel_rfl) (by kernel_rfl) (fun _ _ _ h => h) (Or.inl ⟨by rfl, ?_⟩) (by assumption) ?_
        rotate_left 1
        · intro w hSw; (try dsimp only at hSw); go_simp; try with_reducible rfl
        simp only [Act.put, List.getElem_toArray, List.getElem_cons_succ, List.getElem_cons_zero, List.setIfInBounds_toArray, List.set_cons_zero, List.set_cons_succ]
        refine wpAnyH_take (i := 14) (v := undef) rfl (by kernel_rfl) (by kernel_rfl) (by kernel_rfl) (fun _ _ _ h => h) (Or.inr ⟨by rfl, rfl⟩) (by assumption) ?_
        simp only [Act.put, List.getElem_toArray, List.getElem_cons_succ, List.getElem_cons_zero, List.setIfInBounds_toArray, List.set_cons_zero, List.set_cons_succ]
        refine wpAnyH_take (i := 15) (v := undef) rfl (by kernel_rfl) (by kernel_rfl) (by kernel_rfl) (fun _ _ _ h => h) (Or.inr ⟨by rfl, rfl⟩) (by assumption) ?_
        simp only [Act.put, List.getElem_toArray, List.getElem_cons_succ, List.getElem_cons_zero, List.setIfInBounds_toArray, List.set_cons_zero, List.set_cons_succ]
        refine wpAnyH_take (i := 16) (v := undef) rfl (by kernel_rfl) (by kernel_rfl) (by kernel_rfl) (fun _ _ _ h => h) (Or.inr ⟨by rfl, rfl⟩) (by assumption) ?_
        simp only [Act.put, List.getElem_toArray, List.getElem_cons_succ, List.getElem_cons_zero, List.setIfInBounds_toArray, List.set_cons_zero, List.set_cons_succ]
        refine wpAnyH_take (i := 17) (v := undef) rfl (by kernel_rfl) (by kernel_rfl) (by kernel_rfl) (fun _ _ _ h => h) (Or.inr ⟨by rfl, rfl⟩) (by assumption) ?_
        simp only [Act.put, List.getElem_toArray, List.getElem_cons_succ, List.getElem_cons_zero, List.setIfInBounds_toArray, List.set_cons_zero, List.set_cons_succ]
        refine wpAnyH_take (i := 18) (v := undef) rfl (by kernel_rfl) (by kernel_rfl) (by kernel_rfl) (fun _ _ _ h => h) (Or.inr ⟨by rfl, rfl⟩) (by assumption) ?_
        simp only [Act.put, List.getElem_toArray, List.getElem_cons_succ, List.getElem_cons_zero, List.setIfInBounds_toArray, List.set_cons_zero, List.set_cons_succ]
        refine wpAnyH_take (i := 19) (v := undef) rfl (by kernel_rfl) (by kernel_rfl) (by kernel_rfl) (fun _ _ _ h => h) (Or.inr ⟨by rfl, rfl⟩) (by assumption) ?_
        simp only [Act.put, List.getElem_toArray, List.getElem_cons_succ, List.getElem_cons_zero, List.setIfInBounds_toArray, List.set_cons_zero, List.set_cons_succ]
        refine wpAnyH_take (i := 20) (v := undef) rfl (by kernel_rfl) (by kernel_rfl) (by kernel_rfl) (fun _ _ _ h => h) (Or.inr ⟨by rfl, rfl⟩) (by assumption) ?_
        simp only [Act.put, List.getElem_toArray, List.getElem_cons_succ, List.getElem_cons_zero, List.setIfInBounds_toArray, List.set_cons_zero, List.set_cons_succ]
        refine wpAnyH_take (i := 21) (v := undef) rfl (by kernel_rfl) (by kernel_rfl) (by kernel_rfl) (fun _ _ _ h => h) (Or.inr ⟨by rfl, rfl⟩) (by assumption) ?_
        simp only [Act.put, List.getElem_toArray, List.getElem_cons_succ, List.getElem_cons_zero, List.setIfInBounds_toArray, List.set_cons_zero, List.set_cons_succ]
        refine wpAnyH_take (i := 22) (v := ?_) rfl (by kernel_rfl) (by kernel_rfl) (by kernel_rfl) (fun _ _ _ h => h) (Or.inl ⟨by rfl, ?_⟩) (by assumption) ?_
        rotate_left 1
        · intro w hSw; (try dsimp only at hSw); go_simp; try with_reducible rfl
        simp only [Act.put, List.getElem_toArray, List.getElem_cons_succ, List.getElem_cons_zero, List.setIfInBounds_toArray, List.set_cons_zero, List.set_cons_succ]
        refine wpAnyH_take (i := 23) (v := ?_) rfl (by kernel_rfl) (by kernel_rfl) (by kernel_rfl) (fun _ _ _ h => h) (Or.inl ⟨by rfl, ?_⟩) (by assumption) ?_
        rotate_left 1
        · intro w hSw; (try dsimp only at hSw); go_simp; try with_reducible rfl
        simp only [Act.put, List.getElem_toArray, List.getElem_cons_succ, List.getElem_cons_zero, List.setIfInBounds_toArray, List.set_cons_zero, List.set_cons_succ]
        refine wpAnyH_done (by kernel_rfl) ?_ _
        go_wp2_with fail
        go_meet
        case rel => exact ⟨rfl, B8.out, XC8.out, XT8.out⟩
      · cases hr : Cel.okB ⟨rk, ra, rb, rn⟩ n2
        · obtain rfl : y = false := by rw [HYV.out]; simp [Tst.okB, hr]
          refine wp_region_held_drew (S := (fun w' => w'.cell? ⟨w1.heap.size, 0, none⟩ = some (.int .i64 ck) ∧ w'.cell? ⟨w1.heap.size, 1, none⟩ = some (.int .i64 ca) ∧ w'.cell? ⟨w1.heap.size, 2, none⟩ = some (.int .i64 cb) ∧ w'.cell? ⟨w1.heap.size, 3, none⟩ = some (.int .i64 cn) ∧ w'.cell? ⟨w2.heap.size, 0, none⟩ = some (.int .i64 tk) ∧ w'.cell? ⟨w2.heap.size, 1, none⟩ = some (.bool tn) ∧ w'.cell? ⟨w2.heap.size, 2, none⟩ = some (.int .i64 lk) ∧ w'.cell? ⟨w2.heap.size, 3, none⟩ = some (.int .i64 la) ∧ w'.cell? ⟨w2.heap.size, 4, none⟩ = some (.int .i64 lb) ∧ w'.cell? ⟨w2.heap.size, 5, none⟩ = some (.int .i64 ln) ∧ w'.cell? ⟨w2.heap.size, 6, none⟩ = some (.int .i64 rk) ∧ w'.cell? ⟨w2.heap.size, 7, none⟩ = some (.int .i64 ra) ∧ w'.cell? ⟨w2.heap.size, 8, none⟩ = some (.int .i64 rb) ∧ w'.cell? ⟨w2.heap.size, 9, none⟩ = some (.int .i64 rn))) (by kernel_rfl) ?_ (fun hHeld => ?_)
          · (try dsimp only); exact Y6
          refine wpAnyH_take (i := 0) (v := ?_) rfl (by kernel_rfl) (by kernel_rfl) (by kernel_rfl) (fun _ _ _ h => h) (Or.inl ⟨by rfl, ?_⟩) (by assumption) ?_
          rotate_left 1
          · intro w hSw; (try dsimp only at hSw); go_simp; try with_reducible rfl
          simp only [Act.put, List.getElem_toArray, List.getElem_cons_succ, List.getElem_cons_zero, List.setIfInBounds_toArray, List.set_cons_zero, List.set_cons_succ]
          refine wpAnyH_take (i := 1) (v := ?_) rfl (by kernel_rfl) (by kernel_rfl) (by kernel_rfl) (fun _ _ _ h => h) (Or.inl ⟨by rfl, ?_⟩) (by assumption) ?_
          rotate_left 1
          · intro w hSw; (try dsimp only at hSw); go_simp; try with_reducible rfl
          simp only [Act.put, List.getElem_toArray, List.getElem_cons_succ, List.getElem_cons_zero, List.setIfInBounds_toArray, List.set_cons_zero, List.set_cons_succ]
          refine wpAnyH_take (i := 3) (v := ?_) rfl (by kernel_rfl) (by kernel_rfl) (by kernel_rfl) (fun _ _ _ h => h) (Or.inl ⟨by rfl, ?_⟩) (by assumption) ?_
          rotate_left 1
          · intro w hSw; (try dsimp only at hSw); go_simp; try with_reducible rfl
          simp only [Act.put, List.getElem_toArray, List.getElem_cons_succ, List.getElem_cons_zero, List.setIfInBounds_toArray, List.set_cons_zero, List.set_cons_succ]
          refine wpAnyH_take (i := 4) (v := ?_) rfl (by kernel_rfl) (by kernel_rfl) (by kernel_rfl) (fun _ _ _ h => h) (Or.inl ⟨by rfl, ?_⟩) (by assumption) ?_
          rotate_left 1
          · intro w hSw; (try dsimp only at hSw); go_simp; try with_reducible rfl
          simp only [Act.put, List.getElem_toArray, List.getElem_cons_succ, List.getElem_cons_zero, List.setIfInBounds_toArray, List.set_cons_zero, List.set_cons_succ]
          refine wpAnyH_take (i := 5) (v := ?_) rfl (by kernel_rfl) (by kernel_rfl) (by kernel_rfl) (fun _ _ _ h => h) (Or.inl ⟨by rfl, ?_⟩) (by assumption) ?_
          rotate_left 1
          · intro w hSw; (try dsimp only at hSw); go_simp; try with_reducible rfl
          simp only [Act.put, List.getElem_toArray, List.getElem_cons_succ, List.getElem_cons_zero, List.setIfInBounds_toArray, List.set_cons_zero, List.set_cons_succ]
          refine wpAnyH_ready (rs := [2]) (by kernel_rfl) (by simp) ?_
          refine AllReadyH.cons rfl (fun K hK => ?_) AllReadyH.nil
          go_simp
          go_at_call 8; refine (implTestOk_any ⟨tk, tn, ⟨lk, la, lb, ln⟩, ⟨rk, ra, rb, rn⟩⟩ _ _ p (HP.out.below (by first | exact B6.out | exact B6.out.drew | exact below_drewN B6.out _))).mono ?_; rw [← HYV.out]; rintro e w7 ⟨rfl, hb7⟩; have hb : Below w6.heap.size w6 w7 := (by first | exact hb7 | exact (Below.drew (Below.refl _ _)).trans hb7); have B7 : Hid (Below w.heap.size w w7) := bel_then B6.out hb; have XC7 : Hid (Box4 w7 w1.heap.size ⟨ck, ca, cb, cn⟩) := XC6.out.below hb; have XT7 : Hid (Box10 w7 w2.heap.size ⟨tk, tn, ⟨lk, la, lb, ln⟩, ⟨rk, ra, rb, rn⟩⟩) := XT6.out.below hb; have Y7 : w7.cell? ⟨w1.heap.size, 0, none⟩ = some (.int .i64 ck) ∧ w7.cell? ⟨w1.heap.size, 1, none⟩ = some (.int .i64 ca) ∧ w7.cell? ⟨w1.heap.size, 2, none⟩ = some (.int .i64 cb) ∧ w7.cell? ⟨w1.heap.size, 3, none⟩ = some (.int .i64 cn) ∧ w7.cell? ⟨w2.heap.size, 0, none⟩ = some (.int .i64 tk) ∧ w7.cell? ⟨w2.heap.size, 1, none⟩ = some (.bool tn) ∧ w7.cell? ⟨w2.heap.size, 2, none⟩ = some (.int .i64 lk) ∧ w7.cell? ⟨w2.heap.size, 3, none⟩ = some (.int .i64 la) ∧ w7.cell? ⟨w2.heap.size, 4, none⟩ = some (.int .i64 lb) ∧ w7.cell? ⟨w2.heap.size, 5, none⟩ = some (.int .i64 ln) ∧ w7.cell? ⟨w2.heap.size, 6, none⟩ = some (.int .i64 rk) ∧ w7.cell? ⟨w2.heap.size, 7, none⟩ = some (.int .i64 ra) ∧ w7.cell? ⟨w2.heap.size, 8, none⟩ = some (.int .i64 rb) ∧ w7.cell? ⟨w2.heap.size, 9, none⟩ = some (.int .i64 rn) := (by obtain ⟨_, a0, a1, a2, a3⟩ := XC7.out; obtain ⟨_, b0, b1, ⟨b2, b3, b4, b5⟩, b6, b7, b8, b9⟩ := XT7.out; exact ⟨a0, a1, a2, a3, b0, b1, b2, b3, b4, b5, b6, b7, b8, b9⟩); clear hb hb7
          first | (refine hK.out _ _ ?_ (fun hHeld => ?_)) | (go_wp2_with fail; refine hK.out _ _ ?_ (fun hHeld => ?_))
          · (try dsimp only); exact Y7
          clear hK K
          try simp only [Act.put, List.getElem_toArray, List.getElem_cons_succ, List.getElem_cons_zero, List.setIfInBounds_toArray, List.set_cons_zero, List.set_cons_succ]
          refine wpAnyH_ready (rs := [6]) (by kernel_rfl) (by simp) ?_
          refine AllReadyH.cons rfl (fun K hK => ?_) AllReadyH.nil
          go_simp
          go_at_call 6; refine (implCellOk_any ⟨lk, la, lb, ln⟩ _ _ p (HP.out.below (by first | exact B7.out | exact B7.out.drew | exact below_drewN B7.out _))).mono ?_; rw [hl]; rintro e w8 ⟨rfl, hb8⟩; have hb : Below w7.heap.size w7 w8 := (by first | exact hb8 | exact (Below.drew (Below.refl _ _)).trans hb8); have B8 : Hid (Below w.heap.size w w8) := bel_then B7.out hb; have XC8 : Hid (Box4 w8 w1.heap.size ⟨ck, ca, cb, cn⟩) := XC7.out.below hb; have XT8 : Hid (Box10 w8 w2.heap.size ⟨tk, tn, ⟨lk, la, lb, ln⟩, ⟨rk, ra, rb, rn⟩⟩) := XT7.out.below hb; have Y8 : w8.cell? ⟨w1.heap.size, 0, none⟩ = some (.int .i64 ck) ∧ w8.cell? ⟨w1.heap.size, 1, none⟩ = some (.int .i64 ca) ∧ w8.cell? ⟨w1.heap.size, 2, none⟩ = some (.int .i64 cb) ∧ w8.cell? ⟨w1.heap.size, 3, none⟩ = some (.int .i64 cn) ∧ w8.cell? ⟨w2.heap.size, 0, none⟩ = some (.int .i64 tk) ∧ w8.cell? ⟨w2.heap.size, 1, none⟩ = some (.bool tn) ∧ w8.cell? ⟨w2.heap.size, 2, none⟩ = some (.int .i64 lk) ∧ w8.cell? ⟨w2.heap.size, 3, none⟩ = some (.int .i64 la) ∧ w8.cell? ⟨w2.heap.size, 4, none⟩ = some (.int .i64 lb) ∧ w8.cell? ⟨w2.heap.size, 5, none⟩ = some (.int .i64 ln) ∧ w8.cell? ⟨w2.heap.size, 6, none⟩ = some (.int .i64 rk) ∧ w8.cell? ⟨w2.heap.size, 7, none⟩ = some (.int .i64 ra) ∧ w8.cell? ⟨w2.heap.size, 8, none⟩ = some (.int .i64 rb) ∧ w8.cell? ⟨w2.heap.size, 9, none⟩ = some (.int .i64 rn) := (by obtain ⟨_, a0, a1, a2, a3⟩ := XC8.out; obtain ⟨_, b0, b1, ⟨b2, b3, b4, b5⟩, b6, b7, b8, b9⟩ := XT8.out; exact ⟨a0, a1, a2, a3, b0, b1, b2, b3, b4, b5, b6, b7, b8, b9⟩); clear hb hb8
          first | (refine hK.out _ _ ?_ (fun hHeld => ?_)) | (go_wp2_with fail; refine hK.out _ _ ?_ (fun hHeld => ?_))
          · (try dsimp only); exact Y8
          clear hK K
          try simp only [Act.put, List.getElem_toArray, List.getElem_cons_succ, List.getElem_cons_zero, List.setIfInBounds_toArray, List.set_cons_zero, List.set_cons_succ]
          refine wpAnyH_take (i := 7) (v := ?_) rfl (by kernel_rfl) (by kernel_rfl) (by kernel_rfl) (fun _ _ _ h => h) (Or.inl ⟨by rfl, ?_⟩) (by assumption) ?_
          rotate_left 1
          · intro w hSw; (try dsimp only at hSw); go_simp; try with_reducible rfl
          simp only [Act.put, List.getElem_toArray, List.getElem_cons_succ, List.getElem_cons_zero, List.setIfInBounds_toArray, List.set_cons_zero, List.set_cons_succ]
          refine wpAnyH_take (i := 8) (v := ?_) rfl (by kernel_rfl) (by kernel_rfl) (by kernel_rfl) (fun _ _ _ h => h) (Or.inl ⟨by rfl, ?_⟩) (by assumption) ?_
          rotate_left 1
          · intro w hSw; (try dsimp only at hSw); go_simp; try with_reducible rfl
          simp only [Act.put, List.getElem_toArray, List.getElem_cons_succ, List.getElem_cons_zero, List.setIfInBounds_toArray, List.set_cons_zero, List.set_cons_succ]
          refine wpAnyH_take (i := 9) (v := ?_) rfl (by kernel_rfl) (by kernel_rfl) (by kernel_rfl) (fun _ _ _ h => h) (Or.inl ⟨by rfl, ?_⟩) (by assumption) ?_
          rotate_left 1
          · intro w hSw; (try dsimp only at hSw); go_simp; try with_reducible rfl
          simp only [Act.put, List.getElem_toArray, List.getElem_cons_succ, List.getElem_cons_zero, List.setIfInBounds_toArray, List.set_cons_zero, List.set_cons_succ]
          refine wpAnyH_take (i := 10) (v := ?_) rfl (by kernel_rfl) (by kernel_rfl) (by kernel_rfl) (fun _ _ _ h => h) (Or.inl ⟨by rfl, ?_⟩) (by assumption) ?_
          rotate_left 1
          · intro w hSw; (try dsimp only at hSw); go_simp; try with_reducible rfl
          simp only [Act.put, List.getElem_toArray, List.getElem_cons_succ, List.getElem_cons_zero, List.setIfInBounds_toArray, List.set_cons_zero, List.set_cons_succ]
          refine wpAnyH_ready (rs := [11]) (by kernel_rfl) (by simp) ?_
          refine AllReadyH.cons rfl (fun K hK => ?_) AllReadyH.nil
          go_simp
          go_at_call 6; refine (implCellOk_any ⟨rk, ra, rb, rn⟩ _ _ p (HP.out.below (by first | exact B8.out | exact B8.out.drew | exact below_drewN B8.out _))).mono ?_; rw [hr]; rintro e w9 ⟨rfl, hb9⟩; have hb : Below w8.heap.size w8 w9 := (by first | exact hb9 | exact (Below.drew (Below.refl _ _)).trans hb9); have B9 : Hid (Below w.heap.size w w9) := bel_then B8.out hb; have XC9 : Hid (Box4 w9 w1.heap.size ⟨ck, ca, cb, cn⟩) := XC8.out.below hb; have XT9 : Hid (Box10 w9 w2.heap.size ⟨tk, tn, ⟨lk, la, lb, ln⟩, ⟨rk, ra, rb, rn⟩⟩) := XT8.out.below hb; have Y9 : w9.cell? ⟨w1.heap.size, 0, none⟩ = some (.int .i64 ck) ∧ w9.cell? ⟨w1.heap.size, 1, none⟩ = some (.int .i64 ca) ∧ w9.cell? ⟨w1.heap.size, 2, none⟩ = some (.int .i64 cb) ∧ w9.cell? ⟨w1.heap.size, 3, none⟩ = some (.int .i64 cn) ∧ w9.cell? ⟨w2.heap.size, 0, none⟩ = some (.int .i64 tk) ∧ w9.cell? ⟨w2.heap.size, 1, none⟩ = some (.bool tn) ∧ w9.cell? ⟨w2.heap.size, 2, none⟩ = some (.int .i64 lk) ∧ w9.cell? ⟨w2.heap.size, 3, none⟩ = some (.int .i64 la) ∧ w9.cell? ⟨w2.heap.size, 4, none⟩ = some (.int .i64 lb) ∧ w9.cell? ⟨w2.heap.size, 5, none⟩ = some (.int .i64 ln) ∧ w9.cell? ⟨w2.heap.size, 6, none⟩ = some (.int .i64 rk) ∧ w9.cell? ⟨w2.heap.size, 7, none⟩ = some (.int .i64 ra) ∧ w9.cell? ⟨w2.heap.size, 8, none⟩ = some (.int .i64 rb) ∧ w9.cell? ⟨w2.heap.size, 9, none⟩ = some (.int .i64 rn) := (by obtain ⟨_, a0, a1, a2, a3⟩ := XC9.out; obtain ⟨_, b0, b1, ⟨b2, b3, b4, b5⟩, b6, b7, b8, b9⟩ := XT9.out; exact ⟨a0, a1, a2, a3, b0, b1, b2, b3, b4, b5, b6, b7, b8, b9⟩); clear hb hb9
          first | (refine hK.out _ _ ?_ (fun hHeld => ?_)) | (go_wp2_with fail; refine hK.out _ _ ?_ (fun hHeld => ?_))
          · (try dsimp only); exact Y9
          clear hK K
          try simp only [Act.put, List.getElem_toArray, List.getElem_cons_succ, List.getElem_cons_zero, List.setIfInBounds_toArray, List.set_cons_zero, List.set_cons_succ]
          refine wpAnyH_take (i := 12) (v := ?_) rfl (by kernel_rfl) (by kernel_rfl) (by kernel_rfl) (fun _ _ _ h => h) (Or.inl ⟨by rfl, ?_⟩) (by assumption) ?_
          rotate_left 1
          · intro w hSw; (try dsimp only at hSw); go_simp; try with_reducible rfl
          simp only [Act.put, List.getElem_toArray, List.getElem_cons_succ, List.getElem_cons_zero, List.setIfInBounds_toArray, List.set_cons_zero, List.set_cons_succ]
          refine wpAnyH_take (i := 13) (v := ?_) rfl (by kernel_rfl) (by kernel_rfl) (by kernel_rfl) (fun _ _ _ h => h) (Or.inl ⟨by rfl, ?_⟩) (by assumption) ?_
          rotate_left 1
          · intro w hSw; (try dsimp only at hSw); go_simp; try with_reducible rfl
          simp only [Act.put, List.getElem_toArray, List.getElem_cons_succ, List.getElem_cons_zero, List.setIfInBounds_toArray, List.set_cons_zero, List.set_cons_succ]
          refine wpAnyH_take (i := 14) (v := undef) rfl (by kernel_rfl) (by kernel_rfl) (by kernel_rfl) (fun _ _ _ h => h) (Or.inr ⟨by rfl, rfl⟩) (by assumption) ?_
          simp only [Act.put, List.getElem_toArray, List.getElem_cons_succ, List.getElem_cons_zero, List.setIfInBounds_toArray, List.set_cons_zero, List.set_cons_succ]
          refine wpAnyH_take (i := 15) (v := undef) rfl (by kernel_rfl) (by kernel_rfl) (by kernel_rfl) (fun _ _ _ h => h) (Or.inr ⟨by rfl, rfl⟩) (by assumption) ?_
          simp only [Act.put, List.getElem_toArray, List.getElem_cons_succ, List.getElem_cons_zero, List.setIfInBounds_toArray, List.set_cons_zero, List.set_cons_succ]
          refine wpAnyH_take (i := 16) (v := undef) rfl (by kernel_rfl) (by kernel_rfl) (by kernel_rfl) (fun _ _ _ h => h) (Or.inr ⟨by rfl, rfl⟩) (by assumption) ?_
          simp only [Act.put, List.getElem_toArray, List.getElem_cons_succ, List.getElem_cons_zero, List.setIfInBounds_toArray, List.set_cons_zero, List.set_cons_succ]
          refine wpAnyH_take (i := 17) (v := undef) rfl (by kernel_rfl) (by kernel_rfl) (by kernel_rfl) (fun _ _ _ h => h) (Or.inr ⟨by rfl, rfl⟩) (by assumption) ?_
          simp only [Act.put, List.getElem_toArray, List.getElem_cons_succ, List.getElem_cons_zero, List.setIfInBounds_toArray, List.set_cons_zero, List.set_cons_succ]
          refine wpAnyH_take (i := 18) (v := undef) rfl (by kernel_rfl) (by kernel_rfl) (by kernel_rfl) (fun _ _ _ h => h) (Or.inr ⟨by rfl, rfl⟩) (by assumption) ?_
          simp only [Act.put, List.getElem_toArray, List.getElem_cons_succ, List.getElem_cons_zero, List.setIfInBounds_toArray, List.set_cons_zero, List.set_cons_succ]
          refine wpAnyH_take (i := 19) (v := undef) rfl (by kernel_rfl) (by kernel_rfl) (by kernel_rfl) (fun _ _ _ h => h) (Or.inr ⟨by rfl, rfl⟩) (by assumption) ?_
          simp only [Act.put, List.getElem_toArray, List.getElem_cons_succ, List.getElem_cons_zero, List.setIfInBounds_toArray, List.set_cons_zero, List.set_cons_succ]
          refine wpAnyH_take (i := 20) (v := undef) rfl (by kernel_rfl) (by kernel_rfl) (by kernel_rfl) (fun _ _ _ h => h) (Or.inr ⟨by rfl, rfl⟩) (by assumption) ?_
          simp only [Act.put, List.getElem_toArray, List.getElem_cons_succ, List.getElem_cons_zero, List.setIfInBounds_toArray, List.set_cons_zero, List.set_cons_succ]
          refine wpAnyH_take (i := 21) (v := undef) rfl (by kernel_rfl) (by kernel_rfl) (by kernel_rfl) (fun _ _ _ h => h) (Or.inr ⟨by rfl, rfl⟩) (by assumption) ?_
          simp only [Act.put, List.getElem_toArray, List.getElem_cons_succ, List.getElem_cons_zero, List.setIfInBounds_toArray, List.set_cons_zero, List.set_cons_succ]
          refine wpAnyH_take (i := 22) (v := ?_) rfl (by kernel_rfl) (by kernel_rfl) (by kernel_rfl) (fun _ _ _ h => h) (Or.inl ⟨by rfl, ?_⟩) (by assumption) ?_
          rotate_left 1
          · intro w hSw; (try dsimp only at hSw); go_simp; try with_reducible rfl
          simp only [Act.put, List.getElem_toArray, List.getElem_cons_succ, List.getElem_cons_zero, List.setIfInBounds_toArray, List.set_cons_zero, List.set_cons_succ]
          refine wpAnyH_take (i := 23) (v := ?_) rfl (by kernel_rfl) (by kernel_rfl) (by kernel_rfl) (fun _ _ _ h => h) (Or.inl ⟨by rfl, ?_⟩) (by assumption) ?_
          rotate_left 1
          · intro w hSw; (try dsimp only at hSw); go_simp; try with_reducible rfl
          simp only [Act.put, List.getElem_toArray, List.getElem_cons_succ, List.getElem_cons_zero, List.setIfInBounds_toArray, List.set_cons_zero, List.set_cons_succ]
          refine wpAnyH_done (by kernel_rfl) ?_ _
          go_wp2_with fail
          go_meet
          case rel => exact ⟨rfl, B9.out, XC9.out, XT9.out⟩
        · by_cases hk1 : tk = 1
          · have hkk : (tk == 1) = true := by simpa using hk1
            obtain rfl : y = true := by rw [HYV.out]; simp [Tst.okB, hl, hr, hk1]
            clear hk1
            refine wp_region_held_drew (S := (fun w' => w'.cell? ⟨w1.heap.size, 0, none⟩ = some (.int .i64 ck) ∧ w'.cell? ⟨w1.heap.size, 1, none⟩ = some (.int .i64 ca) ∧ w'.cell? ⟨w1.heap.size, 2, none⟩ = some (.int .i64 cb) ∧ w'.cell? ⟨w1.heap.size, 3, none⟩ = some (.int .i64 cn) ∧ w'.cell? ⟨w2.heap.size, 0, none⟩ = some (.int .i64 tk) ∧ w'.cell? ⟨w2.heap.size, 1, none⟩ = some (.bool tn) ∧ w'.cell? ⟨w2.heap.size, 2, none⟩ = some (.int .i64 lk) ∧ w'.cell? ⟨w2.heap.size, 3, none⟩ = some (.int .i64 la) ∧ w'.cell? ⟨w2.heap.size, 4, none⟩ = some (.int .i64 lb) ∧ w'.cell? ⟨w2.heap.size, 5, none⟩ = some (.int .i64 ln) ∧ w'.cell? ⟨w2.heap.size, 6, none⟩ = some (.int .i64 rk) ∧ w'.cell? ⟨w2.heap.size, 7, none⟩ = some (.int .i64 ra) ∧ w'.cell? ⟨w2.heap.size, 8, none⟩ = some (.int .i64 rb) ∧ w'.cell? ⟨w2.heap.size, 9, none⟩ = some (.int .i64 rn))) (by kernel_rfl) ?_ (fun hHeld => ?_)
            · (try dsimp only); exact Y6
            refine wpAnyH_take (i := 0) (v := ?_) rfl (by kernel_rfl) (by kernel_rfl) (by kernel_rfl) (fun _ _ _ h => h) (Or.inl ⟨by rfl, ?_⟩) (by assumption) ?_
            rotate_left 1
            · intro w hSw; (try dsimp only at hSw); go_simp; try with_reducible rfl
            simp only [Act.put, List.getElem_toArray, List.getElem_cons_succ, List.getElem_cons_zero, List.setIfInBounds_toArray, List.set_cons_zero, List.set_cons_succ]
            refine wpAnyH_take (i := 1) (v := ?_) rfl (by kernel_rfl) (by kernel_rfl) (by kernel_rfl) (fun _ _ _ h => h) (Or.inl ⟨by rfl, ?_⟩) (by assumption) ?_
            rotate_left 1
            · intro w hSw; (try dsimp only at hSw); go_simp; try with_reducible rfl
            simp only [Act.put, List.getElem_toArray, List.getElem_cons_succ, List.getElem_cons_zero, List.setIfInBounds_toArray, List.set_cons_zero, List.set_cons_succ]
            refine wpAnyH_take (i := 3) (v := ?_) rfl (by kernel_rfl) (by kernel_rfl) (by kernel_rfl) (fun _ _ _ h => h) (Or.inl ⟨by rfl, ?_⟩) (by assumption) ?_
            rotate_left 1
            · intro w hSw; (try dsimp only at hSw); go_simp; try with_reducible rfl
            simp only [Act.put, List.getElem_toArray, List.getElem_cons_succ, List.getElem_cons_zero, List.setIfInBounds_toArray, List.set_cons_zero, List.set_cons_succ]
            refine wpAnyH_take (i := 4) (v := ?_) rfl (by kernel_rfl) (by kernel_rfl) (by kernel_rfl) (fun _ _ _ h => h) (Or.inl ⟨by rfl, ?_⟩) (by assumption) ?_
            rotate_left 1
            · intro w hSw; (try dsimp only at hSw); go_simp; try with_reducible rfl
            simp only [Act.put, List.getElem_toArray, List.getElem_cons_succ, List.getElem_cons_zero, List.setIfInBounds_toArray, List.set_cons_zero, List.set_cons_succ]
            refine wpAnyH_take (i := 5) (v := ?_) rfl (by kernel_rfl) (by kernel_rfl) (by kernel_rfl) (fun _ _ _ h => h) (Or.inl ⟨by rfl, ?_⟩) (by assumption) ?_
            rotate_left 1
            · intro w hSw; (try dsimp only at hSw); go_simp; try with_reducible rfl
            simp only [Act.put, List.getElem_toArray, List.getElem_cons_succ, List.getElem_cons_zero, List.setIfInBounds_toArray, List.set_cons_zero, List.set_cons_succ]
            refine wpAnyH_ready (rs := [2]) (by kernel_rfl) (by simp) ?_
            refine AllReadyH.cons rfl (fun K hK => ?_) AllReadyH.nil
            go_simp
            go_at_call 8; refine (implTestOk_any ⟨tk, tn, ⟨lk, la, lb, ln⟩, ⟨rk, ra, rb, rn⟩⟩ _ _ p (HP.out.below (by first | exact B6.out | exact B6.out.drew | exact below_drewN B6.out _))).mono ?_; rw [← HYV.out]; rintro e w7 ⟨rfl, hb7⟩; have hb : Below w6.heap.size w6 w7 := (by first | exact hb7 | exact (Below.drew (Below.refl _ _)).trans hb7); have B7 : Hid (Below w.heap.size w w7) := bel_then B6.out hb; have XC7 : Hid (Box4 w7 w1.heap.size ⟨ck, ca, cb, cn⟩) := XC6.out.below hb; have XT7 : Hid (Box10 w7 w2.heap.size ⟨tk, tn, ⟨lk, la, lb, ln⟩, ⟨rk, ra, rb, rn⟩⟩) := XT6.out.below hb; have Y7 : w7.cell? ⟨w1.heap.size, 0, none⟩ = some (.int .i64 ck) ∧ w7.cell? ⟨w1.heap.size, 1, none⟩ = some (.int .i64 ca) ∧ w7.cell? ⟨w1.heap.size, 2, none⟩ = some (.int .i64 cb) ∧ w7.cell? ⟨w1.heap.size, 3, none⟩ = some (.int .i64 cn) ∧ w7.cell? ⟨w2.heap.size, 0, none⟩ = some (.int .i64 tk) ∧ w7.cell? ⟨w2.heap.size, 1, none⟩ = some (.bool tn) ∧ w7.cell? ⟨w2.heap.size, 2, none⟩ = some (.int .i64 lk) ∧ w7.cell? ⟨w2.heap.size, 3, none⟩ = some (.int .i64 la) ∧ w7.cell? ⟨w2.heap.size, 4, none⟩ = some (.int .i64 lb) ∧ w7.cell? ⟨w2.heap.size, 5, none⟩ = some (.int .i64 ln) ∧ w7.cell? ⟨w2.heap.size, 6, none⟩ = some (.int .i64 rk) ∧ w7.cell? ⟨w2.heap.size, 7, none⟩ = some (.int .i64 ra) ∧ w7.cell? ⟨w2.heap.size, 8, none⟩ = some (.int .i64 rb) ∧ w7.cell? ⟨w2.heap.size, 9, none⟩ = some (.int .i64 rn) := (by obtain ⟨_, a0, a1, a2, a3⟩ := XC7.out; obtain ⟨_, b0, b1, ⟨b2, b3, b4, b5⟩, b6, b7, b8, b9⟩ := XT7.out; exact ⟨a0, a1, a2, a3, b0, b1, b2, b3, b4, b5, b6, b7, b8, b9⟩); clear hb hb7
            first | (refine hK.out _ _ ?_ (fun hHeld => ?_)) | (go_wp2_with fail; refine hK.out _ _ ?_ (fun hHeld => ?_))
            · (try dsimp only); exact Y7
            clear hK K
            try simp only [Act.put, List.getElem_toArray, List.getElem_cons_succ, List.getElem_cons_zero, List.setIfInBounds_toArray, List.set_cons_zero, List.set_cons_succ]
            refine wpAnyH_ready (rs := [6]) (by kernel_rfl) (by simp) ?_
            refine AllReadyH.cons rfl (fun K hK => ?_) AllReadyH.nil
            go_simp
            go_at_call 6; refine (implCellOk_any ⟨lk, la, lb, ln⟩ _ _ p (HP.out.below (by first | exact B7.out | exact B7.out.drew | exact below_drewN B7.out _))).mono ?_; rw [hl]; rintro e w8 ⟨rfl, hb8⟩; have hb : Below w7.heap.size w7 w8 := (by first | exact hb8 | exact (Below.drew (Below.refl _ _)).trans hb8); have B8 : Hid (Below w.heap.size w w8) := bel_then B7.out hb; have XC8 : Hid (Box4 w8 w1.heap.size ⟨ck, ca, cb, cn⟩) := XC7.out.below hb; have XT8 : Hid (Box10 w8 w2.heap.size ⟨tk, tn, ⟨lk, la, lb, ln⟩, ⟨rk, ra, rb, rn⟩⟩) := XT7.out.below hb; have Y8 : w8.cell? ⟨w1.heap.size, 0, none⟩ = some (.int .i64 ck) ∧ w8.cell? ⟨w1.heap.size, 1, none⟩ = some (.int .i64 ca) ∧ w8.cell? ⟨w1.heap.size, 2, none⟩ = some (.int .i64 cb) ∧ w8.cell? ⟨w1.heap.size, 3, none⟩ = some (.int .i64 cn) ∧ w8.cell? ⟨w2.heap.size, 0, none⟩ = some (.int .i64 tk) ∧ w8.cell? ⟨w2.heap.size, 1, none⟩ = some (.bool tn) ∧ w8.cell? ⟨w2.heap.size, 2, none⟩ = some (.int .i64 lk) ∧ w8.cell? ⟨w2.heap.size, 3, none⟩ = some (.int .i64 la) ∧ w8.cell? ⟨w2.heap.size, 4, none⟩ = some (.int .i64 lb) ∧ w8.cell? ⟨w2.heap.size, 5, none⟩ = some (.int .i64 ln) ∧ w8.cell? ⟨w2.heap.size, 6, none⟩ = some (.int .i64 rk) ∧ w8.cell? ⟨w2.heap.size, 7, none⟩ = some (.int .i64 ra) ∧ w8.cell? ⟨w2.heap.size, 8, none⟩ = some (.int .i64 rb) ∧ w8.cell? ⟨w2.heap.size, 9, none⟩ = some (.int .i64 rn) := (by obtain ⟨_, a0, a1, a2, a3⟩ := XC8.out; obtain ⟨_, b0, b1, ⟨b2, b3, b4, b5⟩, b6, b7, b8, b9⟩ := XT8.out; exact ⟨a0, a1, a2, a3, b0, b1, b2, b3, b4, b5, b6, b7, b8, b9⟩); clear hb hb8
            first | (refine hK.out _ _ ?_ (fun hHeld => ?_)) | (go_wp2_with fail; refine hK.out _ _ ?_ (fun hHeld => ?_))
            · (try dsimp only); exact Y8
            clear hK K
            try simp only [Act.put, List.getElem_toArray, List.getElem_cons_succ, List.getElem_cons_zero, List.setIfInBounds_toArray, List.set_cons_zero, List.set_cons_succ]
            refine wpAnyH_take (i := 7) (v := ?_) rfl (by kernel_rfl) (by kernel_rfl) (by kernel_rfl) (fun _ _ _ h => h) (Or.inl ⟨by rfl, ?_⟩) (by assumption) ?_
            rotate_left 1
            · intro w hSw; (try dsimp only at hSw); go_simp; try with_reducible rfl
            simp only [Act.put, List.getElem_toArray, List.getElem_cons_succ, List.getElem_cons_zero, List.setIfInBounds_toArray, List.set_cons_zero, List.set_cons_succ]
            refine wpAnyH_take (i := 8) (v := ?_) rfl (by kernel_rfl) (by kernel_rfl) (by kernel_rfl) (fun _ _ _ h => h) (Or.inl ⟨by rfl, ?_⟩) (by assumption) ?_
            rotate_left 1
            · intro w hSw; (try dsimp only at hSw); go_simp; try with_reducible rfl
            simp only [Act.put, List.getElem_toArray, List.getElem_cons_succ, List.getElem_cons_zero, List.setIfInBounds_toArray, List.set_cons_zero, List.set_cons_succ]
            refine wpAnyH_take (i := 9) (v := ?_) rfl (by kernel_rfl) (by kernel_rfl) (by kernel_rfl) (fun _ _ _ h => h) (Or.inl ⟨by rfl, ?_⟩) (by assumption) ?_
            rotate_left 1
            · intro w hSw; (try dsimp only at hSw); go_simp; try with_reducible rfl
            simp only [Act.put, List.getElem_toArray, List.getElem_cons_succ, List.getElem_cons_zero, List.setIfInBounds_toArray, List.set_cons_zero, List.set_cons_succ]
            refine wpAnyH_take (i := 10) (v := ?_) rfl (by kernel_rfl) (by kernel_rfl) (by kernel_rfl) (fun _ _ _ h => h) (Or.inl ⟨by rfl, ?_⟩) (by assumption) ?_
            rotate_left 1
            · intro w hSw; (try dsimp only at hSw); go_simp; try with_reducible rfl
            simp only [Act.put, List.getElem_toArray, List.getElem_cons_succ, List.getElem_cons_zero, List.setIfInBounds_toArray, List.set_cons_zero, List.set_cons_succ]
            refine wpAnyH_ready (rs := [11]) (by kernel_rfl) (by simp) ?_
            refine AllReadyH.cons rfl (fun K hK => ?_) AllReadyH.nil
            go_simp
            go_at_call 6; refine (implCellOk_any ⟨rk, ra, rb, rn⟩ _ _ p (HP.out.below (by first | exact B8.out | exact B8.out.drew | exact below_drewN B8.out _))).mono ?_; rw [hr]; rintro e w9 ⟨rfl, hb9⟩; have hb : Below w8.heap.size w8 w9 := (by first | exact hb9 | exact (Below.drew (Below.refl _ _)).trans hb9); have B9 : Hid (Below w.heap.size w w9) := bel_then B8.out hb; have XC9 : Hid (Box4 w9 w1.heap.size ⟨ck, ca, cb, cn⟩) := XC8.out.below hb; have XT9 : Hid (Box10 w9 w2.heap.size ⟨tk, tn, ⟨lk, la, lb, ln⟩, ⟨rk, ra, rb, rn⟩⟩) := XT8.out.below hb; have Y9 : w9.cell? ⟨w1.heap.size, 0, none⟩ = some (.int .i64 ck) ∧ w9.cell? ⟨w1.heap.size, 1, none⟩ = some (.int .i64 ca) ∧ w9.cell? ⟨w1.heap.size, 2, none⟩ = some (.int .i64 cb) ∧ w9.cell? ⟨w1.heap.size, 3, none⟩ = some (.int .i64 cn) ∧ w9.cell? ⟨w2.heap.size, 0, none⟩ = some (.int .i64 tk) ∧ w9.cell? ⟨w2.heap.size, 1, none⟩ = some (.bool tn) ∧ w9.cell? ⟨w2.heap.size, 2, none⟩ = some (.int .i64 lk) ∧ w9.cell? ⟨w2.heap.size, 3, none⟩ = some (.int .i64 la) ∧ w9.cell? ⟨w2.heap.size, 4, none⟩ = some (.int .i64 lb) ∧ w9.cell? ⟨w2.heap.size, 5, none⟩ = some (.int .i64 ln) ∧ w9.cell? ⟨w2.heap.size, 6, none⟩ = some (.int .i64 rk) ∧ w9.cell? ⟨w2.heap.size, 7, none⟩ = some (.int .i64 ra) ∧ w9.cell? ⟨w2.heap.size, 8, none⟩ = some (.int .i64 rb) ∧ w9.cell? ⟨w2.heap.size, 9, none⟩ = some (.int .i64 rn) := (by obtain ⟨_, a0, a1, a2, a3⟩ := XC9.out; obtain ⟨_, b0, b1, ⟨b2, b3, b4, b5⟩, b6, b7, b8, b9⟩ := XT9.out; exact ⟨a0, a1, a2, a3, b0, b1, b2, b3, b4, b5, b6, b7, b8, b9⟩); clear hb hb9
            first | (refine hK.out _ _ ?_ (fun hHeld => ?_)) | (go_wp2_with fail; refine hK.out _ _ ?_ (fun hHeld => ?_))
            · (try dsimp only); exact Y9
            clear hK K
            try simp only [Act.put, List.getElem_toArray, List.getElem_cons_succ, List.getElem_cons_zero, List.setIfInBounds_toArray, List.set_cons_zero, List.set_cons_succ]
            refine wpAnyH_take (i := 12) (v := ?_) rfl (by kernel_rfl) (by kernel_rfl) (by kernel_rfl) (fun _ _ _ h => h) (Or.inl ⟨by rfl, ?_⟩) (by assumption) ?_
            rotate_left 1
            · intro w hSw; (try dsimp only at hSw); go_simp; try with_reducible rfl
            simp only [Act.put, List.getElem_toArray, List.getElem_cons_succ, List.getElem_cons_zero, List.setIfInBounds_toArray, List.set_cons_zero, List.set_cons_succ]
            refine wpAnyH_take (i := 13) (v := ?_) rfl (by kernel_rfl) (by kernel_rfl) (by kernel_rfl) (fun _ _ _ h => h) (Or.inl ⟨by rfl, ?_⟩) (by assumption) ?_
            rotate_left 1
            · intro w hSw; (try dsimp only at hSw); go_simp; try with_reducible rfl
            simp only [Act.put, List.getElem_toArray, List.getElem_cons_succ, List.getElem_cons_zero, List.setIfInBounds_toArray, List.set_cons_zero, List.set_cons_succ]
            refine wpAnyH_take (i := 14) (v := ?_) rfl (by kernel_rfl) (by kernel_rfl) (by kernel_rfl) (fun _ _ _ h => h) (Or.inl ⟨by rfl, ?_⟩) (by assumption) ?_
            rotate_left 1
            · intro w hSw; (try dsimp only at hSw); go_simp; try with_reducible rfl
            simp only [Act.put, List.getElem_toArray, List.getElem_cons_succ, List.getElem_cons_zero, List.setIfInBounds_toArray, List.set_cons_zero, List.set_cons_succ]
            refine wpAnyH_take (i := 15) (v := ?_) rfl (by kernel_rfl) (by kernel_rfl) (by kernel_rfl) (fun _ _ _ h => h) (Or.inl ⟨by rfl, ?_⟩) (by assumption) ?_
            rotate_left 1
            · intro w hSw; (try dsimp only at hSw); go_simp; try with_reducible rfl
            simp only [Act.put, List.getElem_toArray, List.getElem_cons_succ, List.getElem_cons_zero, List.setIfInBounds_toArray, List.set_cons_zero, List.set_cons_succ]
            refine wpAnyH_take (i := 16) (v := ?_) rfl (by kernel_rfl) (by kernel_rfl) (by kernel_rfl) (fun _ _ _ h => h) (Or.inl ⟨by rfl, ?_⟩) (by assumption) ?_
            rotate_left 1
            · intro w hSw; (try dsimp only at hSw); go_simp; try with_reducible rfl
            simp only [Act.put, List.getElem_toArray, List.getElem_cons_succ, List.getElem_cons_zero, List.setIfInBounds_toArray, List.set_cons_zero, List.set_cons_succ]
            refine wpAnyH_take (i := 17) (v := ?_) rfl (by kernel_rfl) (by kernel_rfl) (by kernel_rfl) (fun _ _ _ h => h) (Or.inl ⟨by rfl, ?_⟩) (by assumption) ?_
            rotate_left 1
            · intro w hSw; (try dsimp only at hSw); go_simp; try with_reducible rfl
            simp only [Act.put, List.getElem_toArray, List.getElem_cons_succ, List.getElem_cons_zero, List.setIfInBounds_toArray, List.set_cons_zero, List.set_cons_succ]
            refine wpAnyH_take (i := 18) (v := undef) rfl (by kernel_rfl) (by kernel_rfl) (by kernel_rfl) (fun _ _ _ h => h) (Or.inr ⟨by rfl, rfl⟩) (by assumption) ?_
            simp only [Act.put, List.getElem_toArray, List.getElem_cons_succ, List.getElem_cons_zero, List.setIfInBounds_toArray, List.set_cons_zero, List.set_cons_succ]
            refine wpAnyH_take (i := 19) (v := undef) rfl (by kernel_rfl) (by kernel_rfl) (by kernel_rfl) (fun _ _ _ h => h) (Or.inr ⟨by rfl, rfl⟩) (by assumption) ?_
            simp only [Act.put, List.getElem_toArray, List.getElem_cons_succ, List.getElem_cons_zero, List.setIfInBounds_toArray, List.set_cons_zero, List.set_cons_succ]
            refine wpAnyH_take (i := 20) (v := undef) rfl (by kernel_rfl) (by kernel_rfl) (by kernel_rfl) (fun _ _ _ h => h) (Or.inr ⟨by rfl, rfl⟩) (by assumption) ?_
            simp only [Act.put, List.getElem_toArray, List.getElem_cons_succ, List.getElem_cons_zero, List.setIfInBounds_toArray, List.set_cons_zero, List.set_cons_succ]
            refine wpAnyH_take (i := 21) (v := ?_) rfl (by kernel_rfl) (by kernel_rfl) (by kernel_rfl) (fun _ _ _ h => h) (Or.inl ⟨by rfl, ?_⟩) (by assumption) ?_
            rotate_left 1
            · intro w hSw; (try dsimp only at hSw); go_simp; try with_reducible rfl
            simp only [Act.put, List.getElem_toArray, List.getElem_cons_succ, List.getElem_cons_zero, List.setIfInBounds_toArray, List.set_cons_zero, List.set_cons_succ]
            refine wpAnyH_take (i := 22) (v := ?_) rfl (by kernel_rfl) (by kernel_rfl) (by kernel_rfl) (fun _ _ _ h => h) (Or.inl ⟨by rfl, ?_⟩) (by assumption) ?_
            rotate_left 1
            · intro w hSw; (try dsimp only at hSw); go_simp; try with_reducible rfl
            simp only [Act.put, List.getElem_toArray, List.getElem_cons_succ, List.getElem_cons_zero, List.setIfInBounds_toArray, List.set_cons_zero, List.set_cons_succ]
            refine wpAnyH_take (i := 23) (v := ?_) rfl (by kernel_rfl) (by kernel_rfl) (by kernel_rfl) (fun _ _ _ h => h) (Or.inl ⟨by rfl, ?_⟩) (by assumption) ?_
            rotate_left 1
            · intro w hSw; (try dsimp only at hSw); go_simp; try with_reducible rfl
            simp only [Act.put, List.getElem_toArray, List.getElem_cons_succ, List.getElem_cons_zero, List.setIfInBounds_toArray, List.set_cons_zero, List.set_cons_succ]
            refine wpAnyH_done (by kernel_rfl) ?_ _
            go_wp2_with fail
            go_meet
            case rel => exact ⟨rfl, B9.out, XC9.out, XT9.out⟩
          · have hkk : (tk == 1) = false := by simpa using hk1
            by_cases hk2 : tk = 2
            · have hkk2 : (tk == 2) = true := by simpa using hk2
              obtain rfl : y = true := by rw [HYV.out]; simp [Tst.okB, hl, hr, hk2]
              clear hk1 hk2
              refine wp_region_held_drew (S := (fun w' => w'.cell? ⟨w1.heap.size, 0, none⟩ = some (.int .i64 ck) ∧ w'.cell? ⟨w1.heap.size, 1, none⟩ = some (.int .i64 ca) ∧ w'.cell? ⟨w1.heap.size, 2, none⟩ = some (.int .i64 cb) ∧ w'.cell? ⟨w1.heap.size, 3, none⟩ = some (.int .i64 cn) ∧ w'.cell? ⟨w2.heap.size, 0, none⟩ = some (.int .i64 tk) ∧ w'.cell? ⟨w2.heap.size, 1, none⟩ = some (.bool tn) ∧ w'.cell? ⟨w2.heap.size, 2, none⟩ = some (.int .i64 lk) ∧ w'.cell? ⟨w2.heap.size, 3, none⟩ = some (.int .i64 la) ∧ w'.cell? ⟨w2.heap.size, 4, none⟩ = some (.int .i64 lb) ∧ w'.cell? ⟨w2.heap.size, 5, none⟩ = some (.int .i64 ln) ∧ w'.cell? ⟨w2.heap.size, 6, none⟩ = some (.int .i64 rk) ∧ w'.cell? ⟨w2.heap.size, 7, none⟩ = some (.int .i64 ra) ∧ w'.cell? ⟨w2.heap.size, 8, none⟩ = some (.int .i64 rb) ∧ w'.cell? ⟨w2.heap.size, 9, none⟩ = some (.int .i64 rn))) (by kernel_rfl) ?_ (fun hHeld => ?_)
              · (try dsimp only); exact Y6
              refine wpAnyH_take (i := 0) (v := ?_) rfl (by kernel_rfl) (by kernel_rfl) (by kernel_rfl) (fun _ _ _ h => h) (Or.inl ⟨by rfl, ?_⟩) (by assumption) ?_
              rotate_left 1
              · intro w hSw; (try dsimp only at hSw); go_simp; try with_reducible rfl
              simp only [Act.put, List.getElem_toArray, List.getElem_cons_succ, List.getElem_cons_zero, List.setIfInBounds_toArray, List.set_cons_zero, List.set_cons_succ]
              refine wpAnyH_take (i := 1) (v := ?_) rfl (by kernel_rfl) (by kernel_rfl) (by kernel_rfl) (fun _ _ _ h => h) (Or.inl ⟨by rfl, ?_⟩) (by assumption) ?_
              rotate_left 1
              · intro w hSw; (try dsimp only at hSw); go_simp; try with_reducible rfl
              simp only [Act.put, List.getElem_toArray, List.getElem_cons_succ, List.getElem_cons_zero, List.setIfInBounds_toArray, List.set_cons_zero, List.set_cons_succ]
              refine wpAnyH_take (i := 3) (v := ?_) rfl (by kernel_rfl) (by kernel_rfl) (by kernel_rfl) (fun _ _ _ h => h) (Or.inl ⟨by rfl, ?_⟩) (by assumption) ?_
              rotate_left 1
              · intro w hSw; (try dsimp only at hSw); go_simp; try with_reducible rfl
              simp only [Act.put, List.getElem_toArray, List.getElem_cons_succ, List.getElem_cons_zero, List.setIfInBounds_toArray, List.set_cons_zero, List.set_cons_succ]
              refine wpAnyH_take (i := 4) (v := ?_) rfl (by kernel_rfl) (by kernel_rfl) (by kernel_rfl) (fun _ _ _ h => h) (Or.inl ⟨by rfl, ?_⟩) (by assumption) ?_
              rotate_left 1
              · intro w hSw; (try dsimp only at hSw); go_simp; try with_reducible rfl
              simp only [Act.put, List.getElem_toArray, List.getElem_cons_succ, List.getElem_cons_zero, List.setIfInBounds_toArray, List.set_cons_zero, List.set_cons_succ]
              refine wpAnyH_take (i := 5) (v := ?_) rfl (by kernel_rfl) (by kernel_rfl) (by kernel_rfl) (fun _ _ _ h => h) (Or.inl ⟨by rfl, ?_⟩) (by assumption) ?_
              rotate_left 1
              · intro w hSw; (try dsimp only at hSw); go_simp; try with_reducible rfl
              simp only [Act.put, List.getElem_toArray, List.getElem_cons_succ, List.getElem_cons_zero, List.setIfInBounds_toArray, List.set_cons_zero, List.set_cons_succ]
              refine wpAnyH_ready (rs := [2]) (by kernel_rfl) (by simp) ?_
              refine AllReadyH.cons rfl (fun K hK => ?_) AllReadyH.nil
              go_simp
              go_at_call 8; refine (implTestOk_any ⟨tk, tn, ⟨lk, la, lb, ln⟩, ⟨rk, ra, rb, rn⟩⟩ _ _ p (HP.out.below (by first | exact B6.out | exact B6.out.drew | exact below_drewN B6.out _))).mono ?_; rw [← HYV.out]; rintro e w7 ⟨rfl, hb7⟩; have hb : Below w6.heap.size w6 w7 := (by first | exact hb7 | exact (Below.drew (Below.refl _ _)).trans hb7); have B7 : Hid (Below w.heap.size w w7) := bel_then B6.out hb; have XC7 : Hid (Box4 w7 w1.heap.size ⟨ck, ca, cb, cn⟩) := XC6.out.below hb; have XT7 : Hid (Box10 w7 w2.heap.size ⟨tk, tn, ⟨lk, la, lb, ln⟩, ⟨rk, ra, rb, rn⟩⟩) := XT6.out.below hb; have Y7 : w7.cell? ⟨w1.heap.size, 0, none⟩ = some (.int .i64 ck) ∧ w7.cell? ⟨w1.heap.size, 1, none⟩ = some (.int .i64 ca) ∧ w7.cell? ⟨w1.heap.size, 2, none⟩ = some (.int .i64 cb) ∧ w7.cell? ⟨w1.heap.size, 3, none⟩ = some (.int .i64 cn) ∧ w7.cell? ⟨w2.heap.size, 0, none⟩ = some (.int .i64 tk) ∧ w7.cell? ⟨w2.heap.size, 1, none⟩ = some (.bool tn) ∧ w7.cell? ⟨w2.heap.size, 2, none⟩ = some (.int .i64 lk) ∧ w7.cell? ⟨w2.heap.size, 3, none⟩ = some (.int .i64 la) ∧ w7.cell? ⟨w2.heap.size, 4, none⟩ = some (.int .i64 lb) ∧ w7.cell? ⟨w2.heap.size, 5, none⟩ = some (.int .i64 ln) ∧ w7.cell? ⟨w2.heap.size, 6, none⟩ = some (.int .i64 rk) ∧ w7.cell? ⟨w2.heap.size, 7, none⟩ = some (.int .i64 ra) ∧ w7.cell? ⟨w2.heap.size, 8, none⟩ = some (.int .i64 rb) ∧ w7.cell? ⟨w2.heap.size, 9, none⟩ = some (.int .i64 rn) := (by obtain ⟨_, a0, a1, a2, a3⟩ := XC7.out; obtain ⟨_, b0, b1, ⟨b2, b3, b4, b5⟩, b6, b7, b8, b9⟩ := XT7.out; exact ⟨a0, a1, a2, a3, b0, b1, b2, b3, b4, b5, b6, b7, b8, b9⟩); clear hb hb7
              first | (refine hK.out _ _ ?_ (fun hHeld => ?_)) | (go_wp2_with fail; refine hK.out _ _ ?_ (fun hHeld => ?_))
              · (try dsimp only); exact Y7
              clear hK K
              try simp only [Act.put, List.getElem_toArray, List.getElem_cons_succ, List.getElem_cons_zero, List.setIfInBounds_toArray, List.set_cons_zero, List.set_cons_succ]
              refine wpAnyH_ready (rs := [6]) (by kernel_rfl) (by simp) ?_
              refine AllReadyH.cons rfl (fun K hK => ?_) AllReadyH.nil
              go_simp
              go_at_call 6; refine (implCellOk_any ⟨lk, la, lb, ln⟩ _ _ p (HP.out.below (by first | exact B7.out | exact B7.out.drew | exact below_drewN B7.out _))).mono ?_; rw [hl]; rintro e w8 ⟨rfl, hb8⟩; have hb : Below w7.heap.size w7 w8 := (by first | exact hb8 | exact (Below.drew (Below.refl _ _)).trans hb8); have B8 : Hid (Below w.heap.size w w8) := bel_then B7.out hb; have XC8 : Hid (Box4 w8 w1.heap.size ⟨ck, ca, cb, cn⟩) := XC7.out.below hb; have XT8 : Hid (Box10 w8 w2.heap.size ⟨tk, tn, ⟨lk, la, lb, ln⟩, ⟨rk, ra, rb, rn⟩⟩) := XT7.out.below hb; have Y8 : w8.cell? ⟨w1.heap.size, 0, none⟩ = some (.int .i64 ck) ∧ w8.cell? ⟨w1.heap.size, 1, none⟩ = some (.int .i64 ca) ∧ w8.cell? ⟨w1.heap.size, 2, none⟩ = some (.int .i64 cb) ∧ w8.cell? ⟨w1.heap.size, 3, none⟩ = some (.int .i64 cn) ∧ w8.cell? ⟨w2.heap.size, 0, none⟩ = some (.int .i64 tk) ∧ w8.cell? ⟨w2.heap.size, 1, none⟩ = some (.bool tn) ∧ w8.cell? ⟨w2.heap.size, 2, none⟩ = some (.int .i64 lk) ∧ w8.cell? ⟨w2.heap.size, 3, none⟩ = some (.int .i64 la) ∧ w8.cell? ⟨w2.heap.size, 4, none⟩ = some (.int .i64 lb) ∧ w8.cell? ⟨w2.heap.size, 5, none⟩ = some (.int .i64 ln) ∧ w8.cell? ⟨w2.heap.size, 6, none⟩ = some (.int .i64 rk) ∧ w8.cell? ⟨w2.heap.size, 7, none⟩ = some (.int .i64 ra) ∧ w8.cell? ⟨w2.heap.size, 8, none⟩ = some (.int .i64 rb) ∧ w8.cell? ⟨w2.heap.size, 9, none⟩ = some (.int .i64 rn) := (by obtain ⟨_, a0, a1, a2, a3⟩ := XC8.out; obtain ⟨_, b0, b1, ⟨b2, b3, b4, b5⟩, b6, b7, b8, b9⟩ := XT8.out; exact ⟨a0, a1, a2, a3, b0, b1, b2, b3, b4, b5, b6, b7, b8, b9⟩); clear hb hb8
              first | (refine hK.out _ _ ?_ (fun hHeld => ?_)) | (go_wp2_with fail; refine hK.out _ _ ?_ (fun hHeld => ?_))
              · (try dsimp only); exact Y8
              clear hK K
              try simp only [Act.put, List.getElem_toArray, List.getElem_cons_succ, List.getElem_cons_zero, List.setIfInBounds_toArray, List.set_cons_zero, List.set_cons_succ]
              refine wpAnyH_take (i := 7) (v := ?_) rfl (by kernel_rfl) (by kernel_rfl) (by kernel_rfl) (fun _ _ _ h => h) (Or.inl ⟨by rfl, ?_⟩) (by assumption) ?_
              rotate_left 1
              · intro w hSw; (try dsimp only at hSw); go_simp; try with_reducible rfl
              simp only [Act.put, List.getElem_toArray, List.getElem_cons_succ, List.getElem_cons_zero, List.setIfInBounds_toArray, List.set_cons_zero, List.set_cons_succ]
              refine wpAnyH_take (i := 8) (v := ?_) rfl (by kernel_rfl) (by kernel_rfl) (by kernel_rfl) (fun _ _ _ h => h) (Or.inl ⟨by rfl, ?_⟩) (by assumption) ?_
              rotate_left 1
              · intro w hSw; (try dsimp only at hSw); go_simp; try with_reducible rfl
              simp only [Act.put, List.getElem_toArray, List.getElem_cons_succ, List.getElem_cons_zero, List.setIfInBounds_toArray, List.set_cons_zero, List.set_cons_succ]
              refine wpAnyH_take (i := 9) (v := ?_) rfl (by kernel_rfl) (by kernel_rfl) (by kernel_rfl) (fun _ _ _ h => h) (Or.inl ⟨by rfl, ?_⟩) (by assumption) ?_
              rotate_left 1
              · intro w hSw; (try dsimp only at hSw); go_simp; try with_reducible rfl
              simp only [Act.put, List.getElem_toArray, List.getElem_cons_succ, List.getElem_cons_zero, List.setIfInBounds_toArray, List.set_cons_zero, List.set_cons_succ]
              refine wpAnyH_take (i := 10) (v := ?_) rfl (by kernel_rfl) (by kernel_rfl) (by kernel_rfl) (fun _ _ _ h => h) (Or.inl ⟨by rfl, ?_⟩) (by assumption) ?_
              rotate_left 1
              · intro w hSw; (try dsimp only at hSw); go_simp; try with_reducible rfl
              simp only [Act.put, List.getElem_toArray, List.getElem_cons_succ, List.getElem_cons_zero, List.setIfInBounds_toArray, List.set_cons_zero, List.set_cons_succ]
              refine wpAnyH_ready (rs := [11]) (by kernel_rfl) (by simp) ?_
              refine AllReadyH.cons rfl (fun K hK => ?_) AllReadyH.nil
              go_simp
              go_at_call 6; refine (implCellOk_any ⟨rk, ra, rb, rn⟩ _ _ p (HP.out.below (by first | exact B8.out | exact B8.out.drew | exact below_drewN B8.out _))).mono ?_; rw [hr]; rintro e w9 ⟨rfl, hb9⟩; have hb : Below w8.heap.size w8 w9 := (by first | exact hb9 | exact (Below.drew (Below.refl _ _)).trans hb9); have B9 : Hid (Below w.heap.size w w9) := bel_then B8.out hb; have XC9 : Hid (Box4 w9 w1.heap.size ⟨ck, ca, cb, cn⟩) := XC8.out.below hb; have XT9 : Hid (Box10 w9 w2.heap.size ⟨tk, tn, ⟨lk, la, lb, ln⟩, ⟨rk, ra, rb, rn⟩⟩) := XT8.out.below hb; have Y9 : w9.cell? ⟨w1.heap.size, 0, none⟩ = some (.int .i64 ck) ∧ w9.cell? ⟨w1.heap.size, 1, none⟩ = some (.int .i64 ca) ∧ w9.cell? ⟨w1.heap.size, 2, none⟩ = some (.int .i64 cb) ∧ w9.cell? ⟨w1.heap.size, 3, none⟩ = some (.int .i64 cn) ∧ w9.cell? ⟨w2.heap.size, 0, none⟩ = some (.int .i64 tk) ∧ w9.cell? ⟨w2.heap.size, 1, none⟩ = some (.bool tn) ∧ w9.cell? ⟨w2.heap.size, 2, none⟩ = some (.int .i64 lk) ∧ w9.cell? ⟨w2.heap.size, 3, none⟩ = some (.int .i64 la) ∧ w9.cell? ⟨w2.heap.size, 4, none⟩ = some (.int .i64 lb) ∧ w9.cell? ⟨w2.heap.size, 5, none⟩ = some (.int .i64 ln) ∧ w9.cell? ⟨w2.heap.size, 6, none⟩ = some (.int .i64 rk) ∧ w9.cell? ⟨w2.heap.size, 7, none⟩ = some (.int .i64 ra) ∧ w9.cell? ⟨w2.heap.size, 8, none⟩ = some (.int .i64 rb) ∧ w9.cell? ⟨w2.heap.size, 9, none⟩ = some (.int .i64 rn) := (by obtain ⟨_, a0, a1, a2, a3⟩ := XC9.out; obtain ⟨_, b0, b1, ⟨b2, b3, b4, b5⟩, b6, b7, b8, b9⟩ := XT9.out; exact ⟨a0, a1, a2, a3, b0, b1, b2, b3, b4, b5, b6, b7, b8, b9⟩); clear hb hb9
              first | (refine hK.out _ _ ?_ (fun hHeld => ?_)) | (go_wp2_with fail; refine hK.out _ _ ?_ (fun hHeld => ?_))
              · (try dsimp only); exact Y9
              clear hK K
              try simp only [Act.put, List.getElem_toArray, List.getElem_cons_succ, List.getElem_cons_zero, List.setIfInBounds_toArray, List.set_cons_zero, List.set_cons_succ]
              refine wpAnyH_take (i := 12) (v := ?_) rfl (by kernel_rfl) (by kernel_rfl) (by kernel_rfl) (fun _ _ _ h => h) (Or.inl ⟨by rfl, ?_⟩) (by assumption) ?_
              rotate_left 1
              · intro w hSw; (try dsimp only at hSw); go_simp; try with_reducible rfl
              simp only [Act.put, List.getElem_toArray, List.getElem_cons_succ, List.getElem_cons_zero, List.setIfInBounds_toArray, List.set_cons_zero, List.set_cons_succ]
              refine wpAnyH_take (i := 13) (v := ?_) rfl (by kernel_rfl) (by kernel_rfl) (by kernel_rfl) (fun _ _ _ h => h) (Or.inl ⟨by rfl, ?_⟩) (by assumption) ?_
              rotate_left 1
              · intro w hSw; (try dsimp only at hSw); go_simp; try with_reducible rfl
              simp only [Act.put, List.getElem_toArray, List.getElem_cons_succ, List.getElem_cons_zero, List.setIfInBounds_toArray, List.set_cons_zero, List.set_cons_succ]
              refine wpAnyH_take (i := 14) (v := ?_) rfl (by kernel_rfl) (by kernel_rfl) (by kernel_rfl) (fun _ _ _ h => h) (Or.inl ⟨by rfl, ?_⟩) (by assumption) ?_
              rotate_left 1
              · intro w hSw; (try dsimp only at hSw); go_simp; try with_reducible rfl
              simp only [Act.put, List.getElem_toArray, List.getElem_cons_succ, List.getElem_cons_zero, List.setIfInBounds_toArray, List.set_cons_zero, List.set_cons_succ]
              refine wpAnyH_take (i := 15) (v := ?_) rfl (by kernel_rfl) (by kernel_rfl) (by kernel_rfl) (fun _ _ _ h => h) (Or.inl ⟨by rfl, ?_⟩) (by assumption) ?_
              rotate_left 1
              · intro w hSw; (try dsimp only at hSw); go_simp; try with_reducible rfl
              simp only [Act.put, List.getElem_toArray, List.getElem_cons_succ, List.getElem_cons_zero, List.setIfInBounds_toArray, List.set_cons_zero, List.set_cons_succ]
              refine wpAnyH_take (i := 16) (v := ?_) rfl (by kernel_rfl) (by kernel_rfl) (by kernel_rfl) (fun _ _ _ h => h) (Or.inl ⟨by rfl, ?_⟩) (by assumption) ?_
              rotate_left 1
              · intro w hSw; (try dsimp only at hSw); go_simp; try with_reducible rfl
              simp only [Act.put, List.getElem_toArray, List.getElem_cons_succ, List.getElem_cons_zero, List.setIfInBounds_toArray, List.set_cons_zero, List.set_cons_succ]
              refine wpAnyH_take (i := 17) (v := ?_) rfl (by kernel_rfl) (by kernel_rfl) (by kernel_rfl) (fun _ _ _ h => h) (Or.inl ⟨by rfl, ?_⟩) (by assumption) ?_
              rotate_left 1
              · intro w hSw; (try dsimp only at hSw); go_simp; try with_reducible rfl
              simp only [Act.put, List.getElem_toArray, List.getElem_cons_succ, List.getElem_cons_zero, List.setIfInBounds_toArray, List.set_cons_zero, List.set_cons_succ]
              refine wpAnyH_take (i := 18) (v := ?_) rfl (by kernel_rfl) (by kernel_rfl) (by kernel_rfl) (fun _ _ _ h => h) (Or.inl ⟨by rfl, ?_⟩) (by assumption) ?_
              rotate_left 1
              · intro w hSw; (try dsimp only at hSw); go_simp; try with_reducible rfl
              simp only [Act.put, List.getElem_toArray, List.getElem_cons_succ, List.getElem_cons_zero, List.setIfInBounds_toArray, List.set_cons_zero, List.set_cons_succ]
              refine wpAnyH_take (i := 19) (v := ?_) rfl (by kernel_rfl) (by kernel_rfl) (by kernel_rfl) (fun _ _ _ h => h) (Or.inl ⟨by rfl, ?_⟩) (by assumption) ?_
              rotate_left 1
              · intro w hSw; (try dsimp only at hSw); go_simp; try with_reducible rfl
              simp only [Act.put, List.getElem_toArray, List.getElem_cons_succ, List.getElem_cons_zero, List.setIfInBounds_toArray, List.set_cons_zero, List.set_cons_succ]
              refine wpAnyH_take (i := 20) (v := ?_) rfl (by kernel_rfl) (by kernel_rfl) (by kernel_rfl) (fun _ _ _ h => h) (Or.inl ⟨by rfl, ?_⟩) (by assumption) ?_
              rotate_left 1
              · intro w hSw; (try dsimp only at hSw); go_simp; try with_reducible rfl
              simp only [Act.put, List.getElem_toArray, List.getElem_cons_succ, List.getElem_cons_zero, List.setIfInBounds_toArray, List.set_cons_zero, List.set_cons_succ]
              refine wpAnyH_take (i := 21) (v := ?_) rfl (by kernel_rfl) (by kernel_rfl) (by kernel_rfl) (fun _ _ _ h => h) (Or.inl ⟨by rfl, ?_⟩) (by assumption) ?_
              rotate_left 1
              · intro w hSw; (try dsimp only at hSw); go_simp; try with_reducible rfl
              simp only [Act.put, List.getElem_toArray, List.getElem_cons_succ, List.getElem_cons_zero, List.setIfInBounds_toArray, List.set_cons_zero, List.set_cons_succ]
              refine wpAnyH_take (i := 22) (v := ?_) rfl (by kernel_rfl) (by kernel_rfl) (by kernel_rfl) (fun _ _ _ h => h) (Or.inl ⟨by rfl, ?_⟩) (by assumption) ?_
              rotate_left 1
              · intro w hSw; (try dsimp only at hSw); go_simp; try with_reducible rfl
              simp only [Act.put, List.getElem_toArray, List.getElem_cons_succ, List.getElem_cons_zero, List.setIfInBounds_toArray, List.set_cons_zero, List.set_cons_succ]
              refine wpAnyH_take (i := 23) (v := ?_) rfl (by kernel_rfl) (by kernel_rfl) (by kernel_rfl) (fun _ _ _ h => h) (Or.inl ⟨by rfl, ?_⟩) (by assumption) ?_
              rotate_left 1
              · intro w hSw; (try dsimp only at hSw); go_simp; try with_reducible rfl
              simp only [Act.put, List.getElem_toArray, List.getElem_cons_succ, List.getElem_cons_zero, List.setIfInBounds_toArray, List.set_cons_zero, List.set_cons_succ]
              refine wpAnyH_done (by kernel_rfl) ?_ _
              go_wp2_with fail
              go_meet
              case rel => exact ⟨rfl, B9.out, XC9.out, XT9.out⟩
            · have hkk2 : (tk == 2) = false := by simpa using hk2
              obtain rfl : y = false := by rw [HYV.out]; simp [Tst.okB, hk1, hk2]
              clear hk1 hk2
              refine wp_region_held_drew (S := (fun w' => w'.cell? ⟨w1.heap.size, 0, none⟩ = some (.int .i64 ck) ∧ w'.cell? ⟨w1.heap.size, 1, none⟩ = some (.int .i64 ca) ∧ w'.cell? ⟨w1.heap.size, 2, none⟩ = some (.int .i64 cb) ∧ w'.cell? ⟨w1.heap.size, 3, none⟩ = some (.int .i64 cn) ∧ w'.cell? ⟨w2.heap.size, 0, none⟩ = some (.int .i64 tk) ∧ w'.cell? ⟨w2.heap.size, 1, none⟩ = some (.bool tn) ∧ w'.cell? ⟨w2.heap.size, 2, none⟩ = some (.int .i64 lk) ∧ w'.cell? ⟨w2.heap.size, 3, none⟩ = some (.int .i64 la) ∧ w'.cell? ⟨w2.heap.size, 4, none⟩ = some (.int .i64 lb) ∧ w'.cell? ⟨w2.heap.size, 5, none⟩ = some (.int .i64 ln) ∧ w'.cell? ⟨w2.heap.size, 6, none⟩ = some (.int .i64 rk) ∧ w'.cell? ⟨w2.heap.size, 7, none⟩ = some (.int .i64 ra) ∧ w'.cell? ⟨w2.heap.size, 8, none⟩ = some (.int .i64 rb) ∧ w'.cell? ⟨w2.heap.size, 9, none⟩ = some (.int .i64 rn))) (by kernel_rfl) ?_ (fun hHeld => ?_)
              · (try dsimp only); exact Y6
              refine wpAnyH_take (i := 0) (v := ?_) rfl (by kernel_rfl) (by kernel_rfl) (by kernel_rfl) (fun _ _ _ h => h) (Or.inl ⟨by rfl, ?_⟩) (by assumption) ?_
              rotate_left 1
              · intro w hSw; (try dsimp only at hSw); go_simp; try with_reducible rfl
              simp only [Act.put, List.getElem_toArray, List.getElem_cons_succ, List.getElem_cons_zero, List.setIfInBounds_toArray, List.set_cons_zero, List.set_cons_succ]
              refine wpAnyH_take (i := 1) (v := ?_) rfl (by kernel_rfl) (by kernel_rfl) (by kernel_rfl) (fun _ _ _ h => h) (Or.inl ⟨by rfl, ?_⟩) (by assumption) ?_
              rotate_left 1
              · intro w hSw; (try dsimp only at hSw); go_simp; try with_reducible rfl
              simp only [Act.put, List.getElem_toArray, List.getElem_cons_succ, List.getElem_cons_zero, List.setIfInBounds_toArray, List.set_cons_zero, List.set_cons_succ]
              refine wpAnyH_take (i := 3) (v := ?_) rfl (by kernel_rfl) (by kernel_rfl) (by kernel_rfl) (fun _ _ _ h => h) (Or.inl ⟨by rfl, ?_⟩) (by assumption) ?_
              rotate_left 1
              · intro w hSw; (try dsimp only at hSw); go_simp; try with_reducible rfl
              simp only [Act.put, List.getElem_toArray, List.getElem_cons_succ, List.getElem_cons_zero, List.setIfInBounds_toArray, List.set_cons_zero, List.set_cons_succ]
              refine wpAnyH_take (i := 4) (v := ?_) rfl (by kernel_rfl) (by kernel_rfl) (by kernel_rfl) (fun _ _ _ h => h) (Or.inl ⟨by rfl, ?_⟩) (by assumption) ?_
              rotate_left 1
              · intro w hSw; (try dsimp only at hSw); go_simp; try with_reducible rfl
              simp only [Act.put, List.getElem_toArray, List.getElem_cons_succ, List.getElem_cons_zero, List.setIfInBounds_toArray, List.set_cons_zero, List.set_cons_succ]
              refine wpAnyH_take (i := 5) (v := ?_) rfl (by kernel_rfl) (by kernel_rfl) (by kernel_rfl) (fun _ _ _ h => h) (Or.inl ⟨by rfl, ?_⟩) (by assumption) ?_
              rotate_left 1
              · intro w hSw; (try dsimp only at hSw); go_simp; try with_reducible rfl
              simp only [Act.put, List.getElem_toArray, List.getElem_cons_succ, List.getElem_cons_zero, List.setIfInBounds_toArray, List.set_cons_zero, List.set_cons_succ]
              refine wpAnyH_ready (rs := [2]) (by kernel_rfl) (by simp) ?_
              refine AllReadyH.cons rfl (fun K hK => ?_) AllReadyH.nil
              go_simp
              go_at_call 8; refine (implTestOk_any ⟨tk, tn, ⟨lk, la, lb, ln⟩, ⟨rk, ra, rb, rn⟩⟩ _ _ p (HP.out.below (by first | exact B6.out | exact B6.out.drew | exact below_drewN B6.out _))).mono ?_; rw [← HYV.out]; rintro e w7 ⟨rfl, hb7⟩; have hb : Below w6.heap.size w6 w7 := (by first | exact hb7 | exact (Below.drew (Below.refl _ _)).trans hb7); have B7 : Hid (Below w.heap.size w w7) := bel_then B6.out hb; have XC7 : Hid (Box4 w7 w1.heap.size ⟨ck, ca, cb, cn⟩) := XC6.out.below hb; have XT7 : Hid (Box10 w7 w2.heap.size ⟨tk, tn, ⟨lk, la, lb, ln⟩, ⟨rk, ra, rb, rn⟩⟩) := XT6.out.below hb; have Y7 : w7.cell? ⟨w1.heap.size, 0, none⟩ = some (.int .i64 ck) ∧ w7.cell? ⟨w1.heap.size, 1, none⟩ = some (.int .i64 ca) ∧ w7.cell? ⟨w1.heap.size, 2, none⟩ = some (.int .i64 cb) ∧ w7.cell? ⟨w1.heap.size, 3, none⟩ = some (.int .i64 cn) ∧ w7.cell? ⟨w2.heap.size, 0, none⟩ = some (.int .i64 tk) ∧ w7.cell? ⟨w2.heap.size, 1, none⟩ = some (.bool tn) ∧ w7.cell? ⟨w2.heap.size, 2, none⟩ = some (.int .i64 lk) ∧ w7.cell? ⟨w2.heap.size, 3, none⟩ = some (.int .i64 la) ∧ w7.cell? ⟨w2.heap.size, 4, none⟩ = some (.int .i64 lb) ∧ w7.cell? ⟨w2.heap.size, 5, none⟩ = some (.int .i64 ln) ∧ w7.cell? ⟨w2.heap.size, 6, none⟩ = some (.int .i64 rk) ∧ w7.cell? ⟨w2.heap.size, 7, none⟩ = some (.int .i64 ra) ∧ w7.cell? ⟨w2.heap.size, 8, none⟩ = some (.int .i64 rb) ∧ w7.cell? ⟨w2.heap.size, 9, none⟩ = some (.int .i64 rn) := (by obtain ⟨_, a0, a1, a2, a3⟩ := XC7.out; obtain ⟨_, b0, b1, ⟨b2, b3, b4, b5⟩, b6, b7, b8, b9⟩ := XT7.out; exact ⟨a0, a1, a2, a3, b0, b1, b2, b3, b4, b5, b6, b7, b8, b9⟩); clear hb hb7
              first | (refine hK.out _ _ ?_ (fun hHeld => ?_)) | (go_wp2_with fail; refine hK.out _ _ ?_ (fun hHeld => ?_))
              · (try dsimp only); exact Y7
              clear hK K
              try simp only [Act.put, List.getElem_toArray, List.getElem_cons_succ, List.getElem_cons_zero, List.setIfInBounds_toArray, List.set_cons_zero, List.set_cons_succ]
              refine wpAnyH_ready (rs := [6]) (by kernel_rfl) (by simp) ?_
              refine AllReadyH.cons rfl (fun K hK => ?_) AllReadyH.nil
              go_simp
              go_at_call 6; refine (implCellOk_any ⟨lk, la, lb, ln⟩ _ _ p (HP.out.below (by first | exact B7.out | exact B7.out.drew | exact below_drewN B7.out _))).mono ?_; rw [hl]; rintro e w8 ⟨rfl, hb8⟩; have hb : Below w7.heap.size w7 w8 := (by first | exact hb8 | exact (Below.drew (Below.refl _ _)).trans hb8); have B8 : Hid (Below w.heap.size w w8) := bel_then B7.out hb; have XC8 : Hid (Box4 w8 w1.heap.size ⟨ck, ca, cb, cn⟩) := XC7.out.below hb; have XT8 : Hid (Box10 w8 w2.heap.size ⟨tk, tn, ⟨lk, la, lb, ln⟩, ⟨rk, ra, rb, rn⟩⟩) := XT7.out.below hb; have Y8 : w8.cell? ⟨w1.heap.size, 0, none⟩ = some (.int .i64 ck) ∧ w8.cell? ⟨w1.heap.size, 1, none⟩ = some (.int .i64 ca) ∧ w8.cell? ⟨w1.heap.size, 2, none⟩ = some (.int .i64 cb) ∧ w8.cell? ⟨w1.heap.size, 3, none⟩ = some (.int .i64 cn) ∧ w8.cell? ⟨w2.heap.size, 0, none⟩ = some (.int .i64 tk) ∧ w8.cell? ⟨w2.heap.size, 1, none⟩ = some (.bool tn) ∧ w8.cell? ⟨w2.heap.size, 2, none⟩ = some (.int .i64 lk) ∧ w8.cell? ⟨w2.heap.size, 3, none⟩ = some (.int .i64 la) ∧ w8.cell? ⟨w2.heap.size, 4, none⟩ = some (.int .i64 lb) ∧ w8.cell? ⟨w2.heap.size, 5, none⟩ = some (.int .i64 ln) ∧ w8.cell? ⟨w2.heap.size, 6, none⟩ = some (.int .i64 rk) ∧ w8.cell? ⟨w2.heap.size, 7, none⟩ = some (.int .i64 ra) ∧ w8.cell? ⟨w2.heap.size, 8, none⟩ = some (.int .i64 rb) ∧ w8.cell? ⟨w2.heap.size, 9, none⟩ = some (.int .i64 rn) := (by obtain ⟨_, a0, a1, a2, a3⟩ := XC8.out; obtain ⟨_, b0, b1, ⟨b2, b3, b4, b5⟩, b6, b7, b8, b9⟩ := XT8.out; exact ⟨a0, a1, a2, a3, b0, b1, b2, b3, b4, b5, b6, b7, b8, b9⟩); clear hb hb8
              first | (refine hK.out _ _ ?_ (fun hHeld => ?_)) | (go_wp2_with fail; refine hK.out _ _ ?_ (fun hHeld => ?_))
              · (try dsimp only); exact Y8
              clear hK K
              try simp only [Act.put, List.getElem_toArray, List.getElem_cons_succ, List.getElem_cons_zero, List.setIfInBounds_toArray, List.set_cons_zero, List.set_cons_succ]
              refine wpAnyH_take (i := 7) (v := ?_) rfl (by kernel_rfl) (by kernel_rfl) (by kernel_rfl) (fun _ _ _ h => h) (Or.inl ⟨by rfl, ?_⟩) (by assumption) ?_
              rotate_left 1
              · intro w hSw; (try dsimp only at hSw); go_simp; try with_reducible rfl
              simp only [Act.put, List.getElem_toArray, List.getElem_cons_succ, List.getElem_cons_zero, List.setIfInBounds_toArray, List.set_cons_zero, List.set_cons_succ]
              refine wpAnyH_take (i := 8) (v := ?_) rfl (by kernel_rfl) (by kernel_rfl) (by kernel_rfl) (fun _ _ _ h => h) (Or.inl ⟨by rfl, ?_⟩) (by assumption) ?_
              rotate_left 1
              · intro w hSw; (try dsimp only at hSw); go_simp; try with_reducible rfl
              simp only [Act.put, List.getElem_toArray, List.getElem_cons_succ, List.getElem_cons_zero, List.setIfInBounds_toArray, List.set_cons_zero, List.set_cons_succ]
              refine wpAnyH_take (i := 9) (v := ?_) rfl (by kernel_rfl) (by kernel_rfl) (by kernel_rfl) (fun _ _ _ h => h) (Or.inl ⟨by rfl, ?_⟩) (by assumption) ?_
              rotate_left 1
              · intro w hSw; (try dsimp only at hSw); go_simp; try with_reducible rfl
              simp only [Act.put, List.getElem_toArray, List.getElem_cons_succ, List.getElem_cons_zero, List.setIfInBounds_toArray, List.set_cons_zero, List.set_cons_succ]
              refine wpAnyH_take (i := 10) (v := ?_) rfl (by kernel_rfl) (by kernel_rfl) (by kernel_rfl) (fun _ _ _ h => h) (Or.inl ⟨by rfl, ?_⟩) (by assumption) ?_
              rotate_left 1
              · intro w hSw; (try dsimp only at hSw); go_simp; try with_reducible rfl
              simp only [Act.put, List.getElem_toArray, List.getElem_cons_succ, List.getElem_cons_zero, List.setIfInBounds_toArray, List.set_cons_zero, List.set_cons_succ]
              refine wpAnyH_ready (rs := [11]) (by kernel_rfl) (by simp) ?_
              refine AllReadyH.cons rfl (fun K hK => ?_) AllReadyH.nil
              go_simp
              go_at_call 6; refine (implCellOk_any ⟨rk, ra, rb, rn⟩ _ _ p (HP.out.below (by first | exact B8.out | exact B8.out.drew | exact below_drewN B8.out _))).mono ?_; rw [hr]; rintro e w9 ⟨rfl, hb9⟩; have hb : Below w8.heap.size w8 w9 := (by first | exact hb9 | exact (Below.drew (Below.refl _ _)).trans hb9); have B9 : Hid (Below w.heap.size w w9) := bel_then B8.out hb; have XC9 : Hid (Box4 w9 w1.heap.size ⟨ck, ca, cb, cn⟩) := XC8.out.below hb; have XT9 : Hid (Box10 w9 w2.heap.size ⟨tk, tn, ⟨lk, la, lb, ln⟩, ⟨rk, ra, rb, rn⟩⟩) := XT8.out.below hb; have Y9 : w9.cell? ⟨w1.heap.size, 0, none⟩ = some (.int .i64 ck) ∧ w9.cell? ⟨w1.heap.size, 1, none⟩ = some (.int .i64 ca) ∧ w9.cell? ⟨w1.heap.size, 2, none⟩ = some (.int .i64 cb) ∧ w9.cell? ⟨w1.heap.size, 3, none⟩ = some (.int .i64 cn) ∧ w9.cell? ⟨w2.heap.size, 0, none⟩ = some (.int .i64 tk) ∧ w9.cell? ⟨w2.heap.size, 1, none⟩ = some (.bool tn) ∧ w9.cell? ⟨w2.heap.size, 2, none⟩ = some (.int .i64 lk) ∧ w9.cell? ⟨w2.heap.size, 3, none⟩ = some (.int .i64 la) ∧ w9.cell? ⟨w2.heap.size, 4, none⟩ = some (.int .i64 lb) ∧ w9.cell? ⟨w2.heap.size, 5, none⟩ = some (.int .i64 ln) ∧ w9.cell? ⟨w2.heap.size, 6, none⟩ = some (.int .i64 rk) ∧ w9.cell? ⟨w2.heap.size, 7, none⟩ = some (.int .i64 ra) ∧ w9.cell? ⟨w2.heap.size, 8, none⟩ = some (.int .i64 rb) ∧ w9.cell? ⟨w2.heap.size, 9, none⟩ = some (.int .i64 rn) := (by obtain ⟨_, a0, a1, a2, a3⟩ := XC9.out; obtain ⟨_, b0, b1, ⟨b2, b3, b4, b5⟩, b6, b7, b8, b9⟩ := XT9.out; exact ⟨a0, a1, a2, a3, b0, b1, b2, b3, b4, b5, b6, b7, b8, b9⟩); clear hb hb9
              first | (refine hK.out _ _ ?_ (fun hHeld => ?_)) | (go_wp2_with fail; refine hK.out _ _ ?_ (fun hHeld => ?_))
              · (try dsimp only); exact Y9
              clear hK K
              try simp only [Act.put, List.getElem_toArray, List.getElem_cons_succ, List.getElem_cons_zero, List.setIfInBounds_toArray, List.set_cons_zero, List.set_cons_succ]
              refine wpAnyH_take (i := 12) (v := ?_) rfl (by kernel_rfl) (by kernel_rfl) (by kernel_rfl) (fun _ _ _ h => h) (Or.inl ⟨by rfl, ?_⟩) (by assumption) ?_
              rotate_left 1
              · intro w hSw; (try dsimp only at hSw); go_simp; try with_reducible rfl
              simp only [Act.put, List.getElem_toArray, List.getElem_cons_succ, List.getElem_cons_zero, List.setIfInBounds_toArray, List.set_cons_zero, List.set_cons_succ]
              refine wpAnyH_take (i := 13) (v := ?_) rfl (by kernel_rfl) (by kernel_rfl) (by kernel_rfl) (fun _ _ _ h => h) (Or.inl ⟨by rfl, ?_⟩) (by assumption) ?_
              rotate_left 1
              · intro w hSw; (try dsimp only at hSw); go_simp; try with_reducible rfl
              simp only [Act.put, List.getElem_toArray, List.getElem_cons_succ, List.getElem_cons_zero, List.setIfInBounds_toArray, List.set_cons_zero, List.set_cons_succ]
              refine wpAnyH_take (i := 14) (v := ?_) rfl (by kernel_rfl) (by kernel_rfl) (by kernel_rfl) (fun _ _ _ h => h) (Or.inl ⟨by rfl, ?_⟩) (by assumption) ?_
              rotate_left 1
              · intro w hSw; (try dsimp only at hSw); go_simp; try with_reducible rfl
              simp only [Act.put, List.getElem_toArray, List.getElem_cons_succ, List.getElem_cons_zero, List.setIfInBounds_toArray, List.set_cons_zero, List.set_cons_succ]
              refine wpAnyH_take (i := 15) (v := ?_) rfl (by kernel_rfl) (by kernel_rfl) (by kernel_rfl) (fun _ _ _ h => h) (Or.inl ⟨by rfl, ?_⟩) (by assumption) ?_
              rotate_left 1
              · intro w hSw; (try dsimp only at hSw); go_simp; try with_reducible rfl
              simp only [Act.put, List.getElem_toArray, List.getElem_cons_succ, List.getElem_cons_zero, List.setIfInBounds_toArray, List.set_cons_zero, List.set_cons_succ]
              refine wpAnyH_take (i := 16) (v := ?_) rfl (by kernel_rfl) (by kernel_rfl) (by kernel_rfl) (fun _ _ _ h => h) (Or.inl ⟨by rfl, ?_⟩) (by assumption) ?_
              rotate_left 1
              · intro w hSw; (try dsimp only at hSw); go_simp; try with_reducible rfl
              simp only [Act.put, List.getElem_toArray, List.getElem_cons_succ, List.getElem_cons_zero, List.setIfInBounds_toArray, List.set_cons_zero, List.set_cons_succ]
              refine wpAnyH_take (i := 17) (v := ?_) rfl (by kernel_rfl) (by kernel_rfl) (by kernel_rfl) (fun _ _ _ h => h) (Or.inl ⟨by rfl, ?_⟩) (by assumption) ?_
              rotate_left 1
              · intro w hSw; (try dsimp only at hSw); go_simp; try with_reducible rfl
              simp only [Act.put, List.getElem_toArray, List.getElem_cons_succ, List.getElem_cons_zero, List.setIfInBounds_toArray, List.set_cons_zero, List.set_cons_succ]
              refine wpAnyH_take (i := 18) (v := ?_) rfl (by kernel_rfl) (by kernel_rfl) (by kernel_rfl) (fun _ _ _ h => h) (Or.inl ⟨by rfl, ?_⟩) (by assumption) ?_
              rotate_left 1
              · intro w hSw; (try dsimp only at hSw); go_simp; try with_reducible rfl
              simp only [Act.put, List.getElem_toArray, List.getElem_cons_succ, List.getElem_cons_zero, List.setIfInBounds_toArray, List.set_cons_zero, List.set_cons_succ]
              refine wpAnyH_take (i := 19) (v := ?_) rfl (by kernel_rfl) (by kernel_rfl) (by kernel_rfl) (fun _ _ _ h => h) (Or.inl ⟨by rfl, ?_⟩) (by assumption) ?_
              rotate_left 1
              · intro w hSw; (try dsimp only at hSw); go_simp; try with_reducible rfl
              simp only [Act.put, List.getElem_toArray, List.getElem_cons_succ, List.getElem_cons_zero, List.setIfInBounds_toArray, List.set_cons_zero, List.set_cons_succ]
              refine wpAnyH_take (i := 20) (v := ?_) rfl (by kernel_rfl) (by kernel_rfl) (by kernel_rfl) (fun _ _ _ h => h) (Or.inl ⟨by rfl, ?_⟩) (by assumption) ?_
              rotate_left 1
              · intro w hSw; (try dsimp only at hSw); go_simp; try with_reducible rfl
              simp only [Act.put, List.getElem_toArray, List.getElem_cons_succ, List.getElem_cons_zero, List.setIfInBounds_toArray, List.set_cons_zero, List.set_cons_succ]
              refine wpAnyH_take (i := 21) (v := ?_) rfl (by kernel_rfl) (by kernel_rfl) (by kernel_rfl) (fun _ _ _ h => h) (Or.inl ⟨by rfl, ?_⟩) (by assumption) ?_
              rotate_left 1
              · intro w hSw; (try dsimp only at hSw); go_simp; try with_reducible rfl
              simp only [Act.put, List.getElem_toArray, List.getElem_cons_succ, List.getElem_cons_zero, List.setIfInBounds_toArray, List.set_cons_zero, List.set_cons_succ]
              refine wpAnyH_take (i := 22) (v := ?_) rfl (by kernel_rfl) (by kernel_rfl) (by kernel_rfl) (fun _ _ _ h => h) (Or.inl ⟨by rfl, ?_⟩) (by assumption) ?_
              rotate_left 1
              · intro w hSw; (try dsimp only at hSw); go_simp; try with_reducible rfl
              simp only [Act.put, List.getElem_toArray, List.getElem_cons_succ, List.getElem_cons_zero, List.setIfInBounds_toArray, List.set_cons_zero, List.set_cons_succ]
              refine wpAnyH_take (i := 23) (v := ?_) rfl (by kernel_rfl) (by kernel_rfl) (by kernel_rfl) (fun _ _ _ h => h) (Or.inl ⟨by rfl, ?_⟩) (by assumption) ?_
              rotate_left 1
              · intro w hSw; (try dsimp only at hSw); go_simp; try with_reducible rfl
              simp only [Act.put, List.getElem_toArray, List.getElem_cons_succ, List.getElem_cons_zero, List.setIfInBounds_toArray, List.set_cons_zero, List.set_cons_succ]
              refine wpAnyH_done (by kernel_rfl) ?_ _
              go_wp2_with fail
              go_meet
              case rel => exact ⟨rfl, B9.out, XC9.out, XT9.out⟩
    case rest =>
      obtain ⟨rfl, B9, XC9, XT9⟩ := hcut
      clear Y6 B6 XC6 XT6
      obtain ⟨w9, hw9⟩ : ∃ w9, w9 = wc := ⟨_, rfl⟩
      subst hw9
      obtain ⟨_, c0, c1, c2, c3⟩ := XC9.out
      simp only at c0 c1 c2 c3
      go_wp2_with fail
      refine (specCellOk_any ⟨ck, ca, cb, cn⟩ _ _).mono ?_
      rw [← HXV.out]
      rintro e w20 ⟨rfl, hb20⟩
      have B20 : Hid (Below w.heap.size w w20) := bel_then B9.out hb20
      have XC20 : Hid (Box4 w20 w1.heap.size ⟨ck, ca, cb, cn⟩) := XC9.out.below hb20
      clear hb20 c0 c1 c2 c3
      cases hxc : x
      · go_wp2
        go_ret
        exact ⟨rfl, B20.out⟩
      · have hok : Cel.okB ⟨ck, ca, cb, cn⟩ n1 = true := by rw [← HXV.out]; exact hxc
        have XC21 : Hid (Box4 (w20.alloc (.cells #[.int .i64 4, .int .i64 ca, .int .i64 cb, .int .i64 cn] 24)) w1.heap.size ⟨ck, ca, cb, cn⟩) := XC20.out.below (bel_alloc _)
        have XD21 : Hid (Box4 (w20.alloc (.cells #[.int .i64 4, .int .i64 ca, .int .i64 cb, .int .i64 cn] 24)) w20.heap.size ⟨4, ca, cb, cn⟩) := Box4.start w20 ⟨4, ca, cb, cn⟩ _
        have B21 : Hid (Below w.heap.size w (w20.alloc (.cells #[.int .i64 4, .int .i64 ca, .int .i64 cb, .int .i64 cn] 24))) := bel_then B20.out (bel_alloc _)
        have hd1 : Cel.okB ⟨4, ca, cb, cn⟩ n1 = false := bent_no _ _ _ _
        have h6 : Cel.okB ⟨ck, ca, cb, cn⟩ 6 = true := ok_six hok
        obtain ⟨_, c0, c1, c2, c3⟩ := XC20.out
        simp only at c0 c1 c2 c3
        by_cases hk2 : ck = 2
        · have hkb : (ck == 2) = true := by simpa using hk2
          clear hk2
          obtain ⟨_, c0, c1, c2, c3⟩ := XC21.out
          obtain ⟨_, d0, d1, d2, d3⟩ := XD21.out
          simp only at c0 c1 c2 c3 d0 d1 d2 d3
          go_wp2_with fail
          refine (implCellOk_any ⟨4, ca, cb, cn⟩ _ _ p (HP.out.below B21.out)).mono ?_
          rw [hd1]
          rintro e w22 ⟨rfl, hb22⟩
          have XC22 : Hid (Box4 w22 w1.heap.size ⟨ck, ca, cb, cn⟩) := XC21.out.below hb22
          have XD22 : Hid (Box4 w22 w20.heap.size ⟨4, ca, cb, cn⟩) := XD21.out.below hb22
          have B22 : Hid (Below w.heap.size w w22) := bel_then B21.out hb22
          clear hb22 c0 c1 c2 c3 d0 d1 d2 d3
          obtain ⟨_, c0, c1, c2, c3⟩ := XC22.out
          obtain ⟨_, d0, d1, d2, d3⟩ := XD22.out
          simp only at c0 c1 c2 c3 d0 d1 d2 d3
          go_wp2_with fail
          refine (cellText_none ⟨4, ca, cb, cn⟩ _ p (HP.out.below B22.out) (kind_four _ _ _)).mono ?_
          skip
          rintro e w23 ⟨rfl, hb23⟩
          have XC23 : Hid (Box4 w23 w1.heap.size ⟨ck, ca, cb, cn⟩) := XC22.out.below hb23
          have XD23 : Hid (Box4 w23 w20.heap.size ⟨4, ca, cb, cn⟩) := XD22.out.below hb23
          have B23 : Hid (Below w.heap.size w w23) := bel_then B22.out hb23
          clear hb23 c0 c1 c2 c3 d0 d1 d2 d3
          obtain ⟨_, c0, c1, c2, c3⟩ := XC23.out
          obtain ⟨_, d0, d1, d2, d3⟩ := XD23.out
          simp only at c0 c1 c2 c3 d0 d1 d2 d3
          go_wp2_with fail
          refine (implCellOk_any ⟨ck, ca, cb, cn⟩ _ _ p (HP.out.below B23.out)).mono ?_
          rw [h6]
          rintro e w25 ⟨rfl, hb25⟩
          have XC25 : Hid (Box4 w25 w1.heap.size ⟨ck, ca, cb, cn⟩) := XC23.out.below hb25
          have XD25 : Hid (Box4 w25 w20.heap.size ⟨4, ca, cb, cn⟩) := XD23.out.below hb25
          have B25 : Hid (Below w.heap.size w w25) := bel_then B23.out hb25
          clear hb25 c0 c1 c2 c3 d0 d1 d2 d3
          go_wp2
          go_ret
          exact ⟨rfl, B25.out⟩
        · have hkb : (ck == 2) = false := by simpa using hk2
          have hA : Cel.okB ⟨ck, ca, cb, cn⟩ ca = false := ok_narrow hk2
          clear hk2
          obtain ⟨_, c0, c1, c2, c3⟩ := XC21.out
          obtain ⟨_, d0, d1, d2, d3⟩ := XD21.out
          simp only at c0 c1 c2 c3 d0 d1 d2 d3
          go_wp2_with fail
          refine (implCellOk_any ⟨4, ca, cb, cn⟩ _ _ p (HP.out.below B21.out)).mono ?_
          rw [hd1]
          rintro e w22 ⟨rfl, hb22⟩
          have XC22 : Hid (Box4 w22 w1.heap.size ⟨ck, ca, cb, cn⟩) := XC21.out.below hb22
          have XD22 : Hid (Box4 w22 w20.heap.size ⟨4, ca, cb, cn⟩) := XD21.out.below hb22
          have B22 : Hid (Below w.heap.size w w22) := bel_then B21.out hb22
          clear hb22 c0 c1 c2 c3 d0 d1 d2 d3
          obtain ⟨_, c0, c1, c2, c3⟩ := XC22.out
          obtain ⟨_, d0, d1, d2, d3⟩ := XD22.out
          simp only at c0 c1 c2 c3 d0 d1 d2 d3
          go_wp2_with fail
          refine (cellText_none ⟨4, ca, cb, cn⟩ _ p (HP.out.below B22.out) (kind_four _ _ _)).mono ?_
          skip
          rintro e w23 ⟨rfl, hb23⟩
          have XC23 : Hid (Box4 w23 w1.heap.size ⟨ck, ca, cb, cn⟩) := XC22.out.below hb23
          have XD23 : Hid (Box4 w23 w20.heap.size ⟨4, ca, cb, cn⟩) := XD22.out.below hb23
          have B23 : Hid (Below w.heap.size w w23) := bel_then B22.out hb23
          clear hb23 c0 c1 c2 c3 d0 d1 d2 d3
          obtain ⟨_, c0, c1, c2, c3⟩ := XC23.out
          obtain ⟨_, d0, d1, d2, d3⟩ := XD23.out
          simp only at c0 c1 c2 c3 d0 d1 d2 d3
          go_wp2_with fail
          refine (implCellOk_any ⟨ck, ca, cb, cn⟩ _ _ p (HP.out.below B23.out)).mono ?_
          rw [hA]
          rintro e w24 ⟨rfl, hb24⟩
          have XC24 : Hid (Box4 w24 w1.heap.size ⟨ck, ca, cb, cn⟩) := XC23.out.below hb24
          have XD24 : Hid (Box4 w24 w20.heap.size ⟨4, ca, cb, cn⟩) := XD23.out.below hb24
          have B24 : Hid (Below w.heap.size w w24) := bel_then B23.out hb24
          clear hb24 c0 c1 c2 c3 d0 d1 d2 d3
          obtain ⟨_, c0, c1, c2, c3⟩ := XC24.out
          obtain ⟨_, d0, d1, d2, d3⟩ := XD24.out
          simp only at c0 c1 c2 c3 d0 d1 d2 d3
          go_wp2_with fail
          refine (implCellOk_any ⟨ck, ca, cb, cn⟩ _ _ p (HP.out.below B24.out)).mono ?_
          rw [h6]
          rintro e w25 ⟨rfl, hb25⟩
          have XC25 : Hid (Box4 w25 w1.heap.size ⟨ck, ca, cb, cn⟩) := XC24.out.below hb25
          have XD25 : Hid (Box4 w25 w20.heap.size ⟨4, ca, cb, cn⟩) := XD24.out.below hb25
          have B25 : Hid (Below w.heap.size w w25) := bel_then B24.out hb25
          clear hb25 c0 c1 c2 c3 d0 d1 d2 d3
          go_wp2
          go_ret
          exact ⟨rfl, B25.out⟩

end Go.Proofs.YtkgopbffgahhcaaDoor
