/-
  The walk of laws.FnTest, out of the contracts: whatever the bytes are, it answers true, and nothing that was there is written. Conditions: the library's variables and the error of chapter 3 read as they were laid (Can).
-/
import Derived.Test.YtkgopbffgahhcaaGreatDoorTestRead
import Derived.Test.YtkgopbffgahhcaaGreatDoorTestText2
import Derived.Test.YtkgopbffgahhcaaGreatDoorTestReadSpec
import Derived.Test.YtkgopbffgahhcaaGreatDoorDrawTestRead
import Derived.Test.YtkgopbffgahhcaaGreatDoorDrawT2
import Derived.Test.YtkgopbffgahhcaaGreatDoorTestImpl
import Derived.Test.YtkgopbffgahhcaaGreatDoorTestSpec2
import Derived.Test.YtkgopbffgahhcaaGreatDoorTestEq
import Derived.Deep.RegionHeld3
import Derived.Deep.DeepCutAuto
namespace Go.Proofs.YtkgopbffgahhcaaGreatDoor
set_option maxRecDepth 100000
open Go.RowKit
set_option linter.unusedVariables false
set_option linter.unusedSimpArgs false

theorem readT_nil : readT [] = none := by
  have h : sidesB (restB []) = none := by simp [sidesB, restB, cutAt]
  unfold readT
  rw [h]; rfl
theorem read_ttxO (t : Tst) : readT t.txO = if t.okB 6 = true then some t else none := by
  unfold Tst.txO
  split
  · rename_i h; exact readT_tx h
  · exact readT_nil
theorem testNe (t : Tst) (w : World) : (binOp .neq 52 (.agg #[.int .i64 t.k, .bool t.no, .int .i64 t.l.k, .int .i64 t.l.a, .int .i64 t.l.b, .int .i64 t.l.n, .int .i64 t.r.k, .int .i64 t.r.a, .int .i64 t.r.b, .int .i64 t.r.n]) (.agg #[.int .i64 t.k, .bool t.no, .int .i64 t.l.k, .int .i64 t.l.a, .int .i64 t.l.b, .int .i64 t.l.n, .int .i64 t.r.k, .int .i64 t.r.a, .int .i64 t.r.b, .int .i64 t.r.n])).run Tryz.prog w = .ok (.bool false) w := by
  have h := testEq t t w
  rw [run_eql_struct, Tst.eqB_iff.2 rfl] at h
  rw [run_neq_struct]
  cases hr : (Op.equalIn 10000 52 (.agg #[.int .i64 t.k, .bool t.no, .int .i64 t.l.k, .int .i64 t.l.a, .int .i64 t.l.b, .int .i64 t.l.n, .int .i64 t.r.k, .int .i64 t.r.a, .int .i64 t.r.b, .int .i64 t.r.n]) (.agg #[.int .i64 t.k, .bool t.no, .int .i64 t.l.k, .int .i64 t.l.a, .int .i64 t.l.b, .int .i64 t.l.n, .int .i64 t.r.k, .int .i64 t.r.a, .int .i64 t.r.b, .int .i64 t.r.n])).run Tryz.prog w with
  | ok b w' =>
    rw [hr] at h
    simp only [Result.andThen, Result.ok.injEq, Value.bool.injEq] at h ⊢
    obtain ⟨rfl, rfl⟩ := h
    simp
  | halt x w' =>
    rw [hr] at h
    simp [Result.andThen] at h
theorem bytes_eq {s t : ByteArray} (h : s.data.toList = t.data.toList) : s = t := by
  obtain ⟨⟨a⟩⟩ := s
  obtain ⟨⟨b⟩⟩ := t
  simp at h
  rw [h]
theorem box_flip {w : World} {g : Nat} {t : Tst} {b : Bool} (h : Box10 w g t) : Box10 (w.setCell ⟨g, 1, none⟩ (.bool b)) g ⟨t.k, b, t.l, t.r⟩ := by
  obtain ⟨hl, c0, c1, ⟨c2, c3, c4, c5⟩, c6, c7, c8, c9⟩ := h
  have k : ∀ o, o ≠ 1 → (w.setCell ⟨g, 1, none⟩ (.bool b)).cell? ⟨g, o, none⟩ = w.cell? ⟨g, o, none⟩ := fun o ho => World.cell?_setCell_other _ _ _ _ (by simp <;> omega)
  refine ⟨?_, (k 0 (by omega)).trans c0, World.cell?_setCell_same _ _ _ c1, ⟨(k 2 (by omega)).trans c2, (k 3 (by omega)).trans c3, (k 4 (by omega)).trans c4, (k 5 (by omega)).trans c5⟩, (k 6 (by omega)).trans c6, (k 7 (by omega)).trans c7, (k 8 (by omega)).trans c8, (k 9 (by omega)).trans c9⟩
  show g < (w.heap.modify _ _).size
  rw [Array.size_modify]; exact hl

set_option maxHeartbeats 16000000 in
theorem lawFnTest (a : Option Addr) (len cap : Nat) (zs : List Int) (a2 : Option Addr) (len2 cap2 : Nat) (zs2 : List Int) (w : World) (h : IsRow .u8 w a len cap zs) (h2 : IsRow .u8 w a2 len2 cap2 zs2) (hc : ∃ p, Can p w) :
    Calls Tryz.prog 6 #[.slice a len cap, .slice a2 len2 cap2] w fun e w' => e = .returned (.bool true) ∧ Below w.heap.size w w' := by
  by_cases hbig : (1048576 : Int) < (len : Int)
  · go_enter Tryz.func6, Tryz.ntmps6
    go_wp2
    go_ret
    exact ⟨rfl, Below.refl _ _⟩
  by_cases hbig2 : (1048576 : Int) < (len2 : Int)
  · go_enter Tryz.func6, Tryz.ntmps6
    go_wp2
    go_ret
    exact ⟨rfl, Below.refl _ _⟩
  obtain ⟨p, hc⟩ := hc
  have HC : Hid (Can p w) := hc
  have H : Hid (IsRow .u8 w a len cap zs) := h
  have H2 : Hid (IsRow .u8 w a2 len2 cap2 zs2) := h2
  clear h h2 hc
  go_enter Tryz.func6, Tryz.ntmps6
  go_wp2_with fail
  refine (drawTestOk_any a len cap zs _ H.out).mono ?_
  rintro e w1 ⟨⟨ck, cn, ⟨clk, cla, clb, cln⟩, ⟨crk, cra, crb, crn⟩⟩, n1, rfl, -, -, -, hb1⟩
  simp only
  have B1 : Hid (Below w.heap.size w w1) := hb1
  clear hb1
  obtain ⟨g, HG⟩ : ∃ g, Hid (g = Tst.okB ⟨ck, cn, ⟨clk, cla, clb, cln⟩, ⟨crk, cra, crb, crn⟩⟩ n1) := ⟨_, Eq.refl _⟩
  have hgg : (g != g) = false := by simp
  go_wp2_with fail
  refine (implTestText_any ⟨ck, cn, ⟨clk, cla, clb, cln⟩, ⟨crk, cra, crb, crn⟩⟩ _ p (HC.out.below (bel_then B1.out (bel_alloc _))).1 (HC.out.below (bel_then B1.out (bel_alloc _))).2.1).mono ?_
  rintro e w2 ⟨s, rfl, hs, hsz, hb2⟩
  have X2 : Hid (Box10 w2 w1.heap.size ⟨ck, cn, ⟨clk, cla, clb, cln⟩, ⟨crk, cra, crb, crn⟩⟩) := (Box10.start w1 ⟨ck, cn, ⟨clk, cla, clb, cln⟩, ⟨crk, cra, crb, crn⟩⟩ _).below hb2
  have B2 : Hid (Below w.heap.size w w2) := bel_then B1.out (bel_then (bel_alloc _) hb2)
  have HS : Hid (s.data.toList = Tst.txO ⟨ck, cn, ⟨clk, cla, clb, cln⟩, ⟨crk, cra, crb, crn⟩⟩) := hs
  clear hs hb2
  have hss : (s.toList != s.toList) = false := by simp
  go_wp2_with fail
  refine (implTestRead_any s (by omega) _ p (HC.out.below B2.out)).mono ?_
  obtain ⟨o1, HO1⟩ : ∃ o, Hid (o = readT (Tst.txO ⟨ck, cn, ⟨clk, cla, clb, cln⟩, ⟨crk, cra, crb, crn⟩⟩)) := ⟨_, Eq.refl _⟩
  obtain ⟨⟨xk, xn, ⟨xlk, xla, xlb, xln⟩, ⟨xrk, xra, xrb, xrn⟩⟩, HX⟩ : ∃ x, Hid (x = outT o1) := ⟨_, Eq.refl _⟩
  obtain ⟨ok, HV⟩ : ∃ v, Hid (v = o1.isSome) := ⟨_, Eq.refl _⟩
  rw [HS.out, ← HO1.out, ← HX.out, ← HV.out]
  simp only
  rintro e w3 ⟨rfl, hb3⟩
  have XC3 : Hid (Box10 w3 w1.heap.size ⟨ck, cn, ⟨clk, cla, clb, cln⟩, ⟨crk, cra, crb, crn⟩⟩) := X2.out.below hb3
  have B3 : Hid (Below w.heap.size w w3) := bel_then B2.out hb3
  have XC0 : Hid (Box10 (w3.alloc (.cells #[.int .i64 xk, .bool xn, .int .i64 xlk, .int .i64 xla, .int .i64 xlb, .int .i64 xln, .int .i64 xrk, .int .i64 xra, .int .i64 xrb, .int .i64 xrn] 52)) w1.heap.size ⟨ck, cn, ⟨clk, cla, clb, cln⟩, ⟨crk, cra, crb, crn⟩⟩) := XC3.out.below (bel_alloc _)
  have XX0 : Hid (Box10 (w3.alloc (.cells #[.int .i64 xk, .bool xn, .int .i64 xlk, .int .i64 xla, .int .i64 xlb, .int .i64 xln, .int .i64 xrk, .int .i64 xra, .int .i64 xrb, .int .i64 xrn] 52)) w3.heap.size ⟨xk, xn, ⟨xlk, xla, xlb, xln⟩, ⟨xrk, xra, xrb, xrn⟩⟩) := Box10.start w3 ⟨xk, xn, ⟨xlk, xla, xlb, xln⟩, ⟨xrk, xra, xrb, xrn⟩⟩ _
  have B0 : Hid (Below w.heap.size w (w3.alloc (.cells #[.int .i64 xk, .bool xn, .int .i64 xlk, .int .i64 xla, .int .i64 xlb, .int .i64 xln, .int .i64 xrk, .int .i64 xra, .int .i64 xrb, .int .i64 xrn] 52))) := bel_then B3.out (bel_alloc _)
  clear hb3
  go_wp2_with fail
  go_cut [73] (fun c wx => c = .bool false ∧ Hid (Below w.heap.size w wx))
  case first =>
    cases hok : Tst.okB ⟨ck, cn, ⟨clk, cla, clb, cln⟩, ⟨crk, cra, crb, crn⟩⟩ 6
    · have HOK6 : Hid (Tst.okB ⟨ck, cn, ⟨clk, cla, clb, cln⟩, ⟨crk, cra, crb, crn⟩⟩ 6 = false) := hok
      have hx := HX.out
      have hv := HV.out
      rw [HO1.out, read_ttxO, hok] at hx hv
      simp only [Bool.false_eq_true, if_false, outT, Option.getD_none, Option.isSome_none] at hx hv
      simp only [Tst.mk.injEq, Cel.mk.injEq] at hx
      obtain ⟨rfl, rfl, ⟨rfl, rfl, rfl, rfl⟩, rfl, rfl, rfl, rfl⟩ := hx
      subst hv
      clear hok
      have hne := testNe ⟨ck, cn, ⟨clk, cla, clb, cln⟩, ⟨crk, cra, crb, crn⟩⟩
      have Y0 : (w3.alloc (.cells #[.int .i64 0, .bool false, .int .i64 0, .int .i64 0, .int .i64 0, .int .i64 0, .int .i64 0, .int .i64 0, .int .i64 0, .int .i64 0] 52)).cell? ⟨w1.heap.size, 0, none⟩ = some (.int .i64 ck) ∧ (w3.alloc (.cells #[.int .i64 0, .bool false, .int .i64 0, .int .i64 0, .int .i64 0, .int .i64 0, .int .i64 0, .int .i64 0, .int .i64 0, .int .i64 0] 52)).cell? ⟨w1.heap.size, 1, none⟩ = some (.bool cn) ∧ (w3.alloc (.cells #[.int .i64 0, .bool false, .int .i64 0, .int .i64 0, .int .i64 0, .int .i64 0, .int .i64 0, .int .i64 0, .int .i64 0, .int .i64 0] 52)).cell? ⟨w1.heap.size, 2, none⟩ = some (.int .i64 clk) ∧ (w3.alloc (.cells #[.int .i64 0, .bool false, .int .i64 0, .int .i64 0, .int .i64 0, .int .i64 0, .int .i64 0, .int .i64 0, .int .i64 0, .int .i64 0] 52)).cell? ⟨w1.heap.size, 3, none⟩ = some (.int .i64 cla) ∧ (w3.alloc (.cells #[.int .i64 0, .bool false, .int .i64 0, .int .i64 0, .int .i64 0, .int .i64 0, .int .i64 0, .int .i64 0, .int .i64 0, .int .i64 0] 52)).cell? ⟨w1.heap.size, 4, none⟩ = some (.int .i64 clb) ∧ (w3.alloc (.cells #[.int .i64 0, .bool false, .int .i64 0, .int .i64 0, .int .i64 0, .int .i64 0, .int .i64 0, .int .i64 0, .int .i64 0, .int .i64 0] 52)).cell? ⟨w1.heap.size, 5, none⟩ = some (.int .i64 cln) ∧ (w3.alloc (.cells #[.int .i64 0, .bool false, .int .i64 0, .int .i64 0, .int .i64 0, .int .i64 0, .int .i64 0, .int .i64 0, .int .i64 0, .int .i64 0] 52)).cell? ⟨w1.heap.size, 6, none⟩ = some (.int .i64 crk) ∧ (w3.alloc (.cells #[.int .i64 0, .bool false, .int .i64 0, .int .i64 0, .int .i64 0, .int .i64 0, .int .i64 0, .int .i64 0, .int .i64 0, .int .i64 0] 52)).cell? ⟨w1.heap.size, 7, none⟩ = some (.int .i64 cra) ∧ (w3.alloc (.cells #[.int .i64 0, .bool false, .int .i64 0, .int .i64 0, .int .i64 0, .int .i64 0, .int .i64 0, .int .i64 0, .int .i64 0, .int .i64 0] 52)).cell? ⟨w1.heap.size, 8, none⟩ = some (.int .i64 crb) ∧ (w3.alloc (.cells #[.int .i64 0, .bool false, .int .i64 0, .int .i64 0, .int .i64 0, .int .i64 0, .int .i64 0, .int .i64 0, .int .i64 0, .int .i64 0] 52)).cell? ⟨w1.heap.size, 9, none⟩ = some (.int .i64 crn) ∧ (w3.alloc (.cells #[.int .i64 0, .bool false, .int .i64 0, .int .i64 0, .int .i64 0, .int .i64 0, .int .i64 0, .int .i64 0, .int .i64 0, .int .i64 0] 52)).cell? ⟨w3.heap.size, 0, none⟩ = some (.int .i64 0) ∧ (w3.alloc (.cells #[.int .i64 0, .bool false, .int .i64 0, .int .i64 0, .int .i64 0, .int .i64 0, .int .i64 0, .int .i64 0, .int .i64 0, .int .i64 0] 52)).cell? ⟨w3.heap.size, 1, none⟩ = some (.bool false) ∧ (w3.alloc (.cells #[.int .i64 0, .bool false, .int .i64 0, .int .i64 0, .int .i64 0, .int .i64 0, .int .i64 0, .int .i64 0, .int .i64 0, .int .i64 0] 52)).cell? ⟨w3.heap.size, 2, none⟩ = some (.int .i64 0) ∧ (w3.alloc (.cells #[.int .i64 0, .bool false, .int .i64 0, .int .i64 0, .int .i64 0, .int .i64 0, .int .i64 0, .int .i64 0, .int .i64 0, .int .i64 0] 52)).cell? ⟨w3.heap.size, 3, none⟩ = some (.int .i64 0) ∧ (w3.alloc (.cells #[.int .i64 0, .bool false, .int .i64 0, .int .i64 0, .int .i64 0, .int .i64 0, .int .i64 0, .int .i64 0, .int .i64 0, .int .i64 0] 52)).cell? ⟨w3.heap.size, 4, none⟩ = some (.int .i64 0) ∧ (w3.alloc (.cells #[.int .i64 0, .bool false, .int .i64 0, .int .i64 0, .int .i64 0, .int .i64 0, .int .i64 0, .int .i64 0, .int .i64 0, .int .i64 0] 52)).cell? ⟨w3.heap.size, 5, none⟩ = some (.int .i64 0) ∧ (w3.alloc (.cells #[.int .i64 0, .bool false, .int .i64 0, .int .i64 0, .int .i64 0, .int .i64 0, .int .i64 0, .int .i64 0, .int .i64 0, .int .i64 0] 52)).cell? ⟨w3.heap.size, 6, none⟩ = some (.int .i64 0) ∧ (w3.alloc (.cells #[.int .i64 0, .bool false, .int .i64 0, .int .i64 0, .int .i64 0, .int .i64 0, .int .i64 0, .int .i64 0, .int .i64 0, .int .i64 0] 52)).cell? ⟨w3.heap.size, 7, none⟩ = some (.int .i64 0) ∧ (w3.alloc (.cells #[.int .i64 0, .bool false, .int .i64 0, .int .i64 0, .int .i64 0, .int .i64 0, .int .i64 0, .int .i64 0, .int .i64 0, .int .i64 0] 52)).cell? ⟨w3.heap.size, 8, none⟩ = some (.int .i64 0) ∧ (w3.alloc (.cells #[.int .i64 0, .bool false, .int .i64 0, .int .i64 0, .int .i64 0, .int .i64 0, .int .i64 0, .int .i64 0, .int .i64 0, .int .i64 0] 52)).cell? ⟨w3.heap.size, 9, none⟩ = some (.int .i64 0) := (by obtain ⟨_, a0, a1, ⟨a2, a3, a4, a5⟩, a6, a7, a8, a9⟩ := XC0.out; obtain ⟨_, b0, b1, ⟨b2, b3, b4, b5⟩, b6, b7, b8, b9⟩ := XX0.out; exact ⟨a0, a1, a2, a3, a4, a5, a6, a7, a8, a9, b0, b1, b2, b3, b4, b5, b6, b7, b8, b9⟩)
      refine wp_region_held_drew (S := (fun w' => w'.cell? ⟨w1.heap.size, 0, none⟩ = some (.int .i64 ck) ∧ w'.cell? ⟨w1.heap.size, 1, none⟩ = some (.bool cn) ∧ w'.cell? ⟨w1.heap.size, 2, none⟩ = some (.int .i64 clk) ∧ w'.cell? ⟨w1.heap.size, 3, none⟩ = some (.int .i64 cla) ∧ w'.cell? ⟨w1.heap.size, 4, none⟩ = some (.int .i64 clb) ∧ w'.cell? ⟨w1.heap.size, 5, none⟩ = some (.int .i64 cln) ∧ w'.cell? ⟨w1.heap.size, 6, none⟩ = some (.int .i64 crk) ∧ w'.cell? ⟨w1.heap.size, 7, none⟩ = some (.int .i64 cra) ∧ w'.cell? ⟨w1.heap.size, 8, none⟩ = some (.int .i64 crb) ∧ w'.cell? ⟨w1.heap.size, 9, none⟩ = some (.int .i64 crn) ∧ w'.cell? ⟨w3.heap.size, 0, none⟩ = some (.int .i64 0) ∧ w'.cell? ⟨w3.heap.size, 1, none⟩ = some (.bool false) ∧ w'.cell? ⟨w3.heap.size, 2, none⟩ = some (.int .i64 0) ∧ w'.cell? ⟨w3.heap.size, 3, none⟩ = some (.int .i64 0) ∧ w'.cell? ⟨w3.heap.size, 4, none⟩ = some (.int .i64 0) ∧ w'.cell? ⟨w3.heap.size, 5, none⟩ = some (.int .i64 0) ∧ w'.cell? ⟨w3.heap.size, 6, none⟩ = some (.int .i64 0) ∧ w'.cell? ⟨w3.heap.size, 7, none⟩ = some (.int .i64 0) ∧ w'.cell? ⟨w3.heap.size, 8, none⟩ = some (.int .i64 0) ∧ w'.cell? ⟨w3.heap.size, 9, none⟩ = some (.int .i64 0))) (by kernel_rfl) ?_ (fun hHeld => ?_)
      · (try dsimp only); exact Y0
      refine wpAnyH_take (i := 0) (v := ?_) rfl (by kernel_rfl) (by kernel_rfl) (by kernel_rfl) (fun _ _ _ h => h) (Or.inl ⟨by rfl, ?_⟩) (by assumption) ?_
      rotate_left 1
      · intro w hSw; (try dsimp only at hSw); go_simp; try with_reducible rfl
      simp only [Act.put, List.getElem_toArray, List.getElem_cons_succ, List.getElem_cons_zero, List.setIfInBounds_toArray, List.set_cons_zero, List.set_cons_succ]
      refine wpAnyH_take (i := 1) (v := ?_) rfl (by kernel_rfl) (by kernel_rfl) (by kernel_rfl) (fun _ _ _ h => h) (Or.inl ⟨by rfl, ?_⟩) (by assumption) ?_
      rotate_left 1
      · intro w hSw; (try dsimp only at hSw); go_simp; try with_reducible rfl
      simp only [Act.put, List.getElem_toArray, List.getElem_cons_succ, List.getElem_cons_zero, List.setIfInBounds_toArray, List.set_cons_zero, List.set_cons_succ]
      refine wpAnyH_ready (rs := [2]) (by kernel_rfl) (by simp) ?_
      refine AllReadyH.cons rfl (fun K hK => ?_) AllReadyH.nil
      go_simp
      (go_at_call 34; refine (specTestText_any ⟨ck, cn, ⟨clk, cla, clb, cln⟩, ⟨crk, cra, crb, crn⟩⟩ _).mono ?_; rintro e w4 ⟨u, rfl, hu, -, hb4⟩; have hb : Below (w3.alloc (.cells #[.int .i64 0, .bool false, .int .i64 0, .int .i64 0, .int .i64 0, .int .i64 0, .int .i64 0, .int .i64 0, .int .i64 0, .int .i64 0] 52)).heap.size (w3.alloc (.cells #[.int .i64 0, .bool false, .int .i64 0, .int .i64 0, .int .i64 0, .int .i64 0, .int .i64 0, .int .i64 0, .int .i64 0, .int .i64 0] 52)) w4 := (by first | exact hb4 | exact (Below.drew (Below.refl _ _)).trans hb4); have B4 : Hid (Below w.heap.size w w4) := bel_then B0.out hb; have XC4 : Hid (Box10 w4 w1.heap.size ⟨ck, cn, ⟨clk, cla, clb, cln⟩, ⟨crk, cra, crb, crn⟩⟩) := XC0.out.below hb; have XX4 : Hid (Box10 w4 w3.heap.size ⟨0, false, ⟨0, 0, 0, 0⟩, ⟨0, 0, 0, 0⟩⟩) := XX0.out.below hb; have Y4 : w4.cell? ⟨w1.heap.size, 0, none⟩ = some (.int .i64 ck) ∧ w4.cell? ⟨w1.heap.size, 1, none⟩ = some (.bool cn) ∧ w4.cell? ⟨w1.heap.size, 2, none⟩ = some (.int .i64 clk) ∧ w4.cell? ⟨w1.heap.size, 3, none⟩ = some (.int .i64 cla) ∧ w4.cell? ⟨w1.heap.size, 4, none⟩ = some (.int .i64 clb) ∧ w4.cell? ⟨w1.heap.size, 5, none⟩ = some (.int .i64 cln) ∧ w4.cell? ⟨w1.heap.size, 6, none⟩ = some (.int .i64 crk) ∧ w4.cell? ⟨w1.heap.size, 7, none⟩ = some (.int .i64 cra) ∧ w4.cell? ⟨w1.heap.size, 8, none⟩ = some (.int .i64 crb) ∧ w4.cell? ⟨w1.heap.size, 9, none⟩ = some (.int .i64 crn) ∧ w4.cell? ⟨w3.heap.size, 0, none⟩ = some (.int .i64 0) ∧ w4.cell? ⟨w3.heap.size, 1, none⟩ = some (.bool false) ∧ w4.cell? ⟨w3.heap.size, 2, none⟩ = some (.int .i64 0) ∧ w4.cell? ⟨w3.heap.size, 3, none⟩ = some (.int .i64 0) ∧ w4.cell? ⟨w3.heap.size, 4, none⟩ = some (.int .i64 0) ∧ w4.cell? ⟨w3.heap.size, 5, none⟩ = some (.int .i64 0) ∧ w4.cell? ⟨w3.heap.size, 6, none⟩ = some (.int .i64 0) ∧ w4.cell? ⟨w3.heap.size, 7, none⟩ = some (.int .i64 0) ∧ w4.cell? ⟨w3.heap.size, 8, none⟩ = some (.int .i64 0) ∧ w4.cell? ⟨w3.heap.size, 9, none⟩ = some (.int .i64 0) := (by obtain ⟨_, a0, a1, ⟨a2, a3, a4, a5⟩, a6, a7, a8, a9⟩ := XC4.out; obtain ⟨_, b0, b1, ⟨b2, b3, b4, b5⟩, b6, b7, b8, b9⟩ := XX4.out; exact ⟨a0, a1, a2, a3, a4, a5, a6, a7, a8, a9, b0, b1, b2, b3, b4, b5, b6, b7, b8, b9⟩); obtain rfl : u = s := bytes_eq (hu.trans HS.out.symm); clear hu; clear hb hb4)
      first | (refine hK.out _ _ ?_ (fun hHeld => ?_)) | (go_wp2_with fail; refine hK.out _ _ ?_ (fun hHeld => ?_))
      · (try dsimp only); exact Y4
      clear hK K
      try simp only [Act.put, List.getElem_toArray, List.getElem_cons_succ, List.getElem_cons_zero, List.setIfInBounds_toArray, List.set_cons_zero, List.set_cons_succ]
      refine wpAnyH_take (i := 3) (v := ?_) rfl (by kernel_rfl) (by kernel_rfl) (by kernel_rfl) (fun _ _ _ h => h) (Or.inl ⟨by rfl, ?_⟩) (by assumption) ?_
      rotate_left 1
      · intro w hSw; (try dsimp only at hSw); go_simp; try with_reducible rfl
      simp only [Act.put, List.getElem_toArray, List.getElem_cons_succ, List.getElem_cons_zero, List.setIfInBounds_toArray, List.set_cons_zero, List.set_cons_succ]
      refine wpAnyH_take (i := 4) (v := ?_) rfl (by kernel_rfl) (by kernel_rfl) (by kernel_rfl) (fun _ _ _ h => h) (Or.inl ⟨by rfl, ?_⟩) (by assumption) ?_
      rotate_left 1
      · intro w hSw; (try dsimp only at hSw); go_simp; try with_reducible rfl
      simp only [Act.put, List.getElem_toArray, List.getElem_cons_succ, List.getElem_cons_zero, List.setIfInBounds_toArray, List.set_cons_zero, List.set_cons_succ]
      refine wpAnyH_take (i := 5) (v := ?_) rfl (by kernel_rfl) (by kernel_rfl) (by kernel_rfl) (fun _ _ _ h => h) (Or.inl ⟨by rfl, ?_⟩) (by assumption) ?_
      rotate_left 1
      · intro w hSw; (try dsimp only at hSw); go_simp; try with_reducible rfl
      simp only [Act.put, List.getElem_toArray, List.getElem_cons_succ, List.getElem_cons_zero, List.setIfInBounds_toArray, List.set_cons_zero, List.set_cons_succ]
      refine wpAnyH_take (i := 6) (v := ?_) rfl (by kernel_rfl) (by kernel_rfl) (by kernel_rfl) (fun _ _ _ h => h) (Or.inl ⟨by rfl, ?_⟩) (by assumption) ?_
      rotate_left 1
      · intro w hSw; (try dsimp only at hSw); go_simp; try with_reducible rfl
      simp only [Act.put, List.getElem_toArray, List.getElem_cons_succ, List.getElem_cons_zero, List.setIfInBounds_toArray, List.set_cons_zero, List.set_cons_succ]
      refine wpAnyH_take (i := 8) (v := ?_) rfl (by kernel_rfl) (by kernel_rfl) (by kernel_rfl) (fun _ _ _ h => h) (Or.inl ⟨by rfl, ?_⟩) (by assumption) ?_
      rotate_left 1
      · intro w hSw; (try dsimp only at hSw); go_simp; try with_reducible rfl
      simp only [Act.put, List.getElem_toArray, List.getElem_cons_succ, List.getElem_cons_zero, List.setIfInBounds_toArray, List.set_cons_zero, List.set_cons_succ]
      refine wpAnyH_take (i := 9) (v := ?_) rfl (by kernel_rfl) (by kernel_rfl) (by kernel_rfl) (fun _ _ _ h => h) (Or.inl ⟨by rfl, ?_⟩) (by assumption) ?_
      rotate_left 1
      · intro w hSw; (try dsimp only at hSw); go_simp; try with_reducible rfl
      simp only [Act.put, List.getElem_toArray, List.getElem_cons_succ, List.getElem_cons_zero, List.setIfInBounds_toArray, List.set_cons_zero, List.set_cons_succ]
      refine wpAnyH_ready (rs := [7]) (by kernel_rfl) (by simp) ?_
      refine AllReadyH.cons rfl (fun K hK => ?_) AllReadyH.nil
      go_simp
      (go_at_call 35; refine (implTestOk_any ⟨ck, cn, ⟨clk, cla, clb, cln⟩, ⟨crk, cra, crb, crn⟩⟩ n1 _ p (HC.out.below (by first | exact B4.out | exact B4.out.drew | exact below_drewN B4.out _)).1).mono ?_; rw [← HG.out]; rintro e w5 ⟨rfl, hb5⟩; have hb : Below w4.heap.size w4 w5 := (by first | exact hb5 | exact (Below.drew (Below.refl _ _)).trans hb5); have B5 : Hid (Below w.heap.size w w5) := bel_then B4.out hb; have XC5 : Hid (Box10 w5 w1.heap.size ⟨ck, cn, ⟨clk, cla, clb, cln⟩, ⟨crk, cra, crb, crn⟩⟩) := XC4.out.below hb; have XX5 : Hid (Box10 w5 w3.heap.size ⟨0, false, ⟨0, 0, 0, 0⟩, ⟨0, 0, 0, 0⟩⟩) := XX4.out.below hb; have Y5 : w5.cell? ⟨w1.heap.size, 0, none⟩ = some (.int .i64 ck) ∧ w5.cell? ⟨w1.heap.size, 1, none⟩ = some (.bool cn) ∧ w5.cell? ⟨w1.heap.size, 2, none⟩ = some (.int .i64 clk) ∧ w5.cell? ⟨w1.heap.size, 3, none⟩ = some (.int .i64 cla) ∧ w5.cell? ⟨w1.heap.size, 4, none⟩ = some (.int .i64 clb) ∧ w5.cell? ⟨w1.heap.size, 5, none⟩ = some (.int .i64 cln) ∧ w5.cell? ⟨w1.heap.size, 6, none⟩ = some (.int .i64 crk) ∧ w5.cell? ⟨w1.heap.size, 7, none⟩ = some (.int .i64 cra) ∧ w5.cell? ⟨w1.heap.size, 8, none⟩ = some (.int .i64 crb) ∧ w5.cell? ⟨w1.heap.size, 9, none⟩ = some (.int .i64 crn) ∧ w5.cell? ⟨w3.heap.size, 0, none⟩ = some (.int .i64 0) ∧ w5.cell? ⟨w3.heap.size, 1, none⟩ = some (.bool false) ∧ w5.cell? ⟨w3.heap.size, 2, none⟩ = some (.int .i64 0) ∧ w5.cell? ⟨w3.heap.size, 3, none⟩ = some (.int .i64 0) ∧ w5.cell? ⟨w3.heap.size, 4, none⟩ = some (.int .i64 0) ∧ w5.cell? ⟨w3.heap.size, 5, none⟩ = some (.int .i64 0) ∧ w5.cell? ⟨w3.heap.size, 6, none⟩ = some (.int .i64 0) ∧ w5.cell? ⟨w3.heap.size, 7, none⟩ = some (.int .i64 0) ∧ w5.cell? ⟨w3.heap.size, 8, none⟩ = some (.int .i64 0) ∧ w5.cell? ⟨w3.heap.size, 9, none⟩ = some (.int .i64 0) := (by obtain ⟨_, a0, a1, ⟨a2, a3, a4, a5⟩, a6, a7, a8, a9⟩ := XC5.out; obtain ⟨_, b0, b1, ⟨b2, b3, b4, b5⟩, b6, b7, b8, b9⟩ := XX5.out; exact ⟨a0, a1, a2, a3, a4, a5, a6, a7, a8, a9, b0, b1, b2, b3, b4, b5, b6, b7, b8, b9⟩); clear hb hb5)
      first | (refine hK.out _ _ ?_ (fun hHeld => ?_)) | (go_wp2_with fail; refine hK.out _ _ ?_ (fun hHeld => ?_))
      · (try dsimp only); exact Y5
      clear hK K
      try simp only [Act.put, List.getElem_toArray, List.getElem_cons_succ, List.getElem_cons_zero, List.setIfInBounds_toArray, List.set_cons_zero, List.set_cons_succ]
      refine wpAnyH_ready (rs := [10]) (by kernel_rfl) (by simp) ?_
      refine AllReadyH.cons rfl (fun K hK => ?_) AllReadyH.nil
      go_simp
      (go_at_call 36; refine (specTestOk_any ⟨ck, cn, ⟨clk, cla, clb, cln⟩, ⟨crk, cra, crb, crn⟩⟩ n1 _).mono ?_; rw [← HG.out]; rintro e w6 ⟨rfl, hb6⟩; have hb : Below w5.heap.size w5 w6 := (by first | exact hb6 | exact (Below.drew (Below.refl _ _)).trans hb6); have B6 : Hid (Below w.heap.size w w6) := bel_then B5.out hb; have XC6 : Hid (Box10 w6 w1.heap.size ⟨ck, cn, ⟨clk, cla, clb, cln⟩, ⟨crk, cra, crb, crn⟩⟩) := XC5.out.below hb; have XX6 : Hid (Box10 w6 w3.heap.size ⟨0, false, ⟨0, 0, 0, 0⟩, ⟨0, 0, 0, 0⟩⟩) := XX5.out.below hb; have Y6 : w6.cell? ⟨w1.heap.size, 0, none⟩ = some (.int .i64 ck) ∧ w6.cell? ⟨w1.heap.size, 1, none⟩ = some (.bool cn) ∧ w6.cell? ⟨w1.heap.size, 2, none⟩ = some (.int .i64 clk) ∧ w6.cell? ⟨w1.heap.size, 3, none⟩ = some (.int .i64 cla) ∧ w6.cell? ⟨w1.heap.size, 4, none⟩ = some (.int .i64 clb) ∧ w6.cell? ⟨w1.heap.size, 5, none⟩ = some (.int .i64 cln) ∧ w6.cell? ⟨w1.heap.size, 6, none⟩ = some (.int .i64 crk) ∧ w6.cell? ⟨w1.heap.size, 7, none⟩ = some (.int .i64 cra) ∧ w6.cell? ⟨w1.heap.size, 8, none⟩ = some (.int .i64 crb) ∧ w6.cell? ⟨w1.heap.size, 9, none⟩ = some (.int .i64 crn) ∧ w6.cell? ⟨w3.heap.size, 0, none⟩ = some (.int .i64 0) ∧ w6.cell? ⟨w3.heap.size, 1, none⟩ = some (.bool false) ∧ w6.cell? ⟨w3.heap.size, 2, none⟩ = some (.int .i64 0) ∧ w6.cell? ⟨w3.heap.size, 3, none⟩ = some (.int .i64 0) ∧ w6.cell? ⟨w3.heap.size, 4, none⟩ = some (.int .i64 0) ∧ w6.cell? ⟨w3.heap.size, 5, none⟩ = some (.int .i64 0) ∧ w6.cell? ⟨w3.heap.size, 6, none⟩ = some (.int .i64 0) ∧ w6.cell? ⟨w3.heap.size, 7, none⟩ = some (.int .i64 0) ∧ w6.cell? ⟨w3.heap.size, 8, none⟩ = some (.int .i64 0) ∧ w6.cell? ⟨w3.heap.size, 9, none⟩ = some (.int .i64 0) := (by obtain ⟨_, a0, a1, ⟨a2, a3, a4, a5⟩, a6, a7, a8, a9⟩ := XC6.out; obtain ⟨_, b0, b1, ⟨b2, b3, b4, b5⟩, b6, b7, b8, b9⟩ := XX6.out; exact ⟨a0, a1, a2, a3, a4, a5, a6, a7, a8, a9, b0, b1, b2, b3, b4, b5, b6, b7, b8, b9⟩); clear hb hb6)
      first | (refine hK.out _ _ ?_ (fun hHeld => ?_)) | (go_wp2_with fail; refine hK.out _ _ ?_ (fun hHeld => ?_))
      · (try dsimp only); exact Y6
      clear hK K
      try simp only [Act.put, List.getElem_toArray, List.getElem_cons_succ, List.getElem_cons_zero, List.setIfInBounds_toArray, List.set_cons_zero, List.set_cons_succ]
      refine wpAnyH_take (i := 11) (v := ?_) rfl (by kernel_rfl) (by kernel_rfl) (by kernel_rfl) (fun _ _ _ h => h) (Or.inl ⟨by rfl, ?_⟩) (by assumption) ?_
      rotate_left 1
      · intro w hSw; (try dsimp only at hSw); go_simp; try with_reducible rfl
      simp only [Act.put, List.getElem_toArray, List.getElem_cons_succ, List.getElem_cons_zero, List.setIfInBounds_toArray, List.set_cons_zero, List.set_cons_succ]
      refine wpAnyH_take (i := 12) (v := ?_) rfl (by kernel_rfl) (by kernel_rfl) (by kernel_rfl) (fun _ _ _ h => h) (Or.inl ⟨by rfl, ?_⟩) (by assumption) ?_
      rotate_left 1
      · intro w hSw; (try dsimp only at hSw); go_simp; try with_reducible rfl
      simp only [Act.put, List.getElem_toArray, List.getElem_cons_succ, List.getElem_cons_zero, List.setIfInBounds_toArray, List.set_cons_zero, List.set_cons_succ]
      refine wpAnyH_take (i := 13) (v := ?_) rfl (by kernel_rfl) (by kernel_rfl) (by kernel_rfl) (fun _ _ _ h => h) (Or.inl ⟨by rfl, ?_⟩) (by assumption) ?_
      rotate_left 1
      · intro w hSw; (try dsimp only at hSw); go_simp; try with_reducible rfl
      simp only [Act.put, List.getElem_toArray, List.getElem_cons_succ, List.getElem_cons_zero, List.setIfInBounds_toArray, List.set_cons_zero, List.set_cons_succ]
      refine wpAnyH_take (i := 14) (v := ?_) rfl (by kernel_rfl) (by kernel_rfl) (by kernel_rfl) (fun _ _ _ h => h) (Or.inl ⟨by rfl, ?_⟩) (by assumption) ?_
      rotate_left 1
      · intro w hSw; (try dsimp only at hSw); go_simp; try with_reducible rfl
      simp only [Act.put, List.getElem_toArray, List.getElem_cons_succ, List.getElem_cons_zero, List.setIfInBounds_toArray, List.set_cons_zero, List.set_cons_succ]
      refine wpAnyH_take (i := 15) (v := ?_) rfl (by kernel_rfl) (by kernel_rfl) (by kernel_rfl) (fun _ _ _ h => h) (Or.inl ⟨by rfl, ?_⟩) (by assumption) ?_
      rotate_left 1
      · intro w hSw; (try dsimp only at hSw); go_simp; try with_reducible rfl
      simp only [Act.put, List.getElem_toArray, List.getElem_cons_succ, List.getElem_cons_zero, List.setIfInBounds_toArray, List.set_cons_zero, List.set_cons_succ]
      refine wpAnyH_ready (rs := [16]) (by kernel_rfl) (by simp) ?_
      refine AllReadyH.cons rfl (fun K hK => ?_) AllReadyH.nil
      go_simp
      (go_at_call 36; refine (specTestOk_any ⟨ck, cn, ⟨clk, cla, clb, cln⟩, ⟨crk, cra, crb, crn⟩⟩ 6 _).mono ?_; rw [HOK6.out]; rintro e w7 ⟨rfl, hb7⟩; have hb : Below w6.heap.size w6 w7 := (by first | exact hb7 | exact (Below.drew (Below.refl _ _)).trans hb7); have B7 : Hid (Below w.heap.size w w7) := bel_then B6.out hb; have XC7 : Hid (Box10 w7 w1.heap.size ⟨ck, cn, ⟨clk, cla, clb, cln⟩, ⟨crk, cra, crb, crn⟩⟩) := XC6.out.below hb; have XX7 : Hid (Box10 w7 w3.heap.size ⟨0, false, ⟨0, 0, 0, 0⟩, ⟨0, 0, 0, 0⟩⟩) := XX6.out.below hb; have Y7 : w7.cell? ⟨w1.heap.size, 0, none⟩ = some (.int .i64 ck) ∧ w7.cell? ⟨w1.heap.size, 1, none⟩ = some (.bool cn) ∧ w7.cell? ⟨w1.heap.size, 2, none⟩ = some (.int .i64 clk) ∧ w7.cell? ⟨w1.heap.size, 3, none⟩ = some (.int .i64 cla) ∧ w7.cell? ⟨w1.heap.size, 4, none⟩ = some (.int .i64 clb) ∧ w7.cell? ⟨w1.heap.size, 5, none⟩ = some (.int .i64 cln) ∧ w7.cell? ⟨w1.heap.size, 6, none⟩ = some (.int .i64 crk) ∧ w7.cell? ⟨w1.heap.size, 7, none⟩ = some (.int .i64 cra) ∧ w7.cell? ⟨w1.heap.size, 8, none⟩ = some (.int .i64 crb) ∧ w7.cell? ⟨w1.heap.size, 9, none⟩ = some (.int .i64 crn) ∧ w7.cell? ⟨w3.heap.size, 0, none⟩ = some (.int .i64 0) ∧ w7.cell? ⟨w3.heap.size, 1, none⟩ = some (.bool false) ∧ w7.cell? ⟨w3.heap.size, 2, none⟩ = some (.int .i64 0) ∧ w7.cell? ⟨w3.heap.size, 3, none⟩ = some (.int .i64 0) ∧ w7.cell? ⟨w3.heap.size, 4, none⟩ = some (.int .i64 0) ∧ w7.cell? ⟨w3.heap.size, 5, none⟩ = some (.int .i64 0) ∧ w7.cell? ⟨w3.heap.size, 6, none⟩ = some (.int .i64 0) ∧ w7.cell? ⟨w3.heap.size, 7, none⟩ = some (.int .i64 0) ∧ w7.cell? ⟨w3.heap.size, 8, none⟩ = some (.int .i64 0) ∧ w7.cell? ⟨w3.heap.size, 9, none⟩ = some (.int .i64 0) := (by obtain ⟨_, a0, a1, ⟨a2, a3, a4, a5⟩, a6, a7, a8, a9⟩ := XC7.out; obtain ⟨_, b0, b1, ⟨b2, b3, b4, b5⟩, b6, b7, b8, b9⟩ := XX7.out; exact ⟨a0, a1, a2, a3, a4, a5, a6, a7, a8, a9, b0, b1, b2, b3, b4, b5, b6, b7, b8, b9⟩); clear hb hb7)
      first | (refine hK.out _ _ ?_ (fun hHeld => ?_)) | (go_wp2_with fail; refine hK.out _ _ ?_ (fun hHeld => ?_))
      · (try dsimp only); exact Y7
      clear hK K
      try simp only [Act.put, List.getElem_toArray, List.getElem_cons_succ, List.getElem_cons_zero, List.setIfInBounds_toArray, List.set_cons_zero, List.set_cons_succ]
      refine wpAnyH_take (i := 17) (v := ?_) rfl (by kernel_rfl) (by kernel_rfl) (by kernel_rfl) (fun _ _ _ h => h) (Or.inl ⟨by rfl, ?_⟩) (by assumption) ?_
      rotate_left 1
      · intro w hSw; (try dsimp only at hSw); go_simp; try with_reducible rfl
      simp only [Act.put, List.getElem_toArray, List.getElem_cons_succ, List.getElem_cons_zero, List.setIfInBounds_toArray, List.set_cons_zero, List.set_cons_succ]
      refine wpAnyH_take (i := 18) (v := ?_) rfl (by kernel_rfl) (by kernel_rfl) (by kernel_rfl) (fun _ _ _ h => h) (Or.inl ⟨by rfl, ?_⟩) (by assumption) ?_
      rotate_left 1
      · intro w hSw; (try dsimp only at hSw); go_simp; try with_reducible rfl
      simp only [Act.put, List.getElem_toArray, List.getElem_cons_succ, List.getElem_cons_zero, List.setIfInBounds_toArray, List.set_cons_zero, List.set_cons_succ]
      refine wpAnyH_take (i := 19) (v := ?_) rfl (by kernel_rfl) (by kernel_rfl) (by kernel_rfl) (fun _ _ _ h => h) (Or.inl ⟨by rfl, ?_⟩) (by assumption) ?_
      rotate_left 1
      · intro w hSw; (try dsimp only at hSw); go_simp; try with_reducible rfl
      simp only [Act.put, List.getElem_toArray, List.getElem_cons_succ, List.getElem_cons_zero, List.setIfInBounds_toArray, List.set_cons_zero, List.set_cons_succ]
      refine wpAnyH_take (i := 20) (v := ?_) rfl (by kernel_rfl) (by kernel_rfl) (by kernel_rfl) (fun _ _ _ h => h) (Or.inl ⟨by rfl, ?_⟩) (by assumption) ?_
      rotate_left 1
      · intro w hSw; (try dsimp only at hSw); go_simp; try with_reducible rfl
      simp only [Act.put, List.getElem_toArray, List.getElem_cons_succ, List.getElem_cons_zero, List.setIfInBounds_toArray, List.set_cons_zero, List.set_cons_succ]
      refine wpAnyH_take (i := 21) (v := ?_) rfl (by kernel_rfl) (by kernel_rfl) (by kernel_rfl) (fun _ _ _ h => h) (Or.inl ⟨by rfl, ?_⟩) (by assumption) ?_
      rotate_left 1
      · intro w hSw; (try dsimp only at hSw); go_simp; try with_reducible rfl
      simp only [Act.put, List.getElem_toArray, List.getElem_cons_succ, List.getElem_cons_zero, List.setIfInBounds_toArray, List.set_cons_zero, List.set_cons_succ]
      refine wpAnyH_take (i := 22) (v := undef) rfl (by kernel_rfl) (by kernel_rfl) (by kernel_rfl) (fun _ _ _ h => h) (Or.inr ⟨by rfl, rfl⟩) (by assumption) ?_
      simp only [Act.put, List.getElem_toArray, List.getElem_cons_succ, List.getElem_cons_zero, List.setIfInBounds_toArray, List.set_cons_zero, List.set_cons_succ]
      refine wpAnyH_take (i := 23) (v := undef) rfl (by kernel_rfl) (by kernel_rfl) (by kernel_rfl) (fun _ _ _ h => h) (Or.inr ⟨by rfl, rfl⟩) (by assumption) ?_
      simp only [Act.put, List.getElem_toArray, List.getElem_cons_succ, List.getElem_cons_zero, List.setIfInBounds_toArray, List.set_cons_zero, List.set_cons_succ]
      refine wpAnyH_take (i := 24) (v := undef) rfl (by kernel_rfl) (by kernel_rfl) (by kernel_rfl) (fun _ _ _ h => h) (Or.inr ⟨by rfl, rfl⟩) (by assumption) ?_
      simp only [Act.put, List.getElem_toArray, List.getElem_cons_succ, List.getElem_cons_zero, List.setIfInBounds_toArray, List.set_cons_zero, List.set_cons_succ]
      refine wpAnyH_take (i := 25) (v := ?_) rfl (by kernel_rfl) (by kernel_rfl) (by kernel_rfl) (fun _ _ _ h => h) (Or.inl ⟨by rfl, ?_⟩) (by assumption) ?_
      rotate_left 1
      · intro w hSw; (try dsimp only at hSw); go_simp; try with_reducible rfl
      simp only [Act.put, List.getElem_toArray, List.getElem_cons_succ, List.getElem_cons_zero, List.setIfInBounds_toArray, List.set_cons_zero, List.set_cons_succ]
      refine wpAnyH_take (i := 26) (v := ?_) rfl (by kernel_rfl) (by kernel_rfl) (by kernel_rfl) (fun _ _ _ h => h) (Or.inl ⟨by rfl, ?_⟩) (by assumption) ?_
      rotate_left 1
      · intro w hSw; (try dsimp only at hSw); go_simp; try with_reducible rfl
      simp only [Act.put, List.getElem_toArray, List.getElem_cons_succ, List.getElem_cons_zero, List.setIfInBounds_toArray, List.set_cons_zero, List.set_cons_succ]
      refine wpAnyH_done (by kernel_rfl) ?_ _
      go_wp2_with fail
      go_meet
      case rel => exact ⟨rfl, B7.out⟩
    · have HOK6 : Hid (Tst.okB ⟨ck, cn, ⟨clk, cla, clb, cln⟩, ⟨crk, cra, crb, crn⟩⟩ 6 = true) := hok
      have hx := HX.out
      have hv := HV.out
      rw [HO1.out, read_ttxO, hok] at hx hv
      simp only [if_true, outT, Option.getD_some, Option.isSome_some] at hx hv
      simp only [Tst.mk.injEq, Cel.mk.injEq] at hx
      obtain ⟨rfl, rfl, rfl, rfl, rfl, rfl, rfl, rfl, rfl, rfl⟩ : ck = xk ∧ cn = xn ∧ clk = xlk ∧ cla = xla ∧ clb = xlb ∧ cln = xln ∧ crk = xrk ∧ cra = xra ∧ crb = xrb ∧ crn = xrn := ⟨hx.1.symm, hx.2.1.symm, hx.2.2.1.1.symm, hx.2.2.1.2.1.symm, hx.2.2.1.2.2.1.symm, hx.2.2.1.2.2.2.symm, hx.2.2.2.1.symm, hx.2.2.2.2.1.symm, hx.2.2.2.2.2.1.symm, hx.2.2.2.2.2.2.symm⟩
      subst hv
      clear hok hx
      have hne := testNe ⟨ck, cn, ⟨clk, cla, clb, cln⟩, ⟨crk, cra, crb, crn⟩⟩
      have Y0 : (w3.alloc (.cells #[.int .i64 ck, .bool cn, .int .i64 clk, .int .i64 cla, .int .i64 clb, .int .i64 cln, .int .i64 crk, .int .i64 cra, .int .i64 crb, .int .i64 crn] 52)).cell? ⟨w1.heap.size, 0, none⟩ = some (.int .i64 ck) ∧ (w3.alloc (.cells #[.int .i64 ck, .bool cn, .int .i64 clk, .int .i64 cla, .int .i64 clb, .int .i64 cln, .int .i64 crk, .int .i64 cra, .int .i64 crb, .int .i64 crn] 52)).cell? ⟨w1.heap.size, 1, none⟩ = some (.bool cn) ∧ (w3.alloc (.cells #[.int .i64 ck, .bool cn, .int .i64 clk, .int .i64 cla, .int .i64 clb, .int .i64 cln, .int .i64 crk, .int .i64 cra, .int .i64 crb, .int .i64 crn] 52)).cell? ⟨w1.heap.size, 2, none⟩ = some (.int .i64 clk) ∧ (w3.alloc (.cells #[.int .i64 ck, .bool cn, .int .i64 clk, .int .i64 cla, .int .i64 clb, .int .i64 cln, .int .i64 crk, .int .i64 cra, .int .i64 crb, .int .i64 crn] 52)).cell? ⟨w1.heap.size, 3, none⟩ = some (.int .i64 cla) ∧ (w3.alloc (.cells #[.int .i64 ck, .bool cn, .int .i64 clk, .int .i64 cla, .int .i64 clb, .int .i64 cln, .int .i64 crk, .int .i64 cra, .int .i64 crb, .int .i64 crn] 52)).cell? ⟨w1.heap.size, 4, none⟩ = some (.int .i64 clb) ∧ (w3.alloc (.cells #[.int .i64 ck, .bool cn, .int .i64 clk, .int .i64 cla, .int .i64 clb, .int .i64 cln, .int .i64 crk, .int .i64 cra, .int .i64 crb, .int .i64 crn] 52)).cell? ⟨w1.heap.size, 5, none⟩ = some (.int .i64 cln) ∧ (w3.alloc (.cells #[.int .i64 ck, .bool cn, .int .i64 clk, .int .i64 cla, .int .i64 clb, .int .i64 cln, .int .i64 crk, .int .i64 cra, .int .i64 crb, .int .i64 crn] 52)).cell? ⟨w1.heap.size, 6, none⟩ = some (.int .i64 crk) ∧ (w3.alloc (.cells #[.int .i64 ck, .bool cn, .int .i64 clk, .int .i64 cla, .int .i64 clb, .int .i64 cln, .int .i64 crk, .int .i64 cra, .int .i64 crb, .int .i64 crn] 52)).cell? ⟨w1.heap.size, 7, none⟩ = some (.int .i64 cra) ∧ (w3.alloc (.cells #[.int .i64 ck, .bool cn, .int .i64 clk, .int .i64 cla, .int .i64 clb, .int .i64 cln, .int .i64 crk, .int .i64 cra, .int .i64 crb, .int .i64 crn] 52)).cell? ⟨w1.heap.size, 8, none⟩ = some (.int .i64 crb) ∧ (w3.alloc (.cells #[.int .i64 ck, .bool cn, .int .i64 clk, .int .i64 cla, .int .i64 clb, .int .i64 cln, .int .i64 crk, .int .i64 cra, .int .i64 crb, .int .i64 crn] 52)).cell? ⟨w1.heap.size, 9, none⟩ = some (.int .i64 crn) ∧ (w3.alloc (.cells #[.int .i64 ck, .bool cn, .int .i64 clk, .int .i64 cla, .int .i64 clb, .int .i64 cln, .int .i64 crk, .int .i64 cra, .int .i64 crb, .int .i64 crn] 52)).cell? ⟨w3.heap.size, 0, none⟩ = some (.int .i64 ck) ∧ (w3.alloc (.cells #[.int .i64 ck, .bool cn, .int .i64 clk, .int .i64 cla, .int .i64 clb, .int .i64 cln, .int .i64 crk, .int .i64 cra, .int .i64 crb, .int .i64 crn] 52)).cell? ⟨w3.heap.size, 1, none⟩ = some (.bool cn) ∧ (w3.alloc (.cells #[.int .i64 ck, .bool cn, .int .i64 clk, .int .i64 cla, .int .i64 clb, .int .i64 cln, .int .i64 crk, .int .i64 cra, .int .i64 crb, .int .i64 crn] 52)).cell? ⟨w3.heap.size, 2, none⟩ = some (.int .i64 clk) ∧ (w3.alloc (.cells #[.int .i64 ck, .bool cn, .int .i64 clk, .int .i64 cla, .int .i64 clb, .int .i64 cln, .int .i64 crk, .int .i64 cra, .int .i64 crb, .int .i64 crn] 52)).cell? ⟨w3.heap.size, 3, none⟩ = some (.int .i64 cla) ∧ (w3.alloc (.cells #[.int .i64 ck, .bool cn, .int .i64 clk, .int .i64 cla, .int .i64 clb, .int .i64 cln, .int .i64 crk, .int .i64 cra, .int .i64 crb, .int .i64 crn] 52)).cell? ⟨w3.heap.size, 4, none⟩ = some (.int .i64 clb) ∧ (w3.alloc (.cells #[.int .i64 ck, .bool cn, .int .i64 clk, .int .i64 cla, .int .i64 clb, .int .i64 cln, .int .i64 crk, .int .i64 cra, .int .i64 crb, .int .i64 crn] 52)).cell? ⟨w3.heap.size, 5, none⟩ = some (.int .i64 cln) ∧ (w3.alloc (.cells #[.int .i64 ck, .bool cn, .int .i64 clk, .int .i64 cla, .int .i64 clb, .int .i64 cln, .int .i64 crk, .int .i64 cra, .int .i64 crb, .int .i64 crn] 52)).cell? ⟨w3.heap.size, 6, none⟩ = some (.int .i64 crk) ∧ (w3.alloc (.cells #[.int .i64 ck, .bool cn, .int .i64 clk, .int .i64 cla, .int .i64 clb, .int .i64 cln, .int .i64 crk, .int .i64 cra, .int .i64 crb, .int .i64 crn] 52)).cell? ⟨w3.heap.size, 7, none⟩ = some (.int .i64 cra) ∧ (w3.alloc (.cells #[.int .i64 ck, .bool cn, .int .i64 clk, .int .i64 cla, .int .i64 clb, .int .i64 cln, .int .i64 crk, .int .i64 cra, .int .i64 crb, .int .i64 crn] 52)).cell? ⟨w3.heap.size, 8, none⟩ = some (.int .i64 crb) ∧ (w3.alloc (.cells #[.int .i64 ck, .bool cn, .int .i64 clk, .int .i64 cla, .int .i64 clb, .int .i64 cln, .int .i64 crk, .int .i64 cra, .int .i64 crb, .int .i64 crn] 52)).cell? ⟨w3.heap.size, 9, none⟩ = some (.int .i64 crn) := (by obtain ⟨_, a0, a1, ⟨a2, a3, a4, a5⟩, a6, a7, a8, a9⟩ := XC0.out; obtain ⟨_, b0, b1, ⟨b2, b3, b4, b5⟩, b6, b7, b8, b9⟩ := XX0.out; exact ⟨a0, a1, a2, a3, a4, a5, a6, a7, a8, a9, b0, b1, b2, b3, b4, b5, b6, b7, b8, b9⟩)
      refine wp_region_held_drew (S := (fun w' => w'.cell? ⟨w1.heap.size, 0, none⟩ = some (.int .i64 ck) ∧ w'.cell? ⟨w1.heap.size, 1, none⟩ = some (.bool cn) ∧ w'.cell? ⟨w1.heap.size, 2, none⟩ = some (.int .i64 clk) ∧ w'.cell? ⟨w1.heap.size, 3, none⟩ = some (.int .i64 cla) ∧ w'.cell? ⟨w1.heap.size, 4, none⟩ = some (.int .i64 clb) ∧ w'.cell? ⟨w1.heap.size, 5, none⟩ = some (.int .i64 cln) ∧ w'.cell? ⟨w1.heap.size, 6, none⟩ = some (.int .i64 crk) ∧ w'.cell? ⟨w1.heap.size, 7, none⟩ = some (.int .i64 cra) ∧ w'.cell? ⟨w1.heap.size, 8, none⟩ = some (.int .i64 crb) ∧ w'.cell? ⟨w1.heap.size, 9, none⟩ = some (.int .i64 crn) ∧ w'.cell? ⟨w3.heap.size, 0, none⟩ = some (.int .i64 ck) ∧ w'.cell? ⟨w3.heap.size, 1, none⟩ = some (.bool cn) ∧ w'.cell? ⟨w3.heap.size, 2, none⟩ = some (.int .i64 clk) ∧ w'.cell? ⟨w3.heap.size, 3, none⟩ = some (.int .i64 cla) ∧ w'.cell? ⟨w3.heap.size, 4, none⟩ = some (.int .i64 clb) ∧ w'.cell? ⟨w3.heap.size, 5, none⟩ = some (.int .i64 cln) ∧ w'.cell? ⟨w3.heap.size, 6, none⟩ = some (.int .i64 crk) ∧ w'.cell? ⟨w3.heap.size, 7, none⟩ = some (.int .i64 cra) ∧ w'.cell? ⟨w3.heap.size, 8, none⟩ = some (.int .i64 crb) ∧ w'.cell? ⟨w3.heap.size, 9, none⟩ = some (.int .i64 crn))) (by kernel_rfl) ?_ (fun hHeld => ?_)
      · (try dsimp only); exact Y0
      refine wpAnyH_take (i := 0) (v := ?_) rfl (by kernel_rfl) (by kernel_rfl) (by kernel_rfl) (fun _ _ _ h => h) (Or.inl ⟨by rfl, ?_⟩) (by assumption) ?_
      rotate_left 1
      · intro w hSw; (try dsimp only at hSw); go_simp; try with_reducible rfl
      simp only [Act.put, List.getElem_toArray, List.getElem_cons_succ, List.getElem_cons_zero, List.setIfInBounds_toArray, List.set_cons_zero, List.set_cons_succ]
      refine wpAnyH_take (i := 1) (v := ?_) rfl (by kernel_rfl) (by kernel_rfl) (by kernel_rfl) (fun _ _ _ h => h) (Or.inl ⟨by rfl, ?_⟩) (by assumption) ?_
      rotate_left 1
      · intro w hSw; (try dsimp only at hSw); go_simp; try with_reducible rfl
      simp only [Act.put, List.getElem_toArray, List.getElem_cons_succ, List.getElem_cons_zero, List.setIfInBounds_toArray, List.set_cons_zero, List.set_cons_succ]
      refine wpAnyH_ready (rs := [2]) (by kernel_rfl) (by simp) ?_
      refine AllReadyH.cons rfl (fun K hK => ?_) AllReadyH.nil
      go_simp
      (go_at_call 34; refine (specTestText_any ⟨ck, cn, ⟨clk, cla, clb, cln⟩, ⟨crk, cra, crb, crn⟩⟩ _).mono ?_; rintro e w4 ⟨u, rfl, hu, -, hb4⟩; have hb : Below (w3.alloc (.cells #[.int .i64 ck, .bool cn, .int .i64 clk, .int .i64 cla, .int .i64 clb, .int .i64 cln, .int .i64 crk, .int .i64 cra, .int .i64 crb, .int .i64 crn] 52)).heap.size (w3.alloc (.cells #[.int .i64 ck, .bool cn, .int .i64 clk, .int .i64 cla, .int .i64 clb, .int .i64 cln, .int .i64 crk, .int .i64 cra, .int .i64 crb, .int .i64 crn] 52)) w4 := (by first | exact hb4 | exact (Below.drew (Below.refl _ _)).trans hb4); have B4 : Hid (Below w.heap.size w w4) := bel_then B0.out hb; have XC4 : Hid (Box10 w4 w1.heap.size ⟨ck, cn, ⟨clk, cla, clb, cln⟩, ⟨crk, cra, crb, crn⟩⟩) := XC0.out.below hb; have XX4 : Hid (Box10 w4 w3.heap.size ⟨ck, cn, ⟨clk, cla, clb, cln⟩, ⟨crk, cra, crb, crn⟩⟩) := XX0.out.below hb; have Y4 : w4.cell? ⟨w1.heap.size, 0, none⟩ = some (.int .i64 ck) ∧ w4.cell? ⟨w1.heap.size, 1, none⟩ = some (.bool cn) ∧ w4.cell? ⟨w1.heap.size, 2, none⟩ = some (.int .i64 clk) ∧ w4.cell? ⟨w1.heap.size, 3, none⟩ = some (.int .i64 cla) ∧ w4.cell? ⟨w1.heap.size, 4, none⟩ = some (.int .i64 clb) ∧ w4.cell? ⟨w1.heap.size, 5, none⟩ = some (.int .i64 cln) ∧ w4.cell? ⟨w1.heap.size, 6, none⟩ = some (.int .i64 crk) ∧ w4.cell? ⟨w1.heap.size, 7, none⟩ = some (.int .i64 cra) ∧ w4.cell? ⟨w1.heap.size, 8, none⟩ = some (.int .i64 crb) ∧ w4.cell? ⟨w1.heap.size, 9, none⟩ = some (.int .i64 crn) ∧ w4.cell? ⟨w3.heap.size, 0, none⟩ = some (.int .i64 ck) ∧ w4.cell? ⟨w3.heap.size, 1, none⟩ = some (.bool cn) ∧ w4.cell? ⟨w3.heap.size, 2, none⟩ = some (.int .i64 clk) ∧ w4.cell? ⟨w3.heap.size, 3, none⟩ = some (.int .i64 cla) ∧ w4.cell? ⟨w3.heap.size, 4, none⟩ = some (.int .i64 clb) ∧ w4.cell? ⟨w3.heap.size, 5, none⟩ = some (.int .i64 cln) ∧ w4.cell? ⟨w3.heap.size, 6, none⟩ = some (.int .i64 crk) ∧ w4.cell? ⟨w3.heap.size, 7, none⟩ = some (.int .i64 cra) ∧ w4.cell? ⟨w3.heap.size, 8, none⟩ = some (.int .i64 crb) ∧ w4.cell? ⟨w3.heap.size, 9, none⟩ = some (.int .i64 crn) := (by obtain ⟨_, a0, a1, ⟨a2, a3, a4, a5⟩, a6, a7, a8, a9⟩ := XC4.out; obtain ⟨_, b0, b1, ⟨b2, b3, b4, b5⟩, b6, b7, b8, b9⟩ := XX4.out; exact ⟨a0, a1, a2, a3, a4, a5, a6, a7, a8, a9, b0, b1, b2, b3, b4, b5, b6, b7, b8, b9⟩); obtain rfl : u = s := bytes_eq (hu.trans HS.out.symm); clear hu; clear hb hb4)
      first | (refine hK.out _ _ ?_ (fun hHeld => ?_)) | (go_wp2_with fail; refine hK.out _ _ ?_ (fun hHeld => ?_))
      · (try dsimp only); exact Y4
      clear hK K
      try simp only [Act.put, List.getElem_toArray, List.getElem_cons_succ, List.getElem_cons_zero, List.setIfInBounds_toArray, List.set_cons_zero, List.set_cons_succ]
      refine wpAnyH_take (i := 3) (v := ?_) rfl (by kernel_rfl) (by kernel_rfl) (by kernel_rfl) (fun _ _ _ h => h) (Or.inl ⟨by rfl, ?_⟩) (by assumption) ?_
      rotate_left 1
      · intro w hSw; (try dsimp only at hSw); go_simp; try with_reducible rfl
      simp only [Act.put, List.getElem_toArray, List.getElem_cons_succ, List.getElem_cons_zero, List.setIfInBounds_toArray, List.set_cons_zero, List.set_cons_succ]
      refine wpAnyH_take (i := 4) (v := ?_) rfl (by kernel_rfl) (by kernel_rfl) (by kernel_rfl) (fun _ _ _ h => h) (Or.inl ⟨by rfl, ?_⟩) (by assumption) ?_
      rotate_left 1
      · intro w hSw; (try dsimp only at hSw); go_simp; try with_reducible rfl
      simp only [Act.put, List.getElem_toArray, List.getElem_cons_succ, List.getElem_cons_zero, List.setIfInBounds_toArray, List.set_cons_zero, List.set_cons_succ]
      refine wpAnyH_take (i := 5) (v := ?_) rfl (by kernel_rfl) (by kernel_rfl) (by kernel_rfl) (fun _ _ _ h => h) (Or.inl ⟨by rfl, ?_⟩) (by assumption) ?_
      rotate_left 1
      · intro w hSw; (try dsimp only at hSw); go_simp; try with_reducible rfl
      simp only [Act.put, List.getElem_toArray, List.getElem_cons_succ, List.getElem_cons_zero, List.setIfInBounds_toArray, List.set_cons_zero, List.set_cons_succ]
      refine wpAnyH_take (i := 6) (v := ?_) rfl (by kernel_rfl) (by kernel_rfl) (by kernel_rfl) (fun _ _ _ h => h) (Or.inl ⟨by rfl, ?_⟩) (by assumption) ?_
      rotate_left 1
      · intro w hSw; (try dsimp only at hSw); go_simp; try with_reducible rfl
      simp only [Act.put, List.getElem_toArray, List.getElem_cons_succ, List.getElem_cons_zero, List.setIfInBounds_toArray, List.set_cons_zero, List.set_cons_succ]
      refine wpAnyH_take (i := 8) (v := ?_) rfl (by kernel_rfl) (by kernel_rfl) (by kernel_rfl) (fun _ _ _ h => h) (Or.inl ⟨by rfl, ?_⟩) (by assumption) ?_
      rotate_left 1
      · intro w hSw; (try dsimp only at hSw); go_simp; try with_reducible rfl
      simp only [Act.put, List.getElem_toArray, List.getElem_cons_succ, List.getElem_cons_zero, List.setIfInBounds_toArray, List.set_cons_zero, List.set_cons_succ]
      refine wpAnyH_take (i := 9) (v := ?_) rfl (by kernel_rfl) (by kernel_rfl) (by kernel_rfl) (fun _ _ _ h => h) (Or.inl ⟨by rfl, ?_⟩) (by assumption) ?_
      rotate_left 1
      · intro w hSw; (try dsimp only at hSw); go_simp; try with_reducible rfl
      simp only [Act.put, List.getElem_toArray, List.getElem_cons_succ, List.getElem_cons_zero, List.setIfInBounds_toArray, List.set_cons_zero, List.set_cons_succ]
      refine wpAnyH_ready (rs := [7]) (by kernel_rfl) (by simp) ?_
      refine AllReadyH.cons rfl (fun K hK => ?_) AllReadyH.nil
      go_simp
      (go_at_call 35; refine (implTestOk_any ⟨ck, cn, ⟨clk, cla, clb, cln⟩, ⟨crk, cra, crb, crn⟩⟩ n1 _ p (HC.out.below (by first | exact B4.out | exact B4.out.drew | exact below_drewN B4.out _)).1).mono ?_; rw [← HG.out]; rintro e w5 ⟨rfl, hb5⟩; have hb : Below w4.heap.size w4 w5 := (by first | exact hb5 | exact (Below.drew (Below.refl _ _)).trans hb5); have B5 : Hid (Below w.heap.size w w5) := bel_then B4.out hb; have XC5 : Hid (Box10 w5 w1.heap.size ⟨ck, cn, ⟨clk, cla, clb, cln⟩, ⟨crk, cra, crb, crn⟩⟩) := XC4.out.below hb; have XX5 : Hid (Box10 w5 w3.heap.size ⟨ck, cn, ⟨clk, cla, clb, cln⟩, ⟨crk, cra, crb, crn⟩⟩) := XX4.out.below hb; have Y5 : w5.cell? ⟨w1.heap.size, 0, none⟩ = some (.int .i64 ck) ∧ w5.cell? ⟨w1.heap.size, 1, none⟩ = some (.bool cn) ∧ w5.cell? ⟨w1.heap.size, 2, none⟩ = some (.int .i64 clk) ∧ w5.cell? ⟨w1.heap.size, 3, none⟩ = some (.int .i64 cla) ∧ w5.cell? ⟨w1.heap.size, 4, none⟩ = some (.int .i64 clb) ∧ w5.cell? ⟨w1.heap.size, 5, none⟩ = some (.int .i64 cln) ∧ w5.cell? ⟨w1.heap.size, 6, none⟩ = some (.int .i64 crk) ∧ w5.cell? ⟨w1.heap.size, 7, none⟩ = some (.int .i64 cra) ∧ w5.cell? ⟨w1.heap.size, 8, none⟩ = some (.int .i64 crb) ∧ w5.cell? ⟨w1.heap.size, 9, none⟩ = some (.int .i64 crn) ∧ w5.cell? ⟨w3.heap.size, 0, none⟩ = some (.int .i64 ck) ∧ w5.cell? ⟨w3.heap.size, 1, none⟩ = some (.bool cn) ∧ w5.cell? ⟨w3.heap.size, 2, none⟩ = some (.int .i64 clk) ∧ w5.cell? ⟨w3.heap.size, 3, none⟩ = some (.int .i64 cla) ∧ w5.cell? ⟨w3.heap.size, 4, none⟩ = some (.int .i64 clb) ∧ w5.cell? ⟨w3.heap.size, 5, none⟩ = some (.int .i64 cln) ∧ w5.cell? ⟨w3.heap.size, 6, none⟩ = some (.int .i64 crk) ∧ w5.cell? ⟨w3.heap.size, 7, none⟩ = some (.int .i64 cra) ∧ w5.cell? ⟨w3.heap.size, 8, none⟩ = some (.int .i64 crb) ∧ w5.cell? ⟨w3.heap.size, 9, none⟩ = some (.int .i64 crn) := (by obtain ⟨_, a0, a1, ⟨a2, a3, a4, a5⟩, a6, a7, a8, a9⟩ := XC5.out; obtain ⟨_, b0, b1, ⟨b2, b3, b4, b5⟩, b6, b7, b8, b9⟩ := XX5.out; exact ⟨a0, a1, a2, a3, a4, a5, a6, a7, a8, a9, b0, b1, b2, b3, b4, b5, b6, b7, b8, b9⟩); clear hb hb5)
      first | (refine hK.out _ _ ?_ (fun hHeld => ?_)) | (go_wp2_with fail; refine hK.out _ _ ?_ (fun hHeld => ?_))
      · (try dsimp only); exact Y5
      clear hK K
      try simp only [Act.put, List.getElem_toArray, List.getElem_cons_succ, List.getElem_cons_zero, List.setIfInBounds_toArray, List.set_cons_zero, List.set_cons_succ]
      refine wpAnyH_ready (rs := [10]) (by kernel_rfl) (by simp) ?_
      refine AllReadyH.cons rfl (fun K hK => ?_) AllReadyH.nil
      go_simp
      (go_at_call 36; refine (specTestOk_any ⟨ck, cn, ⟨clk, cla, clb, cln⟩, ⟨crk, cra, crb, crn⟩⟩ n1 _).mono ?_; rw [← HG.out]; rintro e w6 ⟨rfl, hb6⟩; have hb : Below w5.heap.size w5 w6 := (by first | exact hb6 | exact (Below.drew (Below.refl _ _)).trans hb6); have B6 : Hid (Below w.heap.size w w6) := bel_then B5.out hb; have XC6 : Hid (Box10 w6 w1.heap.size ⟨ck, cn, ⟨clk, cla, clb, cln⟩, ⟨crk, cra, crb, crn⟩⟩) := XC5.out.below hb; have XX6 : Hid (Box10 w6 w3.heap.size ⟨ck, cn, ⟨clk, cla, clb, cln⟩, ⟨crk, cra, crb, crn⟩⟩) := XX5.out.below hb; have Y6 : w6.cell? ⟨w1.heap.size, 0, none⟩ = some (.int .i64 ck) ∧ w6.cell? ⟨w1.heap.size, 1, none⟩ = some (.bool cn) ∧ w6.cell? ⟨w1.heap.size, 2, none⟩ = some (.int .i64 clk) ∧ w6.cell? ⟨w1.heap.size, 3, none⟩ = some (.int .i64 cla) ∧ w6.cell? ⟨w1.heap.size, 4, none⟩ = some (.int .i64 clb) ∧ w6.cell? ⟨w1.heap.size, 5, none⟩ = some (.int .i64 cln) ∧ w6.cell? ⟨w1.heap.size, 6, none⟩ = some (.int .i64 crk) ∧ w6.cell? ⟨w1.heap.size, 7, none⟩ = some (.int .i64 cra) ∧ w6.cell? ⟨w1.heap.size, 8, none⟩ = some (.int .i64 crb) ∧ w6.cell? ⟨w1.heap.size, 9, none⟩ = some (.int .i64 crn) ∧ w6.cell? ⟨w3.heap.size, 0, none⟩ = some (.int .i64 ck) ∧ w6.cell? ⟨w3.heap.size, 1, none⟩ = some (.bool cn) ∧ w6.cell? ⟨w3.heap.size, 2, none⟩ = some (.int .i64 clk) ∧ w6.cell? ⟨w3.heap.size, 3, none⟩ = some (.int .i64 cla) ∧ w6.cell? ⟨w3.heap.size, 4, none⟩ = some (.int .i64 clb) ∧ w6.cell? ⟨w3.heap.size, 5, none⟩ = some (.int .i64 cln) ∧ w6.cell? ⟨w3.heap.size, 6, none⟩ = some (.int .i64 crk) ∧ w6.cell? ⟨w3.heap.size, 7, none⟩ = some (.int .i64 cra) ∧ w6.cell? ⟨w3.heap.size, 8, none⟩ = some (.int .i64 crb) ∧ w6.cell? ⟨w3.heap.size, 9, none⟩ = some (.int .i64 crn) := (by obtain ⟨_, a0, a1, ⟨a2, a3, a4, a5⟩, a6, a7, a8, a9⟩ := XC6.out; obtain ⟨_, b0, b1, ⟨b2, b3, b4, b5⟩, b6, b7, b8, b9⟩ := XX6.out; exact ⟨a0, a1, a2, a3, a4, a5, a6, a7, a8, a9, b0, b1, b2, b3, b4, b5, b6, b7, b8, b9⟩); clear hb hb6)
      first | (refine hK.out _ _ ?_ (fun hHeld => ?_)) | (go_wp2_with fail; refine hK.out _ _ ?_ (fun hHeld => ?_))
      · (try dsimp only); exact Y6
      clear hK K
      try simp only [Act.put, List.getElem_toArray, List.getElem_cons_succ, List.getElem_cons_zero, List.setIfInBounds_toArray, List.set_cons_zero, List.set_cons_succ]
      refine wpAnyH_take (i := 11) (v := ?_) rfl (by kernel_rfl) (by kernel_rfl) (by kernel_rfl) (fun _ _ _ h => h) (Or.inl ⟨by rfl, ?_⟩) (by assumption) ?_
      rotate_left 1
      · intro w hSw; (try dsimp only at hSw); go_simp; try with_reducible rfl
      simp only [Act.put, List.getElem_toArray, List.getElem_cons_succ, List.getElem_cons_zero, List.setIfInBounds_toArray, List.set_cons_zero, List.set_cons_succ]
      refine wpAnyH_take (i := 12) (v := ?_) rfl (by kernel_rfl) (by kernel_rfl) (by kernel_rfl) (fun _ _ _ h => h) (Or.inl ⟨by rfl, ?_⟩) (by assumption) ?_
      rotate_left 1
      · intro w hSw; (try dsimp only at hSw); go_simp; try with_reducible rfl
      simp only [Act.put, List.getElem_toArray, List.getElem_cons_succ, List.getElem_cons_zero, List.setIfInBounds_toArray, List.set_cons_zero, List.set_cons_succ]
      refine wpAnyH_take (i := 13) (v := ?_) rfl (by kernel_rfl) (by kernel_rfl) (by kernel_rfl) (fun _ _ _ h => h) (Or.inl ⟨by rfl, ?_⟩) (by assumption) ?_
      rotate_left 1
      · intro w hSw; (try dsimp only at hSw); go_simp; try with_reducible rfl
      simp only [Act.put, List.getElem_toArray, List.getElem_cons_succ, List.getElem_cons_zero, List.setIfInBounds_toArray, List.set_cons_zero, List.set_cons_succ]
      refine wpAnyH_take (i := 14) (v := ?_) rfl (by kernel_rfl) (by kernel_rfl) (by kernel_rfl) (fun _ _ _ h => h) (Or.inl ⟨by rfl, ?_⟩) (by assumption) ?_
      rotate_left 1
      · intro w hSw; (try dsimp only at hSw); go_simp; try with_reducible rfl
      simp only [Act.put, List.getElem_toArray, List.getElem_cons_succ, List.getElem_cons_zero, List.setIfInBounds_toArray, List.set_cons_zero, List.set_cons_succ]
      refine wpAnyH_take (i := 15) (v := ?_) rfl (by kernel_rfl) (by kernel_rfl) (by kernel_rfl) (fun _ _ _ h => h) (Or.inl ⟨by rfl, ?_⟩) (by assumption) ?_
      rotate_left 1
      · intro w hSw; (try dsimp only at hSw); go_simp; try with_reducible rfl
      simp only [Act.put, List.getElem_toArray, List.getElem_cons_succ, List.getElem_cons_zero, List.setIfInBounds_toArray, List.set_cons_zero, List.set_cons_succ]
      refine wpAnyH_ready (rs := [16]) (by kernel_rfl) (by simp) ?_
      refine AllReadyH.cons rfl (fun K hK => ?_) AllReadyH.nil
      go_simp
      (go_at_call 36; refine (specTestOk_any ⟨ck, cn, ⟨clk, cla, clb, cln⟩, ⟨crk, cra, crb, crn⟩⟩ 6 _).mono ?_; rw [HOK6.out]; rintro e w7 ⟨rfl, hb7⟩; have hb : Below w6.heap.size w6 w7 := (by first | exact hb7 | exact (Below.drew (Below.refl _ _)).trans hb7); have B7 : Hid (Below w.heap.size w w7) := bel_then B6.out hb; have XC7 : Hid (Box10 w7 w1.heap.size ⟨ck, cn, ⟨clk, cla, clb, cln⟩, ⟨crk, cra, crb, crn⟩⟩) := XC6.out.below hb; have XX7 : Hid (Box10 w7 w3.heap.size ⟨ck, cn, ⟨clk, cla, clb, cln⟩, ⟨crk, cra, crb, crn⟩⟩) := XX6.out.below hb; have Y7 : w7.cell? ⟨w1.heap.size, 0, none⟩ = some (.int .i64 ck) ∧ w7.cell? ⟨w1.heap.size, 1, none⟩ = some (.bool cn) ∧ w7.cell? ⟨w1.heap.size, 2, none⟩ = some (.int .i64 clk) ∧ w7.cell? ⟨w1.heap.size, 3, none⟩ = some (.int .i64 cla) ∧ w7.cell? ⟨w1.heap.size, 4, none⟩ = some (.int .i64 clb) ∧ w7.cell? ⟨w1.heap.size, 5, none⟩ = some (.int .i64 cln) ∧ w7.cell? ⟨w1.heap.size, 6, none⟩ = some (.int .i64 crk) ∧ w7.cell? ⟨w1.heap.size, 7, none⟩ = some (.int .i64 cra) ∧ w7.cell? ⟨w1.heap.size, 8, none⟩ = some (.int .i64 crb) ∧ w7.cell? ⟨w1.heap.size, 9, none⟩ = some (.int .i64 crn) ∧ w7.cell? ⟨w3.heap.size, 0, none⟩ = some (.int .i64 ck) ∧ w7.cell? ⟨w3.heap.size, 1, none⟩ = some (.bool cn) ∧ w7.cell? ⟨w3.heap.size, 2, none⟩ = some (.int .i64 clk) ∧ w7.cell? ⟨w3.heap.size, 3, none⟩ = some (.int .i64 cla) ∧ w7.cell? ⟨w3.heap.size, 4, none⟩ = some (.int .i64 clb) ∧ w7.cell? ⟨w3.heap.size, 5, none⟩ = some (.int .i64 cln) ∧ w7.cell? ⟨w3.heap.size, 6, none⟩ = some (.int .i64 crk) ∧ w7.cell? ⟨w3.heap.size, 7, none⟩ = some (.int .i64 cra) ∧ w7.cell? ⟨w3.heap.size, 8, none⟩ = some (.int .i64 crb) ∧ w7.cell? ⟨w3.heap.size, 9, none⟩ = some (.int .i64 crn) := (by obtain ⟨_, a0, a1, ⟨a2, a3, a4, a5⟩, a6, a7, a8, a9⟩ := XC7.out; obtain ⟨_, b0, b1, ⟨b2, b3, b4, b5⟩, b6, b7, b8, b9⟩ := XX7.out; exact ⟨a0, a1, a2, a3, a4, a5, a6, a7, a8, a9, b0, b1, b2, b3, b4, b5, b6, b7, b8, b9⟩); clear hb hb7)
      first | (refine hK.out _ _ ?_ (fun hHeld => ?_)) | (go_wp2_with fail; refine hK.out _ _ ?_ (fun hHeld => ?_))
      · (try dsimp only); exact Y7
      clear hK K
      try simp only [Act.put, List.getElem_toArray, List.getElem_cons_succ, List.getElem_cons_zero, List.setIfInBounds_toArray, List.set_cons_zero, List.set_cons_succ]
      refine wpAnyH_take (i := 17) (v := ?_) rfl (by kernel_rfl) (by kernel_rfl) (by kernel_rfl) (fun _ _ _ h => h) (Or.inl ⟨by rfl, ?_⟩) (by assumption) ?_
      rotate_left 1
      · intro w hSw; (try dsimp only at hSw); go_simp; try with_reducible rfl
      simp only [Act.put, List.getElem_toArray, List.getElem_cons_succ, List.getElem_cons_zero, List.setIfInBounds_toArray, List.set_cons_zero, List.set_cons_succ]
      refine wpAnyH_take (i := 18) (v := ?_) rfl (by kernel_rfl) (by kernel_rfl) (by kernel_rfl) (fun _ _ _ h => h) (Or.inl ⟨by rfl, ?_⟩) (by assumption) ?_
      rotate_left 1
      · intro w hSw; (try dsimp only at hSw); go_simp; try with_reducible rfl
      simp only [Act.put, List.getElem_toArray, List.getElem_cons_succ, List.getElem_cons_zero, List.setIfInBounds_toArray, List.set_cons_zero, List.set_cons_succ]
      refine wpAnyH_take (i := 19) (v := ?_) rfl (by kernel_rfl) (by kernel_rfl) (by kernel_rfl) (fun _ _ _ h => h) (Or.inl ⟨by rfl, ?_⟩) (by assumption) ?_
      rotate_left 1
      · intro w hSw; (try dsimp only at hSw); go_simp; try with_reducible rfl
      simp only [Act.put, List.getElem_toArray, List.getElem_cons_succ, List.getElem_cons_zero, List.setIfInBounds_toArray, List.set_cons_zero, List.set_cons_succ]
      refine wpAnyH_take (i := 20) (v := ?_) rfl (by kernel_rfl) (by kernel_rfl) (by kernel_rfl) (fun _ _ _ h => h) (Or.inl ⟨by rfl, ?_⟩) (by assumption) ?_
      rotate_left 1
      · intro w hSw; (try dsimp only at hSw); go_simp; try with_reducible rfl
      simp only [Act.put, List.getElem_toArray, List.getElem_cons_succ, List.getElem_cons_zero, List.setIfInBounds_toArray, List.set_cons_zero, List.set_cons_succ]
      refine wpAnyH_take (i := 21) (v := ?_) rfl (by kernel_rfl) (by kernel_rfl) (by kernel_rfl) (fun _ _ _ h => h) (Or.inl ⟨by rfl, ?_⟩) (by assumption) ?_
      rotate_left 1
      · intro w hSw; (try dsimp only at hSw); go_simp; try with_reducible rfl
      simp only [Act.put, List.getElem_toArray, List.getElem_cons_succ, List.getElem_cons_zero, List.setIfInBounds_toArray, List.set_cons_zero, List.set_cons_succ]
      refine wpAnyH_take (i := 22) (v := ?_) rfl (by kernel_rfl) (by kernel_rfl) (by kernel_rfl) (fun _ _ _ h => h) (Or.inl ⟨by rfl, ?_⟩) (by assumption) ?_
      rotate_left 1
      · intro w hSw; (try dsimp only at hSw); go_simp; try with_reducible rfl
      simp only [Act.put, List.getElem_toArray, List.getElem_cons_succ, List.getElem_cons_zero, List.setIfInBounds_toArray, List.set_cons_zero, List.set_cons_succ]
      refine wpAnyH_take (i := 23) (v := ?_) rfl (by kernel_rfl) (by kernel_rfl) (by kernel_rfl) (fun _ _ _ h => h) (Or.inl ⟨by rfl, ?_⟩) (by assumption) ?_
      rotate_left 1
      · intro w hSw; (try dsimp only at hSw); go_simp; try with_reducible rfl
      simp only [Act.put, List.getElem_toArray, List.getElem_cons_succ, List.getElem_cons_zero, List.setIfInBounds_toArray, List.set_cons_zero, List.set_cons_succ]
      refine wpAnyH_take (i := 24) (v := ?_) rfl (by kernel_rfl) (by kernel_rfl) (by kernel_rfl) (fun _ _ _ h => h) (Or.inl ⟨by rfl, ?_⟩) (by assumption) ?_
      rotate_left 1
      · intro w hSw; (try dsimp only at hSw); go_simp; try with_reducible rfl
      simp only [Act.put, List.getElem_toArray, List.getElem_cons_succ, List.getElem_cons_zero, List.setIfInBounds_toArray, List.set_cons_zero, List.set_cons_succ]
      refine wpAnyH_take (i := 25) (v := ?_) rfl (by kernel_rfl) (by kernel_rfl) (by kernel_rfl) (fun _ _ _ h => h) (Or.inl ⟨by rfl, ?_⟩) (by assumption) ?_
      rotate_left 1
      · intro w hSw; (try dsimp only at hSw); go_simp; try with_reducible rfl
      simp only [Act.put, List.getElem_toArray, List.getElem_cons_succ, List.getElem_cons_zero, List.setIfInBounds_toArray, List.set_cons_zero, List.set_cons_succ]
      refine wpAnyH_take (i := 26) (v := ?_) rfl (by kernel_rfl) (by kernel_rfl) (by kernel_rfl) (fun _ _ _ h => h) (Or.inl ⟨by rfl, ?_⟩) (by assumption) ?_
      rotate_left 1
      · intro w hSw; (try dsimp only at hSw); go_simp; try with_reducible rfl
      simp only [Act.put, List.getElem_toArray, List.getElem_cons_succ, List.getElem_cons_zero, List.setIfInBounds_toArray, List.set_cons_zero, List.set_cons_succ]
      refine wpAnyH_done (by kernel_rfl) ?_ _
      go_wp2_with fail
      go_meet
      case rel => exact ⟨rfl, B7.out⟩
  case rest =>
    obtain ⟨rfl, B8⟩ := hcut
    clear XC0 XX0 B0 XC3 B3 X2 B2 HS HG
    go_wp2_with fail
    refine (drawTorn_any a2 len2 cap2 zs2 _ (H2.out.below B8.out)).mono ?_
    rintro e w11 ⟨t, rfl, hts, hb11⟩
    have B11 : Hid (Below w.heap.size w w11) := bel_then B8.out hb11
    clear hb11 B8
    obtain ⟨o2, HO2⟩ : ∃ o, Hid (o = readT t.data.toList) := ⟨_, Eq.refl _⟩
    obtain ⟨⟨yk, yn, ⟨ylk, yla, ylb, yln⟩, ⟨yrk, yra, yrb, yrn⟩⟩, HY⟩ : ∃ x, Hid (x = outT o2) := ⟨_, Eq.refl _⟩
    obtain ⟨d, HD⟩ : ∃ v, Hid (v = o2.isSome) := ⟨_, Eq.refl _⟩
    have hdd : (d != d) = false := by simp
    go_wp2_with fail
    refine (implTestRead_any t (by omega) _ p (HC.out.below B11.out)).mono ?_
    rw [← HO2.out, ← HY.out, ← HD.out]
    simp only
    rintro e w12 ⟨rfl, hb12⟩
    have B12 : Hid (Below w.heap.size w w12) := bel_then B11.out hb12
    clear hb12 B11
    go_wp2_with fail
    refine (specTestRead_any t (by omega) _).mono ?_
    rw [← HO2.out, ← HY.out, ← HD.out]
    simp only
    rintro e w13 ⟨rfl, hb13⟩
    have Y14 : Hid (Box10 (w13.alloc (.cells #[.int .i64 yk, .bool yn, .int .i64 ylk, .int .i64 yla, .int .i64 ylb, .int .i64 yln, .int .i64 yrk, .int .i64 yra, .int .i64 yrb, .int .i64 yrn] 52)) w12.heap.size ⟨yk, yn, ⟨ylk, yla, ylb, yln⟩, ⟨yrk, yra, yrb, yrn⟩⟩) := ((Box10.start w12 ⟨yk, yn, ⟨ylk, yla, ylb, yln⟩, ⟨yrk, yra, yrb, yrn⟩⟩ _).below hb13).below (bel_alloc _)
    have B14 : Hid (Below w.heap.size w (w13.alloc (.cells #[.int .i64 yk, .bool yn, .int .i64 ylk, .int .i64 yla, .int .i64 ylb, .int .i64 yln, .int .i64 yrk, .int .i64 yra, .int .i64 yrb, .int .i64 yrn] 52))) := bel_then (bel_then B12.out (bel_then (bel_alloc _) hb13)) (bel_alloc _)
    clear hb13 B12
    go_upto_region 11 with fail
    go_cut [97] (fun c wx => c = .bool false ∧ Hid (Below w.heap.size w wx))
    case first =>
      obtain ⟨_, p0, p1, ⟨p2, p3, p4, p5⟩, p6, p7, p8, p9⟩ := Y14.out
      simp only at p0 p1 p2 p3 p4 p5 p6 p7 p8 p9
      cases d with
      | false =>
        go_wp2_with fail
        go_meet
        case rel => exact ⟨rfl, B14.out⟩
      | true =>
        have HR : Hid (readT t.data.toList = some ⟨yk, yn, ⟨ylk, yla, ylb, yln⟩, ⟨yrk, yra, yrb, yrn⟩⟩) := by
          show _ = _
          rw [← HO2.out]
          have h1 := HD.out
          have h2 := HY.out
          cases ho : o2 with
          | none => rw [ho] at h1; simp at h1
          | some q => rw [ho] at h2; rw [h2]; rfl
        have HTX := readT_scan HR.out
        go_wp2_with fail
        refine (implTestText_any ⟨yk, yn, ⟨ylk, yla, ylb, yln⟩, ⟨yrk, yra, yrb, yrn⟩⟩ _ p (HC.out.below B14.out).1 (HC.out.below B14.out).2.1).mono ?_
        rintro e w15 ⟨u, rfl, hu, -, hb15⟩
        obtain rfl : u = t := bytes_eq (by rw [hu, Tst.txO, HTX.1, if_pos rfl, HTX.2.1])
        have B15 : Hid (Below w.heap.size w w15) := bel_then B14.out hb15
        clear hu hb15 p0 p1 p2 p3 p4 p5 p6 p7 p8 p9
        have huu : (u.toList != u.toList) = false := by simp
        go_wp2_with fail
        go_meet
        case rel => exact ⟨rfl, B15.out⟩
    case rest =>
      obtain ⟨rfl, B17⟩ := hcut
      clear Y14 B14
      go_wp2_with fail
      refine (drawTestOf_any a len cap zs _ (H.out.below B17.out)).mono ?_
      rintro e w18 ⟨⟨dk, dn, ⟨dlk, dla, dlb, dln⟩, ⟨drk, dra, drb, drn⟩⟩, v, rfl, -, xs, hxl, hsm, hx, hb18⟩
      simp only
      have B18 : Hid (Below w.heap.size w w18) := bel_then B17.out hb18
      have HXS : Hid (IntsAt w18 v xs) := hx
      obtain ⟨va, vn, vc, rfl⟩ : ∃ va vn vc, v = .slice va vn vc := by obtain ⟨_, va, vc, hv, _⟩ := hx; exact ⟨_, _, _, hv⟩
      clear hb18 hx hsm B17 hxl
      obtain ⟨is, HIS⟩ : ∃ m, Hid (m = Tst.valB ⟨dk, dn, ⟨dlk, dla, dlb, dln⟩, ⟨drk, dra, drb, drn⟩⟩ xs) := ⟨_, Eq.refl _⟩
      obtain ⟨b, HB⟩ : ∃ b, Hid (b = Tst.toldB ⟨dk, dn, ⟨dlk, dla, dlb, dln⟩, ⟨drk, dra, drb, drn⟩⟩ xs) := ⟨_, Eq.refl _⟩
      obtain ⟨bk, HBK⟩ : ∃ m, Hid (m = Tst.valB ⟨dk, !dn, ⟨dlk, dla, dlb, dln⟩, ⟨drk, dra, drb, drn⟩⟩ xs) := ⟨_, Eq.refl _⟩
      obtain ⟨x, HXV⟩ : ∃ m, Hid (m = Cel.valI ⟨dlk, dla, dlb, dln⟩ xs) := ⟨_, Eq.refl _⟩
      obtain ⟨pl, HPL⟩ : ∃ m, Hid (m = Cel.toldB ⟨dlk, dla, dlb, dln⟩ xs) := ⟨_, Eq.refl _⟩
      obtain ⟨y, HYV⟩ : ∃ m, Hid (m = Cel.valI ⟨drk, dra, drb, drn⟩ xs) := ⟨_, Eq.refl _⟩
      obtain ⟨qr, HQR⟩ : ∃ m, Hid (m = Cel.toldB ⟨drk, dra, drb, drn⟩ xs) := ⟨_, Eq.refl _⟩
      have hmm : (is != is) = false := by simp
      have hbb : (b != b) = false := by simp
      have hbe : (b == b) = true := by simp
      go_wp2_with fail
      refine (implTestOf_any ⟨dk, dn, ⟨dlk, dla, dlb, dln⟩, ⟨drk, dra, drb, drn⟩⟩ _ xs _ p (HC.out.below (bel_then B18.out (bel_alloc _))).1 (HXS.out.below (bel_alloc _))).mono ?_
      rw [← HIS.out, ← HB.out]
      rintro e w19 ⟨rfl, hb19⟩
      have D19 : Hid (w19.heap[w18.heap.size]? = some (.cells #[.int .i64 dk, .bool dn, .int .i64 dlk, .int .i64 dla, .int .i64 dlb, .int .i64 dln, .int .i64 drk, .int .i64 dra, .int .i64 drb, .int .i64 drn] 52)) := at_below (alloc_at w18 _) hb19
      have B19 : Hid (Below w18.heap.size w18 w19) := bel_then (bel_alloc _) hb19
      clear hb19
      obtain ⟨⟨p0, p1, p2, p3, p4, p5, p6, p7, p8, p9⟩, -⟩ := ten_cells D19.out
      go_wp2_with fail
      refine (specTestOf_any ⟨dk, dn, ⟨dlk, dla, dlb, dln⟩, ⟨drk, dra, drb, drn⟩⟩ _ xs _ (HXS.out.below B19.out)).mono ?_
      rw [← HIS.out, ← HB.out]
      rintro e w20 ⟨rfl, hb20⟩
      have D20 : Hid (w20.heap[w18.heap.size]? = some (.cells #[.int .i64 dk, .bool dn, .int .i64 dlk, .int .i64 dla, .int .i64 dlb, .int .i64 dln, .int .i64 drk, .int .i64 dra, .int .i64 drb, .int .i64 drn] 52)) := at_below D19.out hb20
      have B20 : Hid (Below w18.heap.size w18 w20) := bel_then B19.out hb20
      clear hb20 p0 p1 p2 p3 p4 p5 p6 p7 p8 p9 D19 B19
      obtain ⟨⟨p0, p1, p2, p3, p4, p5, p6, p7, p8, p9⟩, ⟨f0, f1, f2, f3, f4, f5, f6, f7, f8, f9⟩⟩ := ten_cells D20.out
      have D21 : Hid (Box10 (w20.setCell ⟨w18.heap.size, 1, none⟩ (.bool !dn)) w18.heap.size ⟨dk, !dn, ⟨dlk, dla, dlb, dln⟩, ⟨drk, dra, drb, drn⟩⟩) := box_flip (t := ⟨dk, dn, ⟨dlk, dla, dlb, dln⟩, ⟨drk, dra, drb, drn⟩⟩) ⟨(Array.getElem?_eq_some_iff.1 D20.out).1, p0, p1, ⟨p2, p3, p4, p5⟩, p6, p7, p8, p9⟩
      have B21 : Hid (Below w18.heap.size w18 (w20.setCell ⟨w18.heap.size, 1, none⟩ (.bool !dn))) := B20.out.setCell (p := ⟨w18.heap.size, 1, none⟩) (Nat.le_refl _) _
      have hnot : ∀ (x : Bool) (w : World), (Op.unary .not (.bool x)).run Tryz.prog w = .ok (.bool (!x)) w := fun _ _ => rfl
      have HBK2 : Hid (Tst.toldB ⟨dk, !dn, ⟨dlk, dla, dlb, dln⟩, ⟨drk, dra, drb, drn⟩⟩ xs = b) := by show _ = _; rw [HB.out]; rfl
      go_wp2_with fail
      refine (implTestOf_any ⟨dk, !dn, ⟨dlk, dla, dlb, dln⟩, ⟨drk, dra, drb, drn⟩⟩ _ xs _ p (HC.out.below (bel_then B18.out B21.out)).1 (HXS.out.below B21.out)).mono ?_
      rw [← HBK.out, HBK2.out]
      rintro e w22 ⟨rfl, hb22⟩
      have D22 : Hid (Box10 w22 w18.heap.size ⟨dk, !dn, ⟨dlk, dla, dlb, dln⟩, ⟨drk, dra, drb, drn⟩⟩) := D21.out.below hb22
      have B22 : Hid (Below w18.heap.size w18 w22) := bel_then B21.out hb22
      clear hb22 p0 p1 p2 p3 p4 p5 p6 p7 p8 p9 f0 f1 f2 f3 f4 f5 f6 f7 f8 f9 D21 B21 D20 B20
      obtain ⟨_, p0, p1, ⟨p2, p3, p4, p5⟩, p6, p7, p8, p9⟩ := D22.out
      simp only at p0 p1 p2 p3 p4 p5 p6 p7 p8 p9
      go_wp2_with fail
      refine (implCellOf_any ⟨dlk, dla, dlb, dln⟩ _ xs _ p (HC.out.below (bel_then B18.out B22.out)).1 (HXS.out.below B22.out)).mono ?_
      rw [← HXV.out, ← HPL.out]
      rintro e w23 ⟨rfl, hb23⟩
      have D23 : Hid (Box10 w23 w18.heap.size ⟨dk, !dn, ⟨dlk, dla, dlb, dln⟩, ⟨drk, dra, drb, drn⟩⟩) := D22.out.below hb23
      have B23 : Hid (Below w18.heap.size w18 w23) := bel_then B22.out hb23
      clear hb23 p0 p1 p2 p3 p4 p5 p6 p7 p8 p9 D22 B22
      obtain ⟨_, p0, p1, ⟨p2, p3, p4, p5⟩, p6, p7, p8, p9⟩ := D23.out
      simp only at p0 p1 p2 p3 p4 p5 p6 p7 p8 p9
      go_wp2_with fail
      refine (implCellOf_any ⟨drk, dra, drb, drn⟩ _ xs _ p (HC.out.below (bel_then B18.out B23.out)).1 (HXS.out.below B23.out)).mono ?_
      rw [← HYV.out, ← HQR.out]
      rintro e w24 ⟨rfl, hb24⟩
      have D24 : Hid (Box10 w24 w18.heap.size ⟨dk, !dn, ⟨dlk, dla, dlb, dln⟩, ⟨drk, dra, drb, drn⟩⟩) := D23.out.below hb24
      have BB : Hid (Below w.heap.size w w24) := bel_then (bel_then B18.out B23.out) hb24
      clear hb24 p0 p1 p2 p3 p4 p5 p6 p7 p8 p9 D23 B23
      obtain ⟨_, p0, p1, ⟨p2, p3, p4, p5⟩, p6, p7, p8, p9⟩ := D24.out
      simp only at p0 p1 p2 p3 p4 p5 p6 p7 p8 p9
      cases b with
      | false =>
        go_wp2
        go_ret
        exact ⟨rfl, BB.out⟩
      | true =>
        have ht0 := HB.out.symm
        have ht1 := HBK2.out
        have h3 := ht0
        simp only [Tst.toldB, Bool.and_eq_true, decide_eq_true_eq] at h3
        obtain ⟨⟨hk, hl⟩, hr⟩ := h3
        obtain rfl : pl = true := by rw [HPL.out]; exact hl
        obtain rfl : qr = true := by rw [HQR.out]; exact hr
        have hxn : x = Cel.num ⟨dlk, dla, dlb, dln⟩ xs := by rw [HXV.out, Cel.valI, hl]; rfl
        have hyn : y = Cel.num ⟨drk, dra, drb, drn⟩ xs := by rw [HYV.out, Cel.valI, hr]; rfl
        clear hl hr
        rcases hk with rfl | rfl
        · cases dn
          · by_cases hxy : x < y
            · have hd : decide (x < y) = true := by simpa using hxy
              obtain rfl : is = true := by
                rw [HIS.out, Tst.valB, ht0]
                unfold Tst.holdsB
                rw [← hxn, ← hyn]
                simp [hxy]
              obtain rfl : bk = false := by
                rw [HBK.out, Tst.valB, ht1]
                unfold Tst.holdsB
                rw [← hxn, ← hyn]
                simp [hxy]
              clear ht0 ht1 hxn hyn
              go_wp2
              go_ret
              exact ⟨rfl, BB.out⟩
            · have hd : decide (x < y) = false := by simpa using hxy
              obtain rfl : is = false := by
                rw [HIS.out, Tst.valB, ht0]
                unfold Tst.holdsB
                rw [← hxn, ← hyn]
                simp [hxy]
              obtain rfl : bk = true := by
                rw [HBK.out, Tst.valB, ht1]
                unfold Tst.holdsB
                rw [← hxn, ← hyn]
                simp [hxy]
              clear ht0 ht1 hxn hyn
              go_wp2
              go_ret
              exact ⟨rfl, BB.out⟩
          · by_cases hxy : x < y
            · have hd : decide (x < y) = true := by simpa using hxy
              obtain rfl : is = false := by
                rw [HIS.out, Tst.valB, ht0]
                unfold Tst.holdsB
                rw [← hxn, ← hyn]
                simp [hxy]
              obtain rfl : bk = true := by
                rw [HBK.out, Tst.valB, ht1]
                unfold Tst.holdsB
                rw [← hxn, ← hyn]
                simp [hxy]
              clear ht0 ht1 hxn hyn
              go_wp2
              go_ret
              exact ⟨rfl, BB.out⟩
            · have hd : decide (x < y) = false := by simpa using hxy
              obtain rfl : is = true := by
                rw [HIS.out, Tst.valB, ht0]
                unfold Tst.holdsB
                rw [← hxn, ← hyn]
                simp [hxy]
              obtain rfl : bk = false := by
                rw [HBK.out, Tst.valB, ht1]
                unfold Tst.holdsB
                rw [← hxn, ← hyn]
                simp [hxy]
              clear ht0 ht1 hxn hyn
              go_wp2
              go_ret
              exact ⟨rfl, BB.out⟩
        · cases dn
          · by_cases hxy : x = y
            · have hd : (x == y) = true := by simpa using hxy
              obtain rfl : is = true := by
                rw [HIS.out, Tst.valB, ht0]
                unfold Tst.holdsB
                rw [← hxn, ← hyn]
                simp [hxy]
              obtain rfl : bk = false := by
                rw [HBK.out, Tst.valB, ht1]
                unfold Tst.holdsB
                rw [← hxn, ← hyn]
                simp [hxy]
              clear ht0 ht1 hxn hyn
              go_wp2
              go_ret
              exact ⟨rfl, BB.out⟩
            · have hd : (x == y) = false := by simpa using hxy
              obtain rfl : is = false := by
                rw [HIS.out, Tst.valB, ht0]
                unfold Tst.holdsB
                rw [← hxn, ← hyn]
                simp [hxy]
              obtain rfl : bk = true := by
                rw [HBK.out, Tst.valB, ht1]
                unfold Tst.holdsB
                rw [← hxn, ← hyn]
                simp [hxy]
              clear ht0 ht1 hxn hyn
              go_wp2
              go_ret
              exact ⟨rfl, BB.out⟩
          · by_cases hxy : x = y
            · have hd : (x == y) = true := by simpa using hxy
              obtain rfl : is = false := by
                rw [HIS.out, Tst.valB, ht0]
                unfold Tst.holdsB
                rw [← hxn, ← hyn]
                simp [hxy]
              obtain rfl : bk = true := by
                rw [HBK.out, Tst.valB, ht1]
                unfold Tst.holdsB
                rw [← hxn, ← hyn]
                simp [hxy]
              clear ht0 ht1 hxn hyn
              go_wp2
              go_ret
              exact ⟨rfl, BB.out⟩
            · have hd : (x == y) = false := by simpa using hxy
              obtain rfl : is = true := by
                rw [HIS.out, Tst.valB, ht0]
                unfold Tst.holdsB
                rw [← hxn, ← hyn]
                simp [hxy]
              obtain rfl : bk = false := by
                rw [HBK.out, Tst.valB, ht1]
                unfold Tst.holdsB
                rw [← hxn, ← hyn]
                simp [hxy]
              clear ht0 ht1 hxn hyn
              go_wp2
              go_ret
              exact ⟨rfl, BB.out⟩

end Go.Proofs.YtkgopbffgahhcaaGreatDoor
