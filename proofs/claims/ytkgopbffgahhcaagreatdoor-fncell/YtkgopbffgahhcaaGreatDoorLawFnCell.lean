/-
  The walk of laws.FnCell, out of the contracts: whatever the bytes are, it answers true, and nothing that was there is written. Conditions: the library's variables and the error of chapter 3 read as they were laid (Can).
-/
import Derived.Test.YtkgopbffgahhcaaGreatDoorCellScan
import Derived.Test.YtkgopbffgahhcaaGreatDoorCellText2
import Derived.Test.YtkgopbffgahhcaaGreatDoorDrawCellRead
import Derived.Test.YtkgopbffgahhcaaGreatDoorDrawT2
import Derived.Test.YtkgopbffgahhcaaGreatDoorCellReck
import Derived.Deep.RegionWith
import Derived.Deep.DeepCutAuto
namespace Go.Proofs.YtkgopbffgahhcaaGreatDoor
set_option maxRecDepth 100000
open Go.RowKit
set_option linter.unusedVariables false

theorem readC_nil : readC [] = none := by simp [readC, cutAt, placeB]
theorem read_txO (c : Cel) : readC c.txO = if c.okB 6 = true then some c else none := by
  unfold Cel.txO
  split
  · rename_i h; exact read_tx h
  · exact readC_nil
theorem cellNe (c : Cel) (w : World) : (binOp .neq 40 (.agg #[.int .i64 c.k, .int .i64 c.a, .int .i64 c.b, .int .i64 c.n]) (.agg #[.int .i64 c.k, .int .i64 c.a, .int .i64 c.b, .int .i64 c.n])).run Tryz.prog w = .ok (.bool false) w := by
  have h := cellEq c.k c.a c.b c.n c.k c.a c.b c.n w
  rw [run_eql_struct] at h
  rw [run_neq_struct]
  cases hr : (Op.equalIn 10000 40 (.agg #[.int .i64 c.k, .int .i64 c.a, .int .i64 c.b, .int .i64 c.n]) (.agg #[.int .i64 c.k, .int .i64 c.a, .int .i64 c.b, .int .i64 c.n])).run Tryz.prog w with
  | ok b w' =>
    rw [hr] at h
    simp only [Result.andThen, Result.ok.injEq, Value.bool.injEq] at h ⊢
    obtain ⟨rfl, rfl⟩ := h
    simp
  | halt x w' =>
    rw [hr] at h
    simp [Result.andThen] at h
theorem bytes_eq {s t : ByteArray} (h : s.data.toList = t.data.toList) : s = t := by
  obtain ⟨⟨a⟩⟩ := s
  obtain ⟨⟨b⟩⟩ := t
  simp at h
  rw [h]

set_option maxHeartbeats 8000000 in
theorem lawFnCell (a : Option Addr) (len cap : Nat) (zs : List Int) (a2 : Option Addr) (len2 cap2 : Nat) (zs2 : List Int) (w : World) (h : IsRow .u8 w a len cap zs) (h2 : IsRow .u8 w a2 len2 cap2 zs2) (hc : ∃ p, Can p w) :
    Calls Tryz.prog 5 #[.slice a len cap, .slice a2 len2 cap2] w fun e w' => e = .returned (.bool true) ∧ Below w.heap.size w w' := by
  by_cases hbig : (1048576 : Int) < (len : Int)
  · go_enter Tryz.func5, Tryz.ntmps5
    go_wp2
    go_ret
    exact ⟨rfl, Below.refl _ _⟩
  by_cases hbig2 : (1048576 : Int) < (len2 : Int)
  · go_enter Tryz.func5, Tryz.ntmps5
    go_wp2
    go_ret
    exact ⟨rfl, Below.refl _ _⟩
  obtain ⟨p, hc⟩ := hc
  have HC : Hid (Can p w) := hc
  have H : Hid (IsRow .u8 w a len cap zs) := h
  have H2 : Hid (IsRow .u8 w a2 len2 cap2 zs2) := h2
  clear h h2 hc
  go_enter Tryz.func5, Tryz.ntmps5
  go_wp2_with fail
  refine (drawCellOk_any a len cap zs _ H.out).mono ?_
  rintro e w1 ⟨⟨ck, ca, cb, cn⟩, n1, rfl, -, -, -, hb1⟩
  simp only
  have B1 : Hid (Below w.heap.size w w1) := hb1
  clear hb1
  obtain ⟨g, HG⟩ : ∃ g, Hid (g = Cel.okB ⟨ck, ca, cb, cn⟩ n1) := ⟨_, Eq.refl _⟩
  have hgg : (g != g) = false := by simp
  go_wp2_with fail
  refine (implCellText_any ⟨ck, ca, cb, cn⟩ _ p (HC.out.below (bel_then B1.out (bel_alloc _))).1 (HC.out.below (bel_then B1.out (bel_alloc _))).2.1).mono ?_
  rintro e w2 ⟨s, rfl, hs, hsz, hb2⟩
  have X2 : Hid (Box4 w2 w1.heap.size ⟨ck, ca, cb, cn⟩) := (Box4.start w1 ⟨ck, ca, cb, cn⟩ _).below hb2
  have B2 : Hid (Below w.heap.size w w2) := bel_then B1.out (bel_then (bel_alloc _) hb2)
  have HS : Hid (s.data.toList = Cel.txO ⟨ck, ca, cb, cn⟩) := hs
  clear hs hb2
  have hss : (s.toList != s.toList) = false := by simp
  go_wp2_with fail
  refine (implCellRead_any s (by omega) _ p (HC.out.below B2.out)).mono ?_
  obtain ⟨o1, HO1⟩ : ∃ o, Hid (o = readC (Cel.txO ⟨ck, ca, cb, cn⟩)) := ⟨_, Eq.refl _⟩
  obtain ⟨⟨xk, xa, xb, xn⟩, HX⟩ : ∃ x, Hid (x = outC o1) := ⟨_, Eq.refl _⟩
  obtain ⟨ok, HV⟩ : ∃ v, Hid (v = o1.isSome) := ⟨_, Eq.refl _⟩
  rw [HS.out, ← HO1.out, ← HX.out, ← HV.out]
  simp only
  rintro e w3 ⟨rfl, hb3⟩
  have XC3 : Hid (Box4 w3 w1.heap.size ⟨ck, ca, cb, cn⟩) := X2.out.below hb3
  have B3 : Hid (Below w.heap.size w w3) := bel_then B2.out hb3
  have XC0 : Hid (Box4 (w3.alloc (.cells #[.int .i64 xk, .int .i64 xa, .int .i64 xb, .int .i64 xn] 40)) w1.heap.size ⟨ck, ca, cb, cn⟩) := XC3.out.below (bel_alloc _)
  have XX0 : Hid (Box4 (w3.alloc (.cells #[.int .i64 xk, .int .i64 xa, .int .i64 xb, .int .i64 xn] 40)) w3.heap.size ⟨xk, xa, xb, xn⟩) := Box4.start w3 ⟨xk, xa, xb, xn⟩ _
  have B0 : Hid (Below w.heap.size w (w3.alloc (.cells #[.int .i64 xk, .int .i64 xa, .int .i64 xb, .int .i64 xn] 40))) := bel_then B3.out (bel_alloc _)
  clear hb3
  obtain ⟨_, p00, p01, p02, p03⟩ := XC0.out
  obtain ⟨_, q00, q01, q02, q03⟩ := XX0.out
  simp only at p00 p01 p02 p03 q00 q01 q02 q03
  go_wp2_with fail
  go_cut [67] (fun c wx => c = .bool false ∧ Hid (Below w.heap.size w wx))
  case first =>
    cases hok : Cel.okB ⟨ck, ca, cb, cn⟩ 6
    · have HOK6 : Hid (Cel.okB ⟨ck, ca, cb, cn⟩ 6 = false) := hok
      have hx := HX.out
      have hv := HV.out
      rw [HO1.out, read_txO, hok] at hx hv
      simp only [Bool.false_eq_true, if_false, outC, Option.getD_none, Option.isSome_none] at hx hv
      simp only [Cel.mk.injEq] at hx
      obtain ⟨rfl, rfl, rfl, rfl⟩ := hx
      subst hv
      clear hok
      have hne := cellNe ⟨ck, ca, cb, cn⟩
      first | (go_region_with (first | (have hG := B6; clear hG; go_at_call 25; refine (specCellOk_any ⟨ck, ca, cb, cn⟩ 6 _).mono ?_; rw [HOK6.out]; rintro e w7 ⟨rfl, hb7⟩; have hb : Below w6.heap.size w6 w7 := (by first | exact hb7 | exact (Below.drew (Below.refl _ _)).trans hb7); have B7 : Hid (Below w.heap.size w w7) := bel_then B6.out hb; have XC7 : Hid (Box4 w7 w1.heap.size ⟨ck, ca, cb, cn⟩) := XC6.out.below hb; have XX7 : Hid (Box4 w7 w3.heap.size ⟨0, 0, 0, 0⟩) := XX6.out.below hb; obtain ⟨_, p70, p71, p72, p73⟩ := XC7.out; obtain ⟨_, q70, q71, q72, q73⟩ := XX7.out; simp only at p70 p71 p72 p73 q70 q71 q72 q73; clear hb hb7) | (have hG := B5; clear hG; go_at_call 25; refine (specCellOk_any ⟨ck, ca, cb, cn⟩ n1 _).mono ?_; rw [← HG.out]; rintro e w6 ⟨rfl, hb6⟩; have hb : Below w5.heap.size w5 w6 := (by first | exact hb6 | exact (Below.drew (Below.refl _ _)).trans hb6); have B6 : Hid (Below w.heap.size w w6) := bel_then B5.out hb; have XC6 : Hid (Box4 w6 w1.heap.size ⟨ck, ca, cb, cn⟩) := XC5.out.below hb; have XX6 : Hid (Box4 w6 w3.heap.size ⟨0, 0, 0, 0⟩) := XX5.out.below hb; obtain ⟨_, p60, p61, p62, p63⟩ := XC6.out; obtain ⟨_, q60, q61, q62, q63⟩ := XX6.out; simp only at p60 p61 p62 p63 q60 q61 q62 q63; clear hb hb6) | (have hG := B4; clear hG; go_at_call 24; refine (implCellOk_any ⟨ck, ca, cb, cn⟩ n1 _ p (HC.out.below (by first | exact B4.out | exact B4.out.drew | exact below_drewN B4.out _)).1).mono ?_; rw [← HG.out]; rintro e w5 ⟨rfl, hb5⟩; have hb : Below w4.heap.size w4 w5 := (by first | exact hb5 | exact (Below.drew (Below.refl _ _)).trans hb5); have B5 : Hid (Below w.heap.size w w5) := bel_then B4.out hb; have XC5 : Hid (Box4 w5 w1.heap.size ⟨ck, ca, cb, cn⟩) := XC4.out.below hb; have XX5 : Hid (Box4 w5 w3.heap.size ⟨0, 0, 0, 0⟩) := XX4.out.below hb; obtain ⟨_, p50, p51, p52, p53⟩ := XC5.out; obtain ⟨_, q50, q51, q52, q53⟩ := XX5.out; simp only at p50 p51 p52 p53 q50 q51 q52 q53; clear hb hb5) | (go_at_call 23; refine (specCellText_any ⟨ck, ca, cb, cn⟩ _).mono ?_; rintro e w4 ⟨u, rfl, hu, -, hb4⟩; have hb : Below (w3.alloc (.cells #[.int .i64 0, .int .i64 0, .int .i64 0, .int .i64 0] 40)).heap.size (w3.alloc (.cells #[.int .i64 0, .int .i64 0, .int .i64 0, .int .i64 0] 40)) w4 := (by first | exact hb4 | exact (Below.drew (Below.refl _ _)).trans hb4); have B4 : Hid (Below w.heap.size w w4) := bel_then B0.out hb; have XC4 : Hid (Box4 w4 w1.heap.size ⟨ck, ca, cb, cn⟩) := XC0.out.below hb; have XX4 : Hid (Box4 w4 w3.heap.size ⟨0, 0, 0, 0⟩) := XX0.out.below hb; obtain ⟨_, p40, p41, p42, p43⟩ := XC4.out; obtain ⟨_, q40, q41, q42, q43⟩ := XX4.out; simp only at p40 p41 p42 p43 q40 q41 q42 q43; obtain rfl : u = s := bytes_eq (hu.trans HS.out.symm); clear hu; clear hb hb4))) | fail
      all_goals (go_wp2_with fail)
      all_goals go_meet
      all_goals (case rel => exact ⟨rfl, (by first | exact B7.out | exact B7.out.drew | exact below_drewN B7.out _)⟩)
    · have HOK6 : Hid (Cel.okB ⟨ck, ca, cb, cn⟩ 6 = true) := hok
      have hx := HX.out
      have hv := HV.out
      rw [HO1.out, read_txO, hok] at hx hv
      simp only [if_true, outC, Option.getD_some, Option.isSome_some] at hx hv
      simp only [Cel.mk.injEq] at hx
      obtain ⟨rfl, rfl, rfl, rfl⟩ : ck = xk ∧ ca = xa ∧ cb = xb ∧ cn = xn := ⟨hx.1.symm, hx.2.1.symm, hx.2.2.1.symm, hx.2.2.2.symm⟩
      subst hv
      clear hok hx
      have hne := cellNe ⟨ck, ca, cb, cn⟩
      first | (go_region_with (first | (have hG := B6; clear hG; go_at_call 25; refine (specCellOk_any ⟨ck, ca, cb, cn⟩ 6 _).mono ?_; rw [HOK6.out]; rintro e w7 ⟨rfl, hb7⟩; have hb : Below w6.heap.size w6 w7 := (by first | exact hb7 | exact (Below.drew (Below.refl _ _)).trans hb7); have B7 : Hid (Below w.heap.size w w7) := bel_then B6.out hb; have XC7 : Hid (Box4 w7 w1.heap.size ⟨ck, ca, cb, cn⟩) := XC6.out.below hb; have XX7 : Hid (Box4 w7 w3.heap.size ⟨ck, ca, cb, cn⟩) := XX6.out.below hb; obtain ⟨_, p70, p71, p72, p73⟩ := XC7.out; obtain ⟨_, q70, q71, q72, q73⟩ := XX7.out; simp only at p70 p71 p72 p73 q70 q71 q72 q73; clear hb hb7) | (have hG := B5; clear hG; go_at_call 25; refine (specCellOk_any ⟨ck, ca, cb, cn⟩ n1 _).mono ?_; rw [← HG.out]; rintro e w6 ⟨rfl, hb6⟩; have hb : Below w5.heap.size w5 w6 := (by first | exact hb6 | exact (Below.drew (Below.refl _ _)).trans hb6); have B6 : Hid (Below w.heap.size w w6) := bel_then B5.out hb; have XC6 : Hid (Box4 w6 w1.heap.size ⟨ck, ca, cb, cn⟩) := XC5.out.below hb; have XX6 : Hid (Box4 w6 w3.heap.size ⟨ck, ca, cb, cn⟩) := XX5.out.below hb; obtain ⟨_, p60, p61, p62, p63⟩ := XC6.out; obtain ⟨_, q60, q61, q62, q63⟩ := XX6.out; simp only at p60 p61 p62 p63 q60 q61 q62 q63; clear hb hb6) | (have hG := B4; clear hG; go_at_call 24; refine (implCellOk_any ⟨ck, ca, cb, cn⟩ n1 _ p (HC.out.below (by first | exact B4.out | exact B4.out.drew | exact below_drewN B4.out _)).1).mono ?_; rw [← HG.out]; rintro e w5 ⟨rfl, hb5⟩; have hb : Below w4.heap.size w4 w5 := (by first | exact hb5 | exact (Below.drew (Below.refl _ _)).trans hb5); have B5 : Hid (Below w.heap.size w w5) := bel_then B4.out hb; have XC5 : Hid (Box4 w5 w1.heap.size ⟨ck, ca, cb, cn⟩) := XC4.out.below hb; have XX5 : Hid (Box4 w5 w3.heap.size ⟨ck, ca, cb, cn⟩) := XX4.out.below hb; obtain ⟨_, p50, p51, p52, p53⟩ := XC5.out; obtain ⟨_, q50, q51, q52, q53⟩ := XX5.out; simp only at p50 p51 p52 p53 q50 q51 q52 q53; clear hb hb5) | (go_at_call 23; refine (specCellText_any ⟨ck, ca, cb, cn⟩ _).mono ?_; rintro e w4 ⟨u, rfl, hu, -, hb4⟩; have hb : Below (w3.alloc (.cells #[.int .i64 ck, .int .i64 ca, .int .i64 cb, .int .i64 cn] 40)).heap.size (w3.alloc (.cells #[.int .i64 ck, .int .i64 ca, .int .i64 cb, .int .i64 cn] 40)) w4 := (by first | exact hb4 | exact (Below.drew (Below.refl _ _)).trans hb4); have B4 : Hid (Below w.heap.size w w4) := bel_then B0.out hb; have XC4 : Hid (Box4 w4 w1.heap.size ⟨ck, ca, cb, cn⟩) := XC0.out.below hb; have XX4 : Hid (Box4 w4 w3.heap.size ⟨ck, ca, cb, cn⟩) := XX0.out.below hb; obtain ⟨_, p40, p41, p42, p43⟩ := XC4.out; obtain ⟨_, q40, q41, q42, q43⟩ := XX4.out; simp only at p40 p41 p42 p43 q40 q41 q42 q43; obtain rfl : u = s := bytes_eq (hu.trans HS.out.symm); clear hu; clear hb hb4))) | fail
      all_goals (go_wp2_with fail)
      all_goals go_meet
      all_goals (case rel => exact ⟨rfl, (by first | exact B7.out | exact B7.out.drew | exact below_drewN B7.out _)⟩)
  case rest =>
    obtain ⟨rfl, B8⟩ := hcut
    clear p00 p01 p02 p03 q00 q01 q02 q03 XC0 XX0 B0 XC3 B3 X2 B2 HS HG
    go_wp2_with fail
    refine (drawTorn_any a2 len2 cap2 zs2 _ (H2.out.below B8.out)).mono ?_
    rintro e w11 ⟨t, rfl, hts, hb11⟩
    have B11 : Hid (Below w.heap.size w w11) := bel_then B8.out hb11
    clear hb11 B8
    obtain ⟨o2, HO2⟩ : ∃ o, Hid (o = readC t.data.toList) := ⟨_, Eq.refl _⟩
    obtain ⟨⟨yk, ya, yb, yn⟩, HY⟩ : ∃ x, Hid (x = outC o2) := ⟨_, Eq.refl _⟩
    obtain ⟨d, HD⟩ : ∃ v, Hid (v = o2.isSome) := ⟨_, Eq.refl _⟩
    have hdd : (d != d) = false := by simp
    go_wp2_with fail
    refine (implCellRead_any t (by omega) _ p (HC.out.below B11.out)).mono ?_
    rw [← HO2.out, ← HY.out, ← HD.out]
    simp only
    rintro e w12 ⟨rfl, hb12⟩
    have B12 : Hid (Below w.heap.size w w12) := bel_then B11.out hb12
    clear hb12 B11
    go_wp2_with fail
    refine (specCellRead_any t (by omega) _).mono ?_
    rw [← HO2.out, ← HY.out, ← HD.out]
    simp only
    rintro e w13 ⟨rfl, hb13⟩
    have Y14 : Hid (Box4 (w13.alloc (.cells #[.int .i64 yk, .int .i64 ya, .int .i64 yb, .int .i64 yn] 40)) w12.heap.size ⟨yk, ya, yb, yn⟩) := ((Box4.start w12 ⟨yk, ya, yb, yn⟩ _).below hb13).below (bel_alloc _)
    have B14 : Hid (Below w.heap.size w (w13.alloc (.cells #[.int .i64 yk, .int .i64 ya, .int .i64 yb, .int .i64 yn] 40))) := bel_then (bel_then B12.out (bel_then (bel_alloc _) hb13)) (bel_alloc _)
    clear hb13 B12
    obtain ⟨_, p0, p1, p2, p3⟩ := Y14.out
    simp only at p0 p1 p2 p3
    go_upto_region 11 with fail
    go_cut [96] (fun c wx => c = .bool false ∧ Hid (Below w.heap.size w wx))
    case first =>
      cases d with
      | false =>
        go_wp2_with fail
        go_meet
        case rel => exact ⟨rfl, B14.out⟩
      | true =>
        have HR : Hid (readC t.data.toList = some ⟨yk, ya, yb, yn⟩) := by
          show _ = _
          rw [← HO2.out]
          have h1 := HD.out
          have h2 := HY.out
          cases ho : o2 with
          | none => rw [ho] at h1; simp at h1
          | some q => rw [ho] at h2; rw [h2]; rfl
        have HTX := read_scan HR.out
        go_wp2_with fail
        refine (implCellText_any ⟨yk, ya, yb, yn⟩ _ p (HC.out.below B14.out).1 (HC.out.below B14.out).2.1).mono ?_
        rintro e w15 ⟨u, rfl, hu, -, hb15⟩
        obtain rfl : u = t := bytes_eq (by rw [hu, Cel.txO, HTX.1, if_pos rfl, HTX.2.1])
        have Y15 : Hid (Box4 w15 w12.heap.size ⟨yk, ya, yb, yn⟩) := Y14.out.below hb15
        have B15 : Hid (Below w.heap.size w w15) := bel_then B14.out hb15
        clear hu hb15 p0 p1 p2 p3
        obtain ⟨_, p0, p1, p2, p3⟩ := Y15.out
        simp only at p0 p1 p2 p3
        have huu : (u.toList != u.toList) = false := by simp
        go_wp2_with fail
        refine (implCellOk_any ⟨yk, ya, yb, yn⟩ 6 _ p (HC.out.below B15.out).1).mono ?_
        rw [HTX.1]
        rintro e w16 ⟨rfl, hb16⟩
        have B16 : Hid (Below w.heap.size w w16) := bel_then B15.out hb16
        clear hb16 p0 p1 p2 p3
        go_wp2_with fail
        go_meet
        case rel => exact ⟨rfl, B16.out⟩
    case rest =>
      obtain ⟨rfl, B17⟩ := hcut
      clear p0 p1 p2 p3 Y14 B14
      go_wp2_with fail
      refine (drawCellOf_any a len cap zs _ (H.out.below B17.out)).mono ?_
      rintro e w18 ⟨⟨dk, da, db, dn⟩, v, rfl, -, xs, hxl, hsm, hx, hb18⟩
      simp only
      have B18 : Hid (Below w.heap.size w w18) := bel_then B17.out hb18
      have HXS : Hid (IntsAt w18 v xs) := hx
      have HSM : Hid (Small xs) := hsm
      obtain ⟨va, vn, vc, rfl⟩ : ∃ va vn vc, v = .slice va vn vc := by obtain ⟨_, va, vc, hv, _⟩ := hx; exact ⟨_, _, _, hv⟩
      clear hb18 hx hsm B17
      obtain ⟨m, HM⟩ : ∃ m, Hid (m = Cel.valI ⟨dk, da, db, dn⟩ xs) := ⟨_, Eq.refl _⟩
      obtain ⟨b, HB⟩ : ∃ b, Hid (b = Cel.toldB ⟨dk, da, db, dn⟩ xs) := ⟨_, Eq.refl _⟩
      have hmm : (m != m) = false := by simp
      have hbb : (b != b) = false := by simp
      go_wp2_with fail
      refine (implCellOf_any ⟨dk, da, db, dn⟩ _ xs _ p (HC.out.below (bel_then B18.out (bel_alloc _))).1 (HXS.out.below (bel_alloc _))).mono ?_
      rw [← HM.out, ← HB.out]
      rintro e w19 ⟨rfl, hb19⟩
      have D19 : Hid (Box4 w19 w18.heap.size ⟨dk, da, db, dn⟩) := (Box4.start w18 ⟨dk, da, db, dn⟩ _).below hb19
      have B19 : Hid (Below w18.heap.size w18 w19) := bel_then (bel_alloc _) hb19
      clear hb19
      obtain ⟨_, p0, p1, p2, p3⟩ := D19.out
      simp only at p0 p1 p2 p3
      go_wp2_with fail
      refine (specCellOf_any ⟨dk, da, db, dn⟩ _ xs _ (HXS.out.below B19.out)).mono ?_
      rw [← HM.out, ← HB.out]
      rintro e w20 ⟨rfl, hb20⟩
      have D20 : Hid (Box4 w20 w18.heap.size ⟨dk, da, db, dn⟩) := D19.out.below hb20
      have B20 : Hid (Below w18.heap.size w18 w20) := bel_then B19.out hb20
      have BB : Hid (Below w.heap.size w w20) := bel_then B18.out B20.out
      clear hb20 p0 p1 p2 p3 D19 B19
      cases b with
      | false =>
        obtain rfl : m = 0 := by rw [HM.out, Cel.valI, ← HB.out]; rfl
        go_wp2
        go_ret
        exact ⟨rfl, BB.out⟩
      | true =>
        obtain ⟨_, p0, p1, p2, p3⟩ := D20.out
        simp only at p0 p1 p2 p3
        have HI := HXS.out.below B20.out
        have h1 := HB.out.symm
        have hrow : rowOkB xs = true := by simp only [Cel.toldB, Bool.and_eq_true] at h1; exact h1.1.1
        have hokd : Cel.okB ⟨dk, da, db, dn⟩ xs.length = true := by simp only [Cel.toldB, Bool.and_eq_true] at h1; exact h1.1.2
        have HMN : Hid (m = Cel.num ⟨dk, da, db, dn⟩ xs) := by show _ = _; rw [HM.out, Cel.valI, h1]; rfl
        rw [ok_iff] at hokd
        simp only at hokd
        clear h1
        rcases hokd with ⟨rfl, ⟨ha0, hal, -⟩, rfl, rfl⟩ | ⟨rfl, rfl, rfl, -⟩ | ⟨rfl, ⟨ha0, hal, -⟩, ⟨hb0, hbl, -⟩, rfl⟩
        · obtain ⟨j, rfl⟩ := Int.eq_ofNat_of_zero_le ha0
          have hjl : j < xs.length := by omega
          rcases HI.cases with ⟨_, _, h0, _⟩ | ⟨g, off, cp, _, _, hv, _, hcell⟩
          · rw [h0] at hjl; simp at hjl
          · simp only [Value.slice.injEq] at hv
            obtain ⟨rfl, rfl, rfl⟩ := hv
            have hq := hcell j hjl
            obtain ⟨x, hxe⟩ : ∃ x, x = xs.getD j 0 := ⟨_, rfl⟩
            rw [← hxe] at hq
            obtain rfl : m = x := by rw [HMN.out, hxe]; simp [Cel.num]
            have hmb : (m == m) = true := by simp
            obtain ⟨l, hl⟩ : ∃ l, l = xs.length := ⟨_, rfl⟩
            have HL : Hid (l = xs.length) := hl
            rw [← hl] at hjl hxl ⊢
            clear hl hxe HI hcell hrow ha0 hal
            go_wp2
            go_quiet (fail)
            go_wp2
            go_ret
            exact ⟨rfl, below_drewN BB.out _⟩
        · obtain rfl : m = dn := by rw [HMN.out]; simp [Cel.num]
          have hmb : (m == m) = true := by simp
          clear HI hrow
          go_wp2
          go_quiet (fail)
          go_wp2
          go_ret
          exact ⟨rfl, below_drewN BB.out _⟩
        · obtain ⟨j, rfl⟩ := Int.eq_ofNat_of_zero_le ha0
          obtain ⟨k, rfl⟩ := Int.eq_ofNat_of_zero_le hb0
          have hjl : j < xs.length := by omega
          have hkl : k < xs.length := by omega
          have hx1 := row_cell hrow hjl
          have hx2 := row_cell hrow hkl
          rcases HI.cases with ⟨_, _, h0, _⟩ | ⟨g, off, cp, _, _, hv, _, hcell⟩
          · rw [h0] at hjl; simp at hjl
          · simp only [Value.slice.injEq] at hv
            obtain ⟨rfl, rfl, rfl⟩ := hv
            have hq := hcell j hjl
            have hr := hcell k hkl
            have hnum : m = xs.getD j 0 + xs.getD k 0 := by rw [HMN.out]; simp [Cel.num]
            obtain ⟨x, hxe⟩ : ∃ x, x = xs.getD j 0 := ⟨_, rfl⟩
            obtain ⟨y, hye⟩ : ∃ x, x = xs.getD k 0 := ⟨_, rfl⟩
            rw [← hxe] at hq hx1 hnum
            rw [← hye] at hr hx2 hnum
            subst hnum
            obtain ⟨hx3, hx4⟩ := hx1
            obtain ⟨hy3, hy4⟩ := hx2
            have hmb : (x + y == x + y) = true := by simp
            obtain ⟨l, hl⟩ : ∃ l, l = xs.length := ⟨_, rfl⟩
            have HL : Hid (l = xs.length) := hl
            rw [← hl] at hjl hkl hxl ⊢
            clear hl hxe hye HI hcell hrow ha0 hal hb0 hbl
            go_wp2
            go_quiet (fail)
            go_wp2
            go_ret
            exact ⟨rfl, below_drewN BB.out _⟩

end Go.Proofs.YtkgopbffgahhcaaGreatDoor
