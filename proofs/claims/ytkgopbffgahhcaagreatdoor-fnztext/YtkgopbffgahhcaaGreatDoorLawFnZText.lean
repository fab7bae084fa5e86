/-
  The walk of laws.FnZText, out of the contracts: it answers true whatever the bytes are, and nothing that was there is written. Condition: what the reader wants of the library (Reads).
-/
import Derived.Test.YtkgopbffgahhcaaGreatDoorZVals
import Derived.Test.YtkgopbffgahhcaaGreatDoorZReadScan
import Derived.Test.YtkgopbffgahhcaaGreatDoorGoodText
import Derived.Test.YtkgopbffgahhcaaGreatDoorZJoinMath
import Derived.Test.YtkgopbffgahhcaaGreatDoorLaidZ
import Derived.Test.YtkgopbffgahhcaaGreatDoorDrawZRead
namespace Go.Proofs.YtkgopbffgahhcaaGreatDoor
open Go.RowKit
set_option linter.unusedVariables false

theorem ReadZEnd.out {w w' : World} {o : Option (List It)} {e : Ending} (h : ReadZEnd w w' o e) : ∃ v, e = .returned (.tuple #[v, .bool o.isSome]) ∧ TailZ w' v (o.getD []) := by
  rcases h with ⟨zs, v, rfl, he, ho⟩ | ⟨rfl, he⟩
  · exact ⟨v, he, ho.tail⟩
  · exact ⟨_, he, tailZ_nil _⟩
theorem bytes_same {s t : ByteArray} (h : s.data.toList = t.data.toList) : s = t := by
  obtain ⟨⟨a⟩⟩ := s
  obtain ⟨⟨b⟩⟩ := t
  simp at h
  rw [h]
theorem size_of {s : ByteArray} {l : List UInt8} (h : s.data.toList = l) : s.size = l.length := by
  rw [← h, Array.length_toList]; rfl
theorem specSame_val {v v2 : Value} {a b : List It} {c : Bool} {w : World} (hc : zsB a b = c) (h : TailZ w v a) (h2 : TailZ w v2 b) :
    Calls Tryz.prog 17 #[v, v2] w fun e w' => e = .returned (.bool c) ∧ Below w.heap.size w w' := by
  subst hc
  exact specZSame_any v v2 a b w h.items h2.items

set_option maxRecDepth 100000 in
set_option maxHeartbeats 8000000 in
theorem lawFnZText {V : World → Prop} (R : Reads V) (a : Option Addr) (len cap : Nat) (bs : List Int) (a2 : Option Addr) (len2 cap2 : Nat) (bs2 : List Int) (w : World) (h : IsRow .u8 w a len cap bs) (h2 : IsRow .u8 w a2 len2 cap2 bs2) (hv : V w) :
    Calls Tryz.prog 3 #[.slice a len cap, .slice a2 len2 cap2] w fun e w' => e = .returned (.bool true) ∧ Below w.heap.size w w' := by
  by_cases hbig : (1048576 : Int) < (len : Int)
  · go_enter Tryz.func3, Tryz.ntmps3
    go_wp2
    go_ret
    exact ⟨rfl, Below.refl _ _⟩
  by_cases hbig2 : (1048576 : Int) < (len2 : Int)
  · go_enter Tryz.func3, Tryz.ntmps3
    go_wp2
    go_ret
    exact ⟨rfl, Below.refl _ _⟩
  have HV : Hid (V w) := hv
  have H : Hid (IsRow .u8 w a len cap bs) := h
  have H2 : Hid (IsRow .u8 w a2 len2 cap2 bs2) := h2
  clear h h2 hv
  go_enter Tryz.func3, Tryz.ntmps3
  go_wp2_with fail
  refine (drawZText_any a len cap bs _ H.out).mono ?_
  rintro e w1 ⟨v, rfl, zs, hgz, T1, hb1⟩
  have K1 : Hid (Below w.heap.size w w1) := hb1
  have GZ : Hid (GoodZ zs) := hgz
  clear hb1 hgz
  go_wp2_with fail
  refine (implZText_any _ zs _ (R.tab (R.keep HV.out K1.out)) T1.items GZ.out.wfz GZ.out.room).mono ?_
  rintro e w2 ⟨s, rfl, hs, hb2⟩
  have HS : Hid (s.data.toList = zTx zs) := hs
  have K2 : Hid (Below w.heap.size w w2) := below_then K1.out hb2
  have T2 := T1.below hb2
  clear hs hb2 T1 K1
  obtain ⟨o, HO⟩ : ∃ o, Hid (o = readZ s.data.toList) := ⟨_, Eq.refl _⟩
  obtain ⟨xs, HXS⟩ : ∃ xs, Hid (xs = o.getD []) := ⟨_, Eq.refl _⟩
  obtain ⟨c, HC⟩ : ∃ c, Hid (c = o.isSome) := ⟨_, Eq.refl _⟩
  go_wp2_with fail
  refine (implZRead_any R s _ (R.keep HV.out K2.out)).mono ?_
  rintro e w3 ⟨hr, hb3⟩
  rw [← HO.out] at hr
  obtain ⟨vx, rfl, X3⟩ := hr.out
  rw [← HXS.out] at X3
  rw [← HC.out]
  have K3 : Hid (Below w.heap.size w w3) := below_then K2.out hb3
  have T3 := T2.below hb3
  clear hr hb3 T2 K2
  go_wp2_with fail
  refine (specZText_any _ zs _ T3.items GZ.out.wfz GZ.out.room).mono ?_
  rintro e w4 ⟨u, rfl, hu, hb4⟩
  obtain rfl : u = s := bytes_same (hu.trans HS.out.symm)
  have K4 : Hid (Below w.heap.size w w4) := below_then K3.out hb4
  have T4 := T3.below hb4
  have X4 := X3.below hb4
  clear hu hb4 T3 X3 K3
  have gss : (u.toList != u.toList) = false := by simp
  cases hok : zOkB zs
  · go_wp2_with fail
    refine (okS_val hok T4).mono ?_
    rintro e w5 ⟨rfl, hb5⟩
    have K5 : Hid (Below w.heap.size w w5) := below_then K4.out hb5
    clear hb5 K4 hok
    clear T4 X4
    go_wp2_with fail
    refine (drawTorn_any a2 len2 cap2 bs2 _ (H2.out.below K5.out)).mono ?_
    rintro e w11 ⟨t, rfl, hts, hb11⟩
    have K11 : Hid (Below w.heap.size w w11) := below_then K5.out hb11
    clear hb11 K5
    obtain ⟨o2, HO2⟩ : ∃ o, Hid (o = readZ t.data.toList) := ⟨_, Eq.refl _⟩
    obtain ⟨ys, HYS⟩ : ∃ xs, Hid (xs = o2.getD []) := ⟨_, Eq.refl _⟩
    obtain ⟨d, HD⟩ : ∃ c, Hid (c = o2.isSome) := ⟨_, Eq.refl _⟩
    go_wp2_with fail
    refine (implZRead_any R t _ (R.keep HV.out K11.out)).mono ?_
    rintro e w12 ⟨hr, hb12⟩
    rw [← HO2.out] at hr
    obtain ⟨vy, rfl, Y12⟩ := hr.out
    rw [← HYS.out] at Y12
    rw [← HD.out]
    have K12 : Hid (Below w.heap.size w w12) := below_then K11.out hb12
    clear hr hb12 K11
    go_wp2_with fail
    refine (specZRead_any t _).mono ?_
    rintro e w13 ⟨hr, hb13⟩
    rw [← HO2.out] at hr
    obtain ⟨vz, rfl, -⟩ := hr.out
    rw [← HD.out]
    have K13 : Hid (Below w.heap.size w w13) := below_then K12.out hb13
    have Y13 := Y12.below hb13
    clear hr hb13 K12 Y12
    go_wp2_with fail
    refine (drawZSame_any a len cap bs _ (H.out.below K13.out)).mono ?_
    rintro e w14 ⟨va, vb, rfl, es, fs, -, -, A14, B14, hb14⟩
    have K14 : Hid (Below w.heap.size w w14) := below_then K13.out hb14
    have Y14 := Y13.below hb14
    clear hb14 K13 Y13
    obtain ⟨f, HF⟩ : ∃ f, Hid (zsB es fs = f) := ⟨_, Eq.refl _⟩
    have gff : (f == f) = true := by simp
    cases d with
    | false =>
      clear Y14
      go_wp2_with fail
      refine (zsame_val HF.out A14 B14).mono ?_
      rintro e w15 ⟨rfl, hb15⟩
      have K15 : Hid (Below w.heap.size w w15) := below_then K14.out hb15
      have A15 := A14.below hb15
      have B15 := B14.below hb15
      clear hb15 A14 B14 K14
      go_wp2_with fail
      refine (specSame_val HF.out A15 B15).mono ?_
      rintro e w16 ⟨rfl, hb16⟩
      have K16 : Hid (Below w.heap.size w w16) := below_then K15.out hb16
      have A16 := A15.below hb16
      clear hb16 A15 B15 K15
      go_wp2_with fail
      refine (zsame_val (zsB_refl _) A16 A16).mono ?_
      rintro e w17 ⟨rfl, hb17⟩
      have K17 : Hid (Below w.heap.size w w17) := below_then K16.out hb17
      clear hb17 A16 K16
      go_wp2
      go_ret
      exact ⟨rfl, K17.out⟩
    | true =>
      have HR : Hid (readZ t.data.toList = some ys) := by
        show _ = _
        rw [← HO2.out]
        have h1 := HD.out
        have h2 := HYS.out
        cases ho : o2 with
        | none => rw [ho] at h1; simp at h1
        | some q => rw [ho] at h2; rw [h2]; rfl
      have HOK : Hid (zOkB ys = true) := (readZ_back HR.out).1
      have HTX : Hid (t.data.toList = zTx ys) := (readZ_back HR.out).2.1
      go_wp2_with fail
      refine (implZText_any _ ys _ (R.tab (R.keep HV.out K14.out)) Y14.items (okZ_wf HOK.out) (okZ_rows HOK.out)).mono ?_
      rintro e w20 ⟨q, rfl, hq, hb20⟩
      obtain rfl : q = t := bytes_same (hq.trans HTX.out.symm)
      have K20 : Hid (Below w.heap.size w w20) := below_then K14.out hb20
      have A20 := A14.below hb20
      have B20 := B14.below hb20
      have Y20 := Y14.below hb20
      clear hq hb20 A14 B14 Y14 K14
      have gqq : (q.toList == q.toList) = true := by simp
      go_wp2_with fail
      refine (okI_val HOK.out Y20).mono ?_
      rintro e w21 ⟨rfl, hb21⟩
      have K21 : Hid (Below w.heap.size w w21) := below_then K20.out hb21
      have A21 := A20.below hb21
      have B21 := B20.below hb21
      clear hb21 A20 B20 Y20 K20
      go_wp2_with fail
      refine (zsame_val HF.out A21 B21).mono ?_
      rintro e w15 ⟨rfl, hb15⟩
      have K15 : Hid (Below w.heap.size w w15) := below_then K21.out hb15
      have A15 := A21.below hb15
      have B15 := B21.below hb15
      clear hb15 A21 B21 K21
      go_wp2_with fail
      refine (specSame_val HF.out A15 B15).mono ?_
      rintro e w16 ⟨rfl, hb16⟩
      have K16 : Hid (Below w.heap.size w w16) := below_then K15.out hb16
      have A16 := A15.below hb16
      clear hb16 A15 B15 K15
      go_wp2_with fail
      refine (zsame_val (zsB_refl _) A16 A16).mono ?_
      rintro e w17 ⟨rfl, hb17⟩
      have K17 : Hid (Below w.heap.size w w17) := below_then K16.out hb17
      clear hb17 A16 K16
      go_wp2
      go_ret
      exact ⟨rfl, K17.out⟩
  · have h9 : (u.size : Int) ≤ 9000 := by
      have h1 := size_of HS.out
      have h2 := zTx_len hok
      omega
    have HR0 : Hid (readZ u.data.toList = some zs) := by
      show _ = _
      rw [HS.out]
      exact readZ_items hok (zTx_len hok)
    obtain rfl : c = true := by rw [HC.out, HO.out, HR0.out]; rfl
    obtain rfl : xs = zs := by rw [HXS.out, HO.out, HR0.out]; rfl
    go_wp2_with fail
    refine (okS_val hok T4).mono ?_
    rintro e w5 ⟨rfl, hb5⟩
    have K5 : Hid (Below w.heap.size w w5) := below_then K4.out hb5
    have T5 := T4.below hb5
    have X5 := X4.below hb5
    clear hb5 K4 T4 X4 hok
    go_wp2_with fail
    refine (zsame_val (zsB_refl _) X5 T5).mono ?_
    rintro e w6 ⟨rfl, hb6⟩
    have K6 : Hid (Below w.heap.size w w6) := below_then K5.out hb6
    clear hb6 K5
    clear T5 X5
    go_wp2_with fail
    refine (drawTorn_any a2 len2 cap2 bs2 _ (H2.out.below K6.out)).mono ?_
    rintro e w11 ⟨t, rfl, hts, hb11⟩
    have K11 : Hid (Below w.heap.size w w11) := below_then K6.out hb11
    clear hb11 K6
    obtain ⟨o2, HO2⟩ : ∃ o, Hid (o = readZ t.data.toList) := ⟨_, Eq.refl _⟩
    obtain ⟨ys, HYS⟩ : ∃ xs, Hid (xs = o2.getD []) := ⟨_, Eq.refl _⟩
    obtain ⟨d, HD⟩ : ∃ c, Hid (c = o2.isSome) := ⟨_, Eq.refl _⟩
    go_wp2_with fail
    refine (implZRead_any R t _ (R.keep HV.out K11.out)).mono ?_
    rintro e w12 ⟨hr, hb12⟩
    rw [← HO2.out] at hr
    obtain ⟨vy, rfl, Y12⟩ := hr.out
    rw [← HYS.out] at Y12
    rw [← HD.out]
    have K12 : Hid (Below w.heap.size w w12) := below_then K11.out hb12
    clear hr hb12 K11
    go_wp2_with fail
    refine (specZRead_any t _).mono ?_
    rintro e w13 ⟨hr, hb13⟩
    rw [← HO2.out] at hr
    obtain ⟨vz, rfl, -⟩ := hr.out
    rw [← HD.out]
    have K13 : Hid (Below w.heap.size w w13) := below_then K12.out hb13
    have Y13 := Y12.below hb13
    clear hr hb13 K12 Y12
    go_wp2_with fail
    refine (drawZSame_any a len cap bs _ (H.out.below K13.out)).mono ?_
    rintro e w14 ⟨va, vb, rfl, es, fs, -, -, A14, B14, hb14⟩
    have K14 : Hid (Below w.heap.size w w14) := below_then K13.out hb14
    have Y14 := Y13.below hb14
    clear hb14 K13 Y13
    obtain ⟨f, HF⟩ : ∃ f, Hid (zsB es fs = f) := ⟨_, Eq.refl _⟩
    have gff : (f == f) = true := by simp
    cases d with
    | false =>
      clear Y14
      go_wp2_with fail
      refine (zsame_val HF.out A14 B14).mono ?_
      rintro e w15 ⟨rfl, hb15⟩
      have K15 : Hid (Below w.heap.size w w15) := below_then K14.out hb15
      have A15 := A14.below hb15
      have B15 := B14.below hb15
      clear hb15 A14 B14 K14
      go_wp2_with fail
      refine (specSame_val HF.out A15 B15).mono ?_
      rintro e w16 ⟨rfl, hb16⟩
      have K16 : Hid (Below w.heap.size w w16) := below_then K15.out hb16
      have A16 := A15.below hb16
      clear hb16 A15 B15 K15
      go_wp2_with fail
      refine (zsame_val (zsB_refl _) A16 A16).mono ?_
      rintro e w17 ⟨rfl, hb17⟩
      have K17 : Hid (Below w.heap.size w w17) := below_then K16.out hb17
      clear hb17 A16 K16
      go_wp2
      go_ret
      exact ⟨rfl, K17.out⟩
    | true =>
      have HR : Hid (readZ t.data.toList = some ys) := by
        show _ = _
        rw [← HO2.out]
        have h1 := HD.out
        have h2 := HYS.out
        cases ho : o2 with
        | none => rw [ho] at h1; simp at h1
        | some q => rw [ho] at h2; rw [h2]; rfl
      have HOK : Hid (zOkB ys = true) := (readZ_back HR.out).1
      have HTX : Hid (t.data.toList = zTx ys) := (readZ_back HR.out).2.1
      go_wp2_with fail
      refine (implZText_any _ ys _ (R.tab (R.keep HV.out K14.out)) Y14.items (okZ_wf HOK.out) (okZ_rows HOK.out)).mono ?_
      rintro e w20 ⟨q, rfl, hq, hb20⟩
      obtain rfl : q = t := bytes_same (hq.trans HTX.out.symm)
      have K20 : Hid (Below w.heap.size w w20) := below_then K14.out hb20
      have A20 := A14.below hb20
      have B20 := B14.below hb20
      have Y20 := Y14.below hb20
      clear hq hb20 A14 B14 Y14 K14
      have gqq : (q.toList == q.toList) = true := by simp
      go_wp2_with fail
      refine (okI_val HOK.out Y20).mono ?_
      rintro e w21 ⟨rfl, hb21⟩
      have K21 : Hid (Below w.heap.size w w21) := below_then K20.out hb21
      have A21 := A20.below hb21
      have B21 := B20.below hb21
      clear hb21 A20 B20 Y20 K20
      go_wp2_with fail
      refine (zsame_val HF.out A21 B21).mono ?_
      rintro e w15 ⟨rfl, hb15⟩
      have K15 : Hid (Below w.heap.size w w15) := below_then K21.out hb15
      have A15 := A21.below hb15
      have B15 := B21.below hb15
      clear hb15 A21 B21 K21
      go_wp2_with fail
      refine (specSame_val HF.out A15 B15).mono ?_
      rintro e w16 ⟨rfl, hb16⟩
      have K16 : Hid (Below w.heap.size w w16) := below_then K15.out hb16
      have A16 := A15.below hb16
      clear hb16 A15 B15 K15
      go_wp2_with fail
      refine (zsame_val (zsB_refl _) A16 A16).mono ?_
      rintro e w17 ⟨rfl, hb17⟩
      have K17 : Hid (Below w.heap.size w w17) := below_then K16.out hb17
      clear hb17 A16 K16
      go_wp2
      go_ret
      exact ⟨rfl, K17.out⟩

theorem lawFnZText_laid (a : Option Addr) (len cap : Nat) (bs : List Int) (a2 : Option Addr) (len2 cap2 : Nat) (bs2 : List Int) (w : World) (h : IsRow .u8 w a len cap bs) (h2 : IsRow .u8 w a2 len2 cap2 bs2) (hv : ReadsIn w) :
    Calls Tryz.prog 3 #[.slice a len cap, .slice a2 len2 cap2] w fun e w' => e = .returned (.bool true) ∧ Below w.heap.size w w' := lawFnZText readsIn a len cap bs a2 len2 cap2 bs2 w h h2 hv

end Go.Proofs.YtkgopbffgahhcaaGreatDoor
