/-
  The walk of laws.FnZRead, out of the contracts: it answers true whatever the bytes are, and nothing that was there is written. Condition: what the reader wants of the library (Reads).
-/
import Derived.Test.YtkgopbffgahhcaaGreatDoorZVals
import Derived.Test.YtkgopbffgahhcaaGreatDoorZReadScan
import Derived.Test.YtkgopbffgahhcaaGreatDoorGoodText
import Derived.Test.YtkgopbffgahhcaaGreatDoorZJoinMath
import Derived.Test.YtkgopbffgahhcaaGreatDoorLaidZ
import Derived.Test.YtkgopbffgahhcaaGreatDoorPart1
namespace Go.Proofs.YtkgopbffgahhcaaGreatDoor
open Go.RowKit
set_option linter.unusedVariables false

theorem ReadZEnd.out {w w' : World} {o : Option (List It)} {e : Ending} (h : ReadZEnd w w' o e) : ∃ v, e = .returned (.tuple #[v, .bool o.isSome]) ∧ TailZ w' v (o.getD []) := by
  rcases h with ⟨zs, v, rfl, he, ho⟩ | ⟨rfl, he⟩
  · exact ⟨v, he, ho.tail⟩
  · exact ⟨_, he, tailZ_nil _⟩
theorem bytes_same {s t : ByteArray} (h : s.data.toList = t.data.toList) : s = t := by
  obtain ⟨⟨a⟩⟩ := s
  obtain ⟨⟨b⟩⟩ := t
  simp at h
  rw [h]
theorem size_of {s : ByteArray} {l : List UInt8} (h : s.data.toList = l) : s.size = l.length := by
  rw [← h, Array.length_toList]; rfl
theorem TailZ.far {w : World} {v : Value} {zs : List It} (h : TailZ w v zs) (hne : zs ≠ []) : ∃ b off cap, v = .slice (some ⟨b, off, none⟩) zs.length cap ∧ b < w.heap.size ∧ ∀ j, j < zs.length → ∃ rv, w.cell? ⟨b, off + j * 2, none⟩ = some rv ∧ IntsAt w rv (zs.getD j ([], 0)).1 := by
  rcases h.items.cases with ⟨_, _, h0, _⟩ | ⟨b, off, cap, _, _, rfl, hb, hc⟩
  · exact absurd h0 hne
  · refine ⟨b, off, cap, rfl, hb, fun j hj => ?_⟩
    obtain ⟨rv, h1, _, h3⟩ := hc j hj
    exact ⟨rv, h1, h3⟩

set_option maxRecDepth 100000 in
set_option maxHeartbeats 8000000 in
theorem lawFnZRead {V : World → Prop} (R : Reads V) (a : Option Addr) (len cap : Nat) (bs : List Int) (a2 : Option Addr) (len2 cap2 : Nat) (bs2 : List Int) (w : World) (h : IsRow .u8 w a len cap bs) (h2 : IsRow .u8 w a2 len2 cap2 bs2) (hv : V w) :
    Calls Tryz.prog 4 #[.slice a len cap, .slice a2 len2 cap2] w fun e w' => e = .returned (.bool true) ∧ Below w.heap.size w w' := by
  by_cases hbig : (1048576 : Int) < (len : Int)
  · go_enter Tryz.func4, Tryz.ntmps4
    go_wp2
    go_ret
    exact ⟨rfl, Below.refl _ _⟩
  by_cases hbig2 : (1048576 : Int) < (len2 : Int)
  · go_enter Tryz.func4, Tryz.ntmps4
    go_wp2
    go_ret
    exact ⟨rfl, Below.refl _ _⟩
  have HV : Hid (V w) := hv
  have H : Hid (IsRow .u8 w a len cap bs) := h
  have H2 : Hid (IsRow .u8 w a2 len2 cap2 bs2) := h2
  clear h h2 hv
  go_enter Tryz.func4, Tryz.ntmps4
  go_wp2_with fail
  refine (drawZText_any a len cap bs _ H.out).mono ?_
  rintro e w1 ⟨v, rfl, zs, hgz, T1, hb1⟩
  have K1 : Hid (Below w.heap.size w w1) := hb1
  have GZ : Hid (GoodZ zs) := hgz
  clear hb1 hgz
  go_wp2_with fail
  refine (drawZText_any a2 len2 cap2 bs2 _ (H2.out.below K1.out)).mono ?_
  rintro e w2 ⟨v2, rfl, ys, hgy, S2, hb2⟩
  have K2 : Hid (Below w.heap.size w w2) := below_then K1.out hb2
  have GY : Hid (GoodZ ys) := hgy
  have T2 := T1.below hb2
  clear hb2 hgy T1 K1
  obtain ⟨c, HC⟩ : ∃ c, Hid (zOkB zs = c) := ⟨_, Eq.refl _⟩
  obtain ⟨d, HD⟩ : ∃ d, Hid (zOkB ys = d) := ⟨_, Eq.refl _⟩
  obtain ⟨za, zc, rfl⟩ := T2.shape
  obtain ⟨ya, yc, rfl⟩ := S2.shape
  obtain ⟨n, hn⟩ : ∃ n, n = zs.length := ⟨_, rfl⟩
  obtain ⟨m, hm⟩ : ∃ m, m = ys.length := ⟨_, rfl⟩
  have HN : Hid (n = zs.length) := hn
  have HM : Hid (m = ys.length) := hm
  have hn2 : n ≤ 200 := by rw [hn]; exact GZ.out.1
  have hm2 : m ≤ 200 := by rw [hm]; exact GY.out.1
  rw [← hn] at T2 ⊢
  rw [← hm] at S2 ⊢
  clear hn hm
  have gcc : (c != c) = false := by simp
  have gce : (c == c) = true := by simp
  go_wp2_with fail
  refine (okI_val HC.out T2).mono ?_
  rintro e w3 ⟨rfl, hb3⟩
  have K3 : Hid (Below w.heap.size w w3) := below_then K2.out hb3
  have T3 := T2.below hb3
  have S3 := S2.below hb3
  clear hb3 T2 S2 K2
  go_wp2_with fail
  refine (okS_val HC.out T3).mono ?_
  rintro e w4 ⟨rfl, hb4⟩
  have K4 : Hid (Below w.heap.size w w4) := below_then K3.out hb4
  have T4 := T3.below hb4
  have S4 := S3.below hb4
  clear hb4 T3 S3 K3
  go_wp2_with fail
  refine (okS_val HC.out T4).mono ?_
  rintro e w5 ⟨rfl, hb5⟩
  have K5 : Hid (Below w.heap.size w w5) := below_then K4.out hb5
  have T5 := T4.below hb5
  have S5 := S4.below hb5
  clear hb5 T4 S4 K4
  cases c with
  | false =>
    clear S5
    go_wp2_with fail
    refine (okI_val HC.out T5).mono ?_
    rintro e w31 ⟨rfl, hb31⟩
    have K31 : Hid (Below w.heap.size w w31) := below_then K5.out hb31
    have T31 := T5.below hb31
    clear hb31 T5 K5
    go_wp2_with fail
    refine (okS_val HC.out T31).mono ?_
    rintro e w32 ⟨rfl, hb32⟩
    have K32 : Hid (Below w.heap.size w w32) := below_then K31.out hb32
    clear hb32 T31 K31
    go_wp2
    go_ret
    exact ⟨rfl, K32.out⟩
  | true =>
    go_wp2_with fail
    refine (okS_val HD.out S5).mono ?_
    rintro e w6 ⟨rfl, hb6⟩
    have K6 : Hid (Below w.heap.size w w6) := below_then K5.out hb6
    have T6 := T5.below hb6
    have S6 := S5.below hb6
    clear hb6 T5 S5 K5
    cases d with
    | false =>
      clear S6
      go_wp2_with fail
      refine (okI_val HC.out T6).mono ?_
      rintro e w31 ⟨rfl, hb31⟩
      have K31 : Hid (Below w.heap.size w w31) := below_then K6.out hb31
      have T31 := T6.below hb31
      clear hb31 T6 K6
      go_wp2_with fail
      refine (okS_val HC.out T31).mono ?_
      rintro e w32 ⟨rfl, hb32⟩
      have K32 : Hid (Below w.heap.size w w32) := below_then K31.out hb32
      clear hb32 T31 K31
      go_wp2
      go_ret
      exact ⟨rfl, K32.out⟩
    | true =>
      by_cases hn0 : n = 0
      · have gn : ((n : Int) == 0) = true := by simp [hn0]
        clear hn0
        clear S6
        go_wp2_with fail
        refine (okI_val HC.out T6).mono ?_
        rintro e w31 ⟨rfl, hb31⟩
        have K31 : Hid (Below w.heap.size w w31) := below_then K6.out hb31
        have T31 := T6.below hb31
        clear hb31 T6 K6
        go_wp2_with fail
        refine (okS_val HC.out T31).mono ?_
        rintro e w32 ⟨rfl, hb32⟩
        have K32 : Hid (Below w.heap.size w w32) := below_then K31.out hb32
        clear hb32 T31 K31
        go_wp2
        go_ret
        exact ⟨rfl, K32.out⟩
      have gn : ((n : Int) == 0) = false := by simp [hn0]
      by_cases hm0 : m = 0
      · have gm : ((m : Int) == 0) = true := by simp [hm0]
        clear hm0
        clear S6
        go_wp2_with fail
        refine (okI_val HC.out T6).mono ?_
        rintro e w31 ⟨rfl, hb31⟩
        have K31 : Hid (Below w.heap.size w w31) := below_then K6.out hb31
        have T31 := T6.below hb31
        clear hb31 T6 K6
        go_wp2_with fail
        refine (okS_val HC.out T31).mono ?_
        rintro e w32 ⟨rfl, hb32⟩
        have K32 : Hid (Below w.heap.size w w32) := below_then K31.out hb32
        clear hb32 T31 K31
        go_wp2
        go_ret
        exact ⟨rfl, K32.out⟩
      have gm : ((m : Int) == 0) = false := by simp [hm0]
      have HZ0 : Hid (zs ≠ []) := fun e => hn0 (by rw [HN.out, e]; rfl)
      have HY0 : Hid (ys ≠ []) := fun e => hm0 (by rw [HM.out, e]; rfl)
      have hnp : 0 < n := by omega
      have hmp : 0 < m := by omega
      clear hn0 hm0
      obtain ⟨b1, o1, c1, e1, -, -⟩ := T6.far HZ0.out
      obtain ⟨b2, o2, c2, e2, -, -⟩ := S6.far HY0.out
      simp only [Value.slice.injEq] at e1 e2
      obtain ⟨rfl, -, rfl⟩ := e1
      obtain ⟨rfl, -, rfl⟩ := e2
      obtain ⟨k, hk⟩ : ∃ k, n = k + 1 := ⟨n - 1, by omega⟩
      have q1 : (n : Int) - 1 = (k : Int) := by omega
      have hkn : k < n := by omega
      have HK1 : Hid (n - 1 = k) := by show _ = _; omega
      clear hk
      go_wp2_with fail
      refine (implZText_any _ zs _ (R.tab (R.keep HV.out K6.out)) T6.items GZ.out.wfz GZ.out.room).mono ?_
      rintro e w7 ⟨s, rfl, hs, hb7⟩
      have HS : Hid (s.data.toList = zTx zs) := hs
      have hz1 : s.size ≤ 40000 := by rw [size_of hs]; exact GZ.out.text
      have hy1 : ¬ 9223372036854775807 < s.size + 1 := by omega
      have K7 : Hid (Below w.heap.size w w7) := below_then K6.out hb7
      have T7 := T6.below hb7
      have S7 := S6.below hb7
      clear hs hb7 T6 S6 K6
      go_wp2_with fail
      refine (implZText_any _ ys _ (R.tab (R.keep HV.out K7.out)) S7.items GY.out.wfz GY.out.room).mono ?_
      rintro e w8 ⟨t, rfl, ht, hb8⟩
      have HT : Hid (t.data.toList = zTx ys) := ht
      have hz2 : t.size ≤ 40000 := by rw [size_of ht]; exact GY.out.text
      have hy2 : ¬ 9223372036854775807 < s.size + 1 + t.size := by omega
      have K8 : Hid (Below w.heap.size w w8) := below_then K7.out hb8
      have T8 := T7.below hb8
      have S8 := S7.below hb8
      clear ht hb8 T7 S7 K7
      obtain ⟨f, HF⟩ : ∃ f, Hid (zOkB (zs ++ ys) = f) := ⟨_, Eq.refl _⟩
      obtain ⟨q, HQ⟩ : ∃ q, Hid (q = s ++ ⟨#[32]⟩ ++ t) := ⟨_, Eq.refl _⟩
      have HRD : Hid (readZ q.data.toList = if zOkB (zs ++ ys) = true then some (zs ++ ys) else none) := by
        show _ = _
        have e1 : q.data.toList = zTx zs ++ 32 :: zTx ys := by
          rw [HQ.out]
          simp [ByteArray.data_append, HS.out, HT.out]
        rw [e1]
        exact read_app HC.out HD.out HZ0.out HY0.out
      have HAH : Hid (f = (rowLessB (zs.getD (n - 1) ([], 0)).1 (ys.getD 0 ([], 0)).1 && decide (n + m ≤ 100))) := by
        show _ = _
        rw [← HF.out, HN.out, HM.out]
        exact ok_app HC.out HD.out HZ0.out HY0.out
      go_wp2_with fail
      rw [← HQ.out]
      refine (implZRead_any R q _ (R.keep HV.out K8.out)).mono ?_
      rintro e w9 ⟨hr, hb9⟩
      rw [HRD.out, HF.out] at hr
      have K9 : Hid (Below w.heap.size w w9) := below_then K8.out hb9
      have T9 := T8.below hb9
      have S9 := S8.below hb9
      clear hb9 T8 S8 K8 hz1 hz2 hy1 hy2
      cases f with
      | false =>
        simp only [Bool.false_eq_true, if_false] at hr
        obtain ⟨vx, rfl, X9⟩ := hr.out
        simp only [Option.isSome_none, Option.getD_none] at X9 ⊢
        clear hr
        obtain ⟨ac, HAC⟩ : ∃ c, Hid (addOk zs ys = c) := ⟨_, Eq.refl _⟩
        obtain ⟨us, HAO⟩ : ∃ c, Hid (addOut zs ys = c) := ⟨_, Eq.refl _⟩
        go_wp2_with fail
        refine (add_val HAC.out HAO.out T9 S9).mono ?_
        rintro e w10 ⟨vs, rfl, U10, hb10⟩
        have K10 : Hid (Below w.heap.size w w10) := below_then K9.out hb10
        have T10 := T9.below hb10
        have S10 := S9.below hb10
        have X10 := X9.below hb10
        clear hb10 T9 S9 X9 K9
        obtain ⟨r1, d1, I1⟩ : ∃ rv, w10.cell? ⟨b1, o1 + k * 2, none⟩ = some rv ∧ IntsAt w10 rv (zs.getD k ([], 0)).1 := by
          obtain ⟨b', o', c', e', -, hcc⟩ := T10.far HZ0.out
          simp only [Value.slice.injEq, Option.some.injEq, Addr.mk.injEq] at e'
          obtain ⟨⟨rfl, rfl, -⟩, -, -⟩ := e'
          exact hcc k (by rw [← HN.out]; exact hkn)
        obtain ⟨r2, d2, I2⟩ : ∃ rv, w10.cell? ⟨b2, o2, none⟩ = some rv ∧ IntsAt w10 rv (ys.getD 0 ([], 0)).1 := by
          obtain ⟨b', o', c', e', -, hcc⟩ := S10.far HY0.out
          simp only [Value.slice.injEq, Option.some.injEq, Addr.mk.injEq] at e'
          obtain ⟨⟨rfl, rfl, -⟩, -, -⟩ := e'
          simpa using hcc 0 (by rw [← HM.out]; exact hmp)
        obtain ⟨x1, n1, y1, rfl⟩ := I1.shape
        obtain ⟨x2, n2, y2, rfl⟩ := I2.shape
        cases hrl : rowLessB (zs.getD k ([], 0)).1 (ys.getD 0 ([], 0)).1
        · go_wp2_with fail
          go_quiet ((go_at_call 19; exact Calls.quiet_of (implRowLess_val hrl (I1.drewN _) (I2.drewN _))))
          go_wp2
          go_ret
          exact ⟨rfl, below_drewN K10.out _⟩
        · have hnm : ¬ (n : Int) + (m : Int) ≤ 100 := by
            intro hle
            have h1 := HAH.out
            rw [HK1.out, hrl] at h1
            simp at h1
            omega
          have hnd : decide ((n : Int) + (m : Int) ≤ 100) = false := decide_eq_false hnm
          go_wp2_with fail
          go_quiet ((go_at_call 19; exact Calls.quiet_of (implRowLess_val hrl (I1.drewN _) (I2.drewN _))))
          go_wp2
          go_ret
          exact ⟨rfl, below_drewN K10.out _⟩
      | true =>
        simp only [if_true] at hr
        obtain ⟨vx, rfl, X9⟩ := hr.out
        simp only [Option.isSome_some, Option.getD_some] at X9 ⊢
        clear hr
        have HADD := add_yes HC.out HD.out (add_app HF.out HC.out HD.out) HF.out
        have HAC : Hid (addOk zs ys = true) := HADD.1
        have HAO : Hid (addOut zs ys = zs ++ ys) := HADD.2
        clear HADD
        go_wp2_with fail
        refine (add_val HAC.out HAO.out T9 S9).mono ?_
        rintro e w10 ⟨vs, rfl, U10, hb10⟩
        have K10 : Hid (Below w.heap.size w w10) := below_then K9.out hb10
        have T10 := T9.below hb10
        have S10 := S9.below hb10
        have X10 := X9.below hb10
        clear hb10 T9 S9 X9 K9
        obtain ⟨r1, d1, I1⟩ : ∃ rv, w10.cell? ⟨b1, o1 + k * 2, none⟩ = some rv ∧ IntsAt w10 rv (zs.getD k ([], 0)).1 := by
          obtain ⟨b', o', c', e', -, hcc⟩ := T10.far HZ0.out
          simp only [Value.slice.injEq, Option.some.injEq, Addr.mk.injEq] at e'
          obtain ⟨⟨rfl, rfl, -⟩, -, -⟩ := e'
          exact hcc k (by rw [← HN.out]; exact hkn)
        obtain ⟨r2, d2, I2⟩ : ∃ rv, w10.cell? ⟨b2, o2, none⟩ = some rv ∧ IntsAt w10 rv (ys.getD 0 ([], 0)).1 := by
          obtain ⟨b', o', c', e', -, hcc⟩ := S10.far HY0.out
          simp only [Value.slice.injEq, Option.some.injEq, Addr.mk.injEq] at e'
          obtain ⟨⟨rfl, rfl, -⟩, -, -⟩ := e'
          simpa using hcc 0 (by rw [← HM.out]; exact hmp)
        obtain ⟨x1, n1, y1, rfl⟩ := I1.shape
        obtain ⟨x2, n2, y2, rfl⟩ := I2.shape
        have h1 := HAH.out
        rw [HK1.out] at h1
        have h2 := h1.symm
        rw [Bool.and_eq_true, decide_eq_true_eq] at h2
        obtain ⟨hrl, hnm⟩ := h2
        have hnm' : (n : Int) + (m : Int) ≤ 100 := by omega
        clear h1
        go_wp2_with fail
        go_quiet ((go_at_call 19; exact Calls.quiet_of (implRowLess_val hrl (I1.drewN _) (I2.drewN _))))
        go_wp2_with fail
        refine (zsame_val (zsB_refl _) (X10.below (below_drewN (Below.refl _ _) _)) (U10.below (below_drewN (Below.refl _ _) _))).mono ?_
        rintro e w12 ⟨rfl, hb12⟩
        have K12 : Hid (Below w.heap.size w w12) := below_then (below_drewN K10.out _) hb12
        clear hb12 T10 S10 X10 U10 d1 d2 I1 I2
        go_wp2
        go_ret
        exact ⟨rfl, K12.out⟩

theorem lawFnZRead_laid (a : Option Addr) (len cap : Nat) (bs : List Int) (a2 : Option Addr) (len2 cap2 : Nat) (bs2 : List Int) (w : World) (h : IsRow .u8 w a len cap bs) (h2 : IsRow .u8 w a2 len2 cap2 bs2) (hv : ReadsIn w) :
    Calls Tryz.prog 4 #[.slice a len cap, .slice a2 len2 cap2] w fun e w' => e = .returned (.bool true) ∧ Below w.heap.size w w' := lawFnZRead readsIn a len cap bs a2 len2 cap2 bs2 w h h2 hv

end Go.Proofs.YtkgopbffgahhcaaGreatDoor
