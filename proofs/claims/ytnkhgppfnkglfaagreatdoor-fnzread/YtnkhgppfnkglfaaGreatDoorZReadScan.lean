/-
  The contract of impl.scanItems, told from contracts of strings.Split, strings.Cut and strconv.Atoi: items of the call's own; just what the text has, where the specification reads it.
-/
import Derived.Test.YtnkhgppfnkglfaaGreatDoorAtoiEnd
import Derived.Test.YtnkhgppfnkglfaaGreatDoorZReadLoop
import Derived.Test.YtnkhgppfnkglfaaGreatDoorZReadLib
import Derived.Test.YtnkhgppfnkglfaaGreatDoorZText
namespace Go.Proofs.YtnkhgppfnkglfaaGreatDoor
set_option maxRecDepth 100000
open Go.RowKit

/-- What the reader of items wants of the library, at worlds V that stay so. -/
structure Reads (V : World → Prop) : Prop where
  keep : ∀ {w w' : World}, V w → Below w.heap.size w w' → V w'
  tab : ∀ {w : World}, V w → Tab w
  split : ∀ (s : ByteArray) (w : World), s.size ≤ 9000 → V w → Calls Tryz.prog 37 #[.string s, .string ⟨#[32]⟩] w fun e w' => ∃ v, e = .returned v ∧ ∃ ps : List ByteArray, w'.ownsRow w.heap.size 9 1 v ps.length (ps.map Value.string) ∧ ps.length ≤ 9001 ∧ (∀ p ∈ ps, p.size ≤ 9000) ∧ ps.map (fun p => p.data.toList) = cutS s.data.toList ∧ Below w.heap.size w w'
  cut : ∀ (s : ByteArray) (w : World), s.size ≤ 9000 → V w → Calls Tryz.prog 38 #[.string s, .string ⟨#[42]⟩] w fun e w' => ∃ (a b : ByteArray) (c : Bool), e = .returned (.tuple #[.string a, .string b, .bool c]) ∧ (a.data.toList, b.data.toList, c) = Lib.cut s.data.toList [42] ∧ a.size ≤ 9000 ∧ b.size ≤ 9000 ∧ Below w.heap.size w w'
  atoi : ∀ (s : ByteArray) (w : World), s.size ≤ 9000 → V w → Calls Tryz.prog 40 #[.string s] w fun e w' => AtoiEnd s.data.toList e ∧ Below w.heap.size w w'

theorem one_cut {l a b : List UInt8} {c : Bool} {q : It} (h : oneB l = some q) (hc : (a, b, c) = Lib.cut l [42]) : readB a = some q.1 ∧ Lib.atoiAll b = .ok q.2 := by
  unfold oneB at h
  obtain ⟨u, hu, h⟩ := Option.bind_eq_some_iff.1 h
  obtain ⟨r, hr, h⟩ := Option.bind_eq_some_iff.1 h
  obtain ⟨n, hn, rfl⟩ := Option.map_eq_some_iff.1 h
  rw [cut_star, hu] at hc
  simp only [Prod.mk.injEq] at hc
  rw [hc.1, hc.2.1]
  exact ⟨hr, num_atoi hn⟩
theorem cut_nil {a b : List UInt8} {c : Bool} (hc : (a, b, c) = Lib.cut [] [42]) : b = [] := by
  rw [cut_star] at hc
  simp only [starAt, Prod.mk.injEq] at hc
  exact hc.2.1
theorem allZ_get : ∀ {ls : List (List UInt8)} {ys : List It}, allZ ls = some ys → ys.length = ls.length ∧ ∀ k (hk : k < ls.length), ∃ q, oneB ls[k] = some q ∧ ys[k]? = some q
  | [], ys, h => by
    simp [allZ] at h
    subst h
    exact ⟨rfl, fun k hk => by simp at hk⟩
  | l :: ls, ys, h => by
    unfold allZ at h
    obtain ⟨p, hp, h⟩ := Option.bind_eq_some_iff.1 h
    obtain ⟨zs, hz, rfl⟩ := Option.map_eq_some_iff.1 h
    have ih := allZ_get hz
    refine ⟨by simp [ih.1], fun k hk => ?_⟩
    cases k with
    | zero => exact ⟨p, by simpa using hp, rfl⟩
    | succ k =>
      obtain ⟨q, h1, h2⟩ := ih.2 k (by simpa using hk)
      exact ⟨q, by simpa using h1, by simpa using h2⟩

set_option maxHeartbeats 4000000 in
set_option maxRecDepth 100000 in
theorem scanItems_any {V : World → Prop} (R : Reads V) (s : ByteArray) (hs : s.size ≤ 9000) (w : World) (hv : V w) :
    Calls Tryz.prog 19 #[.string s] w fun e w' => ∃ v, e = .returned v ∧ ∃ zs : List It, OwnZ w' w.heap.size w'.heap.size v zs ∧ zs.length ≤ 9001 ∧ (s.data.toList = [] → zs = []) ∧ (∀ ys, allZ (cutS s.data.toList) = some ys → zs = ys) ∧ Below w.heap.size w w' := by
  obtain ⟨i0, hi, hz0, hz1, hz2⟩ := info_parts infoItem
  go_enter Tryz.func19, Tryz.ntmps19
  go_wp2_with fail
  refine (R.split s w hs hv).mono ?_
  rintro e w1 ⟨v, rfl, ps, ho1, hpl, hps, hcut, hb1⟩
  have hne : 0 < ps.length := by
    rcases Nat.eq_zero_or_pos ps.length with h | h
    · have : ps = [] := List.length_eq_zero_iff.1 h
      rw [this] at hcut
      exact absurd hcut.symm (cutS_ne _)
    · exact h
  obtain ⟨g, cg, hv1⟩ : ∃ g cg, v = .slice (some ⟨g, 0, none⟩) ps.length cg := by
    rcases ho1.2 with ⟨_, h0⟩ | ⟨g, cap, cur, hv, _⟩
    · omega
    · exact ⟨g, cap, hv⟩
  rw [hv1] at ho1 ⊢
  clear hv1
  have HV1 : Hid (V w1) := R.keep hv hb1
  have HV0 : Hid (V w) := hv
  have HCUT : Hid (ps.map (fun p => p.data.toList) = cutS s.data.toList) := hcut
  have HPS : Hid (∀ p ∈ ps, p.size ≤ 9000) := hps
  have HB1 : Hid (Below w.heap.size w w1) := hb1
  have HL1 : Hid (OwnZ w1 w.heap.size w1.heap.size (.slice none 0 0) []) := nil_ownZ _ _
  obtain ⟨n, hn⟩ : ∃ n, n = ps.length := ⟨_, rfl⟩
  have HN : Hid (n = ps.length) := hn
  rw [← hn] at hpl hne ho1 ⊢
  have HO1 : Hid (w1.ownsRow 0 9 1 (.slice (some ⟨g, 0, none⟩) n cg) n (ps.map Value.string)) := row_mono ho1
  clear hn hcut hps ho1 hb1 hv
  go_wp2
  go_loopw [3, 16] (fun o i wr => ∃ (k : Nat) (zs : List It), k ≤ n ∧ zs.length = k ∧ i = .int .i64 k ∧ Hid (wr.ownsRow 0 9 1 (.slice (some ⟨g, 0, none⟩) n cg) n (ps.map Value.string)) ∧ Hid (OwnZ wr w.heap.size wr.heap.size o zs) ∧ Hid (Below w.heap.size w wr) ∧ Hid (V wr) ∧ Hid (∀ ys, allZ (cutS s.data.toList) = some ys → zs = ys.take k) ∧ Hid (s.data.toList = [] → zs = []))
    (fun _ i _ => n - (intOf i).toNat)
  case atStart => exact ⟨0, [], Nat.zero_le _, rfl, rfl, HO1.out, HL1.out, HB1.out, HV1.out, fun _ _ => by simp, fun _ => rfl⟩
  case round =>
    obtain ⟨k, zs, hk, hzk, rfl, HROW, HZ, HW, HV, HA, HE⟩ := hrel
    have HZK : Hid (zs.length = k) := hzk
    clear hzk HO1 HL1 HB1 HV1
    by_cases hlt : k < n
    · obtain ⟨p, HPK⟩ : ∃ p, Hid (p = ps.getD k ByteArray.empty) := ⟨_, Eq.refl _⟩
      have hkp : k < ps.length := by rw [← HN.out]; exact hlt
      have hx : wr.cell? ⟨g, k, none⟩ = some (.string p) := by
        rw [HPK.out, HROW.out.cellAt k (by omega)]
        simp [List.getD, hkp]
      have hps2 : p.size ≤ 9000 := by
        rw [HPK.out]
        exact HPS.out _ (by simp [List.getD, hkp])
      have hkc : k < (cutS s.data.toList).length := by rw [← HCUT.out, List.length_map]; exact hkp
      have hget : (cutS s.data.toList)[k] = p.data.toList := by
        have h1 : (cutS s.data.toList)[k]? = some p.data.toList := by
          rw [← HCUT.out, HPK.out]
          simp [List.getD, hkp]
        rw [List.getElem?_eq_getElem hkc] at h1
        simpa using h1
      have HQ : Hid (∀ ys, allZ (cutS s.data.toList) = some ys → ∃ q, oneB p.data.toList = some q ∧ ys[k]? = some q) := fun ys hy => by
        obtain ⟨q, h1, h2⟩ := (allZ_get hy).2 k hkc
        exact ⟨q, by rw [← hget]; exact h1, h2⟩
      have HP0 : Hid (s.data.toList = [] → p.data.toList = []) := fun e => by
        have h2 : ∀ x ∈ cutS s.data.toList, x = [] := by rw [e]; simp [cutS]
        exact h2 _ (by rw [← hget]; exact List.getElem_mem hkc)
      clear hget hkc hkp
      have HFIN : Hid (∀ w', Below wr.heap.size wr w' → OwnZ w' w.heap.size w'.heap.size u3 zs ∧ Below w.heap.size w w') := fun w' h => ⟨(HZ.out.keep' h).wide (Nat.le_refl _) h.size (Nat.le_refl _), below_then HW.out h⟩
      have hzl : zs.length ≤ 9001 := by rw [HZK.out]; omega
      have HZL : Hid (zs.length ≤ 9001) := hzl
      clear hzl
      go_wp2_with fail
      refine (R.cut p _ hps2 HV.out).mono ?_
      rintro e wa ⟨a, b, c, rfl, hc, hal, hbl, hba⟩
      have HC : Hid ((a.data.toList, b.data.toList, c) = Lib.cut p.data.toList [42]) := hc
      have HVA : Hid (V wa) := R.keep HV.out hba
      clear hc hx
      go_wp2_with fail
      refine (implRowRead_any a (by omega) _ (R.tab HVA.out)).mono ?_
      rintro e wb ⟨hend, hbb⟩
      have HVB : Hid (V wb) := R.keep HVA.out hbb
      rcases hend with ⟨xs, rv, hr, rfl, O2⟩ | ⟨hr, rfl⟩
      · obtain ⟨ra, rn, rc, hrv⟩ := O2.isSlice
        rw [hrv] at O2 ⊢
        clear hrv
        have HO2 : Hid (Own wb wa.heap.size wb.heap.size (.slice ra rn rc) xs) := O2
        clear O2
        go_wp2_with fail
        refine (R.atoi b _ hbl HVB.out).mono ?_
        rintro e wc ⟨hend, hbc⟩
        have HBX : Hid (Below wr.heap.size wr wc) := below_then (below_then hba hbb) hbc
        rcases hend with ⟨y, hy, rfl⟩ | ⟨hno, m, tp, pv, rfl⟩
        · have HA2 : Hid (∀ ys, allZ (cutS s.data.toList) = some ys → zs ++ [(xs, y)] = ys.take (k + 1)) := fun ys hys => by
            obtain ⟨q, h1, h2⟩ := HQ.out ys hys
            have h3 := one_cut h1 HC.out
            rw [hr, hy] at h3
            simp only [Option.some.injEq, Lib.NumEnd.ok.injEq] at h3
            obtain ⟨hkl, hq⟩ := List.getElem?_eq_some_iff.1 h2
            rw [List.take_succ_eq_append_getElem hkl, ← HA.out ys hys, hq, h3.1, h3.2]
          have HE2 : Hid (s.data.toList = [] → zs ++ [(xs, y)] = []) := fun e => by
            have h1 := HC.out
            rw [HP0.out e] at h1
            rw [cut_nil h1] at hy
            simp [Lib.atoiAll] at hy
          have HVC : Hid (V (wc.alloc (.cells #[.slice ra rn rc, .int .i64 y] 33))) := R.keep (R.keep HVB.out hbc) (below_alloc _)
          have OW : Own wc wa.heap.size wc.heap.size (.slice ra rn rc) xs := (HO2.out.keep' hbc).wide (Nat.le_refl _) hbc.size (Nat.le_refl _)
          have hsw := HW.out.size
          have hsx := HBX.out.size
          have hzl := HZL.out
          obtain ⟨qs, hql, hspW, hprW, hfin⟩ := (HZ.out.keep' HBX.out).ready y OW hba.size (Nat.le_trans hsw hba.size) (Nat.le_trans hsw hsx) (by omega)
          have HROW2 := (row_keep HROW.out HBX.out).alloc (.cells #[.slice ra rn rc, .int .i64 y] 33)
          have HAP : Hid ((Value.slice (some ⟨g, 0, none⟩) n cg).ownBlock = none ∨ (Value.slice (some ⟨g, 0, none⟩) n cg).ownBlock ≠ u3.ownBlock) := rows_apart HROW2 hspW (by decide)
          have HR2 : Hid ((wc.alloc (.cells #[.slice ra rn rc, .int .i64 y] 33)).ownsRow 0 9 1 (.slice (some ⟨g, 0, none⟩) n cg) n (ps.map Value.string)) := HROW2
          have hql2 : qs.length ≤ 9001 := by omega
          have HKW : Hid (Below w.heap.size w wc) := below_then HW.out HBX.out
          clear OW HO2 HZ HROW HROW2 hba hbb hbc HBX HW hql hzl HA HE HQ HC HP0 HVA HVB HV HFIN hr hy
          go_wp2_with (at_builtin; (refine wpList_append_pairs rfl _ _ 23 rfl w.heap.size 33 i0 Tryz.underlying23 hi hz0 hz1 hz2 u3 qs rfl hspW _ _ rfl hprW (by simp; omega) (by simp; omega) ?_; intro v3 w3 hown3 hg3 _))
          obtain ⟨Z3, B3⟩ := hfin v3 w3 hown3 hg3
          have HK : Hid (Below w.heap.size w w3) := HKW.out.trans B3
          have HR3 := HR2.out.kept hg3 HAP.out
          have HV3 : Hid (V w3) := R.keep HV0.out HK.out
          clear hfin hown3 hg3 hspW hprW B3 HR2 HAP HKW HVC
          go_wp2
          go_roundw
          case rel => exact ⟨k + 1, zs ++ [(xs, y)], by omega, by rw [List.length_append, HZK.out]; rfl, by go_num, HR3, Z3, HK.out, HV3.out, HA2.out, HE2.out⟩
          case measure => simp [intOf]; omega
        · have HF : Hid (∀ ys, allZ (cutS s.data.toList) = some ys → zs = ys) := fun ys hys => by
            obtain ⟨q, h1, _⟩ := HQ.out ys hys
            exact absurd (one_cut h1 HC.out).2 (hno _)
          clear hba hbb hbc HA HQ HC HVA HVB HP0 hr hno HO2
          go_wp2
          go_ret
          exact ⟨_, rfl, zs, (HFIN.out _ HBX.out).1, HZL.out, HE.out, HF.out, (HFIN.out _ HBX.out).2⟩
      · go_wp2_with fail
        refine (R.atoi b _ hbl HVB.out).mono ?_
        rintro e wc ⟨hend, hbc⟩
        have HBX : Hid (Below wr.heap.size wr wc) := below_then (below_then hba hbb) hbc
        have HF : Hid (∀ ys, allZ (cutS s.data.toList) = some ys → zs = ys) := fun ys hy => by
          obtain ⟨q, h1, _⟩ := HQ.out ys hy
          have := (one_cut h1 HC.out).1
          rw [hr] at this
          simp at this
        clear hba hbb hbc HA HQ HC HVA HVB HP0 hr
        rcases hend with ⟨m, _, rfl⟩ | ⟨_, m, tp, pv, rfl⟩
        · go_wp2
          go_ret
          exact ⟨_, rfl, zs, (HFIN.out _ HBX.out).1, HZL.out, HE.out, HF.out, (HFIN.out _ HBX.out).2⟩
        · go_wp2
          go_ret
          exact ⟨_, rfl, zs, (HFIN.out _ HBX.out).1, HZL.out, HE.out, HF.out, (HFIN.out _ HBX.out).2⟩
    · obtain rfl : k = n := by omega
      have HF : Hid (∀ ys, allZ (cutS s.data.toList) = some ys → zs = ys) := fun ys hy => by
        have h1 := HA.out ys hy
        have h2 := (allZ_get hy).1
        rw [← HCUT.out, List.length_map, ← HN.out] at h2
        rw [h1, List.take_of_length_le (by omega)]
      have HZL : Hid (zs.length ≤ 9001) := by show _ ≤ _; rw [HZK.out]; omega
      go_wp2
      go_ret
      exact ⟨_, rfl, zs, HZ.out, HZL.out, HE.out, HF.out, HW.out⟩

theorem wB_wide {y : Int} (h : wB y = true) : y ≠ 0 ∧ -10000 ≤ y ∧ y ≤ 10000 := by unfold wB at h; exact of_decide_eq_true h
theorem okZ_wf {zs : List It} (h : zOkB zs = true) : WfZ zs := fun p hp => by
  have h1 := zOk_okIt h p hp
  refine ⟨fun x hx => ?_, by have := (wB_wide h1.2).2; omega, by have := (wB_wide h1.2).2; omega⟩
  have h2 := h1.1
  unfold rowOkB at h2
  rw [Bool.and_eq_true, List.all_eq_true] at h2
  have h3 := h2.2 x hx
  unfold cellB at h3
  have := of_decide_eq_true h3
  omega
theorem okZ_rows {zs : List It} (h : zOkB zs = true) : zs.length + rowsLen zs ≤ 1048576 := by
  have hl := zOk_le h
  have : ∀ {ys : List It}, (∀ p ∈ ys, p.1.length ≤ 6) → rowsLen ys ≤ ys.length * 6 := by
    intro ys
    induction ys with
    | nil => intro _; simp [rowsLen]
    | cons p ys ih =>
      intro hy
      have h2 : rowsLen (p :: ys) = p.1.length + rowsLen ys := by simp [rowsLen]
      have h3 := hy p (by simp)
      have h4 := ih (fun q hq => hy q (by simp [hq]))
      rw [h2, List.length_cons, Nat.add_mul]
      omega
  have := this (fun p hp => zOk_mem h hp)
  omega

set_option maxHeartbeats 4000000 in
set_option maxRecDepth 100000 in
theorem implZRead_any {V : World → Prop} (R : Reads V) (s : ByteArray) (w : World) (hv : V w) :
    Calls Tryz.prog 7 #[.string s] w fun e w' => ReadZEnd w w' (readZ s.data.toList) e ∧ Below w.heap.size w w' := by
  by_cases hbig : 9000 < s.size
  · have hb : (9000 : Int) < (s.size : Int) := by omega
    have HR : Hid (readZ s.data.toList = none) := by
      show _ = _
      unfold readZ
      rw [if_neg (fun e => by have := len_list s; rw [e] at this; simp at this; omega), if_pos (by rw [len_list]; exact hbig)]
    clear hbig
    go_enter Tryz.func7, Tryz.ntmps7
    go_wp2
    go_ret2
    exact ⟨.inr ⟨HR.out, rfl⟩, Below.refl _ _⟩
  · have hb : ¬ (9000 : Int) < (s.size : Int) := by omega
    have hs : s.size ≤ 9000 := by omega
    clear hbig
    go_enter Tryz.func7, Tryz.ntmps7
    go_wp2_with fail
    refine (scanItems_any R s hs w hv).mono ?_
    rintro e w1 ⟨v, rfl, zs, Z1, hzl, he, ha, hb1⟩
    have HRD : Hid (∀ ys, readZ s.data.toList = some ys → zs = ys) := fun ys hy => by
      unfold readZ at hy
      split at hy
      · rename_i h0
        simp at hy
        subst hy
        exact he h0
      · split at hy
        · simp at hy
        · obtain ⟨us, hu, h⟩ := Option.bind_eq_some_iff.1 hy
          split at h
          · simp at h
            subst h
            exact ha us hu
          · simp at h
    have HV1 : Hid (V w1) := R.keep hv hb1
    clear he ha hv
    cases hok : zOkB zs with
    | false =>
      have HR : Hid (readZ s.data.toList = none) := by
        show _ = _
        cases hr : readZ s.data.toList with
        | none => rfl
        | some ys =>
          have h1 := HRD.out ys hr
          rw [h1, (readZ_back hr).1] at hok
          simp at hok
      go_wp2_with fail
      refine (implZOk_any _ zs _ Z1.items).mono ?_
      rw [hok]
      rintro e w2 ⟨rfl, hb2⟩
      have HK : Hid (Below w.heap.size w w2) := below_then hb1 hb2
      clear Z1 hb1 hb2 hok
      go_wp2
      go_ret2
      exact ⟨.inr ⟨HR.out, rfl⟩, HK.out⟩
    | true =>
      go_wp2_with fail
      refine (implZOk_any _ zs _ Z1.items).mono ?_
      rw [hok]
      rintro e w2 ⟨rfl, hb2⟩
      have HOK : Hid (zOkB zs = true) := hok
      have HK : Hid (Below w.heap.size w w2) := below_then hb1 hb2
      have HZ2 : Hid (OwnZ w2 w.heap.size w2.heap.size v zs) := (Z1.keep' hb2).wide (Nat.le_refl _) hb2.size (Nat.le_refl _)
      have HV2 : Hid (V w2) := R.keep HV1.out hb2
      clear Z1 hb1 hb2 hok HV1
      go_wp2_with fail
      refine (implZText_any _ zs _ (R.tab HV2.out) HZ2.out.items (okZ_wf HOK.out) (okZ_rows HOK.out)).mono ?_
      rintro e w3 ⟨u, rfl, hu, hb3⟩
      have HK3 : Hid (Below w.heap.size w w3) := below_then HK.out hb3
      have HZ3 : Hid (OwnZ w3 w.heap.size w3.heap.size v zs) := (HZ2.out.keep' hb3).wide (Nat.le_refl _) hb3.size (Nat.le_refl _)
      have HU : Hid (u.data.toList = zTx zs) := hu
      clear hu hb3 HK HZ2 HV2
      cases hq : (u.toList == s.toList) with
      | true =>
        have HR : Hid (readZ s.data.toList = some zs) := by
          have h1 : u.toList = s.toList := by simpa using hq
          rw [ByteArray.toList_eq, ByteArray.toList_eq, HU.out] at h1
          show _ = _
          rw [← h1]
          exact readZ_items HOK.out (by rw [h1, len_list]; exact hs)
        go_wp2
        go_ret2
        exact ⟨.inl ⟨_, _, HR.out, rfl, HZ3.out⟩, HK3.out⟩
      | false =>
        have HR : Hid (readZ s.data.toList = none) := by
          show _ = _
          cases hr : readZ s.data.toList with
          | none => rfl
          | some ys =>
            have h1 := HRD.out ys hr
            have h2 := (readZ_back hr).2.1
            rw [← h1, ← HU.out, ← ByteArray.toList_eq, ← ByteArray.toList_eq] at h2
            rw [h2] at hq
            simp at hq
        go_wp2
        go_ret2
        exact ⟨.inr ⟨HR.out, rfl⟩, HK3.out⟩

end Go.Proofs.YtnkhgppfnkglfaaGreatDoor
