/-
  The contract of spec.ZRead: at every text it answers what readZ reads: the items in memory of the call's own, or nothing.
-/
import Derived.Test.YtkgopbffgahhcaaGreatDoorZReadSpec
import Derived.Test.YtkgopbffgahhcaaGreatDoorStep
namespace Go.Proofs.YtkgopbffgahhcaaGreatDoor
set_option maxRecDepth 100000
open Go.RowKit

theorem allZ_app : ∀ (a b : List (List UInt8)), allZ (a ++ b) = (allZ a).bind fun xs => (allZ b).map fun ys => xs ++ ys
  | [], b => by cases h : allZ b <;> simp [allZ, h]
  | l :: a, b => by
    have ih := allZ_app a b
    simp only [List.cons_append, allZ, ih]
    cases oneB l <;> cases allZ a <;> cases allZ b <;> simp
theorem allZ_step {l : List (List UInt8)} {k : Nat} {zs : List It} {p : It} (hk : k < l.length) (h : allZ (l.take k) = some zs) (hx : oneB l[k] = some p) : allZ (l.take (k + 1)) = some (zs ++ [p]) := by
  rw [List.take_succ_eq_append_getElem hk, allZ_app, h]
  simp [allZ, hx]
theorem allZ_stop {l : List (List UInt8)} {k : Nat} {zs : List It} (hk : k < l.length) (h : allZ (l.take k) = some zs) (hx : oneB l[k] = none) : allZ l = none := by
  have e : l = l.take k ++ l[k] :: l.drop (k + 1) := by
    rw [← List.drop_eq_getElem_cons hk, List.take_append_drop]
  rw [e, allZ_app, h]
  simp [allZ, hx]
theorem readZ_none {s : ByteArray} (h0 : s.size ≠ 0) (h : ¬ 9000 < s.size) (hr : allZ (cutS s.data.toList) = none) : readZ s.data.toList = none := by
  unfold readZ
  rw [if_neg (fun e => h0 (by rw [← len_list, e]; rfl)), if_neg (by rw [len_list]; exact h), hr]
  rfl
theorem readZ_some {s : ByteArray} {zs : List It} (h0 : s.size ≠ 0) (h : ¬ 9000 < s.size) (hr : allZ (cutS s.data.toList) = some zs) : readZ s.data.toList = if zOkB zs = true then some zs else none := by
  unfold readZ
  rw [if_neg (fun e => h0 (by rw [← len_list, e]; rfl)), if_neg (by rw [len_list]; exact h), hr]
  rfl

theorem rows_apart {w : World} {b b' : Nat} {e e' : TypeId} {s s' : Nat} {v v' : Value} {n n' : Nat} {xs xs' : List Value} (h : w.ownsRow b e s v n xs) (h' : w.ownsRow b' e' s' v' n' xs') (hne : e ≠ e') : v.ownBlock = none ∨ v.ownBlock ≠ v'.ownBlock := by
  rcases h.2 with ⟨rfl, _⟩ | ⟨g, cap, cur, rfl, _, hg, _⟩
  · exact .inl rfl
  · refine .inr fun he => ?_
    rcases h'.2 with ⟨rfl, _⟩ | ⟨g', cap', cur', rfl, _, hg', _⟩
    · simp [Value.ownBlock] at he
    · simp only [Value.ownBlock, Option.some.injEq] at he
      subst he
      rw [hg] at hg'
      simp at hg'
      exact hne hg'.2
theorem row_keep {w w' : World} {b : Nat} {e : TypeId} {s : Nat} {v : Value} {n : Nat} {xs : List Value} (h : w.ownsRow b e s v n xs) (hb : Below w.heap.size w w') : w'.ownsRow b e s v n xs := by
  have hl := h.lt
  obtain ⟨h1, h2⟩ := h
  refine ⟨h1, ?_⟩
  rcases h2 with h2 | ⟨g, cap, cur, hv, hg, hh, r⟩
  · exact .inl h2
  · exact .inr ⟨g, cap, cur, hv, hg, (hb.block g (hl g (by rw [hv]; rfl)).2).trans hh, r⟩

theorem row_mono {w : World} {b : Nat} {e : TypeId} {s : Nat} {v : Value} {n : Nat} {xs : List Value} (h : w.ownsRow b e s v n xs) : w.ownsRow 0 e s v n xs := by
  obtain ⟨h1, h2⟩ := h
  refine ⟨h1, ?_⟩
  rcases h2 with h2 | ⟨g, cap, cur, hv, hg, r⟩
  · exact .inl h2
  · exact .inr ⟨g, cap, cur, hv, Nat.zero_le _, r⟩

/-- The answer of ZRead: items that are read, of the call's own; or nothing. -/
def ReadZEnd (w w' : World) (o : Option (List It)) (e : Ending) : Prop :=
  (∃ (zs : List It) (v : Value), o = some zs ∧ e = .returned (.tuple #[v, .bool true]) ∧ OwnZ w' w.heap.size w'.heap.size v zs) ∨ (o = none ∧ e = .returned (.tuple #[.slice none 0 0, .bool false]))

set_option maxHeartbeats 4000000 in
set_option maxRecDepth 100000 in
theorem specZRead_any (s : ByteArray) (w : World) :
    Calls Tryz.prog 14 #[.string s] w fun e w' => ReadZEnd w w' (readZ s.data.toList) e ∧ Below w.heap.size w w' := by
  obtain ⟨i0, hi, hz0, hz1, hz2⟩ := info_parts infoItem
  have HL0 : Hid (OwnZ (w.alloc (.cells #[] 38)) w.heap.size (w.alloc (.cells #[] 38)).heap.size (.slice (some ⟨w.heap.size, 0, none⟩) 0 0) []) := lit_ownZ w
  by_cases h0 : s.size = 0
  · have e0 : s.data.toList = [] := List.length_eq_zero_iff.1 (by rw [len_list]; exact h0)
    have es : s.toList.isEmpty = true := by rw [ByteArray.toList_eq, e0]; rfl
    have HR : Hid (readZ s.data.toList = some []) := by show _ = _; rw [e0]; rfl
    go_enter Tryz.func14, Tryz.ntmps14
    go_wp2
    go_ret2
    exact ⟨.inl ⟨_, _, HR.out, rfl, HL0.out⟩, below_alloc _⟩
  · have hes : s.toList.isEmpty = false := by
      rw [ByteArray.toList_eq]
      cases hl : s.data.toList with
      | nil => exact absurd (by rw [← len_list, hl]; rfl) h0
      | cons _ _ => rfl
    by_cases hbig : 9000 < s.size
    · have hb : (9000 : Int) < (s.size : Int) := by omega
      have HR : Hid (readZ s.data.toList = none) := by
        show _ = _
        unfold readZ
        rw [if_neg (fun e => h0 (by rw [← len_list, e]; rfl)), if_pos (by rw [len_list]; exact hbig)]
      clear hbig h0
      go_enter Tryz.func14, Tryz.ntmps14
      go_wp2
      go_ret2
      exact ⟨.inr ⟨HR.out, rfl⟩, below_alloc _⟩
    · have hb : ¬ (9000 : Int) < (s.size : Int) := by omega
      have H0 : Hid (s.size ≠ 0) := h0
      have HB : Hid (¬ 9000 < s.size) := hbig
      clear h0 hbig
      go_enter Tryz.func14, Tryz.ntmps14
      go_wp2_with fail
      refine (l12CutS_any s (by omega) _).mono ?_
      rintro e w1 ⟨v, rfl, ps, ho1, hpl, hps, hcut, hb1⟩
      have hne : 0 < ps.length := by
        rcases Nat.eq_zero_or_pos ps.length with h | h
        · have : ps = [] := List.length_eq_zero_iff.1 h
          rw [this] at hcut
          exact absurd hcut.symm (cutS_ne _)
        · exact h
      obtain ⟨g, cg, hv⟩ : ∃ g cg, v = .slice (some ⟨g, 0, none⟩) ps.length cg := by
        rcases ho1.2 with ⟨_, h0⟩ | ⟨g, cap, cur, hv, _⟩
        · omega
        · exact ⟨g, cap, hv⟩
      rw [hv] at ho1 ⊢
      clear hv
      have HCUT : Hid (ps.map (fun p => p.data.toList) = cutS s.data.toList) := hcut
      have HPS : Hid (∀ p ∈ ps, p.size ≤ 9000) := hps
      have HB1 : Hid (Below w.heap.size w w1) := below_then (below_alloc _) hb1
      have HL1 : Hid (OwnZ w1 w.heap.size w1.heap.size (.slice (some ⟨w.heap.size, 0, none⟩) 0 0) []) := (HL0.out.keep' hb1).wide (Nat.le_refl _) hb1.size (Nat.le_refl _)
      obtain ⟨n, hn⟩ : ∃ n, n = ps.length := ⟨_, rfl⟩
      have HN : Hid (n = ps.length) := hn
      rw [← hn] at hpl hne ho1 ⊢
      have HO1 : Hid (w1.ownsRow 0 9 1 (.slice (some ⟨g, 0, none⟩) n cg) n (ps.map Value.string)) := row_mono ho1
      clear hn hcut hps ho1 hb1 HL0
      go_wp2
      go_loopw [4, 6] (fun o i wr => ∃ (k : Nat) (zs : List It), k ≤ n ∧ zs.length = k ∧ i = .int .i64 k ∧ Hid (wr.ownsRow 0 9 1 (.slice (some ⟨g, 0, none⟩) n cg) n (ps.map Value.string)) ∧ Hid (OwnZ wr w.heap.size wr.heap.size o zs) ∧ Hid (Below w.heap.size w wr) ∧ Hid (allZ ((cutS s.data.toList).take k) = some zs))
        (fun _ i _ => n - (intOf i).toNat)
      case atStart => exact ⟨0, [], Nat.zero_le _, rfl, rfl, HO1.out, HL1.out, HB1.out, by simp [Hid, allZ]⟩
      case round =>
        obtain ⟨k, zs, hk, hzk, rfl, HROW, HZ, HW, HA⟩ := hrel
        have HZK : Hid (zs.length = k) := hzk
        clear hzk HO1 HL1 HB1
        by_cases hlt : k < n
        · obtain ⟨p, HPK⟩ : ∃ p, Hid (p = ps.getD k ByteArray.empty) := ⟨_, Eq.refl _⟩
          have hkp : k < ps.length := by rw [← HN.out]; exact hlt
          have hx : wr.cell? ⟨g, k, none⟩ = some (.string p) := by
            rw [HPK.out, HROW.out.cellAt k (by omega)]
            simp [List.getD, hkp]
          have hps2 : p.size ≤ 1048576 := by
            rw [HPK.out]
            exact Nat.le_trans (HPS.out _ (by simp [List.getD, hkp])) (by omega)
          have hkc : k < (cutS s.data.toList).length := by rw [← HCUT.out, List.length_map]; exact hkp
          have HGET : Hid ((cutS s.data.toList)[k] = p.data.toList) := by
            have h1 : (cutS s.data.toList)[k]? = some p.data.toList := by
              rw [← HCUT.out, HPK.out]
              simp [List.getD, hkp]
            show _ = _
            rw [List.getElem?_eq_getElem hkc] at h1
            simpa using h1
          have HSTEP : Hid (∀ q, oneB p.data.toList = some q → allZ ((cutS s.data.toList).take (k + 1)) = some (zs ++ [q])) := fun q hq => allZ_step hkc HA.out (by rw [HGET.out]; exact hq)
          have HSTOP : Hid (oneB p.data.toList = none → readZ s.data.toList = none) := fun hq => readZ_none H0.out HB.out (allZ_stop hkc HA.out (by rw [HGET.out]; exact hq))
          clear HGET HA hkc hkp
          go_wp2_with fail
          refine (l2One_any p hps2 _).mono ?_
          rintro e w2 ⟨hend, hb2⟩
          rcases hend with ⟨⟨xs, y⟩, rv, hq, rfl, O2⟩ | ⟨hq, va, vm, vc, m, rfl⟩
          · have HA2 : Hid (allZ ((cutS s.data.toList).take (k + 1)) = some (zs ++ [(xs, y)])) := HSTEP.out _ hq
            clear HSTEP HSTOP hq
            obtain ⟨ra, rn, rc, hrv⟩ := O2.isSlice
            rw [hrv] at O2 ⊢
            have hkW : Below wr.heap.size wr (w2.alloc (.cells #[.slice ra rn rc, .int .i64 y] 38)) := below_then hb2 (below_alloc _)
            have hszW : (w2.alloc (.cells #[.slice ra rn rc, .int .i64 y] 38)).heap.size = w2.heap.size + 1 := by simp
            have OW : Own (w2.alloc (.cells #[.slice ra rn rc, .int .i64 y] 38)) wr.heap.size (w2.alloc (.cells #[.slice ra rn rc, .int .i64 y] 38)).heap.size (.slice ra rn rc) xs := (O2.keep' (below_alloc _)).wide (Nat.le_refl _) (by rw [hszW]; exact Nat.le_succ _) (Nat.le_refl _)
            have hsw := HW.out.size
            have hsk := hb2.size
            have hzl : zs.length ≤ 9001 := by rw [HZK.out]; omega
            obtain ⟨qs, hql, hspW, hprW, hfin⟩ := (HZ.out.keep' hkW).ready y OW (Nat.le_refl _) hsw (by rw [hszW]; omega) (by omega)
            have HROW2 := (row_keep HROW.out hkW).alloc (.cells #[.slice ra rn rc, .int .i64 y] 38)
            have hap := rows_apart HROW2 hspW (by decide)
            rw [hszW] at hprW
            have hql2 : qs.length ≤ 9001 := by omega
            have HKW : Hid (Below w.heap.size w (w2.alloc (.cells #[.slice ra rn rc, .int .i64 y] 38))) := below_then HW.out hkW
            have HAP : Hid ((Value.slice (some ⟨g, 0, none⟩) n cg).ownBlock = none ∨ (Value.slice (some ⟨g, 0, none⟩) n cg).ownBlock ≠ u4.ownBlock) := hap
            have HR2 : Hid (((w2.alloc (.cells #[.slice ra rn rc, .int .i64 y] 38)).alloc (.cells #[.slice ra rn rc, .int .i64 y] 38)).ownsRow 0 9 1 (.slice (some ⟨g, 0, none⟩) n cg) n (ps.map Value.string)) := HROW2
            clear hrv hx OW O2 HZ HROW hap HROW2 hkW hszW hb2 HW hql hzl
            go_wp2_with (at_builtin; (refine wpList_append_pairs rfl _ _ 23 rfl w.heap.size 38 i0 Tryz.underlying23 hi hz0 hz1 hz2 u4 qs rfl hspW _ _ rfl hprW (by simp; omega) (by simp; omega) ?_; intro v3 w3 hown3 hg3 _))
            obtain ⟨Z3, B3⟩ := hfin v3 w3 hown3 hg3
            have HK : Hid (Below w.heap.size w w3) := HKW.out.trans B3
            have HR3 := HR2.out.kept hg3 HAP.out
            clear hfin hown3 hg3 hspW hprW B3 HR2 HAP HKW
            go_wp2
            go_roundw
            case rel => exact ⟨k + 1, zs ++ [(xs, y)], by omega, by rw [List.length_append, HZK.out]; rfl, by go_num, HR3, Z3, HK.out, HA2⟩
            case measure => simp [intOf]; omega
          · have HF : Hid (readZ s.data.toList = none) := HSTOP.out hq
            have HK : Hid (Below w.heap.size w w2) := below_then HW.out hb2
            clear HSTEP HSTOP hq HZ HROW HW hx hb2
            go_wp2
            go_ret2
            exact ⟨.inr ⟨HF.out, rfl⟩, below_then HK.out (below_alloc _)⟩
        · obtain rfl : k = n := by omega
          have HA2 : Hid (allZ (cutS s.data.toList) = some zs) := by
            have h1 := HA.out
            rw [List.take_of_length_le (by rw [← HCUT.out, List.length_map, HN.out]; exact Nat.le_refl _)] at h1
            exact h1
          clear HA HROW
          cases hok : zOkB zs with
          | false =>
            have HF : Hid (readZ s.data.toList = none) := by
              show _ = _
              rw [readZ_some H0.out HB.out HA2.out, hok]; rfl
            go_wp2_with fail
            refine (specZOk_any _ zs _ HZ.out.items).mono ?_
            rw [hok]
            rintro e w2 ⟨rfl, hd⟩
            have HK : Hid (Below w.heap.size w w2) := below_then HW.out hd.below
            clear hd HW HZ hok
            go_wp2
            go_ret2
            exact ⟨.inr ⟨HF.out, rfl⟩, HK.out⟩
          | true =>
            have HF : Hid (readZ s.data.toList = some zs) := by
              show _ = _
              rw [readZ_some H0.out HB.out HA2.out, hok]; rfl
            go_wp2_with fail
            refine (specZOk_any _ zs _ HZ.out.items).mono ?_
            rw [hok]
            rintro e w2 ⟨rfl, hd⟩
            have HK : Hid (Below w.heap.size w w2) := below_then HW.out hd.below
            have HZ2 : Hid (OwnZ w2 w.heap.size w2.heap.size u4 zs) := (HZ.out.keep' hd.below).wide (Nat.le_refl _) hd.below.size (Nat.le_refl _)
            clear hd HW HZ hok
            go_wp2
            go_ret2
            exact ⟨.inl ⟨_, _, HF.out, rfl, HZ2.out⟩, HK.out⟩

end Go.Proofs.YtkgopbffgahhcaaGreatDoor
