/-
  The walk of laws.FnZGet, out of the contracts: it answers true whatever the bytes are, and nothing that was there is written.
-/
import Derived.Test.YtdleikloneaodabZVals
namespace Go.Proofs.Ytdleikloneaodab
open Go.RowKit

theorem specGet_val {v rv : Value} {a : List It} {r : List Int} {n : Int} {w : World} (hn : (if zOkB a then getZ a r else 0) = n) (h : TailZ w v a) (hr : IntsAt w rv r) :
    Calls Try.prog 10 #[v, rv] w fun e w' => e = .returned (.int .i64 n) ∧ Below w.heap.size w w' := by
  subst hn
  exact specZGet_any v a rv r w h.items hr
theorem getZ_snoc {q : List Int} {p : It} : ∀ {zs : List It}, Srt (zs ++ [p]) → getZ (zs ++ [p]) q = getZ zs q + (if p.1 = q then p.2 else 0)
  | [], _ => by rw [List.nil_append, getZ_cons, getZ_nil]; split <;> simp
  | x :: zs, h => by
    rw [List.cons_append] at h ⊢
    obtain ⟨h1, h2⟩ := Srt.cons.1 h
    have ih := getZ_snoc (q := q) h2
    rw [getZ_cons, getZ_cons, ih]
    by_cases hx : x.1 = q
    · have hne : p.1 ≠ q := fun e => by
        have := ordL_ne (h1 p (by simp))
        exact this (hx.trans e.symm)
      simp [hx, hne]
    · simp [hx]
theorem getZ_take {zs : List It} {q : List Int} {k : Nat} (h : Srt zs) (hk : k < zs.length) : getZ (zs.take (k + 1)) q = getZ (zs.take k) q + (if (zs.getD k ([], 0)).1 = q then (zs.getD k ([], 0)).2 else 0) := by
  have e : zs.getD k ([], 0) = zs[k] := by simp [List.getD, hk]
  have ht : Srt (zs.take k ++ [zs[k]]) := by
    rw [← List.take_succ_eq_append_getElem hk]
    exact h.sublist (List.take_sublist _ _)
  rw [List.take_succ_eq_append_getElem hk, getZ_snoc ht, e]
theorem getZ_le {B : Int} (hB : 0 ≤ B) {q : List Int} : ∀ {zs : List It}, (∀ p ∈ zs, -B ≤ p.2 ∧ p.2 ≤ B) → -B ≤ getZ zs q ∧ getZ zs q ≤ B
  | [], _ => by rw [getZ_nil]; omega
  | p :: zs, h => by
    rw [getZ_cons]
    split
    · exact h p (by simp)
    · exact getZ_le hB fun x hx => h x (by simp [hx])
theorem tailZ_lit {w : World} {rv : Value} {x : List Int} (h : IntsAt w rv x) (y : Int) : TailZ (w.alloc (.cells #[rv, .int .i64 y] 31)) (.slice (some ⟨w.heap.size, 0, none⟩) 1 1) [(x, y)] :=
  ⟨[(rv, (x, y))], rfl, ⟨pairs_lit w _ y h.shape, _, _, rfl, Nat.le_refl _, by omega⟩, fun z hz => by simp at hz; subst hz; exact h.below (below_alloc _)⟩

set_option maxRecDepth 100000 in
set_option maxHeartbeats 16000000 in
theorem lawFnZGet (a : Option Addr) (len cap : Nat) (bs : List Int) (w : World) (h : IsRow .u8 w a len cap bs) :
    Calls Try.prog 3 #[.slice a len cap] w fun e w' => e = .returned (.bool true) ∧ Below w.heap.size w w' := by
  by_cases hbig : (1048576 : Int) < (len : Int)
  · go_enter Try.func3, Try.ntmps3
    go_wp2
    go_ret
    exact ⟨rfl, Below.refl _ _⟩
  go_enter Try.func3, Try.ntmps3
  go_wp2_with fail
  refine (drawZGet_any a len cap bs _ h).mono ?_
  rintro e w1 ⟨va, rv, rfl, zs, r, hgz, hr7, hrs, TA, IR, hk1⟩
  have hz200 : zs.length ≤ 200 := hgz.1
  clear h hgz hr7 hrs
  obtain ⟨ra, rn, rc, rfl⟩ := IR.shape
  have g0 : (if zOkB [] then getZ [] r else 0) = 0 := by rw [zOk_nil]; rfl
  cases hz : zOkB zs with
  | false =>
    have g1 : (if zOkB zs then getZ zs r else 0) = 0 := by rw [hz]; rfl
    go_wp2_with fail
    refine (get_val g1 TA IR).mono ?_
    rintro e w2 ⟨rfl, hb2⟩
    have hk2 := below_then hk1 hb2
    have A_2 := TA.below hb2
    have R_2 := IR.below hb2
    clear hb2 hk1 TA IR
    go_wp2_with fail
    refine (specGet_val g1 A_2 R_2).mono ?_
    rintro e w3 ⟨rfl, hb3⟩
    have hk3 := below_then hk2 hb3
    have A_3 := A_2.below hb3
    have R_3 := R_2.below hb3
    clear hb3 hk2 A_2 R_2
    go_wp2_with fail
    refine (get_val g0 (tailZ_nil _) R_3).mono ?_
    rintro e w4 ⟨rfl, hb4⟩
    have hk4 := below_then hk3 hb4
    have A_4 := A_3.below hb4
    have R_4 := R_3.below hb4
    clear hb4 hk3 A_3 R_3
    go_wp2_with fail
    refine (okS_val hz A_4).mono ?_
    rintro e w5 ⟨rfl, hb5⟩
    have hk5 := below_then hk4 hb5
    have A_5 := A_4.below hb5
    have R_5 := R_4.below hb5
    clear hb5 hk4 A_4 R_4
    clear A_5 R_5
    clear g0 g1
    go_wp2
    go_ret
    exact ⟨rfl, hk5⟩
  | true =>
    obtain ⟨m, HM⟩ : ∃ m, Hid (m = getZ zs r) := ⟨_, rfl⟩
    have hm : -10000 ≤ m ∧ m ≤ 10000 := by rw [HM.out]; exact getZ_in hz r
    have g1 : (if zOkB zs then getZ zs r else 0) = m := by rw [get_ok hz, HM.out]
    go_wp2_with fail
    refine (get_val g1 TA IR).mono ?_
    rintro e w2 ⟨rfl, hb2⟩
    have hk2 := below_then hk1 hb2
    have A_2 := TA.below hb2
    have R_2 := IR.below hb2
    clear hb2 hk1 TA IR
    go_wp2_with fail
    refine (specGet_val g1 A_2 R_2).mono ?_
    rintro e w3 ⟨rfl, hb3⟩
    have hk3 := below_then hk2 hb3
    have A_3 := A_2.below hb3
    have R_3 := R_2.below hb3
    clear hb3 hk2 A_2 R_2
    go_wp2_with fail
    refine (get_val g0 (tailZ_nil _) R_3).mono ?_
    rintro e w4 ⟨rfl, hb4⟩
    have hk4 := below_then hk3 hb4
    have A_4 := A_3.below hb4
    have R_4 := R_3.below hb4
    clear hb4 hk3 A_3 R_3
    go_wp2_with fail
    refine (okS_val hz A_4).mono ?_
    rintro e w5 ⟨rfl, hb5⟩
    have hk5 := below_then hk4 hb5
    have A_5 := A_4.below hb5
    have R_5 := R_4.below hb5
    clear hb5 hk4 A_4 R_4
    have HZ : Hid (zOkB zs = true) := hz
    obtain ⟨sa, sc, rfl⟩ := A_5.shape
    obtain ⟨n, hn⟩ : ∃ n, n = zs.length := ⟨_, rfl⟩
    have HN : Hid (n = zs.length) := hn
    have HTA : Hid (TailZ w5 (.slice sa n sc) zs) := by rw [hn]; exact A_5
    have HR : Hid (IntsAt w5 (.slice ra rn rc) r) := R_5
    have HK0 : Hid (Below w.heap.size w w5) := hk5
    rw [← hn] at hz200 ⊢
    clear hn g0 g1 hz A_5 R_5 hk5
    have hwt : Hid (∀ p ∈ zs, -10000 ≤ p.2 ∧ p.2 ≤ 10000) := fun p hp => by
      obtain ⟨j, hj, rfl⟩ := mem_getD (d := ([], 0)) hp
      exact (wB_in (zOk_row HZ.out hj).2).2
    go_wp2
    go_loopw [6, 7] (fun t i wr => ∃ k : Nat, k ≤ n ∧ i = .int .i64 k ∧ t = .int .i64 (getZ (zs.take k) r) ∧ Hid (Below w5.heap.size w5 wr)) (fun _ i _ => n - (intOf i).toNat)
    case atStart => exact ⟨0, Nat.zero_le _, rfl, by simp [getZ_nil], Below.refl _ _⟩
    case round =>
      obtain ⟨k, hk, rfl, rfl, HW⟩ := hrel
      obtain ⟨t, HT⟩ : ∃ t, Hid (t = getZ (zs.take k) r) := ⟨_, rfl⟩
      have htb : -10000 ≤ t ∧ t ≤ 10000 := by rw [HT.out]; exact getZ_le (by omega) (fun p hp => hwt.out p (List.mem_of_mem_take hp))
      rw [← HT.out]
      by_cases hlt : k < n
      · have hkz : k < zs.length := by rw [← HN.out]; exact hlt
        have hTW := HTA.out.below HW.out
        obtain ⟨b, off, xv, rfl, hb, c0, c1, hix⟩ : ∃ b off xv, sa = some ⟨b, off, none⟩ ∧ b < wr.heap.size ∧ wr.cell? ⟨b, off + k * 2, none⟩ = some xv ∧ wr.cell? ⟨b, off + k * 2 + 1, none⟩ = some (.int .i64 (zs.getD k ([], 0)).2) ∧ IntsAt wr xv (zs.getD k ([], 0)).1 := by
          obtain ⟨_, a', c', e, _, hc⟩ := hTW.items
          obtain ⟨b, off, rfl, hb, hcell⟩ := hc (fun e => by rw [e] at hkz; simp at hkz)
          obtain ⟨rv, c0, c1, c2⟩ := hcell k hkz
          simp at e
          exact ⟨b, off, rv, e.1, hb, c0, c1, c2⟩
        have hT1 := getZ_take (q := r) (zOk_srt HZ.out) hkz
        obtain ⟨x, HX⟩ : ∃ x, Hid (x = (zs.getD k ([], 0)).1) := ⟨_, rfl⟩
        obtain ⟨y, HY⟩ : ∃ y, Hid (y = (zs.getD k ([], 0)).2) := ⟨_, rfl⟩
        have hyb : -10000 ≤ y ∧ y ≤ 10000 := by rw [HY.out]; exact (wB_in (zOk_row HZ.out hkz).2).2
        rw [← HX.out] at hix
        rw [← HY.out] at c1
        rw [← HX.out, ← HY.out, ← HT.out] at hT1
        have HT1 : Hid (getZ (zs.take (k + 1)) r = t + (if x = r then y else 0)) := hT1
        obtain ⟨xa, xn, xc, rfl⟩ := hix.shape
        have hrr := HR.out.below HW.out
        clear hTW hT1
        by_cases hxr : x = r
        · have hsB := same_of hxr
          have HXR : Hid (x = r) := hxr
          clear hxr
          go_wp2_with fail
          refine (implRowSame_val hsB hix hrr).mono ?_
          rintro e w2 ⟨rfl, hd2⟩
          have q1 := cell_is (p := ⟨b, off + k * 2 + 1, none⟩) hd2.below hb c1
          have HK : Hid (Below w5.heap.size w5 w2) := below_then HW.out hd2.below
          clear hd2 hix hrr c0 c1 hsB
          go_wp2
          go_roundw
          case rel => exact ⟨k + 1, by omega, by go_num, by rw [HT1.out, if_pos HXR.out], HK.out⟩
          case measure => simp [intOf]; omega
        · have hsB := same_not hxr
          have HXR : Hid (x ≠ r) := hxr
          clear hxr
          go_wp2_with fail
          refine (implRowSame_val hsB hix hrr).mono ?_
          rintro e w2 ⟨rfl, hd2⟩
          have HK : Hid (Below w5.heap.size w5 w2) := below_then HW.out hd2.below
          clear hd2 hix hrr c0 c1 hsB
          go_wp2
          go_roundw
          case rel => exact ⟨k + 1, by omega, by go_num, by rw [HT1.out, if_neg HXR.out, Int.add_zero], HK.out⟩
          case measure => simp [intOf]; omega
      · obtain rfl : k = n := by omega
        have htm : t = m := by rw [HT.out, HM.out, HN.out, List.take_length]
        subst htm
        have TA9 := (HTA.out.below HW.out).below (below_alloc (.cells #[.slice ra rn rc, .int .i64 1] 31))
        have TL9 := tailZ_lit (HR.out.below HW.out) 1
        have IR9 := (HR.out.below HW.out).below (below_alloc (.cells #[.slice ra rn rc, .int .i64 1] 31))
        have hk9 := below_then (below_then HK0.out HW.out) (below_alloc (.cells #[.slice ra rn rc, .int .i64 1] 31))
        obtain ⟨c1, H1⟩ : ∃ c, addOk zs [(r, 1)] = c := ⟨_, rfl⟩
        obtain ⟨o1, G1⟩ : ∃ o, addOut zs [(r, 1)] = o := ⟨_, rfl⟩
        go_wp2_with fail
        refine (add_val H1 G1 TA9 TL9).mono ?_
        rintro e w51 ⟨vo, rfl, TO, hb51⟩
        have hk51 := below_then hk9 hb51
        have A_51 := TA9.below hb51
        have L_51 := TL9.below hb51
        have R_51 := IR9.below hb51
        clear hb51 hk9 TA9 TL9 IR9
        have HH1 : Hid (addOk zs [(r, 1)] = c1 ∧ addOut zs [(r, 1)] = o1) := ⟨H1, G1⟩
        clear H1 G1
        cases c1 with
        | false =>
          clear A_51 L_51 R_51 TO
          go_wp2
          go_ret
          exact ⟨rfl, hk51⟩
        | true =>
          have hs := addOk_true HH1.out.1
          have hso : zOkB o1 = true := by rw [← HH1.out.2, hs.2.2.2]; exact hs.2.2.1
          have g2 : (if zOkB o1 then getZ o1 r else 0) = t + 1 := by
            rw [get_ok hso, ← HH1.out.2, hs.2.2.2, getZ_add (zOk_srt HZ.out) (zOk_srt hs.2.1), getZ_cons, if_pos rfl, HM.out]
          clear hs
          go_wp2_with fail
          refine (get_val g2 TO R_51).mono ?_
          rintro e w52 ⟨rfl, hb52⟩
          have hk52 := below_then hk51 hb52
          have A_52 := A_51.below hb52
          have L_52 := L_51.below hb52
          have R_52 := R_51.below hb52
          have O_52 := TO.below hb52
          clear hb52 hk51 A_51 L_51 R_51 TO
          clear A_52 L_52 R_52 O_52
          clear g2 hso
          go_wp2
          go_ret
          exact ⟨rfl, hk52⟩

end Go.Proofs.Ytdleikloneaodab
