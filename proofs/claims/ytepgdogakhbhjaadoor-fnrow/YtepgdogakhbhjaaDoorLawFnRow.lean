/-
  The walk of laws.FnRow, out of the contracts: it answers true whatever the bytes are, and nothing that was there is written. Condition: the table of powers of ten reads as it was laid.
-/
import Derived.Test.YtepgdogakhbhjaaDoorDrawText
import Derived.Test.YtepgdogakhbhjaaDoorRead
import Derived.Test.YtepgdogakhbhjaaDoorOrder
import Derived.Test.YtepgdogakhbhjaaDoorOrderFacts
import Derived.Test.YtepgdogakhbhjaaDoorRowOk
namespace Go.Proofs.YtepgdogakhbhjaaDoor
open Go.RowKit

theorem itoa_inj {x y : Int} (h : Lib.itoa x = Lib.itoa y) : x = y := by
  have no45 : ∀ u : Nat, ∀ l, Lib.decDigits u ≠ 45 :: l := fun u l e => by
    have := List.all_eq_true.1 (dec_all u) 45 (by rw [e]; simp)
    simp [isDig] at this
  unfold Lib.itoa at h
  by_cases hx : x < 0
  · by_cases hy : y < 0
    · rw [if_pos hx, if_pos hy] at h
      have e := congrArg decVal (List.cons.inj h).2
      rw [dec_val, dec_val] at e
      omega
    · rw [if_pos hx, if_neg hy] at h
      exact absurd h.symm (no45 _ _)
  · by_cases hy : y < 0
    · rw [if_neg hx, if_pos hy] at h
      exact absurd h (no45 _ _)
    · rw [if_neg hx, if_neg hy] at h
      have e := congrArg decVal h
      rw [dec_val, dec_val] at e
      omega
theorem map_inj : ∀ {xs ys : List Int}, xs.map Lib.itoa = ys.map Lib.itoa → xs = ys
  | [], [], _ => rfl
  | [], _ :: _, h => by simp at h
  | _ :: _, [], h => by simp at h
  | x :: xs, y :: ys, h => by
    simp only [List.map_cons, List.cons.injEq] at h
    rw [itoa_inj h.1, map_inj h.2]
theorem itoa_ne (x : Int) : Lib.itoa x ≠ [] := by
  unfold Lib.itoa
  split
  · simp
  · exact dec_ne _
/-- A row that is not ok is not read from its text. -/
theorem read_bent {xs : List Int} (h : rowOkB xs = false) : readB (rowTx xs) = none := by
  cases hr : readB (rowTx xs) with
  | none => rfl
  | some ys =>
    obtain ⟨hok, he⟩ := read_back hr
    match xs, ys, h, hok, he with
    | [], [], h, hok, _ => rw [h] at hok; cases hok
    | x :: xs, [], _, hok, _ => simp [rowOkB] at hok
    | [], y :: ys, _, _, he => exact absurd (List.append_eq_nil_iff.1 (he.symm.trans rfl)).1 (itoa_ne y)
    | x :: xs, y :: ys, h, hok, he =>
      have hc := congrArg cutL he
      rw [cut_row, cut_row] at hc
      rw [map_inj hc] at h
      rw [h] at hok; cases hok
theorem ReadEnd.some {w w' : World} {xs : List Int} {e : Ending} (h : ReadEnd w w' (some xs) e) : ∃ v, e = .returned (.tuple #[v, .bool true]) ∧ Own w' w.heap.size w'.heap.size v xs := by
  rcases h with ⟨ys, v, h1, he, ho⟩ | ⟨h1, _⟩
  · obtain rfl : xs = ys := by simpa using h1
    exact ⟨v, he, ho⟩
  · cases h1
theorem ReadEnd.none {w w' : World} {e : Ending} (h : ReadEnd w w' none e) : e = .returned (.tuple #[.slice none 0 0, .bool false]) := by
  rcases h with ⟨ys, v, h1, _⟩ | ⟨_, he⟩
  · cases h1
  · exact he
theorem bytes_ext {s t : ByteArray} (h : s.data.toList = t.data.toList) : s = t := by
  obtain ⟨⟨a⟩⟩ := s
  obtain ⟨⟨b⟩⟩ := t
  simp at h
  rw [h]

set_option maxHeartbeats 4000000 in
theorem lawFnRow (a : Option Addr) (len cap : Nat) (zs0 : List Int) (a2 : Option Addr) (len2 cap2 : Nat) (zs2 : List Int) (w : World) (h : IsRow .u8 w a len cap zs0) (h2 : IsRow .u8 w a2 len2 cap2 zs2) (htab : Tab w) :
    Calls Tryd.prog 3 #[.slice a len cap, .slice a2 len2 cap2] w fun e w' => e = .returned (.bool true) ∧ Below w.heap.size w w' := by
  by_cases hbig : (1048576 : Int) < (len : Int)
  · go_enter Tryd.func3, Tryd.ntmps3
    go_wp2
    go_ret
    exact ⟨rfl, Below.refl _ _⟩
  by_cases hbig2 : (1048576 : Int) < (len2 : Int)
  · go_enter Tryd.func3, Tryd.ntmps3
    go_wp2
    go_ret
    exact ⟨rfl, Below.refl _ _⟩
  go_enter Tryd.func3, Tryd.ntmps3
  go_wp2_with fail
  refine (drawText_any _ _ _ zs0 _ h).mono ?_
  rintro e w1 ⟨vr, rfl, xs, hxl, hsm, hr1, hb1⟩
  have h21 := h2.below hb1
  have t1 := htab.below hb1
  have HSM : Hid (Small xs) := hsm
  clear h h2 htab hsm
  go_wp2_with fail
  refine (implRowText_any _ xs _ t1 hr1.ints HSM.out.wf (by omega)).mono ?_
  rintro e w2 ⟨s, rfl, hs, hb2⟩
  have HS : Hid (s.data.toList = rowTx xs) := hs
  have hsl : s.size ≤ 1048576 := by
    rw [← size_list, hs]
    have := rowTx_le xs HSM.out.wf
    omega
  have hr2 := hr1.ints.below hb2
  have h22 := h21.below hb2
  have t2 := t1.below hb2
  have hk2 : Below w.heap.size w w2 := hb1.trans (hb2.mono hb1.size)
  clear hs hr1 h21 t1 hb1 hb2
  go_wp2_with fail
  refine (implRowRead_any s hsl _ t2).mono ?_
  rintro e w3 ⟨hrd, hb3⟩
  rw [HS.out] at hrd
  have hr3 := hr2.below hb3
  have h23 := h22.below hb3
  have t3 := t2.below hb3
  have hk3 : Below w.heap.size w w3 := hk2.trans (hb3.mono hk2.size)
  clear hr2 h22 t2 hb3 hk2
  cases hok : rowOkB xs with
  | false =>
    rw [read_bent hok] at hrd
    obtain rfl := hrd.none
    clear hrd
    go_wp2_with fail
    refine (specRowText_any _ xs _ hr3 HSM.out.wf (by omega)).mono ?_
    rintro e w4 ⟨s', rfl, hs', hb4⟩
    obtain rfl : s' = s := bytes_ext (by rw [hs']; exact HS.out.symm)
    have hr4 := hr3.below hb4
    have h24 := h23.below hb4
    have t4 := t3.below hb4
    have hk4 : Below w.heap.size w w4 := hk3.trans (hb4.mono hk3.size)
    clear hs' hr3 h23 t3 hb4 hk3
    go_wp2_with fail
    refine (implRowOk_any _ xs _ hr4).mono ?_
    rintro e w5 ⟨rfl, rfl⟩
    rw [hok]
    go_wp2_with fail
    refine (specRowOk_any _ xs _ hr4).mono ?_
    rintro e w6 ⟨rfl, rfl⟩
    rw [hok]
    go_wp2_with fail
    refine (specRowOk_any _ xs _ hr4).mono ?_
    rintro e w7 ⟨rfl, rfl⟩
    rw [hok]
    have h28 := h24
    have t8 := t4
    have hk8 := hk4
    clear hr4 h24 t4 hk4
    go_wp2_with fail
    refine (drawRead_any _ _ _ zs2 _ h28).mono ?_
    rintro e w9 ⟨t, rfl, htl, hb9⟩
    have t9 := t8.below hb9
    have hk9 : Below w.heap.size w w9 := hk8.trans (hb9.mono hk8.size)
    clear h28 t8 hk8 hb9
    obtain ⟨o, HO⟩ : ∃ o, Hid (o = readB t.data.toList) := ⟨_, Eq.refl _⟩
    go_wp2_with fail
    refine (implRowRead_any t (by omega) _ t9).mono ?_
    rintro e w10 ⟨hrd, hb10⟩
    rw [← HO.out] at hrd
    have t10 := t9.below hb10
    have hk10 : Below w.heap.size w w10 := hk9.trans (hb10.mono hk9.size)
    clear t9 hk9 hb10
    cases o with
    | none =>
      obtain rfl := hrd.none
      clear hrd
      go_wp2_with fail
      refine (specRowRead_any t _).mono ?_
      rintro e w11 ⟨hrd, hb11⟩
      rw [← HO.out] at hrd
      obtain rfl := hrd.none
      have hk11 : Below w.heap.size w w11 := hk10.trans (hb11.mono hk10.size)
      clear hrd hb11 hk10 t10
      go_wp2
      go_ret
      exact ⟨rfl, hk11⟩
    | some ys =>
      obtain ⟨vy, rfl, hy10⟩ := hrd.some
      have hy10 := hy10.ints
      clear hrd
      go_wp2_with fail
      refine (specRowRead_any t _).mono ?_
      rintro e w11 ⟨hrd, hb11⟩
      rw [← HO.out] at hrd
      obtain ⟨vz, rfl, -⟩ := hrd.some
      have hy11 := hy10.below hb11
      have t11 := t10.below hb11
      have hk11 : Below w.heap.size w w11 := hk10.trans (hb11.mono hk10.size)
      clear hrd hb11 hk10 t10 hy10
      obtain ⟨HY, HB⟩ : Hid (rowOkB ys = true) ∧ Hid (t.data.toList = rowTx ys) := read_back HO.out.symm
      have hyl := len_ok HY.out
      go_wp2_with fail
      refine (implRowText_any _ ys _ t11 hy11 (wf_ok HY.out) (by omega)).mono ?_
      rintro e w12 ⟨t', rfl, ht', hb12⟩
      obtain rfl : t' = t := bytes_ext (by rw [ht']; exact HB.out.symm)
      have hy12 := hy11.below hb12
      have hk12 : Below w.heap.size w w12 := hk11.trans (hb12.mono hk11.size)
      clear hb12 hk11 t11 hy11 ht'
      go_wp2_with fail
      refine (implRowOk_any _ ys _ hy12).mono ?_
      rintro e w13 ⟨rfl, rfl⟩
      rw [HY.out]
      clear hy12
      go_wp2
      go_ret
      exact ⟨rfl, hk12⟩
  | true =>
    rw [read_row hok] at hrd
    obtain ⟨vx, rfl, hx3⟩ := hrd.some
    have hx3 := hx3.ints
    clear hrd
    go_wp2_with fail
    refine (specRowText_any _ xs _ hr3 HSM.out.wf (by omega)).mono ?_
    rintro e w4 ⟨s', rfl, hs', hb4⟩
    obtain rfl : s' = s := bytes_ext (by rw [hs']; exact HS.out.symm)
    have hr4 := hr3.below hb4
    have hx4 := hx3.below hb4
    have h24 := h23.below hb4
    have t4 := t3.below hb4
    have hk4 : Below w.heap.size w w4 := hk3.trans (hb4.mono hk3.size)
    clear hs' hr3 h23 t3 hb4 hk3 hx3
    go_wp2_with fail
    refine (implRowOk_any _ xs _ hr4).mono ?_
    rintro e w5 ⟨rfl, rfl⟩
    rw [hok]
    go_wp2_with fail
    refine (specRowOk_any _ xs _ hr4).mono ?_
    rintro e w6 ⟨rfl, rfl⟩
    rw [hok]
    go_wp2_with fail
    refine (specRowOk_any _ xs _ hr4).mono ?_
    rintro e w7 ⟨rfl, rfl⟩
    rw [hok]
    go_wp2_with fail
    refine (implRowSame_any _ _ xs xs _ hx4 hr4).mono ?_
    rintro e w8 ⟨rfl, hb8⟩
    rw [same_self]
    have h28 := h24.below hb8
    have t8 := t4.below hb8
    have hk8 : Below w.heap.size w w8 := hk4.trans (hb8.mono hk4.size)
    clear hx4 hr4 h24 t4 hk4 hb8
    go_wp2_with fail
    refine (drawRead_any _ _ _ zs2 _ h28).mono ?_
    rintro e w9 ⟨t, rfl, htl, hb9⟩
    have t9 := t8.below hb9
    have hk9 : Below w.heap.size w w9 := hk8.trans (hb9.mono hk8.size)
    clear h28 t8 hk8 hb9
    obtain ⟨o, HO⟩ : ∃ o, Hid (o = readB t.data.toList) := ⟨_, Eq.refl _⟩
    go_wp2_with fail
    refine (implRowRead_any t (by omega) _ t9).mono ?_
    rintro e w10 ⟨hrd, hb10⟩
    rw [← HO.out] at hrd
    have t10 := t9.below hb10
    have hk10 : Below w.heap.size w w10 := hk9.trans (hb10.mono hk9.size)
    clear t9 hk9 hb10
    cases o with
    | none =>
      obtain rfl := hrd.none
      clear hrd
      go_wp2_with fail
      refine (specRowRead_any t _).mono ?_
      rintro e w11 ⟨hrd, hb11⟩
      rw [← HO.out] at hrd
      obtain rfl := hrd.none
      have hk11 : Below w.heap.size w w11 := hk10.trans (hb11.mono hk10.size)
      clear hrd hb11 hk10 t10
      go_wp2
      go_ret
      exact ⟨rfl, hk11⟩
    | some ys =>
      obtain ⟨vy, rfl, hy10⟩ := hrd.some
      have hy10 := hy10.ints
      clear hrd
      go_wp2_with fail
      refine (specRowRead_any t _).mono ?_
      rintro e w11 ⟨hrd, hb11⟩
      rw [← HO.out] at hrd
      obtain ⟨vz, rfl, -⟩ := hrd.some
      have hy11 := hy10.below hb11
      have t11 := t10.below hb11
      have hk11 : Below w.heap.size w w11 := hk10.trans (hb11.mono hk10.size)
      clear hrd hb11 hk10 t10 hy10
      obtain ⟨HY, HB⟩ : Hid (rowOkB ys = true) ∧ Hid (t.data.toList = rowTx ys) := read_back HO.out.symm
      have hyl := len_ok HY.out
      go_wp2_with fail
      refine (implRowText_any _ ys _ t11 hy11 (wf_ok HY.out) (by omega)).mono ?_
      rintro e w12 ⟨t', rfl, ht', hb12⟩
      obtain rfl : t' = t := bytes_ext (by rw [ht']; exact HB.out.symm)
      have hy12 := hy11.below hb12
      have hk12 : Below w.heap.size w w12 := hk11.trans (hb12.mono hk11.size)
      clear hb12 hk11 t11 hy11 ht'
      go_wp2_with fail
      refine (implRowOk_any _ ys _ hy12).mono ?_
      rintro e w13 ⟨rfl, rfl⟩
      rw [HY.out]
      clear hy12
      go_wp2
      go_ret
      exact ⟨rfl, hk12⟩

end Go.Proofs.YtepgdogakhbhjaaDoor
