/-
  The contracts of spec.RowRead and impl.RowRead: at every text of at most 2^20 bytes both answer what readB reads: the row in memory of its own, or nothing. Condition for impl: the table of powers of ten reads as it was laid.
-/
import Derived.Test.YtkgopbffgahhcaaGreatDoorScan
import Derived.Test.YtkgopbffgahhcaaGreatDoorNum
import Derived.Test.YtkgopbffgahhcaaGreatDoorCut
import Derived.Test.YtkgopbffgahhcaaGreatDoorText
namespace Go.Proofs.YtkgopbffgahhcaaGreatDoor
set_option maxRecDepth 100000
open Go.RowKit

/-- The answer of a RowRead: a row that is read, in blocks of the call's own; or nothing. -/
def ReadEnd (w w' : World) (o : Option (List Int)) (e : Ending) : Prop :=
  (∃ xs v, o = some xs ∧ e = .returned (.tuple #[v, .bool true]) ∧ Own w' w.heap.size w'.heap.size v xs) ∨ (o = none ∧ e = .returned (.tuple #[.slice none 0 0, .bool false]))

theorem wf_ok {xs : List Int} (h : rowOkB xs = true) : WfInts xs := by
  intro x hx
  simp only [rowOkB, Bool.and_eq_true] at h
  have := List.all_eq_true.1 h.2 x hx
  have : -1000000000 ≤ x ∧ x ≤ 1000000000 := by simpa [cellB] using this
  omega
theorem len_ok {xs : List Int} (h : rowOkB xs = true) : xs.length ≤ 6 := by
  simp only [rowOkB, Bool.and_eq_true, decide_eq_true_eq] at h
  exact h.1.2

set_option maxHeartbeats 2000000 in
theorem implRowRead_any (s : ByteArray) (hs : s.size ≤ 1048576) (w : World) (htab : Tab w) :
    Calls Tryz.prog 91 #[.string s] w fun e w' => ReadEnd w w' (readB s.data.toList) e ∧ Below w.heap.size w w' := by
  by_cases hbig : 100 < s.size
  · have hb : (100 : Int) < (s.size : Int) := by omega
    have HR : Hid (readB s.data.toList = none) := by
      show _ = _
      unfold readB
      rw [if_pos (by rw [len_list]; exact hbig)]
    go_enter Tryz.func91, Tryz.ntmps91
    go_wp2
    go_ret2
    exact ⟨.inr ⟨HR.out, rfl⟩, Below.refl _ _⟩
  · have hb : ¬ (100 : Int) < (s.size : Int) := by omega
    have HR : Hid (readB s.data.toList = if rowOkB (scanS s.data.toList [] 0 1) = true ∧ rowTx (scanS s.data.toList [] 0 1) = s.data.toList then some (scanS s.data.toList [] 0 1) else none) := read_same _ (by rw [len_list]; exact hbig)
    obtain ⟨xs, HX⟩ : ∃ xs, Hid (xs = scanS s.data.toList [] 0 1) := ⟨_, Eq.refl _⟩
    rw [← HX.out] at HR
    go_enter Tryz.func91, Tryz.ntmps91
    go_wp2_with fail
    refine (scanRow_any s hs _).mono ?_
    rintro e w1 ⟨v, rfl, ho1, hb1⟩
    rw [← HX.out] at ho1
    cases hok : rowOkB xs with
    | false =>
      have HN : Hid (readB s.data.toList = none) := by
        show _ = _
        rw [HR.out, if_neg (by rw [hok]; simp)]
      go_wp2_with fail
      refine (implRowOk_any _ xs _ ho1.ints).mono ?_
      rintro e w2 ⟨rfl, rfl⟩
      rw [hok]
      clear ho1
      go_wp2
      go_ret2
      exact ⟨.inr ⟨HN.out, rfl⟩, hb1⟩
    | true =>
      have hwf := wf_ok hok
      have hlen := len_ok hok
      go_wp2_with fail
      refine (implRowOk_any _ xs _ ho1.ints).mono ?_
      rintro e w2 ⟨rfl, rfl⟩
      rw [hok]
      go_wp2_with fail
      refine (implRowText_any _ xs _ (htab.below hb1) ho1.ints hwf (by omega)).mono ?_
      rintro e w3 ⟨t, rfl, ht, hb3⟩
      have ho3 := ho1.keep' hb3
      have hk3 : Below w.heap.size w w3 := hb1.trans (hb3.mono hb1.size)
      have hs3 := hb3.size
      by_cases heq : rowTx xs = s.data.toList
      · obtain rfl : t = s := by
          obtain ⟨⟨a⟩⟩ := s
          obtain ⟨⟨b⟩⟩ := t
          simp at ht heq
          rw [ht, heq]
        have HN : Hid (readB t.data.toList = some xs) := by
          show _ = _
          rw [HR.out, if_pos ⟨hok, heq⟩]
        have ho4 := ho3.wide (Nat.le_refl _) hs3 (Nat.le_refl _)
        clear ho1 ho3 hb1 hb3 ht heq hwf
        go_wp2
        go_ret2
        exact ⟨.inl ⟨xs, _, HN.out, rfl, ho4⟩, hk3⟩
      · have HN : Hid (readB s.data.toList = none) := by
          show _ = _
          rw [HR.out, if_neg (fun e => heq e.2)]
        have hne : (t.toList == s.toList) = false := by
          rw [beq_eq_false_iff_ne, ByteArray.toList_eq, ByteArray.toList_eq]
          intro e
          exact heq (by rw [← ht]; exact e)
        clear ho1 ho3 hb1 hb3 ht heq hwf
        go_wp2
        go_ret2
        exact ⟨.inr ⟨HN.out, rfl⟩, hk3⟩

theorem readAll_app : ∀ (a b : List (List UInt8)), readAll (a ++ b) = (readAll a).bind (fun xs => (readAll b).map (xs ++ ·))
  | [], b => by simp [readAll]
  | p :: a, b => by
    have ih := readAll_app a b
    simp only [List.cons_append, readAll, ih]
    cases numB p with
    | none => simp
    | some x =>
      cases readAll a with
      | none => simp
      | some xs => cases readAll b <;> simp
theorem readAll_step {l : List (List UInt8)} {k : Nat} {xs : List Int} {x : Int} (hk : k < l.length) (h : readAll (l.take k) = some xs) (hx : numB l[k] = some x) : readAll (l.take (k + 1)) = some (xs ++ [x]) := by
  rw [List.take_succ_eq_append_getElem hk, readAll_app, h]
  simp [readAll, hx]
theorem readAll_stop {l : List (List UInt8)} {k : Nat} {xs : List Int} (hk : k < l.length) (h : readAll (l.take k) = some xs) (hx : numB l[k] = none) : readAll l = none := by
  have e : l = l.take k ++ l[k] :: l.drop (k + 1) := by
    rw [← List.drop_eq_getElem_cons hk, List.take_append_drop]
  rw [e, readAll_app, h]
  simp [readAll, hx]
theorem read_none {s : ByteArray} (h : ¬ 100 < s.size) (hr : readAll (cutL s.data.toList) = none) : readB s.data.toList = none := by
  unfold readB
  rw [if_neg (by rw [len_list]; exact h), hr]
theorem read_some {s : ByteArray} {xs : List Int} (h : ¬ 100 < s.size) (hr : readAll (cutL s.data.toList) = some xs) : readB s.data.toList = if rowOkB xs = true then some xs else none := by
  unfold readB
  rw [if_neg (by rw [len_list]; exact h), hr]

set_option maxHeartbeats 4000000 in
theorem specRowRead_any (s : ByteArray) (w : World) :
    Calls Tryz.prog 95 #[.string s] w fun e w' => ReadEnd w w' (readB s.data.toList) e ∧ Below w.heap.size w w' := by
  obtain ⟨i0, hi, hz0, hz1, hz2⟩ := info_parts infoInt
  by_cases hbig : 100 < s.size
  · have hb : (100 : Int) < (s.size : Int) := by omega
    have HR : Hid (readB s.data.toList = none) := by
      show _ = _
      unfold readB
      rw [if_pos (by rw [len_list]; exact hbig)]
    go_enter Tryz.func95, Tryz.ntmps95
    go_wp2
    go_ret2
    exact ⟨.inr ⟨HR.out, rfl⟩, Below.refl _ _⟩
  · have hb : ¬ (100 : Int) < (s.size : Int) := by omega
    go_enter Tryz.func95, Tryz.ntmps95
    go_wp2_with fail
    refine (l12Cut_any s (by omega) _).mono ?_
    rintro e w1 ⟨v, rfl, ps, ho1, hpl, hps, hcut, hb1⟩
    have hne : 0 < ps.length := by
      rcases Nat.eq_zero_or_pos ps.length with h | h
      · have : ps = [] := List.length_eq_zero_iff.1 h
        rw [this] at hcut
        exact absurd hcut.symm (cut_ne _)
      · exact h
    obtain ⟨g, cg, hv⟩ : ∃ g cg, v = .slice (some ⟨g, 0, none⟩) ps.length cg := by
      rcases ho1.2 with ⟨_, h0⟩ | ⟨g, cap, cur, hv, _⟩
      · omega
      · exact ⟨g, cap, hv⟩
    subst hv
    have hgl := (ho1.lt g rfl)
    have hcells : ∀ j, j < ps.length → w1.cell? ⟨g, j, none⟩ = some (.string (ps.getD j ByteArray.empty)) := by
      intro j hj
      rw [ho1.cellAt j (by omega)]
      simp [List.getD, hj]
    have HCUT : Hid (ps.map (fun p => p.data.toList) = cutL s.data.toList) := hcut
    obtain ⟨n, hn⟩ : ∃ n, n = ps.length := ⟨_, rfl⟩
    have HN : Hid (n = ps.length) := hn
    rw [← hn] at hpl hne hcells ⊢
    clear hn hcut ho1
    have ho2 : (w1.alloc (.cells #[] 3)).ownsRow w1.heap.size 3 1 (.slice (some ⟨w1.heap.size, 0, none⟩) 0 0) 0 [] := World.ownsRow_lit w1 #[] 0 (Nat.le_refl _) (by unfold maxLen; omega) rfl
    have hb2 : Below w1.heap.size w1 (w1.alloc (.cells #[] 3)) := (Below.refl _ w1).alloc (Nat.le_refl _) _
    go_wp2
    go_loopw [5, 6] (fun o i wr => ∃ (k : Nat) (xs : List Int), k ≤ n ∧ xs.length = k ∧ i = .int .i64 k ∧ wr.ownsRow w1.heap.size 3 1 o xs.length (xs.map (Value.int .i64)) ∧ Below w1.heap.size w1 wr ∧ Hid (readAll ((cutL s.data.toList).take k) = some xs))
      (fun _ i _ => n - (intOf i).toNat)
    case atStart => exact ⟨0, [], Nat.zero_le _, rfl, rfl, ho2, hb2, by simp [Hid, readAll]⟩
    case round =>
      obtain ⟨k, xs, hk, hxk, rfl, ho, hbw, HA⟩ := hrel
      have HXK : Hid (xs.length = k) := hxk
      have hxs : xs.length ≤ k := by omega
      clear hxk ho2 hb2
      have hws := hbw.size
      by_cases hlt : k < n
      · obtain ⟨p, HPK⟩ : ∃ p, Hid (p = ps.getD k ByteArray.empty) := ⟨_, Eq.refl _⟩
        have hx : wr.cell? ⟨g, k, none⟩ = some (.string p) := by
          rw [HPK.out]
          exact (hbw.cell (p := ⟨g, k, none⟩) hgl.2).trans (hcells k hlt)
        have hkp : k < ps.length := by rw [← HN.out]; exact hlt
        have hps2 : p.size ≤ 100 := by
          rw [HPK.out]
          exact hps _ (by simp [List.getD, hkp])
        have hkc : k < (cutL s.data.toList).length := by rw [← HCUT.out, List.length_map]; exact hkp
        have HGET : Hid ((cutL s.data.toList)[k] = p.data.toList) := by
          have h1 : (cutL s.data.toList)[k]? = some p.data.toList := by
            rw [← HCUT.out, HPK.out]
            simp [List.getD, hkp]
          show _ = _
          rw [List.getElem?_eq_getElem hkc] at h1
          simpa using h1
        cases hnum : numB p.data.toList with
        | none =>
          have HF : Hid (readB s.data.toList = none) := read_none hbig (readAll_stop hkc HA.out (by rw [HGET.out]; exact hnum))
          have hkf : Below w.heap.size w wr := hb1.trans (hbw.mono hb1.size)
          clear hcells HA
          go_wp2_with fail
          refine (l12Num_any p (by omega) _).mono ?_
          rintro e w2 ⟨rfl, rfl⟩
          rw [hnum]
          simp only [numTup]
          clear hx ho hbw
          go_wp2
          go_ret2
          exact ⟨.inr ⟨HF.out, rfl⟩, hkf⟩
        | some x =>
          have HA2 : Hid (readAll ((cutL s.data.toList).take (k + 1)) = some (xs ++ [x])) := readAll_step hkc HA.out (by rw [HGET.out]; exact hnum)
          clear hcells HA
          go_wp2_with fail
          refine (l12Num_any p (by omega) _).mono ?_
          rintro e w2 ⟨rfl, hw2⟩
          rw [hnum, hw2]
          clear hw2 hnum
          simp only [numTup]
          have hs1 : IntsAt (wr.alloc (.cells #[.int .i64 x] 3)) (.slice (some ⟨wr.heap.size, 0, none⟩) 1 1) [x] := (own_lit wr [x] (by simp)).ints
          have ho3 := ho.alloc (.cells #[.int .i64 x] 3)
          have hb3 := hbw.alloc hws (.cells #[.int .i64 x] 3)
          clear hx ho hbw
          go_wp2_with (at_builtin; refine wpList_append_ints rfl (.tmp 31) (.tmp 33) 36 rfl w1.heap.size 3 i0 Tryz.underlying36 hi hz0 hz1 hz2 u5 xs.length _ rfl ho3 (.slice (some ⟨wr.heap.size, 0, none⟩) 1 1) [x] rfl hs1 (by simp; omega) (by simp; omega) ?_; intro v' w3 hown3 hgrow3 _; have hb4 : Below w1.heap.size w1 w3 := hb3.grown hgrow3 (by simp; omega) (fun k hk' => (ho3.lt k hk').1); have ho4 : w3.ownsRow w1.heap.size 3 1 v' (xs ++ [x]).length ((xs ++ [x]).map (Value.int .i64)) := by simpa using hown3)
          clear hown3 hgrow3 ho3 hb3 hs1
          go_wp2
          go_roundw
          case rel => exact ⟨k + 1, xs ++ [x], by omega, by rw [List.length_append, HXK.out]; rfl, by go_num, ho4, hb4, HA2⟩
          case measure => simp [intOf]; omega
      · obtain rfl : k = n := by omega
        have HA2 : Hid (readAll (cutL s.data.toList) = some xs) := by
          have h1 := HA.out
          rw [List.take_of_length_le (by rw [← HCUT.out, List.length_map, HN.out]; exact Nat.le_refl _)] at h1
          exact h1
        have ho3 := own_new (xs := xs) ho (by omega)
        have hkf : Below w.heap.size w wr := hb1.trans (hbw.mono hb1.size)
        have hs1 := hb1.size
        clear HA ho hcells
        cases hok : rowOkB xs with
        | false =>
          have HF : Hid (readB s.data.toList = none) := by
            show _ = _
            rw [read_some hbig HA2.out, hok]; rfl
          go_wp2_with fail
          refine (specRowOk_any _ xs _ ho3.ints).mono ?_
          rintro e w2 ⟨rfl, rfl⟩
          rw [hok]
          clear ho3 hbw
          go_wp2
          go_ret2
          exact ⟨.inr ⟨HF.out, rfl⟩, hkf⟩
        | true =>
          have HF : Hid (readB s.data.toList = some xs) := by
            show _ = _
            rw [read_some hbig HA2.out, hok]; rfl
          have ho4 := ho3.wide hs1 (Nat.le_refl _) (Nat.le_refl _)
          go_wp2_with fail
          refine (specRowOk_any _ xs _ ho3.ints).mono ?_
          rintro e w2 ⟨rfl, rfl⟩
          rw [hok]
          clear ho3 hbw
          go_wp2
          go_ret2
          exact ⟨.inl ⟨xs, _, HF.out, rfl, ho4⟩, hkf⟩

end Go.Proofs.YtkgopbffgahhcaaGreatDoor
