/-
  The contracts of spec.RowRead and impl.RowRead: at every text of at most 2^20 bytes both answer what readB reads: the row in memory of its own, or nothing. Condition for impl: the table of powers of ten reads as it was laid.
-/
import Derived.Test.YtnkhgppfnkglfaaGreatDoorScan
import Derived.Test.YtnkhgppfnkglfaaGreatDoorNum
import Derived.Test.YtnkhgppfnkglfaaGreatDoorCut
import Derived.Test.YtnkhgppfnkglfaaGreatDoorText
namespace Go.Proofs.YtnkhgppfnkglfaaGreatDoor
set_option maxRecDepth 100000
open Go.RowKit

/-- The answer of a RowRead: a row that is read, in blocks of the call's own; or nothing. -/
def ReadEnd (w w' : World) (o : Option (List Int)) (e : Ending) : Prop :=
  (∃ xs v, o = some xs ∧ e = .returned (.tuple #[v, .bool true]) ∧ Own w' w.heap.size w'.heap.size v xs) ∨ (o = none ∧ e = .returned (.tuple #[.slice none 0 0, .bool false]))

theorem wf_ok {xs : List Int} (h : rowOkB xs = true) : WfInts xs := by
  intro x hx
  simp only [rowOkB, Bool.and_eq_true] at h
  have := List.all_eq_true.1 h.2 x hx
  have : -1000000000 ≤ x ∧ x ≤ 1000000000 := by simpa [cellB] using this
  omega
theorem len_ok {xs : List Int} (h : rowOkB xs = true) : xs.length ≤ 6 := by
  simp only [rowOkB, Bool.and_eq_true, decide_eq_true_eq] at h
  exact h.1.2

set_option maxHeartbeats 2000000 in
theorem implRowRead_any (s : ByteArray) (hs : s.size ≤ 1048576) (w : World) (htab : Tab w) :
    Calls Tryz.prog 39 #[.string s] w fun e w' => ReadEnd w w' (readB s.data.toList) e ∧ Below w.heap.size w w' := by
  by_cases hbig : 100 < s.size
  · have hb : (100 : Int) < (s.size : Int) := by omega
    have HR : Hid (readB s.data.toList = none) := by
      show _ = _
      unfold readB
      rw [if_pos (by rw [len_list]; exact hbig)]
    go_enter Tryz.func39, Tryz.ntmps39
    go_wp2
    go_ret2
    exact ⟨.inr ⟨HR.out, rfl⟩, Below.refl _ _⟩
  · have hb : ¬ (100 : Int) < (s.size : Int) := by omega
    have HR : Hid (readB s.data.toList = if rowOkB (scanS s.data.toList [] 0 1) = true ∧ rowTx (scanS s.data.toList [] 0 1) = s.data.toList then some (scanS s.data.toList [] 0 1) else none) := read_same _ (by rw [len_list]; exact hbig)
    obtain ⟨xs, HX⟩ : ∃ xs, Hid (xs = scanS s.data.toList [] 0 1) := ⟨_, Eq.refl _⟩
    rw [← HX.out] at HR
    go_enter Tryz.func39, Tryz.ntmps39
    go_wp2_with fail
    refine (scanRow_any s hs _).mono ?_
    rintro e w1 ⟨v, rfl, ho1, hb1⟩
    rw [← HX.out] at ho1
    cases hok : rowOkB xs with
    | false =>
      have HN : Hid (readB s.data.toList = none) := by
        show _ = _
        rw [HR.out, if_neg (by rw [hok]; simp)]
      go_wp2_with fail
      refine (implRowOk_any _ xs _ ho1.ints).mono ?_
      rintro e w2 ⟨rfl, rfl⟩
      rw [hok]
      clear ho1
      go_wp2
      go_ret2
      exact ⟨.inr ⟨HN.out, rfl⟩, hb1⟩
    | true =>
      have hwf := wf_ok hok
      have hlen := len_ok hok
      go_wp2_with fail
      refine (implRowOk_any _ xs _ ho1.ints).mono ?_
      rintro e w2 ⟨rfl, rfl⟩
      rw [hok]
      go_wp2_with fail
      refine (implRowText_any _ xs _ (htab.below hb1) ho1.ints hwf (by omega)).mono ?_
      rintro e w3 ⟨t, rfl, ht, hb3⟩
      have ho3 := ho1.keep' hb3
      have hk3 : Below w.heap.size w w3 := hb1.trans (hb3.mono hb1.size)
      have hs3 := hb3.size
      by_cases heq : rowTx xs = s.data.toList
      · obtain rfl : t = s := by
          obtain ⟨⟨a⟩⟩ := s
          obtain ⟨⟨b⟩⟩ := t
          simp at ht heq
          rw [ht, heq]
        have HN : Hid (readB t.data.toList = some xs) := by
          show _ = _
          rw [HR.out, if_pos ⟨hok, heq⟩]
        have ho4 := ho3.wide (Nat.le_refl _) hs3 (Nat.le_refl _)
        clear ho1 ho3 hb1 hb3 ht heq hwf
        go_wp2
        go_ret2
        exact ⟨.inl ⟨xs, _, HN.out, rfl, ho4⟩, hk3⟩
      · have HN : Hid (readB s.data.toList = none) := by
          show _ = _
          rw [HR.out, if_neg (fun e => heq e.2)]
        have hne : (t.toList == s.toList) = false := by
          rw [beq_eq_false_iff_ne, ByteArray.toList_eq, ByteArray.toList_eq]
          intro e
          exact heq (by rw [← ht]; exact e)
        clear ho1 ho3 hb1 hb3 ht heq hwf
        go_wp2
        go_ret2
        exact ⟨.inr ⟨HN.out, rfl⟩, hk3⟩

theorem readAll_app : ∀ (a b : List (List UInt8)), readAll (a ++ b) = (readAll a).bind (fun xs => (readAll b).map (xs ++ ·))
  | [], b => by simp [readAll]
  | p :: a, b => by
    have ih := readAll_app a b
    simp only [List.cons_append, readAll, ih]
    cases numB p with
    | none => simp
    | some x =>
      cases readAll a with
      | none => simp
      | some xs => cases readAll b <;> simp
theorem readAll_step {l : List (List UInt8)} {k : Nat} {xs : List Int} {x : Int} (hk : k < l.length) (h : readAll (l.take k) = some xs) (hx : numB l[k] = some x) : readAll (l.take (k + 1)) = some (xs ++ [x]) := by
  rw [List.take_succ_eq_append_getElem hk, readAll_app, h]
  simp [readAll, hx]
theorem readAll_stop {l : List (List UInt8)} {k : Nat} {xs : List Int} (hk : k < l.length) (h : readAll (l.take k) = some xs) (hx : numB l[k] = none) : readAll l = none := by
  have e : l = l.take k ++ l[k] :: l.drop (k + 1) := by
    rw [← List.drop_eq_getElem_cons hk, List.take_append_drop]
  rw [e, readAll_app, h]
  simp [readAll, hx]
theorem read_none {s : ByteArray} (h : ¬ 100 < s.size) (hr : readAll (cutL s.data.toList) = none) : readB s.data.toList = none := by
  unfold readB
  rw [if_neg (by rw [len_list]; exact h), hr]
theorem read_some {s : ByteArray} {xs : List Int} (h : ¬ 100 < s.size) (hr : readAll (cutL s.data.toList) = some xs) : readB s.data.toList = if rowOkB xs = true then some xs else none := by
  unfold readB
  rw [if_neg (by rw [len_list]; exact h), hr]

end Go.Proofs.YtnkhgppfnkglfaaGreatDoor
