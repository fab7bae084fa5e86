/-
  The contracts of spec.RowText and impl.RowText: at every int slice of at most 2^20 elements both return the row's text, and write nothing that was there. Condition: the table of powers of ten reads as it was laid (strconv.Itoa reads it).
-/
import Derived.Test.YtflbdfpgaeeleaaGreatDoorTextMath
import Derived.Test.YtflbdfpgaeeleaaGreatDoorBld
import Derived.Test.YtflbdfpgaeeleaaGreatDoorShelf
import Derived.Lib.AppendIntMem
import Derived.Lib.ItoaLen
namespace Go.Proofs.YtflbdfpgaeeleaaGreatDoor
set_option maxRecDepth 100000
open Go.RowKit

theorem size_list (s : ByteArray) : s.data.toList.length = s.size := by rw [Array.length_toList]; rfl

/-- The table of powers of ten reads as it was laid. -/
def Tab (w : World) : Prop := Lib.TabIs Tryz.prog w "internal/strconv.uint64pow10" .u64 Lib.pow10Tab
theorem Tab.below {w w' : World} (h : Tab w) (hb : Below w.heap.size w w') : Tab w' := Lib.tabBelow_of_tabIs h w' hb

theorem itoa_any (n : Int) (w : World) (h : -9223372036854775808 ≤ n ∧ n ≤ 9223372036854775807) (ht : Tab w) :
    Calls Tryz.prog 93 #[.int .i64 n] w fun e w' => ∃ s : ByteArray, e = .returned (.string s) ∧ s.data.toList = Lib.itoa n ∧ Below w.heap.size w w' := by
  refine (Tryz.strconv_Itoa n h.1 h.2 w ht).mono fun e w' ⟨he, k, os, hw⟩ => ⟨_, he, rfl, ?_⟩
  rw [hw]
  exact Lib.below_grow _ _ (Nat.le_refl _) _ _

/-- A builder stays one while every block that was there stands. -/
theorem bld_below {w w' : World} {B b : Nat} {bs : List Value} (h : Lib.IsBuilder 133 5 B b bs w) (hb : Below w.heap.size w w') : Lib.IsBuilder 133 5 B b bs w' := by
  have one : ∀ {p : Value}, Lib.BuilderAt 133 5 B b p bs w → Lib.BuilderAt 133 5 B b p bs w' := by
    rintro p ⟨hB, v, hbk, hown, hne⟩
    refine ⟨hB, v, (hb.block b (Array.getElem?_eq_some_iff.1 hbk).1).trans hbk, ?_, hne⟩
    exact hown.kept (row := none) ⟨hb.os, hb.tape, hb.output, hb.size, fun k hk _ => hb.block k hk⟩ (by
      cases v.ownBlock with
      | none => exact .inl rfl
      | some k => exact .inr (by simp))
  rcases h with h | h
  · exact .inl (one h)
  · exact .inr (one h)

set_option maxHeartbeats 2000000 in
theorem implRowText_some (b off cap : Nat) (xs : List Int) (w : World) (htab : Tab w) (hwf : WfInts xs) (hpos : 0 < xs.length) (hlim : xs.length ≤ 1048576) (hbw : b < w.heap.size)
    (hc : ∀ j, j < xs.length → w.cell? ⟨b, off + j, none⟩ = some (.int .i64 (xs.getD j 0))) :
    Calls Tryz.prog 73 #[.slice (some ⟨b, off, none⟩) xs.length cap] w fun e w' => ∃ s : ByteArray, e = .returned (.string s) ∧ s.data.toList = rowTx xs ∧ Below w.heap.size w w' := by
  obtain ⟨n, hn⟩ : ∃ n, n = xs.length := ⟨_, rfl⟩
  have HN : Hid (n = xs.length) := hn
  rw [← hn] at hpos hlim hc ⊢
  clear hn
  have hfr := Lib.fresh_isBuilder 133 5 w
  go_enter Tryz.func73, Tryz.ntmps73
  go_wp2
  go_loopw [8] (fun i wr => ∃ (k : Nat), k ≤ n ∧ i = .int .i64 k ∧ BldAt wr w.heap.size w.heap.size (rowTx (xs.take k)) ∧ Below w.heap.size w wr)
    (fun i _ => n - (intOf i).toNat)
  case atStart => exact ⟨0, Nat.zero_le _, rfl, by simpa [BldAt, rowTx, Lib.byteCells] using hfr, (Below.refl _ _).alloc (Nat.le_refl _) _⟩
  case round =>
    obtain ⟨k, hk, rfl, hbl, hb⟩ := hrel
    clear hfr
    have hws := hb.size
    by_cases hlt : k < n
    · have hx : wr.cell? ⟨b, off + k, none⟩ = some (.int .i64 (xs.getD k 0)) := (hb.cell (p := ⟨b, off + k, none⟩) hbw).trans (hc k hlt)
      have hkx : k < xs.length := by rw [← HN.out]; exact hlt
      have hlen := rowTx_le _ (wf_take hwf k)
      have HW : Hid (-9223372036854775808 ≤ xs.getD k 0 ∧ xs.getD k 0 ≤ 9223372036854775807) := wf_at hwf hkx
      have HL : Hid ((rowTx (xs.take k)).length ≤ 22 * k) := by
        have : (xs.take k).length ≤ k := List.length_take_le _ _
        show _ ≤ _
        omega
      obtain ⟨x, HX⟩ : ∃ x, Hid (x = xs.getD k 0) := ⟨_, rfl⟩
      rw [← HX.out] at hx HW
      clear hlen hc
      by_cases hk0 : 0 < k
      · have hkk : (0 : Int) < (k : Int) := by omega
        have HR : Hid (rowTx (xs.take (k + 1)) = rowTx (xs.take k) ++ 44 :: Lib.itoa x) := by rw [HX.out]; exact rowTx_next hkx hk0
        go_wp2_with fail
        refine (writeByte_any _ _ _ _ _ hbl (by have := HL.out; simp [Lib.byteCells]; omega) hws).mono ?_
        rintro e w1 ⟨rfl, hbl1, hb1⟩
        have ht1 := htab.below (hb.trans hb1)
        have hk1 : Below w.heap.size w w1 := hb.trans hb1
        clear hbl hb hb1 hx
        go_wp2_with fail
        refine (itoa_any _ _ HW.out ht1).mono ?_
        rintro e w2 ⟨t, rfl, ht, hb2⟩
        have hbl2 := bld_below hbl1 hb2
        have hk2 : Below w.heap.size w w2 := hk1.trans (hb2.mono hk1.size)
        have htz : t.size ≤ 21 := by
          rw [← size_list, ht]; exact Lib.itoa_length_le _ HW.out.1 HW.out.2
        have HT : Hid (t.data.toList = Lib.itoa x) := ht
        have hs2 := hk2.size
        clear hbl1 ht1 hk1 hb2 ht
        go_wp2_with fail
        refine (writeString_any _ _ _ _ _ hbl2 (by have := HL.out; simp [Lib.byteCells]; omega) hs2).mono ?_
        rintro e w3 ⟨rfl, hbl3, hb3⟩
        have hbl4 : BldAt w3 w.heap.size w.heap.size (rowTx (xs.take (k + 1))) := by
          have h1 : Lib.byteCells (rowTx (xs.take (k + 1))) = Lib.byteCells (rowTx (xs.take k)) ++ [.int .u8 44] ++ Lib.strCells t := by
            rw [HR.out, ← HT.out]; simp [Lib.byteCells, Lib.strCells]
          unfold BldAt
          rw [h1]
          exact hbl3
        have hk3 : Below w.heap.size w w3 := hk2.trans hb3
        clear hbl2 hbl3 hb3 hk2
        go_wp2
        go_roundw
        case rel => exact ⟨k + 1, by omega, by go_num, hbl4, hk3⟩
        case measure => simp [intOf]; omega
      · have HK : Hid (k = 0) := by show k = 0; omega
        have hkk : ¬ (0 : Int) < (k : Int) := by omega
        have HR : Hid (rowTx (xs.take (k + 1)) = Lib.itoa x) := by
          have h1 := rowTx_first (xs := xs) (by omega)
          have h2 := HX.out
          rw [HK.out] at h2 ⊢
          rw [h2]; exact h1
        have ht1 := htab.below hb
        have hbl0 : Lib.IsBuilder 133 5 w.heap.size w.heap.size [] wr := by
          have := hbl
          unfold BldAt at this
          rw [HK.out] at this
          simpa [rowTx, Lib.byteCells] using this
        go_wp2_with fail
        refine (itoa_any _ _ HW.out ht1).mono ?_
        rintro e w2 ⟨t, rfl, ht, hb2⟩
        have hbl2 := bld_below hbl0 hb2
        have hk2 : Below w.heap.size w w2 := hb.trans (hb2.mono hb.size)
        have htz : t.size ≤ 21 := by
          rw [← size_list, ht]; exact Lib.itoa_length_le _ HW.out.1 HW.out.2
        have HT : Hid (t.data.toList = Lib.itoa x) := ht
        have hs2 := hk2.size
        clear hbl hbl0 ht1 hb hb2 ht
        go_wp2_with fail
        refine (writeString_any _ _ _ _ _ hbl2 (by simp; omega) hs2).mono ?_
        rintro e w3 ⟨rfl, hbl3, hb3⟩
        have hbl4 : BldAt w3 w.heap.size w.heap.size (rowTx (xs.take (k + 1))) := by
          have h1 : Lib.byteCells (rowTx (xs.take (k + 1))) = [] ++ Lib.strCells t := by
            rw [HR.out, ← HT.out]; simp [Lib.byteCells, Lib.strCells]
          unfold BldAt
          rw [h1]
          exact hbl3
        have hk3 : Below w.heap.size w w3 := hk2.trans hb3
        clear hbl2 hbl3 hb3 hk2
        go_wp2
        go_roundw
        case rel => exact ⟨k + 1, by omega, by go_num, hbl4, hk3⟩
        case measure => simp [intOf]; omega
    · have e : k = n := by omega
      subst e
      have hbl2 : BldAt wr w.heap.size w.heap.size (rowTx xs) := by
        have := hbl
        rw [HN.out, List.take_length] at this
        exact this
      clear hc hbl
      go_wp2_with fail
      refine (Tryz.Builder_String_any _ _ _ _ hbl2 hws).mono ?_
      rintro e w1 ⟨rfl, hb1⟩
      have hk1 : Below w.heap.size w w1 := hb.trans hb1
      clear hbl2 hb hb1
      go_wp2
      go_ret
      exact ⟨_, rfl, rfl, hk1⟩

theorem implRowText_none (a : Option Addr) (cap : Nat) (w : World) :
    Calls Tryz.prog 73 #[.slice a 0 cap] w fun e w' => ∃ s : ByteArray, e = .returned (.string s) ∧ s.data.toList = rowTx [] ∧ Below w.heap.size w w' := by
  have hfr := Lib.fresh_isBuilder 133 5 w
  have hb : Below w.heap.size w (w.alloc (.cells #[.pointer none, .slice none 0 0] 133)) := (Below.refl _ _).alloc (Nat.le_refl _) _
  go_enter Tryz.func73, Tryz.ntmps73
  go_wp2
  refine wp_loop_rounds 1 ?_
  rw [rounds_succ]
  go_wp2_with fail
  refine (Tryz.Builder_String_empty _ _ _ hfr (by simp)).mono ?_
  rintro e w1 ⟨rfl, hb1⟩
  have hk1 : Below w.heap.size w w1 := hb.trans hb1
  clear hfr hb hb1
  go_wp2
  go_ret
  exact ⟨_, rfl, rfl, hk1⟩

theorem implRowText_any (v : Value) (xs : List Int) (w : World) (htab : Tab w) (h : IntsAt w v xs) (hwf : WfInts xs) (hlim : xs.length ≤ 1048576) :
    Calls Tryz.prog 73 #[v] w fun e w' => ∃ s : ByteArray, e = .returned (.string s) ∧ s.data.toList = rowTx xs ∧ Below w.heap.size w w' := by
  rcases h.cases with ⟨a, cap, rfl, rfl⟩ | ⟨b, off, cap, hpos, _, rfl, hbw, hc⟩
  · exact implRowText_none a cap w
  · exact implRowText_some b off cap xs w htab hwf hpos hlim hbw hc

end Go.Proofs.YtflbdfpgaeeleaaGreatDoor
