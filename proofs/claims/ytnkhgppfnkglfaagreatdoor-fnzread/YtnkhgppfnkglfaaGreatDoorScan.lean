/-
  The contract of impl.scanRow: at every text of at most 2^20 bytes, valid UTF-8 or not, it returns what scanS gathers, in memory of its own.
-/
import Derived.Test.YtnkhgppfnkglfaaGreatDoorReadMath
import Derived.Test.YtnkhgppfnkglfaaGreatDoorRowOk
import Derived.Test.YtnkhgppfnkglfaaGreatDoorOwn
import Derived.Lib.OthersKept
import Derived.WalkMore
import Derived.Laws.RangeAny
namespace Go.Proofs.YtnkhgppfnkglfaaGreatDoor
open Go.RowKit

theorem iter_grown (w : World) (k : Nat) (s : ByteArray) (p : Nat) : w.grownBy (w.iterAt k s p) (some k) :=
  ⟨rfl, rfl, rfl, by rw [Lib.iterAt_size]; exact Nat.le_refl _, fun j _ hj => Lib.iterAt_other w k j s p (fun e => hj (by rw [e]))⟩
theorem own_iter {w : World} {base k n : Nat} {e : TypeId} {v : Value} {xs : List Value} {s : ByteArray} {p : Nat} (h : w.ownsRow base e 1 v n xs) (hk : w.heap[k]? = some (.stringIter s p)) : v.ownBlock ≠ some k := by
  rcases h.2 with ⟨rfl, _⟩ | ⟨g, cap, cur, rfl, _, hg, _⟩
  · simp [Value.ownBlock]
  · intro e
    simp only [Value.ownBlock, Option.some.injEq] at e
    subst e
    rw [hg] at hk
    simp at hk

theorem drop_at (s : ByteArray) (p : Nat) (h : p < s.size) : s.data.toList.drop p = s[p] :: s.data.toList.drop (p + 1) := by
  rw [List.drop_eq_getElem_cons (by rw [Array.length_toList]; exact h)]
  rfl

set_option maxHeartbeats 4000000 in
set_option maxRecDepth 100000 in
theorem scanRow_any (s : ByteArray) (hs : s.size ≤ 1048576) (w : World) :
    Calls Tryz.prog 56 #[.string s] w fun e w' => ∃ v, e = .returned v ∧ Own w' w.heap.size w'.heap.size v (scanS s.data.toList [] 0 1) ∧ Below w.heap.size w w' := by
  obtain ⟨i0, hi, hz0, hz1, hz2⟩ := info_parts infoInt
  have ho1 : (w.alloc (.cells #[] 3)).ownsRow w.heap.size 3 1 (.slice (some ⟨w.heap.size, 0, none⟩) 0 0) 0 [] := World.ownsRow_lit w #[] 0 (Nat.le_refl _) (by unfold maxLen; omega) rfl
  have hit := World.iter_heap (w.alloc (.cells #[] 3)) s 0
  go_enter Tryz.func56, Tryz.ntmps56
  go_wp2
  go_step3
  go_wp2
  go_step3
  go_wp2
  go_loopw [3, 4, 5] (fun row c sg wr => ∃ (pos : Nat) (xs : List Int) (cv sv : Int), pos ≤ s.size ∧ xs.length ≤ pos ∧ c = .int .i64 cv ∧ sg = .int .i64 sv ∧ 0 ≤ cv ∧ cv ≤ 1000000000 ∧ Hid (sv = 1 ∨ sv = -1) ∧ wr.ownsRow w.heap.size 3 1 row xs.length (xs.map (Value.int .i64)) ∧
      wr.heap[w.heap.size + 1]? = some (.stringIter s pos) ∧ Below w.heap.size w wr ∧ Hid (scanS (s.data.toList.drop pos) xs cv sv = scanS s.data.toList [] 0 1))
    (fun _ _ _ wr => s.size - wr.iterPos (w.heap.size + 1))
  case atStart =>
    refine ⟨0, [], 0, 1, Nat.zero_le _, by simp, rfl, rfl, by omega, by omega, .inl rfl, ?_, ?_, ?_, by simp [Hid]⟩
    · exact ho1.alloc _
    · simpa using hit
    · exact ((Below.refl _ w).alloc (Nat.le_refl _) _).alloc (by simp) _
  case round =>
    obtain ⟨pos, xs, cv, sv, hpos, hxl, rfl, rfl, hc0, hc1, HV, ho, hk, hb, HS⟩ := hrel
    clear ho1 hit
    have hsz : w.heap.size + 1 < wr.heap.size := (Array.getElem?_eq_some_iff.1 hk).1
    by_cases hp : pos < s.size
    · by_cases ha : (s[pos]'hp).toNat < 128
      · have hnx : ∀ ty, (Instr.next (.pointer (some ⟨w.heap.size + 1, 0, none⟩)) true ty).run Tryz.prog wr = _ := fun ty => Lib.run_next_ascii_at wr (w.heap.size + 1) s pos ty hk hp ha
        have hk2 := Lib.iterAt_heap wr (w.heap.size + 1) s pos (pos + 1) hk
        have hb2 := Lib.below_iterAt hb (k := w.heap.size + 1) (by omega) s (pos + 1)
        have ho2 := ho.kept (iter_grown wr (w.heap.size + 1) s (pos + 1)) (.inr (own_iter ho hk))
        have hsz2 : w.heap.size + 1 < (wr.iterAt (w.heap.size + 1) s (pos + 1)).heap.size := by rw [Lib.iterAt_size]; exact hsz
        have HD := drop_at s pos hp
        have HS2 : Hid (scanS (s[pos] :: s.data.toList.drop (pos + 1)) xs cv sv = scanS s.data.toList [] 0 1) := by rw [← HD]; exact HS.out
        have hip : wr.iterPos (w.heap.size + 1) = pos := by simp [World.iterPos, hk]
        clear HD
        generalize hW1 : wr.iterAt (w.heap.size + 1) s (pos + 1) = W1 at *
        have HW : Hid (wr.iterPos (w.heap.size + 1) = pos) := hip
        clear hip hk hb ho HS hW1
        obtain ⟨b, hbe⟩ : ∃ b, b = s[pos] := ⟨_, rfl⟩
        rw [← hbe] at HS2 ha hnx
        clear hbe
        have hip2 : W1.iterPos (w.heap.size + 1) = pos + 1 := by simp [World.iterPos, hk2]
        have HW2 : Hid (W1.iterPos (w.heap.size + 1) = pos + 1) := hip2
        clear hip2
        by_cases hd : isDig b = true
        · have hd2 : 48 ≤ b.toNat ∧ b.toNat ≤ 57 := by simpa [isDig] using hd
          obtain ⟨hd3, hd4⟩ := hd2
          have he : ((b.toNat - 48 : Nat) : Int) = (b.toNat : Int) - 48 := by omega
          have HS4 := HS2.out
          rw [scanS, if_pos hd, he] at HS4
          clear he HS2 hd
          cases hcb : cellB (cv * 10 + ((b.toNat : Int) - 48)) with
          | true =>
            have hcc : cv * 10 + ((b.toNat : Int) - 48) ≤ 1000000000 := by
              have : -1000000000 ≤ cv * 10 + ((b.toNat : Int) - 48) ∧ cv * 10 + ((b.toNat : Int) - 48) ≤ 1000000000 := by simpa [cellB] using hcb
              omega
            rw [if_pos hcb] at HS4
            have HS3 : Hid (scanS (s.data.toList.drop (pos + 1)) xs (cv * 10 + ((b.toNat : Int) - 48)) sv = scanS s.data.toList [] 0 1) := HS4
            have HC : Hid (cellB (cv * 10 + ((b.toNat : Int) - 48)) = true) := hcb
            clear hcb HS4
            go_wp2_with (go_at_call 34; refine (cellFits_any _ _).mono ?_; rintro e w' ⟨rfl, rfl⟩; rw [HC.out])
            go_roundw
            case rel => exact ⟨pos + 1, xs, _, sv, by omega, by omega, rfl, rfl, by omega, hcc, HV, ho2, hk2, hb2, HS3⟩
            case measure => rw [HW.out, HW2.out]; omega
          | false =>
            rw [if_neg (by rw [hcb]; simp)] at HS4
            have HE : Hid (xs ++ [sv * (cv * 10 + ((b.toNat : Int) - 48))] = scanS s.data.toList [] 0 1) := HS4
            have HC : Hid (cellB (cv * 10 + ((b.toNat : Int) - 48)) = false) := hcb
            clear hcb HS4
            rcases HV.out with rfl | rfl
            · have HR : Hid (xs ++ [cv * 10 + ((b.toNat : Int) - 48)] = scanS s.data.toList [] 0 1) := by
                have := HE.out
                rw [Int.one_mul] at this
                exact this
              have hs1 : IntsAt (W1.alloc (.cells #[.int .i64 (cv * 10 + ((b.toNat : Int) - 48))] 3)) (.slice (some ⟨W1.heap.size, 0, none⟩) 1 1) [cv * 10 + ((b.toNat : Int) - 48)] := (own_lit W1 [cv * 10 + ((b.toNat : Int) - 48)] (by simp)).ints
              have ho3 := ho2.alloc (.cells #[.int .i64 (cv * 10 + ((b.toNat : Int) - 48))] 3)
              have hb3 := hb2.alloc (by omega) (.cells #[.int .i64 (cv * 10 + ((b.toNat : Int) - 48))] 3)
              clear HE
              go_wp2_with (first | (go_at_call 34; refine (cellFits_any _ _).mono ?_; rintro e w' ⟨rfl, hw'⟩; rw [HC.out, hw']; clear hw') | (at_builtin; refine wpList_append_ints rfl (.tmp 42) (.tmp 46) 31 rfl w.heap.size 3 i0 Tryz.underlying31 hi hz0 hz1 hz2 u3 xs.length _ rfl ho3 (.slice (some ⟨W1.heap.size, 0, none⟩) 1 1) [cv * 10 + ((b.toNat : Int) - 48)] rfl hs1 (by simp; omega) (by simp; omega) ?_; intro v' w3 hown3 hgrow3 _; have hb4 : Below w.heap.size w w3 := hb3.grown hgrow3 (by simp; omega) (fun k hk' => (ho3.lt k hk').1); have ho4 := own_new (xs := xs ++ [cv * 10 + ((b.toNat : Int) - 48)]) (by simpa using hown3) (by simp; omega); rw [HR.out] at ho4; clear hown3 hgrow3 ho3 hb3 hs1))
              try rw [Exit.noGoto_ret]
              go_ret
              exact ⟨_, rfl, ho4, hb4⟩
            · have HR : Hid (xs ++ [-(cv * 10 + ((b.toNat : Int) - 48))] = scanS s.data.toList [] 0 1) := by
                have := HE.out
                rw [Int.neg_one_mul] at this
                exact this
              have hs1 : IntsAt (W1.alloc (.cells #[.int .i64 (-(cv * 10 + ((b.toNat : Int) - 48)))] 3)) (.slice (some ⟨W1.heap.size, 0, none⟩) 1 1) [-(cv * 10 + ((b.toNat : Int) - 48))] := (own_lit W1 [-(cv * 10 + ((b.toNat : Int) - 48))] (by simp)).ints
              have ho3 := ho2.alloc (.cells #[.int .i64 (-(cv * 10 + ((b.toNat : Int) - 48)))] 3)
              have hb3 := hb2.alloc (by omega) (.cells #[.int .i64 (-(cv * 10 + ((b.toNat : Int) - 48)))] 3)
              clear HE
              go_wp2_with (first | (go_at_call 34; refine (cellFits_any _ _).mono ?_; rintro e w' ⟨rfl, hw'⟩; rw [HC.out, hw']; clear hw') | (at_builtin; refine wpList_append_ints rfl (.tmp 42) (.tmp 46) 31 rfl w.heap.size 3 i0 Tryz.underlying31 hi hz0 hz1 hz2 u3 xs.length _ rfl ho3 (.slice (some ⟨W1.heap.size, 0, none⟩) 1 1) [-(cv * 10 + ((b.toNat : Int) - 48))] rfl hs1 (by simp; omega) (by simp; omega) ?_; intro v' w3 hown3 hgrow3 _; have hb4 : Below w.heap.size w w3 := hb3.grown hgrow3 (by simp; omega) (fun k hk' => (ho3.lt k hk').1); have ho4 := own_new (xs := xs ++ [-(cv * 10 + ((b.toNat : Int) - 48))]) (by simpa using hown3) (by simp; omega); rw [HR.out] at ho4; clear hown3 hgrow3 ho3 hb3 hs1))
              try rw [Exit.noGoto_ret]
              go_ret
              exact ⟨_, rfl, ho4, hb4⟩
        · have hd2 : ¬ (48 ≤ b.toNat ∧ b.toNat ≤ 57) := by simpa [isDig] using hd
          have hrange : (b.toNat : Int) < 48 ∨ 57 < (b.toNat : Int) := by omega
          have HS4 := HS2.out
          rw [scanS, if_neg hd] at HS4
          clear HS2 hd hd2
          by_cases h45 : b = 45
          · rw [if_pos h45] at HS4
            have HS3 : Hid (scanS (s.data.toList.drop (pos + 1)) xs cv (-1) = scanS s.data.toList [] 0 1) := HS4
            subst h45
            clear HS4 hrange
            go_wp2
            go_roundw
            case rel => exact ⟨pos + 1, xs, cv, -1, by omega, by omega, rfl, rfl, hc0, hc1, .inr rfl, ho2, hk2, hb2, HS3⟩
            case measure => rw [HW.out, HW2.out]; omega
          · rw [if_neg h45] at HS4
            by_cases h44 : b = 44
            · rw [if_pos h44] at HS4
              have HS3 : Hid (scanS (s.data.toList.drop (pos + 1)) (xs ++ [sv * cv]) 0 1 = scanS s.data.toList [] 0 1) := HS4
              subst h44
              clear HS4 hrange h45
              rcases HV.out with rfl | rfl
              · have HS5 : Hid (scanS (s.data.toList.drop (pos + 1)) (xs ++ [cv]) 0 1 = scanS s.data.toList [] 0 1) := by
                  have := HS3.out
                  rw [Int.one_mul] at this
                  exact this
                have hs1 : IntsAt (W1.alloc (.cells #[.int .i64 (cv)] 3)) (.slice (some ⟨W1.heap.size, 0, none⟩) 1 1) [cv] := (own_lit W1 [cv] (by simp)).ints
                have ho3 := ho2.alloc (.cells #[.int .i64 (cv)] 3)
                have hb3 := hb2.alloc (by omega) (.cells #[.int .i64 (cv)] 3)
                have hk3 : (W1.alloc (.cells #[.int .i64 (cv)] 3)).heap[w.heap.size + 1]? = some (.stringIter s (pos + 1)) := (Below.heap_alloc W1 _ _ (by omega)).trans hk2
                clear HS3
                go_wp2_with (at_builtin; refine wpList_append_ints rfl (.tmp 36) (.tmp 40) 31 rfl w.heap.size 3 i0 Tryz.underlying31 hi hz0 hz1 hz2 u3 xs.length _ rfl ho3 (.slice (some ⟨W1.heap.size, 0, none⟩) 1 1) [cv] rfl hs1 (by simp; omega) (by simp; omega) ?_; intro v' w3 hown3 hgrow3 _; have hb4 : Below w.heap.size w w3 := hb3.grown hgrow3 (by simp; omega) (fun k hk' => (ho3.lt k hk').1); have hk4 : w3.heap[w.heap.size + 1]? = some (.stringIter s (pos + 1)) := (hgrow3.block _ (by simp; omega) (fun e => own_iter ho3 hk3 e.symm)).trans hk3; have ho4 : w3.ownsRow w.heap.size 3 1 v' (xs ++ [cv]).length ((xs ++ [cv]).map (Value.int .i64)) := by simpa using hown3)
                have hip3 : w3.iterPos (w.heap.size + 1) = pos + 1 := by simp [World.iterPos, hk4]
                have HW3 : Hid (w3.iterPos (w.heap.size + 1) = pos + 1) := hip3
                clear hown3 hgrow3 ho3 hb3 hs1 hip3
                go_wp2
                go_roundw
                case rel => exact ⟨pos + 1, xs ++ [cv], 0, 1, by omega, by simp; omega, rfl, rfl, by omega, by omega, .inl rfl, ho4, hk4, hb4, HS5⟩
                case measure => rw [HW.out, HW3.out]; omega
              · have HS5 : Hid (scanS (s.data.toList.drop (pos + 1)) (xs ++ [-cv]) 0 1 = scanS s.data.toList [] 0 1) := by
                  have := HS3.out
                  rw [Int.neg_one_mul] at this
                  exact this
                have hs1 : IntsAt (W1.alloc (.cells #[.int .i64 (-cv)] 3)) (.slice (some ⟨W1.heap.size, 0, none⟩) 1 1) [-cv] := (own_lit W1 [-cv] (by simp)).ints
                have ho3 := ho2.alloc (.cells #[.int .i64 (-cv)] 3)
                have hb3 := hb2.alloc (by omega) (.cells #[.int .i64 (-cv)] 3)
                have hk3 : (W1.alloc (.cells #[.int .i64 (-cv)] 3)).heap[w.heap.size + 1]? = some (.stringIter s (pos + 1)) := (Below.heap_alloc W1 _ _ (by omega)).trans hk2
                clear HS3
                go_wp2_with (at_builtin; refine wpList_append_ints rfl (.tmp 36) (.tmp 40) 31 rfl w.heap.size 3 i0 Tryz.underlying31 hi hz0 hz1 hz2 u3 xs.length _ rfl ho3 (.slice (some ⟨W1.heap.size, 0, none⟩) 1 1) [-cv] rfl hs1 (by simp; omega) (by simp; omega) ?_; intro v' w3 hown3 hgrow3 _; have hb4 : Below w.heap.size w w3 := hb3.grown hgrow3 (by simp; omega) (fun k hk' => (ho3.lt k hk').1); have hk4 : w3.heap[w.heap.size + 1]? = some (.stringIter s (pos + 1)) := (hgrow3.block _ (by simp; omega) (fun e => own_iter ho3 hk3 e.symm)).trans hk3; have ho4 : w3.ownsRow w.heap.size 3 1 v' (xs ++ [-cv]).length ((xs ++ [-cv]).map (Value.int .i64)) := by simpa using hown3)
                have hip3 : w3.iterPos (w.heap.size + 1) = pos + 1 := by simp [World.iterPos, hk4]
                have HW3 : Hid (w3.iterPos (w.heap.size + 1) = pos + 1) := hip3
                clear hown3 hgrow3 ho3 hb3 hs1 hip3
                go_wp2
                go_roundw
                case rel => exact ⟨pos + 1, xs ++ [-cv], 0, 1, by omega, by simp; omega, rfl, rfl, by omega, by omega, .inl rfl, ho4, hk4, hb4, HS5⟩
                case measure => rw [HW.out, HW3.out]; omega
            · rw [if_neg h44] at HS4
              have HE : Hid (xs ++ [sv * cv] = scanS s.data.toList [] 0 1) := HS4
              have g45 : ((b.toNat : Int) == 45) = false := by
                rw [beq_eq_false_iff_ne]
                intro e
                have e2 : b.toNat = (45 : UInt8).toNat := by show b.toNat = 45; omega
                exact h45 (UInt8.toNat_inj.1 e2)
              have g44 : ((b.toNat : Int) == 44) = false := by
                rw [beq_eq_false_iff_ne]
                intro e
                have e2 : b.toNat = (44 : UInt8).toNat := by show b.toNat = 44; omega
                exact h44 (UInt8.toNat_inj.1 e2)
              clear HS4 h45 h44
              rcases hrange with hra | hra
              · rcases HV.out with rfl | rfl
                · have HR : Hid (xs ++ [cv] = scanS s.data.toList [] 0 1) := by
                    have := HE.out
                    rw [Int.one_mul] at this
                    exact this
                  have hs1 : IntsAt (W1.alloc (.cells #[.int .i64 (cv)] 3)) (.slice (some ⟨W1.heap.size, 0, none⟩) 1 1) [cv] := (own_lit W1 [cv] (by simp)).ints
                  have ho3 := ho2.alloc (.cells #[.int .i64 (cv)] 3)
                  have hb3 := hb2.alloc (by omega) (.cells #[.int .i64 (cv)] 3)
                  clear HE
                  go_wp2_with (first | (at_builtin; refine wpList_append_ints rfl (.tmp 42) (.tmp 46) 31 rfl w.heap.size 3 i0 Tryz.underlying31 hi hz0 hz1 hz2 u3 xs.length _ rfl ho3 (.slice (some ⟨W1.heap.size, 0, none⟩) 1 1) [cv] rfl hs1 (by simp; omega) (by simp; omega) ?_; intro v' w3 hown3 hgrow3 _; have hb4 : Below w.heap.size w w3 := hb3.grown hgrow3 (by simp; omega) (fun k hk' => (ho3.lt k hk').1); have ho4 := own_new (xs := xs ++ [cv]) (by simpa using hown3) (by simp; omega); rw [HR.out] at ho4; clear hown3 hgrow3 ho3 hb3 hs1))
                  try rw [Exit.noGoto_ret]
                  go_ret
                  exact ⟨_, rfl, ho4, hb4⟩
                · have HR : Hid (xs ++ [-cv] = scanS s.data.toList [] 0 1) := by
                    have := HE.out
                    rw [Int.neg_one_mul] at this
                    exact this
                  have hs1 : IntsAt (W1.alloc (.cells #[.int .i64 (-cv)] 3)) (.slice (some ⟨W1.heap.size, 0, none⟩) 1 1) [-cv] := (own_lit W1 [-cv] (by simp)).ints
                  have ho3 := ho2.alloc (.cells #[.int .i64 (-cv)] 3)
                  have hb3 := hb2.alloc (by omega) (.cells #[.int .i64 (-cv)] 3)
                  clear HE
                  go_wp2_with (first | (at_builtin; refine wpList_append_ints rfl (.tmp 42) (.tmp 46) 31 rfl w.heap.size 3 i0 Tryz.underlying31 hi hz0 hz1 hz2 u3 xs.length _ rfl ho3 (.slice (some ⟨W1.heap.size, 0, none⟩) 1 1) [-cv] rfl hs1 (by simp; omega) (by simp; omega) ?_; intro v' w3 hown3 hgrow3 _; have hb4 : Below w.heap.size w w3 := hb3.grown hgrow3 (by simp; omega) (fun k hk' => (ho3.lt k hk').1); have ho4 := own_new (xs := xs ++ [-cv]) (by simpa using hown3) (by simp; omega); rw [HR.out] at ho4; clear hown3 hgrow3 ho3 hb3 hs1))
                  try rw [Exit.noGoto_ret]
                  go_ret
                  exact ⟨_, rfl, ho4, hb4⟩
              · rcases HV.out with rfl | rfl
                · have HR : Hid (xs ++ [cv] = scanS s.data.toList [] 0 1) := by
                    have := HE.out
                    rw [Int.one_mul] at this
                    exact this
                  have hs1 : IntsAt (W1.alloc (.cells #[.int .i64 (cv)] 3)) (.slice (some ⟨W1.heap.size, 0, none⟩) 1 1) [cv] := (own_lit W1 [cv] (by simp)).ints
                  have ho3 := ho2.alloc (.cells #[.int .i64 (cv)] 3)
                  have hb3 := hb2.alloc (by omega) (.cells #[.int .i64 (cv)] 3)
                  clear HE
                  go_wp2_with (first | (at_builtin; refine wpList_append_ints rfl (.tmp 42) (.tmp 46) 31 rfl w.heap.size 3 i0 Tryz.underlying31 hi hz0 hz1 hz2 u3 xs.length _ rfl ho3 (.slice (some ⟨W1.heap.size, 0, none⟩) 1 1) [cv] rfl hs1 (by simp; omega) (by simp; omega) ?_; intro v' w3 hown3 hgrow3 _; have hb4 : Below w.heap.size w w3 := hb3.grown hgrow3 (by simp; omega) (fun k hk' => (ho3.lt k hk').1); have ho4 := own_new (xs := xs ++ [cv]) (by simpa using hown3) (by simp; omega); rw [HR.out] at ho4; clear hown3 hgrow3 ho3 hb3 hs1))
                  try rw [Exit.noGoto_ret]
                  go_ret
                  exact ⟨_, rfl, ho4, hb4⟩
                · have HR : Hid (xs ++ [-cv] = scanS s.data.toList [] 0 1) := by
                    have := HE.out
                    rw [Int.neg_one_mul] at this
                    exact this
                  have hs1 : IntsAt (W1.alloc (.cells #[.int .i64 (-cv)] 3)) (.slice (some ⟨W1.heap.size, 0, none⟩) 1 1) [-cv] := (own_lit W1 [-cv] (by simp)).ints
                  have ho3 := ho2.alloc (.cells #[.int .i64 (-cv)] 3)
                  have hb3 := hb2.alloc (by omega) (.cells #[.int .i64 (-cv)] 3)
                  clear HE
                  go_wp2_with (first | (at_builtin; refine wpList_append_ints rfl (.tmp 42) (.tmp 46) 31 rfl w.heap.size 3 i0 Tryz.underlying31 hi hz0 hz1 hz2 u3 xs.length _ rfl ho3 (.slice (some ⟨W1.heap.size, 0, none⟩) 1 1) [-cv] rfl hs1 (by simp; omega) (by simp; omega) ?_; intro v' w3 hown3 hgrow3 _; have hb4 : Below w.heap.size w w3 := hb3.grown hgrow3 (by simp; omega) (fun k hk' => (ho3.lt k hk').1); have ho4 := own_new (xs := xs ++ [-cv]) (by simpa using hown3) (by simp; omega); rw [HR.out] at ho4; clear hown3 hgrow3 ho3 hb3 hs1))
                  try rw [Exit.noGoto_ret]
                  go_ret
                  exact ⟨_, rfl, ho4, hb4⟩
      · have hhi := (decode_high s pos hp (by omega)).1
        have hle := (decode_le s pos)
        have hnx : ∀ ty, (Instr.next (.pointer (some ⟨w.heap.size + 1, 0, none⟩)) true ty).run Tryz.prog wr = _ := fun ty => Lib.run_next_any_at wr (w.heap.size + 1) s pos ty hk hp
        have hb2 := Lib.below_iterAt hb (k := w.heap.size + 1) (by omega) s (pos + (Utf8.decode s pos).2)
        have ho2 := ho.kept (iter_grown wr (w.heap.size + 1) s (pos + (Utf8.decode s pos).2)) (.inr (own_iter ho hk))
        have hsz2 : w.heap.size + 1 < (wr.iterAt (w.heap.size + 1) s (pos + (Utf8.decode s pos).2)).heap.size := by rw [Lib.iterAt_size]; exact hsz
        have HE : Hid (xs ++ [sv * cv] = scanS s.data.toList [] 0 1) := by
          have h1 := HS.out
          rw [drop_at s pos hp] at h1
          have n1 : ¬ isDig s[pos] = true := by
            intro e
            have : 48 ≤ (s[pos]'hp).toNat ∧ (s[pos]'hp).toNat ≤ 57 := by simpa [isDig] using e
            omega
          have n2 : ¬ s[pos] = 45 := fun e => ha (by rw [e]; decide)
          have n3 : ¬ s[pos] = 44 := fun e => ha (by rw [e]; decide)
          rw [scanS, if_neg n1, if_neg n2, if_neg n3] at h1
          exact h1
        generalize hW1 : wr.iterAt (w.heap.size + 1) s (pos + (Utf8.decode s pos).2) = W1 at *
        generalize hR : ((Utf8.decode s pos).1) = R at *
        clear hk hb ho HS hW1 hR
        have g48 : ¬ (R : Int) ≤ 57 := by omega
        have g45 : ((R : Int) == 45) = false := by simp only [beq_eq_false_iff_ne]; omega
        have g44 : ((R : Int) == 44) = false := by simp only [beq_eq_false_iff_ne]; omega
        rcases HV.out with rfl | rfl
        · have HR : Hid (xs ++ [cv] = scanS s.data.toList [] 0 1) := by
            have := HE.out
            rw [Int.one_mul] at this
            exact this
          have hs1 : IntsAt (W1.alloc (.cells #[.int .i64 (cv)] 3)) (.slice (some ⟨W1.heap.size, 0, none⟩) 1 1) [cv] := (own_lit W1 [cv] (by simp)).ints
          have ho3 := ho2.alloc (.cells #[.int .i64 (cv)] 3)
          have hb3 := hb2.alloc (by omega) (.cells #[.int .i64 (cv)] 3)
          clear HE
          go_wp2_with (first | (at_builtin; refine wpList_append_ints rfl (.tmp 42) (.tmp 46) 31 rfl w.heap.size 3 i0 Tryz.underlying31 hi hz0 hz1 hz2 u3 xs.length _ rfl ho3 (.slice (some ⟨W1.heap.size, 0, none⟩) 1 1) [cv] rfl hs1 (by simp; omega) (by simp; omega) ?_; intro v' w3 hown3 hgrow3 _; have hb4 : Below w.heap.size w w3 := hb3.grown hgrow3 (by simp; omega) (fun k hk' => (ho3.lt k hk').1); have ho4 := own_new (xs := xs ++ [cv]) (by simpa using hown3) (by simp; omega); rw [HR.out] at ho4; clear hown3 hgrow3 ho3 hb3 hs1))
          try rw [Exit.noGoto_ret]
          go_ret
          exact ⟨_, rfl, ho4, hb4⟩
        · have HR : Hid (xs ++ [-cv] = scanS s.data.toList [] 0 1) := by
            have := HE.out
            rw [Int.neg_one_mul] at this
            exact this
          have hs1 : IntsAt (W1.alloc (.cells #[.int .i64 (-cv)] 3)) (.slice (some ⟨W1.heap.size, 0, none⟩) 1 1) [-cv] := (own_lit W1 [-cv] (by simp)).ints
          have ho3 := ho2.alloc (.cells #[.int .i64 (-cv)] 3)
          have hb3 := hb2.alloc (by omega) (.cells #[.int .i64 (-cv)] 3)
          clear HE
          go_wp2_with (first | (at_builtin; refine wpList_append_ints rfl (.tmp 42) (.tmp 46) 31 rfl w.heap.size 3 i0 Tryz.underlying31 hi hz0 hz1 hz2 u3 xs.length _ rfl ho3 (.slice (some ⟨W1.heap.size, 0, none⟩) 1 1) [-cv] rfl hs1 (by simp; omega) (by simp; omega) ?_; intro v' w3 hown3 hgrow3 _; have hb4 : Below w.heap.size w w3 := hb3.grown hgrow3 (by simp; omega) (fun k hk' => (ho3.lt k hk').1); have ho4 := own_new (xs := xs ++ [-cv]) (by simpa using hown3) (by simp; omega); rw [HR.out] at ho4; clear hown3 hgrow3 ho3 hb3 hs1))
          try rw [Exit.noGoto_ret]
          go_ret
          exact ⟨_, rfl, ho4, hb4⟩
    · obtain rfl : pos = s.size := by omega
      have hnx : ∀ ty, (Instr.next (.pointer (some ⟨w.heap.size + 1, 0, none⟩)) true ty).run Tryz.prog wr = _ := fun ty => Lib.run_next_end_at wr (w.heap.size + 1) s s.size ty hk hp
      have ho2 := ho
      have hb2 := hb
      have HE : Hid (xs ++ [sv * cv] = scanS s.data.toList [] 0 1) := by
        have h1 := HS.out
        rw [List.drop_eq_nil_iff.2 (by rw [Array.length_toList]; exact Nat.le_refl _), scanS] at h1
        exact h1
      clear ho hb HS hk
      rcases HV.out with rfl | rfl
      · have HR : Hid (xs ++ [cv] = scanS s.data.toList [] 0 1) := by
          have := HE.out
          rw [Int.one_mul] at this
          exact this
        have hs1 : IntsAt (wr.alloc (.cells #[.int .i64 (cv)] 3)) (.slice (some ⟨wr.heap.size, 0, none⟩) 1 1) [cv] := (own_lit wr [cv] (by simp)).ints
        have ho3 := ho2.alloc (.cells #[.int .i64 (cv)] 3)
        have hb3 := hb2.alloc (by omega) (.cells #[.int .i64 (cv)] 3)
        clear HE
        go_wp2_with (first | (at_builtin; refine wpList_append_ints rfl (.tmp 42) (.tmp 46) 31 rfl w.heap.size 3 i0 Tryz.underlying31 hi hz0 hz1 hz2 u3 xs.length _ rfl ho3 (.slice (some ⟨wr.heap.size, 0, none⟩) 1 1) [cv] rfl hs1 (by simp; omega) (by simp; omega) ?_; intro v' w3 hown3 hgrow3 _; have hb4 : Below w.heap.size w w3 := hb3.grown hgrow3 (by simp; omega) (fun k hk' => (ho3.lt k hk').1); have ho4 := own_new (xs := xs ++ [cv]) (by simpa using hown3) (by simp; omega); rw [HR.out] at ho4; clear hown3 hgrow3 ho3 hb3 hs1))
        try rw [Exit.noGoto_ret]
        go_ret
        exact ⟨_, rfl, ho4, hb4⟩
      · have HR : Hid (xs ++ [-cv] = scanS s.data.toList [] 0 1) := by
          have := HE.out
          rw [Int.neg_one_mul] at this
          exact this
        have hs1 : IntsAt (wr.alloc (.cells #[.int .i64 (-cv)] 3)) (.slice (some ⟨wr.heap.size, 0, none⟩) 1 1) [-cv] := (own_lit wr [-cv] (by simp)).ints
        have ho3 := ho2.alloc (.cells #[.int .i64 (-cv)] 3)
        have hb3 := hb2.alloc (by omega) (.cells #[.int .i64 (-cv)] 3)
        clear HE
        go_wp2_with (first | (at_builtin; refine wpList_append_ints rfl (.tmp 42) (.tmp 46) 31 rfl w.heap.size 3 i0 Tryz.underlying31 hi hz0 hz1 hz2 u3 xs.length _ rfl ho3 (.slice (some ⟨wr.heap.size, 0, none⟩) 1 1) [-cv] rfl hs1 (by simp; omega) (by simp; omega) ?_; intro v' w3 hown3 hgrow3 _; have hb4 : Below w.heap.size w w3 := hb3.grown hgrow3 (by simp; omega) (fun k hk' => (ho3.lt k hk').1); have ho4 := own_new (xs := xs ++ [-cv]) (by simpa using hown3) (by simp; omega); rw [HR.out] at ho4; clear hown3 hgrow3 ho3 hb3 hs1))
        try rw [Exit.noGoto_ret]
        go_ret
        exact ⟨_, rfl, ho4, hb4⟩

end Go.Proofs.YtnkhgppfnkglfaaGreatDoor
