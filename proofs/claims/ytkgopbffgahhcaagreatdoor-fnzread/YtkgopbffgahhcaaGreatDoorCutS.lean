/-
  The contract of spec.l12Cut at a blank: at every text of at most 9000 bytes it returns the pieces between the blanks, in memory of its own.
-/
import Derived.Test.YtkgopbffgahhcaaGreatDoorZReadMath
import Derived.Test.YtkgopbffgahhcaaGreatDoorCut
import Derived.Test.YtkgopbffgahhcaaGreatDoorOwn
import Derived.WalkSpells
namespace Go.Proofs.YtkgopbffgahhcaaGreatDoor
open Go.RowKit

/-- What is cut behind k steps, the last piece begun at a. -/
def RestS (l : List UInt8) (a k : Nat) (ps : List (List UInt8)) : Prop :=
  cutS l = ps ++ (if k ≤ l.length then consHead ((l.drop a).take (k - a)) (cutS (l.drop k)) else [])
theorem rest_zeroS (l : List UInt8) : RestS l 0 0 [] := by simp [RestS, consHead_nil (cutS_ne _)]
theorem rest_endS {l : List UInt8} {a k : Nat} {ps : List (List UInt8)} (h : RestS l a k ps) (hk : k = l.length) : RestS l (k + 1) (k + 1) (ps ++ [(l.drop a).take (k - a)]) := by
  unfold RestS at *
  rw [if_pos (by omega), hk, List.drop_length] at h
  rw [if_neg (by omega), h, hk]
  simp [cutS, consHead]
theorem rest_commaS {l : List UInt8} {a k : Nat} {ps : List (List UInt8)} (h : RestS l a k ps) (hk : k < l.length) (hc : l[k] = 32) : RestS l (k + 1) (k + 1) (ps ++ [(l.drop a).take (k - a)]) := by
  unfold RestS at *
  rw [if_pos (by omega), List.drop_eq_getElem_cons hk, hc] at h
  rw [if_pos (by omega), h, Nat.sub_self, List.take_zero, consHead_nil (cutS_ne _)]
  simp [cutS, consHead]
theorem rest_otherS {l : List UInt8} {a k : Nat} {ps : List (List UInt8)} (h : RestS l a k ps) (hk : k < l.length) (hc : l[k] ≠ 32) (ha : a ≤ k) : RestS l a (k + 1) ps := by
  unfold RestS at *
  rw [if_pos (by omega), List.drop_eq_getElem_cons hk, cutS, if_neg hc, consHead_consHead] at h
  rw [if_pos (by omega), h]
  have e1 : k + 1 - a = (k - a) + 1 := by omega
  have hl : k - a < (l.drop a).length := by rw [List.length_drop]; omega
  have e2 : (l.drop a)[k - a] = l[k] := by
    rw [List.getElem_drop]
    congr 1
    omega
  rw [e1, List.take_succ_eq_append_getElem hl, e2]
theorem rest_doneS {l : List UInt8} {a k : Nat} {ps : List (List UInt8)} (h : RestS l a k ps) (hk : l.length < k) : ps = cutS l := by
  unfold RestS at h
  rw [if_neg (by omega), List.append_nil] at h
  exact h.symm

set_option maxHeartbeats 4000000 in
theorem l12CutS_any (s : ByteArray) (hs : s.size ≤ 9000) (w : World) :
    Calls Tryz.prog 58 #[.string s, .int .u8 32] w fun e w' => ∃ v, e = .returned v ∧ ∃ ps : List ByteArray, w'.ownsRow w.heap.size 9 1 v ps.length (ps.map Value.string) ∧ ps.length ≤ 9001 ∧ (∀ p ∈ ps, p.size ≤ 9000) ∧ ps.map (fun p => p.data.toList) = cutS s.data.toList ∧ Below w.heap.size w w' := by
  obtain ⟨i0, hi, hz0, hz1, hz2⟩ := info_parts infoStr
  have ho1 : (w.alloc (.cells #[] 9)).ownsRow w.heap.size 9 1 (.slice (some ⟨w.heap.size, 0, none⟩) 0 0) 0 [] := World.ownsRow_lit w #[] 0 (Nat.le_refl _) (by unfold maxLen; omega) rfl
  have hb1 : Below w.heap.size w (w.alloc (.cells #[] 9)) := (Below.refl _ w).alloc (Nat.le_refl _) _
  go_enter Tryz.func58, Tryz.ntmps58
  go_wp2
  go_loopw [5, 6, 7] (fun v f i wr => ∃ (a k : Nat) (ps : List ByteArray), a ≤ k ∧ k ≤ s.size + 1 ∧ ps.length ≤ k ∧ f = .int .i64 a ∧ i = .int .i64 k ∧ wr.ownsRow w.heap.size 9 1 v ps.length (ps.map Value.string) ∧ Hid (∀ p ∈ ps, p.size ≤ 9000) ∧ Below w.heap.size w wr ∧
      Hid (RestS s.data.toList a k (ps.map (fun p => p.data.toList))))
    (fun _ _ i _ => s.size + 1 - (intOf i).toNat)
  case atStart => exact ⟨0, 0, [], Nat.le_refl _, by omega, by simp, rfl, rfl, ho1, by simp [Hid], hb1, rest_zeroS _⟩
  case round =>
    obtain ⟨a, k, ps, hak, hk, hpl, rfl, rfl, ho, HP, hb, HC⟩ := hrel
    have hws := hb.size
    clear ho1 hb1
    by_cases hle : k ≤ s.size
    · have hkk : (k : Int) ≤ (s.size : Int) := by omega
      by_cases hend : k = s.size
      · have ge : ((k : Int) == (s.size : Int)) = true := by simp [hend]
        have HEND : Hid (k = s.size) := hend
        clear hend
        have HC2 : Hid (RestS s.data.toList (k + 1) (k + 1) ((ps ++ [s.extract a k]).map (fun p => p.data.toList))) := by
          have h1 := rest_endS HC.out (by rw [len_list]; exact HEND.out)
          rw [← piece_list] at h1
          simpa [Hid] using h1
        have HP2 : Hid (∀ p ∈ ps ++ [s.extract a k], p.size ≤ 9000) := by
          intro p hp
          rcases List.mem_append.1 hp with h | h
          · exact HP.out p h
          · have : p = s.extract a k := by simpa using h
            rw [this, ByteArray.size_extract]
            omega
        have ho3 := ho.alloc (.cells #[.string (s.extract a k)] 9)
        have hb3 := hb.alloc hws (.cells #[.string (s.extract a k)] 9)
        clear HC HP ho hb

        go_wp2_with (at_builtin; refine wpList_append_own _ rfl (.tmp 26) (.tmp 31) 85 rfl w.heap.size 9 i0 (.string ⟨#[]⟩) 1 16 Tryz.underlying85 hi hz0 hz1 hz2 rfl (by decide) u5 ps.length _ rfl ho3 ⟨wr.heap.size, 0, none⟩ 1 1 [.string (s.extract a k)] rfl rfl (fun j u hj => by match j, hj with | 0, hj => simp at hj; subst hj; simp [Addr.add]) (fun u hu => by simp at hu; subst hu; rfl) (by unfold maxLen; omega) (by omega) (by simp; omega) ?_; intro v' w2 hown2 hgrow2 _; have hb4 : Below w.heap.size w w2 := hb3.grown hgrow2 (by simp; omega) (fun k hk' => (ho3.lt k hk').1); have ho4 : w2.ownsRow w.heap.size 9 1 v' (ps ++ [s.extract a k]).length ((ps ++ [s.extract a k]).map Value.string) := by simpa using hown2)
        clear hown2 hgrow2 ho3 hb3
        go_wp2
        go_roundw
        case rel => exact ⟨k + 1, k + 1, ps ++ [s.extract a k], Nat.le_refl _, by omega, by simp; omega, by go_num, by go_num, ho4, HP2, hb4, HC2⟩
        case measure => simp [intOf]; omega
      · have hlt : k < s.size := by omega
        have ge : ((k : Int) == (s.size : Int)) = false := by rw [beq_eq_false_iff_ne]; omega
        have hll : k < s.data.toList.length := by rw [len_list]; exact hlt
        have hget : s.data.toList[k] = s[k] := rfl
        by_cases h32 : (s[k]'hlt) = 32
        · have gc : (((s[k]'hlt).toNat : Int) == 32) = true := by rw [h32]; rfl
          have HC2 : Hid (RestS s.data.toList (k + 1) (k + 1) ((ps ++ [s.extract a k]).map (fun p => p.data.toList))) := by
            have h1 := rest_commaS HC.out hll (by rw [hget]; exact h32)
            rw [← piece_list] at h1
            simpa [Hid] using h1
          have HP2 : Hid (∀ p ∈ ps ++ [s.extract a k], p.size ≤ 9000) := by
            intro p hp
            rcases List.mem_append.1 hp with h | h
            · exact HP.out p h
            · have : p = s.extract a k := by simpa using h
              rw [this, ByteArray.size_extract]
              omega
          have ho3 := ho.alloc (.cells #[.string (s.extract a k)] 9)
          have hb3 := hb.alloc hws (.cells #[.string (s.extract a k)] 9)
          clear HC HP ho hb
          clear h32 hget hll hend
          go_wp2_with (at_builtin; refine wpList_append_own _ rfl (.tmp 26) (.tmp 31) 85 rfl w.heap.size 9 i0 (.string ⟨#[]⟩) 1 16 Tryz.underlying85 hi hz0 hz1 hz2 rfl (by decide) u5 ps.length _ rfl ho3 ⟨wr.heap.size, 0, none⟩ 1 1 [.string (s.extract a k)] rfl rfl (fun j u hj => by match j, hj with | 0, hj => simp at hj; subst hj; simp [Addr.add]) (fun u hu => by simp at hu; subst hu; rfl) (by unfold maxLen; omega) (by omega) (by simp; omega) ?_; intro v' w2 hown2 hgrow2 _; have hb4 : Below w.heap.size w w2 := hb3.grown hgrow2 (by simp; omega) (fun k hk' => (ho3.lt k hk').1); have ho4 : w2.ownsRow w.heap.size 9 1 v' (ps ++ [s.extract a k]).length ((ps ++ [s.extract a k]).map Value.string) := by simpa using hown2)
          clear hown2 hgrow2 ho3 hb3
          go_wp2
          go_roundw
          case rel => exact ⟨k + 1, k + 1, ps ++ [s.extract a k], Nat.le_refl _, by omega, by simp; omega, by go_num, by go_num, ho4, HP2, hb4, HC2⟩
          case measure => simp [intOf]; omega
        · have gc : (((s[k]'hlt).toNat : Int) == 32) = false := by
            rw [beq_eq_false_iff_ne]
            intro e
            have e2 : (s[k]'hlt).toNat = (32 : UInt8).toNat := by show _ = 32; omega
            exact h32 (UInt8.toNat_inj.1 e2)
          have HC2 : Hid (RestS s.data.toList a (k + 1) (ps.map (fun p => p.data.toList))) := rest_otherS HC.out hll (by rw [hget]; exact h32) hak
          clear h32 hget hll hend HC
          go_wp2
          go_roundw
          case rel => exact ⟨a, k + 1, ps, by omega, by omega, by omega, rfl, by go_num, ho, HP, hb, HC2⟩
          case measure => simp [intOf]; omega
    · have hkk : ¬ (k : Int) ≤ (s.size : Int) := by omega
      have HF : Hid (ps.map (fun p => p.data.toList) = cutS s.data.toList) := rest_doneS HC.out (by rw [len_list]; omega)
      have hpl2 : ps.length ≤ 9001 := by omega
      clear HC
      go_wp2
      go_ret
      exact ⟨_, rfl, ps, ho, hpl2, HP.out, HF.out, hb⟩

end Go.Proofs.YtkgopbffgahhcaaGreatDoor
