/-
  The contract of spec.l12Num: at every text of at most 2^20 bytes it reads what numB reads, and the memory is as it was.
-/
import Derived.Test.YtkgopbffgahhcaaGreatDoorReadMath
import Derived.WalkLawsBesides
import Derived.WalkSpells
namespace Go.Proofs.YtkgopbffgahhcaaGreatDoor
open Go.RowKit

/-- What l12Num hands back. -/
def numTup : Option Int → Value
  | some x => .tuple #[.int .i64 x, .bool true]
  | none => .tuple #[.int .i64 0, .bool false]

theorem val_lt : ∀ (n : Nat) (l : List UInt8), l.length = n → l.all isDig = true → decVal l < 10 ^ n
  | 0, l, h, _ => by
    have : l = [] := List.length_eq_zero_iff.1 h
    subst this; simp [decVal]
  | n + 1, l, h, hd => by
    have hne : l ≠ [] := by intro e; subst e; simp at h
    obtain ⟨i, c, rfl⟩ : ∃ i c, l = i ++ [c] := ⟨l.dropLast, l.getLast hne, (List.dropLast_concat_getLast hne).symm⟩
    rw [List.all_append] at hd
    simp only [Bool.and_eq_true, List.all_cons, List.all_nil, and_true] at hd
    have hc : 48 ≤ c.toNat ∧ c.toNat ≤ 57 := by simpa [isDig] using hd.2
    have ih := val_lt n i (by simpa using h) hd.1
    rw [decVal_snoc, Nat.pow_succ]
    omega
theorem takeB {l : List UInt8} {k : Nat} (h : k < l.length) : l.take (k + 1) = l.take k ++ [l[k]] := List.take_succ_eq_append_getElem h
theorem val_small {l : List UInt8} {k : Nat} (hk : k ≤ 17) (hl : l.length = k) (hd : l.all isDig = true) : (decVal l : Int) ≤ 100000000000000000 := by
  have h1 := val_lt k l hl hd
  have h2 : 10 ^ k ≤ 10 ^ 17 := Nat.pow_le_pow_right (by decide) hk
  have h3 : (10 : Nat) ^ 17 = 100000000000000000 := by decide
  omega
theorem drop_first (s : ByteArray) (h : 0 < s.size) : s.data.toList = s[0] :: s.data.toList.drop 1 := by
  have h1 : 0 < s.data.toList.length := by rw [Array.length_toList]; exact h
  have := List.drop_eq_getElem_cons h1
  rw [List.drop_zero] at this
  exact this
theorem tail_list (s : ByteArray) : (s.extract 1 s.size).data.toList = s.data.toList.tail := by
  simp only [ByteArray.data_extract, Array.toList_extract, List.extract]
  rw [List.drop_one]
  exact List.take_of_length_le (by rw [List.length_tail, Array.length_toList]; exact Nat.le_refl _)

set_option maxHeartbeats 4000000 in
theorem l12Num_neg (s : ByteArray) (hs : s.size ≤ 1048576) (h0 : 0 < s.size) (h45 : (s[0]'h0) = 45) (w : World) :
    Calls Tryz.prog 74 #[.string s] w fun e w' => e = .returned (numTup (numB s.data.toList)) ∧ w' = w := by
  have hb : ((s[0].toNat : Int) == 45) = true := by rw [h45]; rfl
  have h0' : (0 : Int) < (s.size : Int) := by omega
  obtain ⟨L, HLT⟩ : ∃ L, Hid (L = (s.extract 1 s.size).data.toList) := ⟨_, Eq.refl _⟩
  have HNB : Hid (numB s.data.toList = if digB true L = true then some (-(decVal L : Int)) else none) := by
    show _ = _
    have hh : s.data.toList.head? = some 45 := by
      have h1 := drop_first s h0
      rw [h1, h45]; rfl
    rw [numB, if_pos hh, ← tail_list, HLT.out]
  have HLS : Hid ((s.extract 1 s.size).size = s.size - 1) := by show _ = _; simp
  have HLL : Hid (L.length = s.size - 1) := by
    show _ = _
    rw [HLT.out, Array.length_toList]; exact HLS.out
  clear h45
  by_cases g1 : s.size - 1 = 0
  · have HE : Hid (numB s.data.toList = none) := by
      show _ = _
      have : L = [] := List.length_eq_zero_iff.1 (by rw [HLL.out]; exact g1)
      rw [HNB.out, this]; rfl
    go_enter Tryz.func74, Tryz.ntmps74
    go_wp2
    go_ret2
    exact ⟨by rw [HE.out]; rfl, rfl⟩
  by_cases g2 : 17 < s.size - 1
  · have HE : Hid (numB s.data.toList = none) := by
      show _ = _
      rw [HNB.out, if_neg]
      intro e
      simp only [digB, Bool.and_eq_true, decide_eq_true_eq] at e
      have := e.1.1.2
      rw [HLL.out] at this
      omega
    have g2' : (17 : Int) < ((s.size - 1 : Nat) : Int) := by omega
    go_enter Tryz.func74, Tryz.ntmps74
    go_wp2
    go_ret2
    exact ⟨by rw [HE.out]; rfl, rfl⟩
  have g2' : ((s.size - 1 : Nat) : Int) ≤ 17 := by omega
  have g1' : ((((s.size - 1 : Nat) : Int)) == 0) = false := by rw [beq_eq_false_iff_ne]; omega
  have g3p : 0 < s.size - 1 := by omega
  have g3s : 0 < (s.extract 1 s.size).size := by rw [HLS.out]; exact g3p
  have HLH : Hid (L.head? = some ((s.extract 1 s.size)[0]'g3s)) := by
    show _ = _
    rw [HLT.out, drop_first _ g3s]; rfl
  by_cases g3 : ((s.extract 1 s.size)[0]'g3s) = 48
  · have HE : Hid (numB s.data.toList = none) := by
      show _ = _
      rw [HNB.out, if_neg]
      intro e
      simp only [digB, Bool.and_eq_true, HLH.out, g3] at e
      simp at e
    have g3' : ((((s.extract 1 s.size)[0]'g3s).toNat : Int) == 48) = true := by rw [g3]; rfl
    clear g3
    by_cases g4 : (1 : Int) < ((s.size - 1 : Nat) : Int)
    · go_enter Tryz.func74, Tryz.ntmps74
      go_wp2
      go_ret2
      exact ⟨by rw [HE.out]; rfl, rfl⟩
    · go_enter Tryz.func74, Tryz.ntmps74
      go_wp2
      go_ret2
      exact ⟨by rw [HE.out]; rfl, rfl⟩
  · have g3' : ((((s.extract 1 s.size)[0]'g3s).toNat : Int) == 48) = false := by
      rw [beq_eq_false_iff_ne]
      intro e
      have e2 : ((s.extract 1 s.size)[0]'g3s).toNat = (48 : UInt8).toNat := by show _ = 48; omega
      exact g3 (UInt8.toNat_inj.1 e2)
    have HDG : Hid (L.all isDig = true → digB true L = true) := by
      intro hd
      have n1 : L ≠ [] := fun e => by have := HLL.out; rw [e] at this; simp at this; omega
      have n2 : L.length ≤ 17 := by rw [HLL.out]; omega
      have n3 : L.head? ≠ some 48 := fun e => by rw [HLH.out] at e; exact g3 (by simpa using e)
      simp [digB, hd, n1, n2, n3]
    clear g3
    go_enter Tryz.func74, Tryz.ntmps74
    go_wp2
    go_loop [5, 6] (fun v i => ∃ (k : Nat) (m : Int), k ≤ s.size - 1 ∧ i = .int .i64 k ∧ v = .int .i64 m ∧ 0 ≤ m ∧ m ≤ 100000000000000000 ∧ Hid (m = (decVal (L.take k) : Int)) ∧ Hid ((L.take k).all isDig = true)) (fun _ i => s.size - 1 - (intOf i).toNat)
    case atStart => exact ⟨0, 0, Nat.zero_le _, rfl, rfl, by omega, by omega, by simp [Hid, decVal], by simp [Hid]⟩
    case round =>
      obtain ⟨k, m, hk, rfl, rfl, hm0, hm1, HM, HA⟩ := hrel
      by_cases hlt : k < s.size - 1
      · have hkl : k < L.length := by rw [HLL.out]; exact hlt
        have hkt : k < (s.extract 1 s.size).size := by rw [HLS.out]; exact hlt
        have hget : L[k] = (s.extract 1 s.size)[k] := by
          have := HLT.out
          subst this
          rfl
        obtain ⟨c, hce⟩ : ∃ c, c = (s.extract 1 s.size)[k] := ⟨_, rfl⟩
        rw [← hce] at hget
        by_cases hd : isDig c = true
        · have hd2 : 48 ≤ c.toNat ∧ c.toNat ≤ 57 := by simpa [isDig] using hd
          obtain ⟨hd3, hd4⟩ := hd2
          have HA2 : Hid ((L.take (k + 1)).all isDig = true) := by
            show _ = _
            rw [takeB hkl, List.all_append, HA.out, hget]; simp [hd]
          have HM2 : Hid (m * 10 + ((c.toNat : Int) - 48) = (decVal (L.take (k + 1)) : Int)) := by
            show _ = _
            rw [takeB hkl, decVal_snoc, hget, HM.out]; omega
          have hm2 : m * 10 + ((c.toNat : Int) - 48) ≤ 100000000000000000 := by
            rw [HM2.out]; exact val_small (k := k + 1) (by omega) (by rw [List.length_take]; omega) HA2.out
          have hd5 : (48 : Int) ≤ (((s.extract 1 s.size)[k]'hkt).toNat : Int) := by rw [← hce]; omega
          have hd6 : (((s.extract 1 s.size)[k]'hkt).toNat : Int) ≤ 57 := by rw [← hce]; omega
          have HM3 : Hid (m * 10 + ((((s.extract 1 s.size)[k]'hkt).toNat : Int) - 48) = (decVal (L.take (k + 1)) : Int)) := by rw [← hce]; exact HM2.out
          have hm3 : m * 10 + ((((s.extract 1 s.size)[k]'hkt).toNat : Int) - 48) ≤ 100000000000000000 := by rw [← hce]; exact hm2
          clear hd hd3 hd4 hget hce hm2 HM2
          go_wp2
          go_round
          case rel => exact ⟨k + 1, _, by omega, by go_num, rfl, by omega, hm3, HM3, HA2⟩
          case measure => simp [intOf]; omega
        · have hd2 : ¬ (48 ≤ c.toNat ∧ c.toNat ≤ 57) := by simpa [isDig] using hd
          have HE : Hid (numB s.data.toList = none) := by
            show _ = _
            rw [HNB.out, if_neg]
            intro e
            have h1 : L.all isDig = true := by
              simp only [digB, Bool.and_eq_true] at e
              exact e.2
            have h2 := List.all_eq_true.1 h1 L[k] (List.getElem_mem hkl)
            rw [hget] at h2
            exact hd h2
          rcases (show c.toNat < 48 ∨ 57 < c.toNat by omega) with h1 | h1
          · have hd5 : (((s.extract 1 s.size)[k]'hkt).toNat : Int) < 48 := by rw [← hce]; omega
            clear hd hd2 hget hce h1
            go_wp2
            go_ret2
            exact ⟨by rw [HE.out]; rfl, rfl⟩
          · have hd5 : (57 : Int) < (((s.extract 1 s.size)[k]'hkt).toNat : Int) := by rw [← hce]; omega
            clear hd hd2 hget hce h1
            go_wp2
            go_ret2
            exact ⟨by rw [HE.out]; rfl, rfl⟩
      · obtain rfl : k = s.size - 1 := by omega
        have HE : Hid (numB s.data.toList = some (-(decVal L : Int))) := by
          show _ = _
          rw [HNB.out, if_pos]
          have h1 := HA.out
          rw [List.take_of_length_le (by rw [HLL.out]; exact Nat.le_refl _)] at h1
          exact HDG.out h1
        have HM2 : Hid (m = (decVal L : Int)) := by
          have := HM.out
          rw [List.take_of_length_le (by rw [HLL.out]; exact Nat.le_refl _)] at this
          exact this
        go_wp2
        go_ret2
        exact ⟨by rw [HE.out, ← HM2.out]; rfl, rfl⟩

set_option maxHeartbeats 4000000 in
theorem l12Num_pos (s : ByteArray) (hs : s.size ≤ 1048576) (h0 : 0 < s.size) (h45 : ¬ (s[0]'h0) = 45) (w : World) :
    Calls Tryz.prog 74 #[.string s] w fun e w' => e = .returned (numTup (numB s.data.toList)) ∧ w' = w := by
  have hb : ((s[0].toNat : Int) == 45) = false := by
    rw [beq_eq_false_iff_ne]
    intro e
    have e2 : (s[0]'h0).toNat = (45 : UInt8).toNat := by show _ = 45; omega
    exact h45 (UInt8.toNat_inj.1 e2)
  have h0' : (0 : Int) < (s.size : Int) := by omega
  obtain ⟨L, HLT⟩ : ∃ L, Hid (L = s.data.toList) := ⟨_, Eq.refl _⟩
  have HLH : Hid (L.head? = some (s[0]'h0)) := by
    show _ = _
    rw [HLT.out, drop_first _ h0]; rfl
  have HNB : Hid (numB s.data.toList = if digB false L = true then some ((decVal L : Int)) else none) := by
    show _ = _
    have hh : ¬ L.head? = some 45 := by rw [HLH.out]; simpa using h45
    rw [← HLT.out, numB, if_neg hh]
  have HLL : Hid (L.length = s.size) := by
    show _ = _
    rw [HLT.out, Array.length_toList]; rfl
  clear h45
  have g1' : (((s.size : Int)) == 0) = false := by rw [beq_eq_false_iff_ne]; omega
  by_cases g2 : 17 < s.size
  · have HE : Hid (numB s.data.toList = none) := by
      show _ = _
      rw [HNB.out, if_neg]
      intro e
      simp only [digB, Bool.and_eq_true, decide_eq_true_eq] at e
      have := e.1.1.2
      rw [HLL.out] at this
      omega
    have g2' : (17 : Int) < (s.size : Int) := by omega
    go_enter Tryz.func74, Tryz.ntmps74
    go_wp2
    go_ret2
    exact ⟨by rw [HE.out]; rfl, rfl⟩
  have g2' : (s.size : Int) ≤ 17 := by omega
  by_cases g3 : (s[0]'h0) = 48 ∧ 1 < s.size
  · have HE : Hid (numB s.data.toList = none) := by
      show _ = _
      rw [HNB.out, if_neg]
      intro e
      simp only [digB, Bool.and_eq_true, HLH.out, g3.1, HLL.out, g3.2] at e
      simp at e
    have g3' : (((s[0]'h0).toNat : Int) == 48) = true := by rw [g3.1]; rfl
    have g4 : (1 : Int) < (s.size : Int) := by omega
    clear g3
    go_enter Tryz.func74, Tryz.ntmps74
    go_wp2
    go_ret2
    exact ⟨by rw [HE.out]; rfl, rfl⟩
  have HDG : Hid (L.all isDig = true → digB false L = true) := by
    intro hd
    have n1 : L ≠ [] := fun e => by have := HLL.out; rw [e] at this; simp at this; omega
    have n2 : L.length ≤ 17 := by rw [HLL.out]; omega
    have n3 : ¬ (L.head? = some 48 ∧ 1 < L.length) := fun e => by
      rw [HLH.out, HLL.out] at e
      exact g3 ⟨by simpa using e.1, e.2⟩
    simp only [digB, hd, n1, n2, Bool.or_false, Bool.and_true, ne_eq, not_false_eq_true, decide_true, Bool.true_and, Bool.not_eq_true']
    rw [← Bool.decide_and, decide_eq_false_iff_not]
    exact n3
  by_cases g5 : (s[0]'h0) = 48
  · have g6 : ¬ (1 : Int) < (s.size : Int) := fun e => g3 ⟨g5, by omega⟩
    have g3' : (((s[0]'h0).toNat : Int) == 48) = true := by rw [g5]; rfl
    clear g3 g5
    go_enter Tryz.func74, Tryz.ntmps74
    go_wp2
    go_loop [5, 6] (fun v i => ∃ (k : Nat) (m : Int), k ≤ s.size ∧ i = .int .i64 k ∧ v = .int .i64 m ∧ 0 ≤ m ∧ m ≤ 100000000000000000 ∧ Hid (m = (decVal (L.take k) : Int)) ∧ Hid ((L.take k).all isDig = true)) (fun _ i => s.size - (intOf i).toNat)
    case atStart => exact ⟨0, 0, Nat.zero_le _, rfl, rfl, by omega, by omega, by simp [Hid, decVal], by simp [Hid]⟩
    case round =>
      obtain ⟨k, m, hk, rfl, rfl, hm0, hm1, HM, HA⟩ := hrel
      by_cases hlt : k < s.size
      · have hkl : k < L.length := by rw [HLL.out]; exact hlt
        have hkt : k < s.size := hlt
        have hget : L[k] = s[k] := by
          have := HLT.out
          subst this
          rfl
        obtain ⟨c, hce⟩ : ∃ c, c = s[k] := ⟨_, rfl⟩
        rw [← hce] at hget
        by_cases hd : isDig c = true
        · have hd2 : 48 ≤ c.toNat ∧ c.toNat ≤ 57 := by simpa [isDig] using hd
          obtain ⟨hd3, hd4⟩ := hd2
          have HA2 : Hid ((L.take (k + 1)).all isDig = true) := by
            show _ = _
            rw [takeB hkl, List.all_append, HA.out, hget]; simp [hd]
          have HM2 : Hid (m * 10 + ((c.toNat : Int) - 48) = (decVal (L.take (k + 1)) : Int)) := by
            show _ = _
            rw [takeB hkl, decVal_snoc, hget, HM.out]; omega
          have hm2 : m * 10 + ((c.toNat : Int) - 48) ≤ 100000000000000000 := by
            rw [HM2.out]; exact val_small (k := k + 1) (by omega) (by rw [List.length_take]; omega) HA2.out
          have hd5 : (48 : Int) ≤ ((s[k]'hkt).toNat : Int) := by rw [← hce]; omega
          have hd6 : ((s[k]'hkt).toNat : Int) ≤ 57 := by rw [← hce]; omega
          have HM3 : Hid (m * 10 + (((s[k]'hkt).toNat : Int) - 48) = (decVal (L.take (k + 1)) : Int)) := by rw [← hce]; exact HM2.out
          have hm3 : m * 10 + (((s[k]'hkt).toNat : Int) - 48) ≤ 100000000000000000 := by rw [← hce]; exact hm2
          clear hd hd3 hd4 hget hce hm2 HM2
          go_wp2
          go_round
          case rel => exact ⟨k + 1, _, by omega, by go_num, rfl, by omega, hm3, HM3, HA2⟩
          case measure => simp [intOf]; omega
        · have hd2 : ¬ (48 ≤ c.toNat ∧ c.toNat ≤ 57) := by simpa [isDig] using hd
          have HE : Hid (numB s.data.toList = none) := by
            show _ = _
            rw [HNB.out, if_neg]
            intro e
            have h1 : L.all isDig = true := by
              simp only [digB, Bool.and_eq_true] at e
              exact e.2
            have h2 := List.all_eq_true.1 h1 L[k] (List.getElem_mem hkl)
            rw [hget] at h2
            exact hd h2
          rcases (show c.toNat < 48 ∨ 57 < c.toNat by omega) with h1 | h1
          · have hd5 : ((s[k]'hkt).toNat : Int) < 48 := by rw [← hce]; omega
            clear hd hd2 hget hce h1
            go_wp2
            go_ret2
            exact ⟨by rw [HE.out]; rfl, rfl⟩
          · have hd5 : (57 : Int) < ((s[k]'hkt).toNat : Int) := by rw [← hce]; omega
            clear hd hd2 hget hce h1
            go_wp2
            go_ret2
            exact ⟨by rw [HE.out]; rfl, rfl⟩
      · obtain rfl : k = s.size := by omega
        have HE : Hid (numB s.data.toList = some ((decVal L : Int))) := by
          show _ = _
          rw [HNB.out, if_pos]
          have h1 := HA.out
          rw [List.take_of_length_le (by rw [HLL.out]; exact Nat.le_refl _)] at h1
          exact HDG.out h1
        have HM2 : Hid (m = (decVal L : Int)) := by
          have := HM.out
          rw [List.take_of_length_le (by rw [HLL.out]; exact Nat.le_refl _)] at this
          exact this
        go_wp2
        go_ret2
        exact ⟨by rw [HE.out, ← HM2.out]; rfl, rfl⟩
  · have g3' : (((s[0]'h0).toNat : Int) == 48) = false := by
      rw [beq_eq_false_iff_ne]
      intro e
      have e2 : (s[0]'h0).toNat = (48 : UInt8).toNat := by show _ = 48; omega
      exact g5 (UInt8.toNat_inj.1 e2)
    clear g3 g5
    go_enter Tryz.func74, Tryz.ntmps74
    go_wp2
    go_loop [5, 6] (fun v i => ∃ (k : Nat) (m : Int), k ≤ s.size ∧ i = .int .i64 k ∧ v = .int .i64 m ∧ 0 ≤ m ∧ m ≤ 100000000000000000 ∧ Hid (m = (decVal (L.take k) : Int)) ∧ Hid ((L.take k).all isDig = true)) (fun _ i => s.size - (intOf i).toNat)
    case atStart => exact ⟨0, 0, Nat.zero_le _, rfl, rfl, by omega, by omega, by simp [Hid, decVal], by simp [Hid]⟩
    case round =>
      obtain ⟨k, m, hk, rfl, rfl, hm0, hm1, HM, HA⟩ := hrel
      by_cases hlt : k < s.size
      · have hkl : k < L.length := by rw [HLL.out]; exact hlt
        have hkt : k < s.size := hlt
        have hget : L[k] = s[k] := by
          have := HLT.out
          subst this
          rfl
        obtain ⟨c, hce⟩ : ∃ c, c = s[k] := ⟨_, rfl⟩
        rw [← hce] at hget
        by_cases hd : isDig c = true
        · have hd2 : 48 ≤ c.toNat ∧ c.toNat ≤ 57 := by simpa [isDig] using hd
          obtain ⟨hd3, hd4⟩ := hd2
          have HA2 : Hid ((L.take (k + 1)).all isDig = true) := by
            show _ = _
            rw [takeB hkl, List.all_append, HA.out, hget]; simp [hd]
          have HM2 : Hid (m * 10 + ((c.toNat : Int) - 48) = (decVal (L.take (k + 1)) : Int)) := by
            show _ = _
            rw [takeB hkl, decVal_snoc, hget, HM.out]; omega
          have hm2 : m * 10 + ((c.toNat : Int) - 48) ≤ 100000000000000000 := by
            rw [HM2.out]; exact val_small (k := k + 1) (by omega) (by rw [List.length_take]; omega) HA2.out
          have hd5 : (48 : Int) ≤ ((s[k]'hkt).toNat : Int) := by rw [← hce]; omega
          have hd6 : ((s[k]'hkt).toNat : Int) ≤ 57 := by rw [← hce]; omega
          have HM3 : Hid (m * 10 + (((s[k]'hkt).toNat : Int) - 48) = (decVal (L.take (k + 1)) : Int)) := by rw [← hce]; exact HM2.out
          have hm3 : m * 10 + (((s[k]'hkt).toNat : Int) - 48) ≤ 100000000000000000 := by rw [← hce]; exact hm2
          clear hd hd3 hd4 hget hce hm2 HM2
          go_wp2
          go_round
          case rel => exact ⟨k + 1, _, by omega, by go_num, rfl, by omega, hm3, HM3, HA2⟩
          case measure => simp [intOf]; omega
        · have hd2 : ¬ (48 ≤ c.toNat ∧ c.toNat ≤ 57) := by simpa [isDig] using hd
          have HE : Hid (numB s.data.toList = none) := by
            show _ = _
            rw [HNB.out, if_neg]
            intro e
            have h1 : L.all isDig = true := by
              simp only [digB, Bool.and_eq_true] at e
              exact e.2
            have h2 := List.all_eq_true.1 h1 L[k] (List.getElem_mem hkl)
            rw [hget] at h2
            exact hd h2
          rcases (show c.toNat < 48 ∨ 57 < c.toNat by omega) with h1 | h1
          · have hd5 : ((s[k]'hkt).toNat : Int) < 48 := by rw [← hce]; omega
            clear hd hd2 hget hce h1
            go_wp2
            go_ret2
            exact ⟨by rw [HE.out]; rfl, rfl⟩
          · have hd5 : (57 : Int) < ((s[k]'hkt).toNat : Int) := by rw [← hce]; omega
            clear hd hd2 hget hce h1
            go_wp2
            go_ret2
            exact ⟨by rw [HE.out]; rfl, rfl⟩
      · obtain rfl : k = s.size := by omega
        have HE : Hid (numB s.data.toList = some ((decVal L : Int))) := by
          show _ = _
          rw [HNB.out, if_pos]
          have h1 := HA.out
          rw [List.take_of_length_le (by rw [HLL.out]; exact Nat.le_refl _)] at h1
          exact HDG.out h1
        have HM2 : Hid (m = (decVal L : Int)) := by
          have := HM.out
          rw [List.take_of_length_le (by rw [HLL.out]; exact Nat.le_refl _)] at this
          exact this
        go_wp2
        go_ret2
        exact ⟨by rw [HE.out, ← HM2.out]; rfl, rfl⟩
theorem l12Num_none (s : ByteArray) (h0 : s.size = 0) (w : World) :
    Calls Tryz.prog 74 #[.string s] w fun e w' => e = .returned (numTup (numB s.data.toList)) ∧ w' = w := by
  have HE : Hid (numB s.data.toList = none) := by
    show _ = _
    have : s.data.toList = [] := List.length_eq_zero_iff.1 (by rw [Array.length_toList]; exact h0)
    rw [this]; rfl
  go_enter Tryz.func74, Tryz.ntmps74
  go_wp2
  go_ret2
  exact ⟨by rw [HE.out]; rfl, rfl⟩

theorem l12Num_any (s : ByteArray) (hs : s.size ≤ 1048576) (w : World) :
    Calls Tryz.prog 74 #[.string s] w fun e w' => e = .returned (numTup (numB s.data.toList)) ∧ w' = w := by
  by_cases h0 : 0 < s.size
  · by_cases h45 : (s[0]'h0) = 45
    · exact l12Num_neg s hs h0 h45 w
    · exact l12Num_pos s hs h0 h45 w
  · exact l12Num_none s (by omega) w

end Go.Proofs.YtkgopbffgahhcaaGreatDoor
