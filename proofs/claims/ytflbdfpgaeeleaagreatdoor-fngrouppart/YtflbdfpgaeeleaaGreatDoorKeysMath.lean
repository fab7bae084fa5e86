/-
  Plain facts on keys: places of rows, each once; the cells of a row at them; rows that are near others.
-/
import Derived.Test.YtflbdfpgaeeleaaGreatDoorJoinMath
import Derived.Test.YtflbdfpgaeeleaaGreatDoorReadMath
namespace Go.Proofs.YtflbdfpgaeeleaaGreatDoor

def keyAt (ks : List Int) (wd : Int) (i : Nat) : Bool := decide (0 ≤ ks.getD i 0 ∧ ks.getD i 0 < wd) && !decide (ks.getD i 0 ∈ ks.take i)
def keysB (ks : List Int) (wd : Int) : Bool := decide (ks.length < 6) && (List.range ks.length).all (keyAt ks wd)
def haveAll (zs : List It) (ks : List Int) : Bool := ks.all fun k => hasAt k zs
def fitAt (ks : List Int) (col : Int) (p : It) : Bool := keysB ks p.1.length && decide (0 ≤ col ∧ col < (p.1.length : Int))
def fitsB (zs : List It) (ks : List Int) (col : Int) : Bool := zs.all (fitAt ks col)
def keyZ (r ks : List Int) : List Int := ks.map fun k => r.getD k.toNat 0
def nearCan (z d : List It) (ks : List Int) : Bool := keysB ks 6 && haveAll z ks && haveAll d ks
def isNear (d : List It) (ks r : List Int) : Bool := d.any fun q => decide (keyZ q.1 ks = keyZ r ks)
def nearZ (z d : List It) (ks : List Int) : List It := z.filter fun p => isNear d ks p.1
def nearOk (z d : List It) (ks : List Int) : Bool := zOkB z && zOkB d && nearCan z d ks
def nearOut (z d : List It) (ks : List Int) : List It := if nearOk z d ks then nearZ z d ks else []

theorem getD_memI {ks : List Int} {i : Nat} (h : i < ks.length) : ks.getD i 0 ∈ ks := by simp [List.getD, h]
theorem keys_long {ks : List Int} {wd : Int} (h : ¬ ks.length < 6) : keysB ks wd = false := by unfold keysB; simp [h]
theorem keys_miss {ks : List Int} {wd : Int} {i : Nat} (hi : i < ks.length) (h : keyAt ks wd i = false) : keysB ks wd = false := by
  have : (List.range ks.length).all (keyAt ks wd) = false := by
    rw [List.all_eq_false]
    exact ⟨i, List.mem_range.2 hi, by simp [h]⟩
  unfold keysB; rw [this, Bool.and_false]
theorem keys_all {ks : List Int} {wd : Int} (h : ∀ i, i < ks.length → keyAt ks wd i = true) : keysB ks wd = decide (ks.length < 6) := by
  have : (List.range ks.length).all (keyAt ks wd) = true := by
    rw [List.all_eq_true]
    exact fun i hi => h i (List.mem_range.1 hi)
  unfold keysB; rw [this, Bool.and_true]
theorem keyAt_out {ks : List Int} {wd : Int} {i : Nat} (h : decide (0 ≤ ks.getD i 0 ∧ ks.getD i 0 < wd) = false) : keyAt ks wd i = false := by unfold keyAt; rw [h]; rfl
theorem keyAt_twice {ks : List Int} {wd : Int} {i : Nat} (h : ks.getD i 0 ∈ ks.take i) : keyAt ks wd i = false := by unfold keyAt; rw [decide_eq_true h, Bool.not_true, Bool.and_false]
theorem keyAt_yes {ks : List Int} {wd : Int} {i : Nat} (h : decide (0 ≤ ks.getD i 0 ∧ ks.getD i 0 < wd) = true) (h2 : ¬ ks.getD i 0 ∈ ks.take i) : keyAt ks wd i = true := by unfold keyAt; rw [h, decide_eq_false h2]; rfl
theorem keys_parts {ks : List Int} {wd : Int} (h : keysB ks wd = true) : ks.length < 6 ∧ ∀ i, i < ks.length → keyAt ks wd i = true := by
  unfold keysB at h
  rw [Bool.and_eq_true, List.all_eq_true] at h
  exact ⟨of_decide_eq_true h.1, fun i hi => h.2 i (List.mem_range.2 hi)⟩
theorem keys_in {ks : List Int} {wd : Int} (h : keysB ks wd = true) : ∀ k ∈ ks, 0 ≤ k ∧ k < wd := fun k hk => by
  obtain ⟨i, hi, e⟩ := mem_getD (d := 0) hk
  have := (keys_parts h).2 i hi
  unfold keyAt at this
  rw [Bool.and_eq_true] at this
  have h2 := of_decide_eq_true this.1
  rw [e] at h2
  exact h2
theorem keys_narrow {ks : List Int} {wd : Int} (h : keysB ks wd = true) (n : Int) : keysB ks n = ks.all fun k => decide (0 ≤ k ∧ k < n) := by
  obtain ⟨hl, hp⟩ := keys_parts h
  cases hb : ks.all fun k => decide (0 ≤ k ∧ k < n) with
  | true =>
    rw [List.all_eq_true] at hb
    rw [keys_all (fun i hi => ?_)]
    · simpa using hl
    · refine keyAt_yes (hb _ (getD_memI hi)) ?_
      have := hp i hi
      unfold keyAt at this
      rw [Bool.and_eq_true] at this
      simpa using this.2
  | false =>
    rw [List.all_eq_false] at hb
    obtain ⟨k, hk, hn⟩ := hb
    obtain ⟨i, hi, e⟩ := mem_getD (d := 0) hk
    refine keys_miss hi (keyAt_out ?_)
    rw [e]
    simpa using hn
theorem have_miss {zs : List It} {ks : List Int} {i : Nat} (hi : i < ks.length) (h : hasAt (ks.getD i 0) zs = false) : haveAll zs ks = false := by
  unfold haveAll
  rw [List.all_eq_false]
  exact ⟨_, getD_memI hi, by simp only [h]; exact Bool.false_ne_true⟩
theorem have_all {zs : List It} {ks : List Int} (h : ∀ i, i < ks.length → hasAt (ks.getD i 0) zs = true) : haveAll zs ks = true := by
  unfold haveAll
  rw [List.all_eq_true]
  intro k hk
  obtain ⟨i, hi, e⟩ := mem_getD (d := 0) hk
  rw [← e]; exact h i hi
theorem fits_miss {zs : List It} {ks : List Int} {col : Int} {i : Nat} (hi : i < zs.length) (h : fitAt ks col (zs.getD i ([], 0)) = false) : fitsB zs ks col = false := by
  unfold fitsB
  rw [List.all_eq_false]
  exact ⟨zs.getD i ([], 0), by simp [List.getD, hi], by rw [h]; exact Bool.false_ne_true⟩
theorem fits_all {zs : List It} {ks : List Int} {col : Int} (h : ∀ i, i < zs.length → fitAt ks col (zs.getD i ([], 0)) = true) : fitsB zs ks col = true := by
  unfold fitsB
  rw [List.all_eq_true]
  intro p hp
  obtain ⟨i, hi, e⟩ := mem_getD (d := ([], 0)) hp
  rw [← e]; exact h i hi
theorem has_iff {x : Int} {zs : List It} : hasAt x zs = true ↔ ∀ p ∈ zs, 0 ≤ x ∧ x < (p.1.length : Int) := by
  unfold hasAt
  rw [List.all_eq_true]
  exact ⟨fun h p hp => of_decide_eq_true (h p hp), fun h p hp => decide_eq_true (h p hp)⟩
theorem have_iff {zs : List It} {ks : List Int} : haveAll zs ks = true ↔ ∀ k ∈ ks, ∀ p ∈ zs, 0 ≤ k ∧ k < (p.1.length : Int) := by
  unfold haveAll
  rw [List.all_eq_true]
  exact ⟨fun h k hk => has_iff.1 (h k hk), fun h k hk => has_iff.2 (h k hk)⟩
theorem fits_have {zs : List It} {ks : List Int} {wd : Int} (h : keysB ks wd = true) (col : Int) : fitsB zs ks col = (haveAll zs ks && hasAt col zs) := by
  rw [Bool.eq_iff_iff, Bool.and_eq_true, have_iff, has_iff]
  unfold fitsB fitAt
  rw [List.all_eq_true]
  simp only [Bool.and_eq_true, decide_eq_true_eq, keys_narrow h, List.all_eq_true]
  exact ⟨fun g => ⟨fun k hk p hp => (g p hp).1 k hk, fun p hp => (g p hp).2⟩, fun g p hp => ⟨fun k hk => g.1 k hk p hp, g.2 p hp⟩⟩
theorem has_zero {zs : List It} (h : zOkB zs = true) : hasAt 0 zs = true := has_iff.2 fun p hp => by
  obtain ⟨j, hj, e⟩ := mem_getD (d := ([], 0)) hp
  have := (zOk_row h hj).1
  rw [e] at this
  simp only [rowOkB, Bool.and_eq_true, decide_eq_true_eq] at this
  omega
theorem near_can {z d : List It} {ks : List Int} (hz : zOkB z = true) (hd : zOkB d = true) (h : keysB ks 6 = true) : (fitsB z ks 0 && fitsB d ks 0) = (haveAll z ks && haveAll d ks) := by
  rw [fits_have h, fits_have h, has_zero hz, has_zero hd, Bool.and_true, Bool.and_true]
theorem keyZ_len (r ks : List Int) : (keyZ r ks).length = ks.length := by simp [keyZ]
theorem keyZ_take {r ks : List Int} {k : Nat} (hk : k < ks.length) : keyZ r (ks.take (k + 1)) = keyZ r (ks.take k) ++ [r.getD (ks.getD k 0).toNat 0] := by
  unfold keyZ
  rw [List.take_succ_eq_append_getElem hk, List.map_append]
  simp [List.getD, hk]
theorem keyZ_cells {r ks : List Int} (h : rowOkB r = true) (hk : ∀ k ∈ ks, 0 ≤ k ∧ k < (r.length : Int)) : (keyZ r ks).all cellB = true := by
  rw [List.all_eq_true]
  intro x hx
  unfold keyZ at hx
  obtain ⟨k, hk2, rfl⟩ := List.mem_map.1 hx
  have := hk k hk2
  simp only [rowOkB, Bool.and_eq_true, List.all_eq_true] at h
  have hlt : k.toNat < r.length := by omega
  have e : r.getD k.toNat 0 = r[k.toNat] := by simp [List.getD, hlt]
  rw [e]
  exact h.2 _ (List.getElem_mem hlt)
theorem cells_wf {xs : List Int} (h : xs.all cellB = true) : WfInts xs := fun x hx => by
  rw [List.all_eq_true] at h
  have := h x hx
  simp [cellB] at this
  omega
/-- Rows of cells of one length are told apart by their texts. -/
theorem rowTx_inj {xs ys : List Int} (hx : xs.all cellB = true) (hy : ys.all cellB = true) (hl : xs.length = ys.length) (h : rowTx xs = rowTx ys) : xs = ys := by
  match xs, ys with
  | [], [] => rfl
  | [], _ :: _ => simp at hl
  | _ :: _, [] => simp at hl
  | x :: xs, y :: ys =>
    have h1 := cut_row x xs
    have h2 := cut_row y ys
    rw [h, h2] at h1
    have h3 := all_itoa _ hx
    have h4 := all_itoa _ hy
    rw [h1] at h4
    rw [h3] at h4
    simpa using h4

end Go.Proofs.YtflbdfpgaeeleaaGreatDoor
