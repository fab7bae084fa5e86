/-
  Plain facts on items put together: in any order, in any grouping, and taken away again.
-/
import Derived.Test.YtflbdfpgaeeleaaGreatDoorAddSpec
import Derived.Test.YtflbdfpgaeeleaaGreatDoorZNeg
namespace Go.Proofs.YtflbdfpgaeeleaaGreatDoor

theorem zOk_nil : zOkB [] = true := by simp [zOkB]
theorem nz_nil : Nz [] := fun p hp => by simp at hp
theorem add_comm {a b : List It} (ha : Srt a) (hna : Nz a) (hb : Srt b) (hnb : Nz b) : addZ a b = addZ b a :=
  canon (srt_add ha) (nz_add hna) (srt_add hb) (nz_add hnb) fun q => by rw [getZ_add ha hb, getZ_add hb ha]; omega
theorem add_assoc {a b c : List It} (ha : Srt a) (hna : Nz a) (hb : Srt b) (hc : Srt c) : addZ (addZ a b) c = addZ a (addZ b c) :=
  canon (srt_add (srt_add ha)) (nz_add (nz_add hna)) (srt_add ha) (nz_add hna) fun q => by
    rw [getZ_add (srt_add ha) hc, getZ_add ha hb, getZ_add ha (srt_add hb), getZ_add hb hc]; omega
theorem getZ_neg (q : List Int) : ∀ a : List It, getZ (negZ a) q = -getZ a q
  | [] => rfl
  | p :: a => by
    have ih := getZ_neg q a
    have e : negZ (p :: a) = (p.1, -p.2) :: negZ a := rfl
    rw [e, getZ_cons, getZ_cons, ih]
    by_cases h : p.1 = q <;> simp [h]
theorem srt_neg {a : List It} (h : Srt a) : Srt (negZ a) := by
  unfold Srt negZ at *
  rw [List.pairwise_map]
  exact h
theorem nz_neg {a : List It} (h : Nz a) : Nz (negZ a) := fun p hp => by
  obtain ⟨q, hq, rfl⟩ := List.mem_map.1 hp
  have := h q hq
  show -q.2 ≠ 0
  omega
theorem add_neg {a : List It} (h : Srt a) (hn : Nz a) : addZ a (negZ a) = [] :=
  canon (srt_add h) (nz_add hn) Srt.nil nz_nil fun q => by rw [getZ_add h (srt_neg h), getZ_neg, getZ_nil]; omega
theorem add_back {a b : List It} (ha : Srt a) (hna : Nz a) (hb : Srt b) : addZ (addZ a b) (negZ b) = a :=
  canon (srt_add (srt_add ha)) (nz_add (nz_add hna)) ha hna fun q => by rw [getZ_add (srt_add ha) (srt_neg hb), getZ_add ha hb, getZ_neg]; omega
theorem negZ_getD (zs : List It) (j : Nat) : (negZ zs).getD j ([], 0) = ((zs.getD j ([], 0)).1, -(zs.getD j ([], 0)).2) := by
  unfold negZ
  simp only [List.getD, List.getElem?_map]
  cases zs[j]? <;> simp
theorem wB_neg (n : Int) : wB (-n) = wB n := by
  unfold wB
  congr 1
  apply propext
  omega
theorem zOk_neg (zs : List It) : zOkB (negZ zs) = zOkB zs := by
  have e : stepB (negZ zs) = stepB zs := by
    funext k
    unfold stepB
    rw [negZ_getD, negZ_getD, wB_neg]
  unfold zOkB
  rw [negZ_length, e]
theorem negneg (zs : List It) : negZ (negZ zs) = zs := by
  unfold negZ
  rw [List.map_map]
  conv => rhs; rw [← List.map_id zs]
  apply List.map_congr_left
  intro p _
  simp
theorem addOk_comm (a b : List It) (ha : zOkB a = true) (hb : zOkB b = true) : addZ b a = addZ a b := add_comm (zOk_srt hb) (zOk_nz hb) (zOk_srt ha) (zOk_nz ha)

end Go.Proofs.YtflbdfpgaeeleaaGreatDoor
