/-
  Plain facts on items of which something is so: those of which a test is so, in their order; put one by one into a list they come out so.
-/
import Derived.Test.YtdponcnhdmkhiacDoorPutMath
import Derived.Test.YtdponcnhdmkhiacDoorCellMath
namespace Go.Proofs.YtdponcnhdmkhiacDoor

def whereZ (t : Tst) (zs : List It) : List It := zs.filter fun p => t.valB p.1
def whereOk (t : Tst) (zs : List It) : Bool := zOkB zs && zs.all fun p => t.toldB p.1
def whereOut (t : Tst) (zs : List It) : List It := if whereOk t zs then whereZ t zs else []

theorem whereZ_len (t : Tst) (zs : List It) : (whereZ t zs).length ≤ zs.length := List.length_filter_le _ _
theorem whereZ_take {t : Tst} {zs : List It} {k : Nat} (hk : k < zs.length) : whereZ t (zs.take (k + 1)) = whereZ t (zs.take k) ++ (if t.valB (zs.getD k ([], 0)).1 then [((zs.getD k ([], 0)).1, (zs.getD k ([], 0)).2)] else []) := by
  unfold whereZ
  rw [List.take_succ_eq_append_getElem hk, List.filter_append]
  congr 1
  simp [List.getD, hk]
  split <;> simp_all
theorem told_take {t : Tst} {zs : List It} {k : Nat} (hk : k < zs.length) (h : (zs.take k).all (fun p => t.toldB p.1) = true) (hx : t.toldB (zs.getD k ([], 0)).1 = true) : (zs.take (k + 1)).all (fun p => t.toldB p.1) = true := by
  rw [List.take_succ_eq_append_getElem hk, List.all_append, h]
  simp [List.getD, hk] at hx ⊢
  exact hx
theorem where_no {t : Tst} {zs : List It} {k : Nat} (hk : k < zs.length) (hx : t.toldB (zs.getD k ([], 0)).1 = false) : whereOk t zs = false := by
  unfold whereOk
  have : (zs.all fun p => t.toldB p.1) = false := by
    rw [List.all_eq_false]
    refine ⟨zs[k], by simp, ?_⟩
    simp [List.getD, hk] at hx
    simp [hx]
  rw [this, Bool.and_false]
theorem putZ_last {zs : List It} {r : List Int} {y : Int} (h : ∀ p ∈ zs, ordL p.1 r = -1) (hy : y ≠ 0) : putZ zs r y = zs ++ [(r, y)] := by
  rw [putZ_new (k := zs.length) hy (fun j hj => h _ (by simp [List.getD, hj])) (Nat.le_refl _) (fun hc => by omega)]
  simp
theorem srt_ahead {zs : List It} (h : Srt zs) {k : Nat} (hk : k < zs.length) : ∀ p ∈ zs.take k, ordL p.1 (zs.getD k ([], 0)).1 = -1 := by
  intro p hp
  obtain ⟨j, hj, rfl⟩ := List.mem_iff_getElem.1 hp
  rw [List.length_take] at hj
  rw [List.getElem_take]
  have := List.pairwise_iff_getElem.1 h j k (by omega) hk (by omega)
  simpa [List.getD, hk] using this
theorem where_put {t : Tst} {zs : List It} (hok : zOkB zs = true) {k : Nat} (hk : k < zs.length) (hx : t.valB (zs.getD k ([], 0)).1 = true) : putZ (whereZ t (zs.take k)) (zs.getD k ([], 0)).1 (zs.getD k ([], 0)).2 = whereZ t (zs.take (k + 1)) := by
  rw [whereZ_take hk, if_pos hx]
  refine putZ_last (fun p hp => srt_ahead (zOk_srt hok) hk p (List.mem_filter.1 hp).1) (zOk_nz hok _ ?_)
  simp [List.getD, hk]
theorem whereZ_mem {t : Tst} {zs : List It} {p : It} (h : p ∈ whereZ t zs) : p ∈ zs := (List.mem_filter.1 h).1
end Go.Proofs.YtdponcnhdmkhiacDoor
