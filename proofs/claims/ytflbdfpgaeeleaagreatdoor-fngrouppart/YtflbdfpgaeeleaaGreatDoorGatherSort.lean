/-
  The contract of slices.SortFunc at items and impl.compareItems: pairs of the call's own are put in the order of their rows; the rows lie as they lay.
-/
import Derived.Test.YtflbdfpgaeeleaaGreatDoorGatherMath
import Derived.Test.YtflbdfpgaeeleaaGreatDoorSortShelf
import Derived.Shelf.SlSortCmp.NoneTotal
namespace Go.Proofs.YtflbdfpgaeeleaaGreatDoor
set_option maxRecDepth 100000
open Go.RowKit Go.Shelf Go.Lib Go.Sort

set_option maxHeartbeats 1000000 in
theorem compareItems_q (a : Option Addr) (n cap : Nat) (y : Int) (xs : List Int) (a2 : Option Addr) (n2 cap2 : Nat) (y2 : Int) (xs2 : List Int) (w : World) (h : IntsAt w (.slice a n cap) xs) (h2 : IntsAt w (.slice a2 n2 cap2) xs2) :
    Calls Tryz.prog 24 #[.agg #[.slice a n cap, .int .i64 y], .agg #[.slice a2 n2 cap2, .int .i64 y2]] w fun e w' => e = .returned (.int .i64 (ordL xs xs2)) ∧ ∃ q os', w' = grow (w.drewN q) os' := by
  have ha := (h.alloc (.cells #[.slice a n cap, .int .i64 y] 36)).alloc (.cells #[.slice a2 n2 cap2, .int .i64 y2] 36)
  have ha2 := (h2.alloc (.cells #[.slice a n cap, .int .i64 y] 36)).alloc (.cells #[.slice a2 n2 cap2, .int .i64 y2] 36)
  clear h h2
  go_enter Tryz.func24, Tryz.ntmps24
  go_wp2_with fail
  refine (compareRows_q _ _ xs xs2 _ ha ha2).mono ?_
  rintro e w1 ⟨rfl, q, hq⟩
  have HK : Hid (∃ q os', w1 = grow (w.drewN q) os') := ⟨q, _, by rw [hq, alloc_eq_grow, alloc_eq_grow, grow_grow]; rfl⟩
  clear ha ha2 hq
  go_wp2
  go_ret
  exact ⟨rfl, HK.out⟩

/-- Triples whose rows are of the call's own, from lo up to hi. -/
abbrev RwIn (w : World) (lo hi : Nat) : Type := { x : Rw // Own w lo hi x.1 x.2.1 }
theorem own_nil {w : World} {lo hi : Nat} (h : hi ≤ w.heap.size) : Own w lo hi vn [] := ⟨⟨rfl, .inl ⟨rfl, rfl⟩⟩, fun k hk => by simp [vn, Value.ownBlock] at hk, by simp, h⟩
def encR {w : World} {lo hi : Nat} (x : RwIn w lo hi) : List Value := [x.1.1, .int .i64 x.1.2.2]
def cfR {w : World} {lo hi : Nat} (x y : RwIn w lo hi) : Int := ordL x.1.2.1 y.1.2.1

theorem ltR {w : World} {lo hi : Nat} (x y : RwIn w lo hi) : ltOf cfR x y = decide (ordL x.1.2.1 y.1.2.1 = -1) := by
  unfold ltOf cfR
  rcases ordL_cases x.1.2.1 y.1.2.1 with h | h | h
  · rw [h.1]; rfl
  · rw [h.1]; rfl
  · have := h.1
    rw [this]; rfl
theorem ordL_nlt {a b : List Int} (h : ¬ ordL a b = -1) : a = b ∨ ordL b a = -1 := by
  by_cases e : a = b
  · exact .inl e
  · exact .inr (ordL_flip h e)
theorem swoR {w : World} {lo hi : Nat} : SWO (ltOf (cfR (w := w) (lo := lo) (hi := hi))) := by
  refine ⟨fun x => ?_, fun x y z h1 h2 => ?_, fun x y z h1 h2 => ?_⟩
  · rw [ltR, ordL_self]; rfl
  · rw [ltR, decide_eq_true_eq] at *
    exact ordL_trans _ _ _ h1 h2
  · rw [ltR, decide_eq_false_iff_not] at *
    intro hc
    rcases ordL_nlt h1 with e | e
    · rw [e] at hc; exact h2 hc
    · rcases ordL_nlt h2 with e2 | e2
      · rw [← e2] at hc; exact h1 hc
      · have := ordL_trans _ _ _ e2 e
        have h3 := ordL_trans _ _ _ hc this
        rw [ordL_self] at h3
        omega

theorem sortW_grown {α : Type} [Inhabited α] (enc : α → List Value) (k : Nat) (w : World) (g off m : Nat) (d : Array α) (os : Array Obj) : w.grownBy (sortWorldK enc k w g off m d os) (some g) := by
  refine ⟨rfl, rfl, rfl, ?_, fun j hj hne => ?_⟩
  · show w.heap.size ≤ ((w.heap.modify g _) ++ os).size
    simp
  · show ((w.heap.modify g _) ++ os)[j]? = w.heap[j]?
    rw [Array.getElem?_append_left (by simpa using hj), Array.getElem?_modify, if_neg (fun e => hne (by rw [e]))]
theorem sortW_block {α : Type} [Inhabited α] (enc : α → List Value) (k : Nat) {w : World} {g off m : Nat} (d : Array α) (os : Array Obj) {cur : Array Value} {e : TypeId} (h : w.heap[g]? = some (.cells cur e (0, 0))) :
    (sortWorldK enc k w g off m d os).heap[g]? = some (.cells (putCells id off (flatK enc k d) cur) e (0, 0)) := by
  have hg := (Array.getElem?_eq_some_iff.1 h).1
  show ((w.heap.modify g _) ++ os)[g]? = _
  rw [Array.getElem?_append_left (by simpa using hg), Array.getElem?_modify, if_pos rfl, h]
  rfl

theorem flat_cells2 {w : World} {lo hi : Nat} [Inhabited (RwIn w lo hi)] (d : Array (RwIn w lo hi)) : (flatK encR 2 d).toList = cells2 (prs (d.toList.map (·.1))) := by
  apply List.ext_getElem?
  intro t
  by_cases ht : t < d.size * 2
  · have h1 : t / 2 < d.size := by omega
    have e1 : (flatK encR 2 d).toList[t]? = some (encR d[t / 2]!)[t % 2]! := by
      have := get_flatK encR 2 d t ht
      rw [getElem!_pos _ t (by simpa using ht)] at this
      rw [← this]
      simp [ht]
    rw [e1]
    have hl : t / 2 < (prs (d.toList.map (·.1))).length := by rw [prs_length]; simpa using h1
    have eg : (prs (d.toList.map (·.1))).getD (t / 2) (vn, 0) = (d[t / 2]!.1.1, d[t / 2]!.1.2.2) := by
      rw [getElem!_pos d (t / 2) h1]
      simp [prs, List.getD, h1]
    rcases Nat.mod_two_eq_zero_or_one t with hm | hm
    · rw [hm]
      have := cells2_get0 _ _ hl
      rw [show t = t / 2 * 2 by omega, this, eg]
      simp [encR]
    · rw [hm]
      have := cells2_get1 _ _ hl
      conv => rhs; rw [show t = t / 2 * 2 + 1 by omega]
      rw [this, eg]
      simp [encR]
  · rw [List.getElem?_eq_none (by simp; omega), List.getElem?_eq_none (by rw [cells2_length, prs_length]; simp; omega)]
theorem putCells_take {F cur : Array Value} (h : F.size ≤ cur.size) : (putCells id 0 F cur).size = cur.size ∧ (putCells id 0 F cur).toList.take F.size = F.toList := by
  refine ⟨by simp [putCells], ?_⟩
  apply List.ext_getElem?
  intro t
  rw [List.getElem?_take]
  by_cases ht : t < F.size
  · rw [if_pos ht]
    have h2 : t < cur.size := by omega
    have e : (putCells id 0 F cur)[t]? = some F[t]! := by
      simp [putCells, h2, ht]
    rw [Array.getElem?_toList, e, getElem!_pos F t ht]
    simp [ht]
  · rw [if_neg ht, List.getElem?_eq_none (by simpa using ht)]

theorem Own.ne_spine {w : World} {lo hi : Nat} {g n cap : Nat} {ps : List (Value × Int)} {v : Value} {xs : List Int} (S : Spine w lo hi (.slice (some ⟨g, 0, none⟩) n cap) ps) (h : Own w lo hi v xs) : v.ownBlock = none ∨ v.ownBlock ≠ some g := row_ne_spine S h

set_option maxHeartbeats 2000000 in
theorem sort_some (g n cap lo hi : Nat) (l : List Rw) (w : World) (S : Spine w lo hi (.slice (some ⟨g, 0, none⟩) n cap) (prs l)) (R : ∀ x ∈ l, Own w lo hi x.1 x.2.1) (hn : n = l.length) (hlim : n ≤ 1099511627776) :
    Calls Tryz.prog 23 #[.slice (some ⟨g, 0, none⟩) n cap, .func (.func 24) #[] #[]] w fun e w' => e = .returned (.tuple #[]) ∧ ∃ l', l.Perm l' ∧ Asc (its l') ∧ Spine w' lo hi (.slice (some ⟨g, 0, none⟩) n cap) (prs l') ∧ w.grownBy w' (some g) := by
  have hin : Inhabited (RwIn w lo hi) := ⟨⟨(vn, ([], 0)), own_nil S.2.2.2⟩⟩
  obtain ⟨d, hd⟩ : ∃ d : Array (RwIn w lo hi), d.toList.map (·.1) = l := ⟨(l.attach.map fun x => (⟨x.1, R x.1 x.2⟩ : RwIn w lo hi)).toArray, by rw [List.toList_toArray, List.map_map]; exact List.attach_map_subtype_val l⟩
  have hds : d.size = n := by rw [hn, ← hd]; simp
  have hsp := S
  obtain ⟨⟨hc1, hc2⟩, hS2, hS3, hS4⟩ := hsp
  rcases hc2 with ⟨e, _⟩ | ⟨g', cap', cur, hv, hg1, hg, hnc, hcm, hcs, htake⟩
  · simp at e
  simp only [Value.slice.injEq, Option.some.injEq, Addr.mk.injEq, and_true] at hv
  obtain ⟨rfl, -, rfl⟩ := hv
  have hgs : g < w.heap.size := (Array.getElem?_eq_some_iff.1 hg).1
  have hF : (flatK encR 2 d).size = n * 2 := by rw [size_flatK, hds]
  have hlen : (prs l).length = n := by rw [prs_length, hn]
  have hH : HoldsK encR 2 w g 0 d := by
    intro j hj
    rw [hF] at hj
    have hjc : j < cur.size := by rw [hcs]; rw [hlen] at hnc; omega
    constructor
    · have e1 : (flatK encR 2 d).toList[j]? = cur.toList[j]? := by
        rw [flat_cells2, hd, ← htake, List.getElem?_take, if_pos (by rw [hlen]; exact hj)]
      rw [Array.getElem?_toList, Array.getElem?_toList] at e1
      have e2 : (flatK encR 2 d)[j]? = some (flatK encR 2 d)[j]! := by rw [getElem!_pos _ j (by omega)]; simp
      rw [e2] at e1
      simp [World.cell?, hg, ← e1]
    · have := S.frozenAt j
      simpa using this
  have eg : ∀ args w, (callFunc 24 args).run Tryz.prog w = .ok (.enter 24 args) w := enters_of Tryz.func24 (by kernel_rfl) rfl
  have hcmp : CmpLays Tryz.prog 24 #[] (encR (w := w) (lo := lo) (hi := hi)) 2 cfR g 0 d.size w := fun m os dk _ x y => by
    have hW := sortW_grown (encR (w := w) (lo := lo) (hi := hi)) 2 w g 0 m dk os
    have ix := (x.2.keptB hW (Own.ne_spine S x.2)).ints
    have iy := (y.2.keptB hW (Own.ne_spine S y.2)).ints
    obtain ⟨xa, xn, xc, ex⟩ := ix.shape
    obtain ⟨ya, yn, yc, ey⟩ := iy.shape
    rw [ex] at ix
    rw [ey] at iy
    have := compareItems_q xa xn xc x.1.2.2 x.1.2.1 ya yn yc y.1.2.2 y.1.2.1 _ ix iy
    rw [← ex, ← ey] at this
    exact this
  have hcon := AnyQ.slices_SortFunc Tryz.sortItems 2 Tryz.isAgg36 Tryz.sizeOf36 encR (fun _ => rfl) (fun x v hv => by
    obtain ⟨xa, xn, xc, ex⟩ := x.2.ints.shape
    simp [encR] at hv
    rcases hv with rfl | rfl
    · rw [ex]; rfl
    · rfl) cfR swoR 24 #[] g 0 cap d w eg hcmp hH hgs (by omega)
  change Calls Tryz.prog 23 _ _ _ at hcon
  rw [hds] at hcon
  refine hcon.mono ?_
  rintro e w' ⟨rfl, d', m, os, hp, hs, rfl⟩
  have hd's : d'.size = n := by rw [hp.1, hds]
  refine ⟨rfl, d'.toList.map (·.1), ?_, ?_, ?_, sortW_grown _ _ _ _ _ _ _ _⟩
  · rw [← hd]
    refine List.Perm.map _ ?_
    have := hp.2.2
    rw [Array.extract_eq_self_of_le (by omega), Array.extract_eq_self_of_le (by omega)] at this
    exact this.symm
  · unfold Asc its
    rw [List.map_map, List.pairwise_map, List.pairwise_iff_getElem]
    intro i j hi hj hij
    simp only [Array.length_toList] at hi hj
    have := hs i j (Nat.zero_le _) hij (by omega)
    rw [ltR, decide_eq_false_iff_not, getElem!_pos d' i hi, getElem!_pos d' j hj] at this
    simpa using this
  · have hlen' : (prs (d'.toList.map (·.1))).length = n := by rw [prs_length]; simpa using hd's
    have hF' : (flatK encR 2 d').size = n * 2 := by rw [size_flatK, hd's]
    have hpc := putCells_take (F := flatK encR 2 d') (cur := cur) (by rw [hF', hcs]; rw [hlen] at hnc; omega)
    refine ⟨⟨by rw [cells2_length], .inr ⟨g, cap, _, by rw [hlen'], hg1, sortW_block _ _ _ _ hg, by rw [hlen', ← hlen]; exact hnc, hcm, by rw [hpc.1]; exact hcs, ?_⟩⟩, hS2, by rw [hlen', ← hlen]; exact hS3, Nat.le_trans hS4 (sortW_grown _ _ _ _ _ _ _ _).size⟩
    rw [hlen', ← hF', hpc.2, flat_cells2]

theorem sort_any (v : Value) (lo hi : Nat) (l : List Rw) (w : World) (S : Spine w lo hi v (prs l)) (R : ∀ x ∈ l, Own w lo hi x.1 x.2.1) (hlim : l.length ≤ 1099511627776) :
    Calls Tryz.prog 23 #[v, .func (.func 24) #[] #[]] w fun e w' => e = .returned (.tuple #[]) ∧ ∃ l', l.Perm l' ∧ Asc (its l') ∧ Spine w' lo hi v (prs l') ∧ (∀ x ∈ l', Own w' lo hi x.1 x.2.1) ∧ Only lo hi w w' := by
  have hS := S
  rcases hS.1.2 with ⟨rfl, h0⟩ | ⟨g, cap, cur, rfl, hg1, hg, hnc, hcm, _⟩
  · have hl : l = [] := List.length_eq_zero_iff.1 (by rw [← prs_length]; exact h0)
    subst hl
    have hcon := AnyF.slices_SortFunc_none Tryz.sortItems none 0 (.func (.func 24) #[] #[]) w
    change Calls Tryz.prog 23 _ _ _ at hcon
    refine hcon.mono ?_
    rintro e w' ⟨rfl, rfl⟩
    exact ⟨rfl, [], List.Perm.refl _, List.Pairwise.nil, S, fun x hx => by simp at hx, Only.refl _ _ _⟩
  · have hlen := prs_length l
    rw [hlen] at S ⊢
    refine (sort_some g l.length cap lo hi l w S R rfl hlim).mono ?_
    rintro e w' ⟨rfl, l', hp, ha, hs, hgr⟩
    have hgh : g < hi := S.2.1 g rfl
    refine ⟨rfl, l', hp, ha, hs, fun x hx => ?_, Only.of_grown hgr (fun k hk => by simp at hk; omega)⟩
    have hx' := R x (hp.symm.subset hx)
    exact hx'.keptB hgr (Own.ne_spine S hx')

end Go.Proofs.YtflbdfpgaeeleaaGreatDoor
