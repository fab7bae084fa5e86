/-
  The contracts of impl.together and impl.ZAdd: both together, in memory of their own, if that is right.
-/
import Derived.Test.YtflbdfpgaeeleaaGreatDoorDelete
import Derived.Test.YtflbdfpgaeeleaaGreatDoorAddSpec
import Derived.Test.YtflbdfpgaeeleaaGreatDoorCopy
namespace Go.Proofs.YtflbdfpgaeeleaaGreatDoor
set_option maxRecDepth 100000
open Go.RowKit

/-- Items in memory, their capacity told; their rows may lie wherever they do. -/
def TailZ (w : World) (v : Value) (zs : List It) : Prop := ∃ l : List Rw, zs = its l ∧ Tail w v (prs l) ∧ RowsIn w l
theorem TailZ.below {w w' : World} {v : Value} {zs : List It} (h : TailZ w v zs) (hb : Below w.heap.size w w') : TailZ w' v zs := by
  obtain ⟨l, e, t, r⟩ := h
  exact ⟨l, e, t.below hb, r.below hb⟩
theorem TailZ.items {w : World} {v : Value} {zs : List It} (h : TailZ w v zs) : ItemsAt w v zs := by
  obtain ⟨l, rfl, t, r⟩ := h
  exact t.1.itemsOf r
theorem OwnZ.tail {w : World} {lo hi : Nat} {v : Value} {zs : List It} (h : OwnZ w lo hi v zs) : TailZ w v zs := by
  obtain ⟨l, hl, S, R, _⟩ := h.opened
  have hr : RowsIn w l := fun x hx => (R x hx).ints
  refine ⟨l, hl, ⟨S.pairs hr.shape, ?_⟩, hr⟩
  rcases S.1.2 with ⟨rfl, h0⟩ | ⟨g, cap, cur, rfl, _, _, hnc, hcm, _⟩
  · exact ⟨none, 0, by rw [h0], by omega, by omega⟩
  · exact ⟨_, cap, rfl, hnc, by have := hcm; simp only [maxLen] at this; omega⟩
theorem its_filter (l : List Rw) : its (l.filter nzR) = (its l).filter fun p => decide (p.2 ≠ 0) := by
  unfold its nzR
  rw [List.filter_map]
  rfl
theorem low_of {l : List Rw} (h : Mild (its l)) : Low l := fun x hx => by
  have := h.2.2 x.2 (List.mem_map.2 ⟨x, hx, rfl⟩)
  omega

set_option maxHeartbeats 2000000 in
theorem together_mild (v v2 : Value) (a b : List It) (w : World) (h : TailZ w v a) (h2 : TailZ w v2 b) (hsa : Srt a) (hna : Nz a) (hsb : Srt b) (ma : Mild a) (mb : Mild b) :
    Calls Tryz.prog 40 #[v, v2] w fun e w' => ∃ v', e = .returned v' ∧ OwnZ w' w.heap.size w'.heap.size v' (addZ a b) ∧ Below w.heap.size w w' := by
  obtain ⟨la, ea, ta, ra⟩ := h
  obtain ⟨lb, eb, tb, rb⟩ := h2
  have HADD : Hid ((mrgZ (its la) (its lb)).filter (fun p => decide (p.2 ≠ 0)) = addZ a b) := by
    show _ = _
    rw [← ea, ← eb]
    exact mrg_add hsa hna hsb
  have hrows : ∀ k, k < (addZ a b).length → ((addZ a b).getD k ([], 0)).1.length ≤ 8796093022208 := fun k hk => by
    rcases add_rows (getZ_mem hk) with ⟨p, hp, e⟩ | ⟨p, hp, e⟩
    · obtain ⟨j, hj, e'⟩ := mem_getD (d := ([], 0)) hp
      have := ma.2.1 j hj
      rw [e, ← e']; omega
    · obtain ⟨j, hj, e'⟩ := mem_getD (d := ([], 0)) hp
      have := mb.2.1 j hj
      rw [e, ← e']; omega
  have hlen : (addZ a b).length ≤ 2097152 := by
    have h1 := add_len b a
    have h2 := ma.1
    have h3 := mb.1
    omega
  have hla : la.length ≤ 1048576 := by have := ma.1; rw [ea, its_length] at this; exact this
  have hlb : lb.length ≤ 1048576 := by have := mb.1; rw [eb, its_length] at this; exact this
  have lowa := low_of (l := la) (by rw [← ea]; exact ma)
  have lowb := low_of (l := lb) (by rw [← eb]; exact mb)
  have HMLEN : Hid ((mrgZ (its la) (its lb)).length ≤ 2097152) := by
    have h1 := mrg_len (its la) (its lb)
    rw [its_length, its_length] at h1
    show _ ≤ _
    omega
  clear hsa hna hsb ma mb ea eb
  go_enter Tryz.func40, Tryz.ntmps40
  go_wp2_with fail
  refine (merge_any v v2 la lb _ ta tb ra rb lowa lowb hla hlb).mono ?_
  rintro e w1 ⟨v1, rfl, l, hl, hr, S1, hb1⟩
  have HL : Hid (its l = mrgZ (its la) (its lb)) := hl
  have hll : l.length ≤ 2097152 := by rw [← its_length, hl]; exact HMLEN.out
  have z1 := hb1.size
  clear ta tb ra rb lowa lowb hl
  go_wp2_with fail
  refine (deleteFunc_any v1 _ _ l _ S1 hr.shape hll).mono ?_
  rintro e w2 ⟨v2', rfl, P2, O2⟩
  have hk2 : Below w.heap.size w w2 := O2.below hb1 (Nat.le_refl _) z1
  have I2 : ItemsAt w2 v2' (its (l.filter nzR)) := P2.itemsOf (fun x hx => (hr x (List.mem_filter.1 hx).1).below hk2)
  have e2 : its (l.filter nzR) = addZ a b := by rw [its_filter, HL.out]; exact HADD.out
  rw [e2] at I2
  clear S1 O2 P2 hb1 hr hll e2
  go_wp2_with fail
  refine (copyItems_any v2' (addZ a b) _ I2 (by omega) hrows).mono ?_
  rintro e w3 ⟨v3, rfl, Z3, hb3⟩
  have R : Hid (OwnZ w3 w.heap.size w3.heap.size v3 (addZ a b)) := Z3.wide hk2.size (Nat.le_refl _) (Nat.le_refl _)
  have HK : Hid (Below w.heap.size w w3) := below_then hk2 hb3
  clear Z3 hb3 hk2 I2 hrows
  go_wp2
  go_ret
  exact ⟨_, rfl, R.out, HK.out⟩

theorem together_any (v v2 : Value) (a b : List It) (w : World) (h : TailZ w v a) (h2 : TailZ w v2 b) (ha : zOkB a = true) (hb : zOkB b = true) :
    Calls Tryz.prog 40 #[v, v2] w fun e w' => ∃ v', e = .returned v' ∧ OwnZ w' w.heap.size w'.heap.size v' (addZ a b) ∧ Below w.heap.size w w' :=
  together_mild v v2 a b w h h2 (zOk_srt ha) (zOk_nz ha) (zOk_srt hb) (zOk_mild ha) (zOk_mild hb)

set_option maxHeartbeats 1000000 in
theorem unlessTooMuch_any (v : Value) (zs : List It) (lo hi : Nat) (w : World) (h : OwnZ w lo hi v zs) (_hlo : lo ≤ w.heap.size) :
    Calls Tryz.prog 39 #[v] w fun e w' => ∃ v', e = .returned (.tuple #[v', .bool (zOkB zs)]) ∧ OwnZ w' lo w'.heap.size v' (if zOkB zs then zs else []) ∧ Below w.heap.size w w' := by
  cases hz : zOkB zs with
  | false =>
    have hI := h.items
    go_enter Tryz.func39, Tryz.ntmps39
    go_wp2_with fail
    refine (implZOk_any v zs _ hI).mono ?_
    rw [hz]
    rintro e w1 ⟨rfl, hd1⟩
    have HK : Hid (Below w.heap.size w w1) := hd1
    clear h hI hd1
    go_wp2
    go_ret2
    exact ⟨_, rfl, by simpa using nil_ownZ _ _, HK.out⟩
  | true =>
    have hI := h.items
    go_enter Tryz.func39, Tryz.ntmps39
    go_wp2_with fail
    refine (implZOk_any v zs _ hI).mono ?_
    rw [hz]
    rintro e w1 ⟨rfl, hd1⟩
    have HK : Hid (Below w.heap.size w w1) := hd1
    have R : Hid (OwnZ w1 lo w1.heap.size v zs) := (h.keep' HK.out).wide (Nat.le_refl _) (by have := h.hi_le; have := HK.out.size; omega) (Nat.le_refl _)
    clear h hI hd1
    go_wp2
    go_ret2
    exact ⟨_, rfl, by simpa using R.out, HK.out⟩

set_option maxHeartbeats 2000000 in
theorem implZAdd_any (v v2 : Value) (a b : List It) (w : World) (h : TailZ w v a) (h2 : TailZ w v2 b) :
    Calls Tryz.prog 11 #[v, v2] w fun e w' => ∃ v', e = .returned (.tuple #[v', .bool (addOk a b)]) ∧ OwnZ w' w.heap.size w'.heap.size v' (addOut a b) ∧ Below w.heap.size w w' := by
  cases ha : zOkB a with
  | false =>
    have e0 : addOk a b = false := by simp [addOk, ha]
    have e1 : addOut a b = [] := by simp [addOut, e0]
    rw [e0, e1]
    go_enter Tryz.func11, Tryz.ntmps11
    go_wp2_with fail
    refine (implZOk_any v a _ h.items).mono ?_
    rw [ha]
    rintro e w1 ⟨rfl, hb1⟩
    have HK : Hid (Below w.heap.size w w1) := hb1
    clear h h2 hb1 e0 e1
    go_wp2
    go_ret2
    exact ⟨_, rfl, nil_ownZ _ _, HK.out⟩
  | true =>
    cases hb : zOkB b with
    | false =>
      have e0 : addOk a b = false := by simp [addOk, hb]
      have e1 : addOut a b = [] := by simp [addOut, e0]
      rw [e0, e1]
      go_enter Tryz.func11, Tryz.ntmps11
      go_wp2_with fail
      refine (implZOk_any v a _ h.items).mono ?_
      rw [ha]
      rintro e w1 ⟨rfl, hb1⟩
      go_wp2_with fail
      refine (implZOk_any v2 b _ (h2.items.below hb1)).mono ?_
      rw [hb]
      rintro e w2 ⟨rfl, hb2⟩
      have HK : Hid (Below w.heap.size w w2) := below_then hb1 hb2
      clear h h2 hb1 hb2 e0 e1
      go_wp2
      go_ret2
      exact ⟨_, rfl, nil_ownZ _ _, HK.out⟩
    | true =>
      have e0 : addOk a b = zOkB (addZ a b) := by simp [addOk, ha, hb]
      have e1 : addOut a b = if zOkB (addZ a b) then addZ a b else [] := by simp [addOut, e0]
      rw [e0, e1]
      obtain ⟨os, HO⟩ : ∃ os, Hid (os = if zOkB (addZ a b) then addZ a b else []) := ⟨_, rfl⟩
      obtain ⟨c, HC⟩ : ∃ c, Hid (c = zOkB (addZ a b)) := ⟨_, rfl⟩
      rw [← HO.out, ← HC.out]
      go_enter Tryz.func11, Tryz.ntmps11
      go_wp2_with fail
      refine (implZOk_any v a _ h.items).mono ?_
      rw [ha]
      rintro e w1 ⟨rfl, hb1⟩
      go_wp2_with fail
      refine (implZOk_any v2 b _ (h2.items.below hb1)).mono ?_
      rw [hb]
      rintro e w2 ⟨rfl, hb2⟩
      have hk2 := below_then hb1 hb2
      go_wp2_with fail
      refine (together_any v v2 a b _ (h.below hk2) (h2.below hk2) ha hb).mono ?_
      rintro e w3 ⟨v3, rfl, Z3, hb3⟩
      have hk3 := below_then hk2 hb3
      have z2 := hk2.size
      clear h h2 hb1 hb2 e0 e1
      go_wp2_with fail
      refine (unlessTooMuch_any v3 (addZ a b) _ _ _ Z3 hb3.size).mono ?_
      rw [← HO.out, ← HC.out]
      rintro e w4 ⟨v4, rfl, Z4, hb4⟩
      have HK : Hid (Below w.heap.size w w4) := below_then hk3 hb4
      have R : Hid (OwnZ w4 w.heap.size w4.heap.size v4 os) := Z4.wide z2 (Nat.le_refl _) (Nat.le_refl _)
      clear Z3 Z4 hb3 hb4 hk2 hk3
      go_wp2
      go_ret2
      exact ⟨_, rfl, R.out, HK.out⟩

end Go.Proofs.YtflbdfpgaeeleaaGreatDoor
