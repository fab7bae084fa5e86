/-
  The contract of laws.toPlan.
-/
import Derived.Test.YtkmihnagmbdbgaaPlanCopy2
namespace Go.Proofs.Ytkmihnagmbdbgaa
set_option maxRecDepth 100000
open Go.RowKit
set_option linter.unusedVariables false

set_option maxHeartbeats 800000 in
theorem toPlan_step (n : Nat) (IH : CpSOk n) : CpOk n := by
  intro p vc vk vd w hp hlim
  have HIH : Hid (CpSOk n) := IH
  obtain ⟨hcs, hks, hkd⟩ := hp
  have HCS : Hid (RawCels w vc p.nd.cs) := hcs
  have HKS : Hid (RawInts w vk p.nd.ks) := hks
  have HKD : Hid (KidsV (NodeAt n) w vd p.kids) := hkd
  obtain ⟨-, ca, cc, rfl, -⟩ := id hcs
  obtain ⟨-, ka, kc, rfl, -⟩ := id hks
  obtain ⟨-, da, dc, rfl, -⟩ := id hkd
  have hsz := Pl.sz_succ p
  have HL1 : Hid (p.nd.cs.length ≤ 1048576) := by show _ ≤ _; omega
  have HL2 : Hid (p.nd.ks.length ≤ 1048576) := by show _ ≤ _; omega
  have HL3 : Hid (p.kids.length + kidsSz n p.kids ≤ 1048576) := by show _ ≤ _; unfold kidsSz; omega
  have HPV : Hid (∀ x vc vk vd, RawCels x vc p.nd.cs → RawInts x vk p.nd.ks → KidsV (NodeAt n) x vd p.kids → PlanV (n + 1) x p vc vk vd) := fun x vc vk vd h1 h2 h3 => ⟨h1, h2, h3⟩
  clear hcs hks hkd IH hsz hlim
  obtain ⟨d, hd⟩ : ∃ d, d = p.nd := ⟨_, rfl⟩
  obtain ⟨kl, hkl2⟩ : ∃ kl, kl = p.kids := ⟨_, rfl⟩
  rw [← hd] at HCS HKS HL1 HL2 HPV ⊢
  rw [← hkl2] at HKD HL3 HPV ⊢
  clear hd hkl2
  obtain ⟨nc, hnc⟩ : ∃ m, m = d.cs.length := ⟨_, rfl⟩
  obtain ⟨nk, hnk⟩ : ∃ m, m = d.ks.length := ⟨_, rfl⟩
  obtain ⟨nd, hnd⟩ : ∃ m, m = kl.length := ⟨_, rfl⟩
  have HNC : Hid (nc = d.cs.length) := hnc
  have HNK : Hid (nk = d.ks.length) := hnk
  have HND : Hid (nd = kl.length) := hnd
  rw [← hnc] at HCS HL1 ⊢
  rw [← hnk] at HKS HL2 ⊢
  rw [← hnd] at HKD HL3 ⊢
  clear hnc hnk hnd
  obtain ⟨⟨dk, dn, ⟨tk, tn, ⟨lk, la, lb, ln⟩, ⟨rk, ra, rb, rn⟩⟩, dcs, dda, ddb, dks, dg, dc'⟩, hdd⟩ : ∃ d', d' = d := ⟨_, rfl⟩
  subst hdd
  simp only at HCS HKS HL1 HL2 HPV HNC HNK ⊢
  go_enter Try.func6, Try.ntmps6
  go_wp2_with fail
  refine (toTest_any ⟨tk, tn, ⟨lk, la, lb, ln⟩, ⟨rk, ra, rb, rn⟩⟩ _).mono ?_
  rintro e w1 ⟨rfl, hb⟩
  simp only
  have HP : Hid (w1.heap[w.heap.size]? = some (.cells #[.int .i64 dk, .int .i64 dn, .int .i64 tk, .bool tn, .int .i64 lk, .int .i64 la, .int .i64 lb, .int .i64 ln, .int .i64 rk, .int .i64 ra, .int .i64 rb, .int .i64 rn, .slice ca nc cc, .int .i64 dda, .int .i64 ddb, .slice ka nk kc, .int .i64 dg, .int .i64 dc', .slice da nd dc] 30)) := at_below (threeAt w _ _ _).1 hb
  have HR : Hid (w1.heap[w.heap.size + 1]? = some (.cells #[.int .i64 0, .int .i64 0, .int .i64 0, .bool false, .int .i64 0, .int .i64 0, .int .i64 0, .int .i64 0, .int .i64 0, .int .i64 0, .int .i64 0, .int .i64 0, .slice none 0 0, .int .i64 0, .int .i64 0, .slice none 0 0, .int .i64 0, .int .i64 0, .slice none 0 0] 39)) := at_below (threeAt w _ _ _).2.1 hb
  have HO : Hid (w1.heap[w.heap.size + 1 + 1]? = some (.cells #[.int .i64 dk, .int .i64 dn, .int .i64 0, .bool false, .int .i64 0, .int .i64 0, .int .i64 0, .int .i64 0, .int .i64 0, .int .i64 0, .int .i64 0, .int .i64 0, .slice none 0 0, .int .i64 0, .int .i64 0, .slice none 0 0, .int .i64 0, .int .i64 0, .slice none 0 0] 39)) := at_below (threeAt w _ _ _).2.2.1 hb
  have HB : Hid (Below w.heap.size w w1) := bel_then (threeAt w _ _ _).2.2.2.1 hb
  have hsz : w.heap.size + 1 + 1 < w1.heap.size := by have h1 := hb.size; rw [(threeAt w _ _ _).2.2.2.2] at h1; omega
  have HS : Hid (w.heap.size + 1 + 1 < w1.heap.size) := hsz
  clear hb hsz
  have fz : ∀ j, w1.frozen? ⟨w.heap.size + 1 + 1, j, none⟩ = false := fun j => frozen_at HO.out j
  have o2 : w1.cell? ⟨w.heap.size + 1 + 1, 2, none⟩ = some (.int .i64 0) := cell_at HO.out rfl
  have o3 : w1.cell? ⟨w.heap.size + 1 + 1, 3, none⟩ = some (.bool false) := cell_at HO.out rfl
  have o4 : w1.cell? ⟨w.heap.size + 1 + 1, 4, none⟩ = some (.int .i64 0) := cell_at HO.out rfl
  have o5 : w1.cell? ⟨w.heap.size + 1 + 1, 5, none⟩ = some (.int .i64 0) := cell_at HO.out rfl
  have o6 : w1.cell? ⟨w.heap.size + 1 + 1, 6, none⟩ = some (.int .i64 0) := cell_at HO.out rfl
  have o7 : w1.cell? ⟨w.heap.size + 1 + 1, 7, none⟩ = some (.int .i64 0) := cell_at HO.out rfl
  have o8 : w1.cell? ⟨w.heap.size + 1 + 1, 8, none⟩ = some (.int .i64 0) := cell_at HO.out rfl
  have o9 : w1.cell? ⟨w.heap.size + 1 + 1, 9, none⟩ = some (.int .i64 0) := cell_at HO.out rfl
  have o10 : w1.cell? ⟨w.heap.size + 1 + 1, 10, none⟩ = some (.int .i64 0) := cell_at HO.out rfl
  have o11 : w1.cell? ⟨w.heap.size + 1 + 1, 11, none⟩ = some (.int .i64 0) := cell_at HO.out rfl
  have p12 : w1.cell? ⟨w.heap.size, 12, none⟩ = some (.slice ca nc cc) := cell_at HP.out rfl
  go_wp2_with fail
  refine (toCellS_any _ dcs _ (HCS.out.below ?hbel) (by rw [← HNC.out]; exact HL1.out)).mono ?_
  case hbel => 
    iterate 10 refine Below.setCell ?_ (Nat.le_succ_of_le (Nat.le_succ _)) _
    exact HB.out
  rintro e w2 ⟨ca', rfl, hup, hb⟩
  rw [← HNC.out] at hup ⊢
  replace HP : Hid (w2.heap[w.heap.size]? = some (.cells #[.int .i64 dk, .int .i64 dn, .int .i64 tk, .bool tn, .int .i64 lk, .int .i64 la, .int .i64 lb, .int .i64 ln, .int .i64 rk, .int .i64 ra, .int .i64 rb, .int .i64 rn, .slice ca nc cc, .int .i64 dda, .int .i64 ddb, .slice ka nk kc, .int .i64 dg, .int .i64 dc', .slice da nd dc] 30)) := at_below (blk_other (blk_other (blk_other (blk_other (blk_other (blk_other (blk_other (blk_other (blk_other (blk_other (HP.out) (by omega)) (by omega)) (by omega)) (by omega)) (by omega)) (by omega)) (by omega)) (by omega)) (by omega)) (by omega)) hb
  replace HR : Hid (w2.heap[w.heap.size + 1]? = some (.cells #[.int .i64 0, .int .i64 0, .int .i64 0, .bool false, .int .i64 0, .int .i64 0, .int .i64 0, .int .i64 0, .int .i64 0, .int .i64 0, .int .i64 0, .int .i64 0, .slice none 0 0, .int .i64 0, .int .i64 0, .slice none 0 0, .int .i64 0, .int .i64 0, .slice none 0 0] 39)) := at_below (blk_other (blk_other (blk_other (blk_other (blk_other (blk_other (blk_other (blk_other (blk_other (blk_other (HR.out) (by omega)) (by omega)) (by omega)) (by omega)) (by omega)) (by omega)) (by omega)) (by omega)) (by omega)) (by omega)) hb
  replace HO : Hid (w2.heap[w.heap.size + 1 + 1]? = some (.cells #[.int .i64 dk, .int .i64 dn, .int .i64 tk, .bool tn, .int .i64 lk, .int .i64 la, .int .i64 lb, .int .i64 ln, .int .i64 rk, .int .i64 ra, .int .i64 rb, .int .i64 rn, .slice none 0 0, .int .i64 0, .int .i64 0, .slice none 0 0, .int .i64 0, .int .i64 0, .slice none 0 0] 39)) := at_below (blk_same (blk_same (blk_same (blk_same (blk_same (blk_same (blk_same (blk_same (blk_same (blk_same (HO.out))))))))))) hb
  replace HB : Hid (Below w.heap.size w w2) := bel_then (by
    iterate 10 refine Below.setCell ?_ (Nat.le_succ_of_le (Nat.le_succ _)) _
    exact HB.out) hb
  simp only [setCell_sz] at hup
  have HUC : Hid (Up (w.heap.size + 1 + 1 + 1) w2 (fun x => RawCels x (.slice (some ca') nc nc) dcs)) := hup.mono HS.out
  have hsz : w1.heap.size ≤ w2.heap.size := by have := hb.size; simp only [setCell_sz] at this; exact this
  replace HS : Hid (w.heap.size + 1 + 1 < w2.heap.size) := Nat.lt_of_lt_of_le HS.out hsz
  clear o2 o3 o4 o5 o6 o7 o8 o9 o10 o11 p12 fz hup hb hsz
  have fz : ∀ j, w2.frozen? ⟨w.heap.size + 1 + 1, j, none⟩ = false := fun j => frozen_at HO.out j
  have o12 : w2.cell? ⟨w.heap.size + 1 + 1, 12, none⟩ = some (.slice none 0 0) := cell_at HO.out rfl
  have o13 : w2.cell? ⟨w.heap.size + 1 + 1, 13, none⟩ = some (.int .i64 0) := cell_at HO.out rfl
  have o14 : w2.cell? ⟨w.heap.size + 1 + 1, 14, none⟩ = some (.int .i64 0) := cell_at HO.out rfl
  have p13 : w2.cell? ⟨w.heap.size, 13, none⟩ = some (.int .i64 dda) := cell_at HP.out rfl
  have p14 : w2.cell? ⟨w.heap.size, 14, none⟩ = some (.int .i64 ddb) := cell_at HP.out rfl
  have p15 : w2.cell? ⟨w.heap.size, 15, none⟩ = some (.slice ka nk kc) := cell_at HP.out rfl
  go_wp2_with fail
  refine (toIntS_up _ dks _ (HKS.out.below ?hbel) (by rw [← HNK.out]; exact HL2.out)).mono ?_
  case hbel => 
    iterate 3 refine Below.setCell ?_ (Nat.le_succ_of_le (Nat.le_succ _)) _
    exact HB.out
  rintro e w3 ⟨ka', rfl, hup, hb⟩
  rw [← HNK.out] at hup ⊢
  replace HP : Hid (w3.heap[w.heap.size]? = some (.cells #[.int .i64 dk, .int .i64 dn, .int .i64 tk, .bool tn, .int .i64 lk, .int .i64 la, .int .i64 lb, .int .i64 ln, .int .i64 rk, .int .i64 ra, .int .i64 rb, .int .i64 rn, .slice ca nc cc, .int .i64 dda, .int .i64 ddb, .slice ka nk kc, .int .i64 dg, .int .i64 dc', .slice da nd dc] 30)) := at_below (blk_other (blk_other (blk_other (HP.out) (by omega)) (by omega)) (by omega)) hb
  replace HR : Hid (w3.heap[w.heap.size + 1]? = some (.cells #[.int .i64 0, .int .i64 0, .int .i64 0, .bool false, .int .i64 0, .int .i64 0, .int .i64 0, .int .i64 0, .int .i64 0, .int .i64 0, .int .i64 0, .int .i64 0, .slice none 0 0, .int .i64 0, .int .i64 0, .slice none 0 0, .int .i64 0, .int .i64 0, .slice none 0 0] 39)) := at_below (blk_other (blk_other (blk_other (HR.out) (by omega)) (by omega)) (by omega)) hb
  replace HO : Hid (w3.heap[w.heap.size + 1 + 1]? = some (.cells #[.int .i64 dk, .int .i64 dn, .int .i64 tk, .bool tn, .int .i64 lk, .int .i64 la, .int .i64 lb, .int .i64 ln, .int .i64 rk, .int .i64 ra, .int .i64 rb, .int .i64 rn, .slice (some ca') nc nc, .int .i64 dda, .int .i64 ddb, .slice none 0 0, .int .i64 0, .int .i64 0, .slice none 0 0] 39)) := at_below (blk_same (blk_same (blk_same (HO.out)))) hb
  replace HB : Hid (Below w.heap.size w w3) := bel_then (by
    iterate 3 refine Below.setCell ?_ (Nat.le_succ_of_le (Nat.le_succ _)) _
    exact HB.out) hb
  simp only [setCell_sz] at hup
  replace HUC : Hid (Up (w.heap.size + 1 + 1 + 1) w3 (fun x => RawCels x (.slice (some ca') nc nc) dcs)) := Up.bel (Up.next HUC.out (ab_setCell (ab_setCell (ab_setCell (Ab.refl _ _) (Nat.lt_succ_self _)) (Nat.lt_succ_self _)) (Nat.lt_succ_self _))) hb
  have HUK : Hid (Up (w.heap.size + 1 + 1 + 1) w3 (fun x => RawInts x (.slice (some ka') nk nk) dks)) := hup.mono HS.out
  have hsz : w2.heap.size ≤ w3.heap.size := by have := hb.size; simp only [setCell_sz] at this; exact this
  replace HS : Hid (w.heap.size + 1 + 1 < w3.heap.size) := Nat.lt_of_lt_of_le HS.out hsz
  clear o12 o13 o14 p13 p14 p15 fz hup hb hsz
  have fz : ∀ j, w3.frozen? ⟨w.heap.size + 1 + 1, j, none⟩ = false := fun j => frozen_at HO.out j
  have o15 : w3.cell? ⟨w.heap.size + 1 + 1, 15, none⟩ = some (.slice none 0 0) := cell_at HO.out rfl
  have o16 : w3.cell? ⟨w.heap.size + 1 + 1, 16, none⟩ = some (.int .i64 0) := cell_at HO.out rfl
  have o17 : w3.cell? ⟨w.heap.size + 1 + 1, 17, none⟩ = some (.int .i64 0) := cell_at HO.out rfl
  have p16 : w3.cell? ⟨w.heap.size, 16, none⟩ = some (.int .i64 dg) := cell_at HP.out rfl
  have p17 : w3.cell? ⟨w.heap.size, 17, none⟩ = some (.int .i64 dc') := cell_at HP.out rfl
  have p18 : w3.cell? ⟨w.heap.size, 18, none⟩ = some (.slice da nd dc) := cell_at HP.out rfl
  go_wp2_with fail
  refine (HIH.out kl _ _ (HKD.out.below ?hbel ?hnod) (by rw [← HND.out]; exact HL3.out)).mono ?_
  case hbel => 
    iterate 3 refine Below.setCell ?_ (Nat.le_succ_of_le (Nat.le_succ _)) _
    exact HB.out
  case hnod =>
    intro b o x hx
    refine NodeAt.below n hx ?_
    
    iterate 3 refine Below.setCell ?_ (Nat.le_succ_of_le (Nat.le_succ _)) _
    exact HB.out
  rintro e w4 ⟨da', rfl, hup, hb⟩
  rw [← HND.out] at hup ⊢
  replace HP : Hid (w4.heap[w.heap.size]? = some (.cells #[.int .i64 dk, .int .i64 dn, .int .i64 tk, .bool tn, .int .i64 lk, .int .i64 la, .int .i64 lb, .int .i64 ln, .int .i64 rk, .int .i64 ra, .int .i64 rb, .int .i64 rn, .slice ca nc cc, .int .i64 dda, .int .i64 ddb, .slice ka nk kc, .int .i64 dg, .int .i64 dc', .slice da nd dc] 30)) := at_below (blk_other (blk_other (blk_other (HP.out) (by omega)) (by omega)) (by omega)) hb
  replace HR : Hid (w4.heap[w.heap.size + 1]? = some (.cells #[.int .i64 0, .int .i64 0, .int .i64 0, .bool false, .int .i64 0, .int .i64 0, .int .i64 0, .int .i64 0, .int .i64 0, .int .i64 0, .int .i64 0, .int .i64 0, .slice none 0 0, .int .i64 0, .int .i64 0, .slice none 0 0, .int .i64 0, .int .i64 0, .slice none 0 0] 39)) := at_below (blk_other (blk_other (blk_other (HR.out) (by omega)) (by omega)) (by omega)) hb
  replace HO : Hid (w4.heap[w.heap.size + 1 + 1]? = some (.cells #[.int .i64 dk, .int .i64 dn, .int .i64 tk, .bool tn, .int .i64 lk, .int .i64 la, .int .i64 lb, .int .i64 ln, .int .i64 rk, .int .i64 ra, .int .i64 rb, .int .i64 rn, .slice (some ca') nc nc, .int .i64 dda, .int .i64 ddb, .slice (some ka') nk nk, .int .i64 dg, .int .i64 dc', .slice none 0 0] 39)) := at_below (blk_same (blk_same (blk_same (HO.out)))) hb
  replace HB : Hid (Below w.heap.size w w4) := bel_then (by
    iterate 3 refine Below.setCell ?_ (Nat.le_succ_of_le (Nat.le_succ _)) _
    exact HB.out) hb
  simp only [setCell_sz] at hup
  replace HUC : Hid (Up (w.heap.size + 1 + 1 + 1) w4 (fun x => RawCels x (.slice (some ca') nc nc) dcs)) := Up.bel (Up.next HUC.out (ab_setCell (ab_setCell (ab_setCell (Ab.refl _ _) (Nat.lt_succ_self _)) (Nat.lt_succ_self _)) (Nat.lt_succ_self _))) hb
  replace HUK : Hid (Up (w.heap.size + 1 + 1 + 1) w4 (fun x => RawInts x (.slice (some ka') nk nk) dks)) := Up.bel (Up.next HUK.out (ab_setCell (ab_setCell (ab_setCell (Ab.refl _ _) (Nat.lt_succ_self _)) (Nat.lt_succ_self _)) (Nat.lt_succ_self _))) hb
  have HUD : Hid (Up (w.heap.size + 1 + 1 + 1) w4 (fun x => KidsV (NodeAt n) x (.slice (some da') nd nd) kl ∧ KidsU n x (.slice (some da') nd nd))) := hup.mono HS.out
  have hsz : w3.heap.size ≤ w4.heap.size := by have := hb.size; simp only [setCell_sz] at this; exact this
  replace HS : Hid (w.heap.size + 1 + 1 < w4.heap.size) := Nat.lt_of_lt_of_le HS.out hsz
  clear o15 o16 o17 p16 p17 p18 fz hup hb hsz
  have fz : ∀ j, w4.frozen? ⟨w.heap.size + 1 + 1, j, none⟩ = false := fun j => frozen_at HO.out j
  have o18 : w4.cell? ⟨w.heap.size + 1 + 1, 18, none⟩ = some (.slice none 0 0) := cell_at HO.out rfl
  have HR5 : Hid ((w4.setCell ⟨w.heap.size + 1 + 1, 18, none⟩ (.slice (some da') nd nd)).rangeAt (w.heap.size + 1 + 1) 0 ([.int .i64 dk, .int .i64 dn, .int .i64 tk, .bool tn, .int .i64 lk, .int .i64 la, .int .i64 lb, .int .i64 ln, .int .i64 rk, .int .i64 ra, .int .i64 rb, .int .i64 rn, .slice (some ca') nc nc, .int .i64 dda, .int .i64 ddb, .slice (some ka') nk nk, .int .i64 dg, .int .i64 dc', .slice (some da') nd nd] : List Value)) := range_blk (vs := #[.int .i64 dk, .int .i64 dn, .int .i64 tk, .bool tn, .int .i64 lk, .int .i64 la, .int .i64 lb, .int .i64 ln, .int .i64 rk, .int .i64 ra, .int .i64 rb, .int .i64 rn, .slice (some ca') nc nc, .int .i64 dda, .int .i64 ddb, .slice (some ka') nk nk, .int .i64 dg, .int .i64 dc', .slice (some da') nd nd]) (blk_same HO.out)
  have HT5 : Hid ((w4.setCell ⟨w.heap.size + 1 + 1, 18, none⟩ (.slice (some da') nd nd)).there (w.heap.size + 1) 0 (#[.int .i64 dk, .int .i64 dn, .int .i64 tk, .bool tn, .int .i64 lk, .int .i64 la, .int .i64 lb, .int .i64 ln, .int .i64 rk, .int .i64 ra, .int .i64 rb, .int .i64 rn, .slice (some ca') nc nc, .int .i64 dda, .int .i64 ddb, .slice (some ka') nk nk, .int .i64 dg, .int .i64 dc', .slice (some da') nd nd] : Array Value).size) := there_blk (vs := #[.int .i64 0, .int .i64 0, .int .i64 0, .bool false, .int .i64 0, .int .i64 0, .int .i64 0, .int .i64 0, .int .i64 0, .int .i64 0, .int .i64 0, .int .i64 0, .slice none 0 0, .int .i64 0, .int .i64 0, .slice none 0 0, .int .i64 0, .int .i64 0, .slice none 0 0]) (blk_other HR.out (by omega))
  have hil : (Try.prog.info? 39).map (·.size) = some ([.int .i64 dk, .int .i64 dn, .int .i64 tk, .bool tn, .int .i64 lk, .int .i64 la, .int .i64 lb, .int .i64 ln, .int .i64 rk, .int .i64 ra, .int .i64 rb, .int .i64 rn, .slice (some ca') nc nc, .int .i64 dda, .int .i64 ddb, .slice (some ka') nk nk, .int .i64 dg, .int .i64 dc', .slice (some da') nd nd] : List Value).length := by kernel_rfl
  have hii : (Try.prog.info? 39).map (·.size) = some (#[.int .i64 dk, .int .i64 dn, .int .i64 tk, .bool tn, .int .i64 lk, .int .i64 la, .int .i64 lb, .int .i64 ln, .int .i64 rk, .int .i64 ra, .int .i64 rb, .int .i64 rn, .slice (some ca') nc nc, .int .i64 dda, .int .i64 ddb, .slice (some ka') nk nk, .int .i64 dg, .int .i64 dc', .slice (some da') nd nd] : Array Value).size := by kernel_rfl
  have H1 : Hid ((#[.int .i64 dk, .int .i64 dn, .int .i64 tk, .bool tn, .int .i64 lk, .int .i64 la, .int .i64 lb, .int .i64 ln, .int .i64 rk, .int .i64 ra, .int .i64 rb, .int .i64 rn, .slice (some ca') nc nc, .int .i64 dda, .int .i64 ddb, .slice (some ka') nk nk, .int .i64 dg, .int .i64 dc', .slice (some da') nd nd] : Array Value).all (·.oneCell') = true) := one19 ⟨dk, dn, ⟨tk, tn, ⟨lk, la, lb, ln⟩, ⟨rk, ra, rb, rn⟩⟩, dcs, dda, ddb, dks, dg, dc'⟩ _ _ _ rfl rfl rfl
  go_wp2_with (first | (refine wpList_load_mid rfl 39 _ rfl (w.heap.size + 1 + 1) 0 rfl _ _ HR5.out Try.underlying39 rfl hil ?_) | (refine wpList_store_mid rfl 39 _ _ rfl (w.heap.size + 1) 0 #[.int .i64 dk, .int .i64 dn, .int .i64 tk, .bool tn, .int .i64 lk, .int .i64 la, .int .i64 lb, .int .i64 ln, .int .i64 rk, .int .i64 ra, .int .i64 rb, .int .i64 rn, .slice (some ca') nc nc, .int .i64 dda, .int .i64 ddb, .slice (some ka') nk nk, .int .i64 dg, .int .i64 dc', .slice (some da') nd nd] rfl rfl ?_ hii H1.out ?_))
  · exact HT5.out
  refine bodyPost_ret (v := .agg #[.int .i64 dk, .int .i64 dn, .int .i64 tk, .bool tn, .int .i64 lk, .int .i64 la, .int .i64 lb, .int .i64 ln, .int .i64 rk, .int .i64 ra, .int .i64 rb, .int .i64 rn, .slice (some ca') nc nc, .int .i64 dda, .int .i64 ddb, .slice (some ka') nk nk, .int .i64 dg, .int .i64 dc', .slice (some da') nd nd]) (results_cell (a := 2) (t := 39) (ad := ⟨w.heap.size + 1, 0, none⟩) Try.results6 (by simp [Act.put]) ?hload) (by simp [Act.put]) ⟨ca', ka', da', rfl, ?hup, ?hbelow⟩
  case hload => exact run_loadVar_mid (P := Try.prog) _ (w.heap.size + 1) 0 39 [.int .i64 dk, .int .i64 dn, .int .i64 tk, .bool tn, .int .i64 lk, .int .i64 la, .int .i64 lb, .int .i64 ln, .int .i64 rk, .int .i64 ra, .int .i64 rb, .int .i64 rn, .slice (some ca') nc nc, .int .i64 dda, .int .i64 ddb, .slice (some ka') nk nk, .int .i64 dg, .int .i64 dc', .slice (some da') nd nd] _ (World.rangeAt_setCells_same _ _ _ _ HT5.out) Try.underlying39 rfl hil
  case hup =>
    intro x hx
    have hx2 : Ab (w.heap.size + 1 + 1 + 1) w4 x := Ab.trans (Ab.trans (ab_setCell (Ab.refl _ _) (Nat.lt_succ_self _)) (ab_setCells _ _ _ _ (by omega))) (hx.mono (by omega))
    exact ⟨HPV.out x _ _ _ (HUC.out x hx2) (HUK.out x hx2) (HUD.out x hx2).1, (HUD.out x hx2).2⟩
  case hbelow => exact bel_setCells _ _ _ _ (HB.out.setCell (Nat.le_succ_of_le (Nat.le_succ _)) _) (Nat.le_succ _)

theorem toPlan_anyU : ∀ n, CpOk n
  | 0 => toPlan_step 0 (toPlanS_of 0 fun m h => by omega)
  | n + 1 => toPlan_step (n + 1) (toPlanS_of (n + 1) fun m h => by obtain rfl : n = m := by omega
                                                                   exact toPlan_anyU n)
/-- The contract of toPlan, the blocks aside. -/
theorem toPlan_any (n : Nat) : ∀ (p : Pl (n + 1)) (vc vk vd : Value) (w : World), PlanV (n + 1) w p vc vk vd → Pl.sz (n + 1) p ≤ 1048576 →
  Calls Try.prog 6 #[.agg #[.int .i64 p.nd.k, .int .i64 p.nd.n, .int .i64 p.nd.t.k, .bool p.nd.t.no, .int .i64 p.nd.t.l.k, .int .i64 p.nd.t.l.a, .int .i64 p.nd.t.l.b, .int .i64 p.nd.t.l.n, .int .i64 p.nd.t.r.k, .int .i64 p.nd.t.r.a, .int .i64 p.nd.t.r.b, .int .i64 p.nd.t.r.n, vc, .int .i64 p.nd.a, .int .i64 p.nd.b, vk, .int .i64 p.nd.g, .int .i64 p.nd.c, vd]] w fun e w' => ∃ ca ka da, e = .returned (.agg #[.int .i64 p.nd.k, .int .i64 p.nd.n, .int .i64 p.nd.t.k, .bool p.nd.t.no, .int .i64 p.nd.t.l.k, .int .i64 p.nd.t.l.a, .int .i64 p.nd.t.l.b, .int .i64 p.nd.t.l.n, .int .i64 p.nd.t.r.k, .int .i64 p.nd.t.r.a, .int .i64 p.nd.t.r.b, .int .i64 p.nd.t.r.n, .slice (some ca) p.nd.cs.length p.nd.cs.length, .int .i64 p.nd.a, .int .i64 p.nd.b, .slice (some ka) p.nd.ks.length p.nd.ks.length, .int .i64 p.nd.g, .int .i64 p.nd.c, .slice (some da) p.kids.length p.kids.length]) ∧ Up w.heap.size w' (fun x => PlanV (n + 1) x p (.slice (some ca) p.nd.cs.length p.nd.cs.length) (.slice (some ka) p.nd.ks.length p.nd.ks.length) (.slice (some da) p.kids.length p.kids.length)) ∧ Below w.heap.size w w' := by
  intro p vc vk vd w hp hl
  refine (toPlan_anyU n p vc vk vd w hp hl).mono ?_
  rintro e w' ⟨ca, ka, da, he, hup, hb⟩
  exact ⟨ca, ka, da, he, fun x hx => (hup x hx).1, hb⟩

end Go.Proofs.Ytkmihnagmbdbgaa
