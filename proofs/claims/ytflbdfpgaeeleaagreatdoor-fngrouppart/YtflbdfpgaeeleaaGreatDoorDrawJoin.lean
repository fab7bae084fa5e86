/-
  What is drawn for the laws of joins: DrawJoinOf.
-/
import Derived.Test.YtflbdfpgaeeleaaGreatDoorDrawZ2
namespace Go.Proofs.YtflbdfpgaeeleaaGreatDoor
open Go.RowKit
set_option linter.unusedVariables false

theorem good_fewJ {zs : List It} (hl : (zs.length : Int) ≤ 7) (h : GoodB 200 zs) : GoodZ zs := ⟨by omega, h.up (by omega)⟩
theorem quot19 {q : Int} (h0 : 0 ≤ q) (h1 : q < 20) : 0 ≤ q.tdiv 19 ∧ q.tdiv 19 ≤ 1 := by
  rw [Int.tdiv_eq_ediv_of_nonneg h0]; omega
set_option maxRecDepth 100000 in
set_option maxHeartbeats 2000000 in
theorem l5Wide_any (g P : Nat) (w : World) (hP : P ≤ 1099511600000) (h : Rd w g P) :
    Calls Tryz.prog 13 #[.pointer (some ⟨g, 0, none⟩)] w fun e w' =>
      ∃ v, ∃ wd : Int, e = .returned (.tuple #[v, .int .i64 wd]) ∧ (1 ≤ wd ∧ wd ≤ 3) ∧ ∃ zs : List It, GoodZ zs ∧ Drawn w' g v zs ∧ Rd w' g (P + 600) ∧ w.grownBy w' (some g) := by
  go_enter Tryz.func13, Tryz.ntmps13
  go_wp2_with fail
  refine (pick_any g P 3 _ (by omega) (by omega) (by omega) h).mono ?_
  rintro e w1 ⟨n, hn0, hn3, rfl, hrd1, hg1⟩
  clear h
  go_wp2_with fail
  refine (pick_any g _ 20 _ (by omega) (by omega) (by omega) hrd1).mono ?_
  rintro e w2 ⟨q, hq0, hq5, rfl, hrd2, hg2⟩
  have hG2 := grown_trans hg1 hg2
  have hgl : g < w2.heap.size := hrd2.lt
  clear hrd1 hg1 hg2
  by_cases hq : q = 0
  · subst hq
    go_wp2_with fail
    refine (l2Bent_any _ _ _ (by omega) hrd2).mono ?_
    rintro e w3 ⟨v3, rfl, zs, hgz, hd3, hrd3, hg3⟩
    have HG : Hid (w.grownBy w3 (some g)) := grown_trans hG2 hg3
    have HR : Hid (Rd w3 g (P + 600)) := hrd3.le (by omega)
    have HD : Hid (Drawn w3 g v3 zs) := hd3
    have HGZ : Hid (GoodZ zs) := hgz
    clear hd3 hrd3 hg3 hG2 hrd2 hgz
    go_wp2
    go_ret2
    exact ⟨_, _, rfl, ⟨by omega, by omega⟩, zs, HGZ.out, HD.out, HR.out, HG.out⟩
  · have hqf : (q == 0) = false := by simp [hq]
    have hne : ¬ q = 0 := hq
    clear hq
    go_wp2_with fail
    refine (l2Z_any _ _ (1 + n) 7 _ (by omega) (by omega) (by omega) (by omega) (by omega) hrd2).mono ?_
    rintro e w3 ⟨v3, rfl, zs, hlen, hgz, hz3, hrd3, hg3⟩
    have HG : Hid (w.grownBy w3 (some g)) := grown_trans hG2 hg3
    have HR : Hid (Rd w3 g (P + 600)) := hrd3.le (by omega)
    have HD : Hid (Drawn w3 g v3 zs) := hz3.drawn hgl
    have HGZ : Hid (GoodZ zs) := good_fewJ hlen hgz
    clear hz3 hrd3 hg3 hG2 hrd2 hgz hlen
    go_wp2
    go_ret2
    exact ⟨_, _, rfl, ⟨by omega, by omega⟩, zs, HGZ.out, HD.out, HR.out, HG.out⟩



end Go.Proofs.YtflbdfpgaeeleaaGreatDoor
