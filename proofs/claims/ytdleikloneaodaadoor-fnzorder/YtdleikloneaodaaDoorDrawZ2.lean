/-
  What is drawn off a code: two lists of items; one; one and a row.
-/
import Derived.Test.YtdleikloneaodaaDoorDrawZ
namespace Go.Proofs.YtdleikloneaodaaDoor
set_option maxRecDepth 100000
open Go.RowKit

theorem open_below {w w1 : World} (h : Below w.heap.size w w1) {w' : World} (hg : w1.grownBy w' (some w.heap.size)) : Below w.heap.size w w' := h.grown hg h.size (fun k e => by simp at e; omega)
theorem TailZ.shape {w : World} {v : Value} {zs : List It} (h : TailZ w v zs) : ∃ a cap, v = .slice a zs.length cap := by
  obtain ⟨l, rfl, ⟨_, a, c, rfl, _⟩, _⟩ := h
  exact ⟨a, c, by rw [prs_length, its_length]⟩

set_option maxHeartbeats 4000000 in
theorem l2Two_any (a : Option Addr) (len cap : Nat) (bs : List Int) (w : World) (h : IsRow .u8 w a len cap bs) :
    Calls Tryd.prog 10 #[.slice a len cap] w fun e w' => ∃ v1 v2, e = .returned (.tuple #[v1, v2]) ∧ ∃ zs ys : List It, GoodZ zs ∧ GoodZ ys ∧ TailZ w' v1 zs ∧ TailZ w' v2 ys ∧ Below w.heap.size w w' := by
  go_enter Tryd.func10, Tryd.ntmps10
  go_wp2_with fail
  refine (l12Open_any a len cap bs _ h).mono ?_
  rintro e w1 ⟨rfl, hrd1, hb1⟩
  clear h
  go_wp2_with fail
  refine (l2Bent_any _ _ _ (by omega) hrd1).mono ?_
  rintro e w2 ⟨v2, rfl, zs, hgz, hd2, hrd2, hg2⟩
  have hk2 := open_below hb1 hg2
  clear hrd1 hg2
  go_wp2_with fail
  refine (pick_any _ _ 5 _ (by omega) (by omega) (by omega) hrd2).mono ?_
  rintro e w3 ⟨q, hq0, hq5, rfl, hrd3, hg3⟩
  have hd3 := hd2.next hg3
  have hk3 : Below w.heap.size w w3 := hk2.grown hg3 hk2.size (fun k e => by simp at e; omega)
  have HGZ : Hid (GoodZ zs) := hgz
  clear hrd2 hg3 hd2 hk2 hgz hb1
  by_cases hq : q = 0
  · subst hq
    have hm := HGZ.out.mild
    go_wp2_with fail
    refine (l2Copy_any v2 zs _ hd3.now.items hm.1 hm.2.1).mono ?_
    rintro e w4 ⟨v4, rfl, Z4, hb4⟩
    have HK : Hid (Below w.heap.size w w4) := below_then hk3 hb4
    have HT1 : Hid (TailZ w4 v2 zs) := hd3.now.below hb4
    have HT2 : Hid (TailZ w4 v4 zs) := Z4.tail
    clear hd3 hrd3 hk3 Z4 hb4 hm
    go_wp2
    go_ret2
    exact ⟨_, _, rfl, zs, zs, HGZ.out, HGZ.out, HT1.out, HT2.out, HK.out⟩
  · have hqf : (q == 0) = false := by simp [hq]
    clear hq
    go_wp2_with fail
    refine (l2Bent_any _ _ _ (by omega) hrd3).mono ?_
    rintro e w4 ⟨v4, rfl, ys, hgy, hd4, hrd4, hg4⟩
    have HK : Hid (Below w.heap.size w w4) := hk3.grown hg4 hk3.size (fun k e => by simp at e; omega)
    have HT1 : Hid (TailZ w4 v2 zs) := (hd3.next hg4).now
    have HT2 : Hid (TailZ w4 v4 ys) := hd4.now
    have HGY : Hid (GoodZ ys) := hgy
    clear hd3 hd4 hrd3 hrd4 hk3 hg4 hgy
    go_wp2
    go_ret2
    exact ⟨_, _, rfl, zs, ys, HGZ.out, HGY.out, HT1.out, HT2.out, HK.out⟩

theorem drawZSame_any (a : Option Addr) (len cap : Nat) (bs : List Int) (w : World) (h : IsRow .u8 w a len cap bs) :
    Calls Tryd.prog 4 #[.slice a len cap] w fun e w' => ∃ v1 v2, e = .returned (.tuple #[v1, v2]) ∧ ∃ zs ys : List It, GoodZ zs ∧ GoodZ ys ∧ TailZ w' v1 zs ∧ TailZ w' v2 ys ∧ Below w.heap.size w w' := by
  go_enter Tryd.func4, Tryd.ntmps4
  go_wp2_with fail
  refine (l2Two_any a len cap bs _ h).mono ?_
  rintro e w1 ⟨v1, v2, rfl, zs, ys, hgz, hgy, t1, t2, hb⟩
  have R : Hid (∃ zs ys : List It, GoodZ zs ∧ GoodZ ys ∧ TailZ w1 v1 zs ∧ TailZ w1 v2 ys ∧ Below w.heap.size w w1) := ⟨zs, ys, hgz, hgy, t1, t2, hb⟩
  clear h hgz hgy t1 t2 hb
  go_wp2
  go_ret2
  exact ⟨_, _, rfl, R.out⟩

end Go.Proofs.YtdleikloneaodaaDoor
