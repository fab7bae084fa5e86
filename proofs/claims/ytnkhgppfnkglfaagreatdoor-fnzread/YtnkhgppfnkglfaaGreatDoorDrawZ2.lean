/-
  What is drawn off a code: two lists of items; one; one and a row.
-/
import Derived.Test.YtnkhgppfnkglfaaGreatDoorDrawZ
namespace Go.Proofs.YtnkhgppfnkglfaaGreatDoor
set_option maxRecDepth 100000
open Go.RowKit

theorem open_below {w w1 : World} (h : Below w.heap.size w w1) {w' : World} (hg : w1.grownBy w' (some w.heap.size)) : Below w.heap.size w w' := h.grown hg h.size (fun k e => by simp at e; omega)
theorem TailZ.shape {w : World} {v : Value} {zs : List It} (h : TailZ w v zs) : ∃ a cap, v = .slice a zs.length cap := by
  obtain ⟨l, rfl, ⟨_, a, c, rfl, _⟩, _⟩ := h
  exact ⟨a, c, by rw [prs_length, its_length]⟩

theorem drawZText_any (a : Option Addr) (len cap : Nat) (bs : List Int) (w : World) (h : IsRow .u8 w a len cap bs) :
    Calls Tryz.prog 4 #[.slice a len cap] w fun e w' => ∃ v, e = .returned v ∧ ∃ zs : List It, GoodZ zs ∧ TailZ w' v zs ∧ Below w.heap.size w w' := by
  go_enter Tryz.func4, Tryz.ntmps4
  go_wp2_with fail
  refine (l12Open_any a len cap bs _ h).mono ?_
  rintro e w1 ⟨rfl, hrd1, hb1⟩
  clear h
  go_wp2_with fail
  refine (l2Bent_any _ _ _ (by omega) hrd1).mono ?_
  rintro e w2 ⟨v2, rfl, zs, hgz, hd2, hrd2, hg2⟩
  have R : Hid (∃ zs : List It, GoodZ zs ∧ TailZ w2 v2 zs ∧ Below w.heap.size w w2) := ⟨zs, hgz, hd2.now, open_below hb1 hg2⟩
  clear hrd1 hrd2 hb1 hg2 hgz hd2
  go_wp2
  go_ret
  exact ⟨_, rfl, R.out⟩

end Go.Proofs.YtnkhgppfnkglfaaGreatDoor
