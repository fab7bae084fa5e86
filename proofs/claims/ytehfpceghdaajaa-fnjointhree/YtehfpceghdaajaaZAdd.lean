/-
  The contracts of impl.together and impl.ZAdd: both together, in memory of their own, if that is right.
-/
import Derived.Test.YtehfpceghdaajaaDelete
import Derived.Test.YtehfpceghdaajaaAddSpec
import Derived.Test.YtehfpceghdaajaaCopy
namespace Go.Proofs.Ytehfpceghdaajaa
set_option maxRecDepth 100000
open Go.RowKit

/-- Items in memory, their capacity told; their rows may lie wherever they do. -/
def TailZ (w : World) (v : Value) (zs : List It) : Prop := ∃ l : List Rw, zs = its l ∧ Tail w v (prs l) ∧ RowsIn w l
theorem TailZ.below {w w' : World} {v : Value} {zs : List It} (h : TailZ w v zs) (hb : Below w.heap.size w w') : TailZ w' v zs := by
  obtain ⟨l, e, t, r⟩ := h
  exact ⟨l, e, t.below hb, r.below hb⟩
theorem TailZ.items {w : World} {v : Value} {zs : List It} (h : TailZ w v zs) : ItemsAt w v zs := by
  obtain ⟨l, rfl, t, r⟩ := h
  exact t.1.itemsOf r
theorem OwnZ.tail {w : World} {lo hi : Nat} {v : Value} {zs : List It} (h : OwnZ w lo hi v zs) : TailZ w v zs := by
  obtain ⟨l, hl, S, R, _⟩ := h.opened
  have hr : RowsIn w l := fun x hx => (R x hx).ints
  refine ⟨l, hl, ⟨S.pairs hr.shape, ?_⟩, hr⟩
  rcases S.1.2 with ⟨rfl, h0⟩ | ⟨g, cap, cur, rfl, _, _, hnc, hcm, _⟩
  · exact ⟨none, 0, by rw [h0], by omega, by omega⟩
  · exact ⟨_, cap, rfl, hnc, by have := hcm; simp only [maxLen] at this; omega⟩
theorem its_filter (l : List Rw) : its (l.filter nzR) = (its l).filter fun p => decide (p.2 ≠ 0) := by
  unfold its nzR
  rw [List.filter_map]
  rfl
theorem low_of {l : List Rw} (h : Mild (its l)) : Low l := fun x hx => by
  have := h.2.2 x.2 (List.mem_map.2 ⟨x, hx, rfl⟩)
  omega

set_option maxHeartbeats 1000000 in
theorem unlessTooMuch_any (v : Value) (zs : List It) (lo hi : Nat) (w : World) (h : OwnZ w lo hi v zs) (_hlo : lo ≤ w.heap.size) :
    Calls Try.prog 13 #[v] w fun e w' => ∃ v', e = .returned (.tuple #[v', .bool (zOkB zs)]) ∧ OwnZ w' lo w'.heap.size v' (if zOkB zs then zs else []) ∧ Below w.heap.size w w' := by
  cases hz : zOkB zs with
  | false =>
    have hI := h.items
    go_enter Try.func13, Try.ntmps13
    go_wp2_with fail
    refine (implZOk_any v zs _ hI).mono ?_
    rw [hz]
    rintro e w1 ⟨rfl, hd1⟩
    have HK : Hid (Below w.heap.size w w1) := hd1
    clear h hI hd1
    go_wp2
    go_ret2
    exact ⟨_, rfl, by simpa using nil_ownZ _ _, HK.out⟩
  | true =>
    have hI := h.items
    go_enter Try.func13, Try.ntmps13
    go_wp2_with fail
    refine (implZOk_any v zs _ hI).mono ?_
    rw [hz]
    rintro e w1 ⟨rfl, hd1⟩
    have HK : Hid (Below w.heap.size w w1) := hd1
    have R : Hid (OwnZ w1 lo w1.heap.size v zs) := (h.keep' HK.out).wide (Nat.le_refl _) (by have := h.hi_le; have := HK.out.size; omega) (Nat.le_refl _)
    clear h hI hd1
    go_wp2
    go_ret2
    exact ⟨_, rfl, by simpa using R.out, HK.out⟩

end Go.Proofs.Ytehfpceghdaajaa
