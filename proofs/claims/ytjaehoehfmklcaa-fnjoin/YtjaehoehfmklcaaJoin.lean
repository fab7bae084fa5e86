/-
  The contracts of spec.l1Copy, spec.RowJoin and impl.RowJoin: each answers the one list behind the other, in memory of its own, at int slices of together at most 2^43 elements.
-/
import Derived.Test.YtjaehoehfmklcaaOwn
namespace Go.Proofs.Ytjaehoehfmklcaa
open Go.RowKit

set_option maxHeartbeats 1000000 in
theorem l1Copy_any (v : Value) (xs : List Int) (w : World) (h : IntsAt w v xs) (hlim : xs.length ≤ 8796093022208) :
    Calls Try.prog 78 #[v] w fun e w' => ∃ v', e = .returned v' ∧ Own w' w.heap.size w'.heap.size v' xs ∧ Below w.heap.size w w' := by
  obtain ⟨i0, hi, hz0, hz1, hz2⟩ := info_parts infoInt
  have hx1 : IntsAt (w.alloc (.cells #[] 3)) v xs := h.below ((Below.refl _ _).alloc (Nat.le_refl _) _)
  have ho1 : (w.alloc (.cells #[] 3)).ownsRow w.heap.size 3 1 (.slice (some ⟨w.heap.size, 0, none⟩) 0 0) 0 [] := World.ownsRow_lit w #[] 0 (Nat.le_refl _) (by unfold maxLen; omega) rfl
  clear h
  go_enter Try.func78, Try.ntmps78
  go_wp2_with (at_builtin; refine wpList_append_ints rfl _ _ 29 rfl w.heap.size 3 i0 Try.underlying29 hi hz0 hz1 hz2 (.slice (some ⟨w.heap.size, 0, none⟩) 0 0) 0 [] rfl ho1 v xs rfl hx1 (by omega) (by simp) ?_; intro v' w1 hown1 hgrow1 _)
  have hb1 : Below w.heap.size w w1 := ((Below.refl _ _).alloc (Nat.le_refl _) _).grown hgrow1 (by simp) (by simp [Value.ownBlock])
  have ho2 := own_new (xs := xs) (by simpa using hown1) (by omega)
  clear hown1 hgrow1 hx1 ho1
  go_wp2
  go_ret
  exact ⟨_, rfl, ho2, hb1⟩

set_option maxHeartbeats 1000000 in
theorem specRowJoin_any (v v2 : Value) (xs ys : List Int) (w : World) (h : IntsAt w v xs) (h2 : IntsAt w v2 ys) (hlim : xs.length + ys.length ≤ 8796093022208) :
    Calls Try.prog 57 #[v, v2] w fun e w' => ∃ v', e = .returned v' ∧ Own w' w.heap.size w'.heap.size v' (xs ++ ys) ∧ Below w.heap.size w w' := by
  obtain ⟨i0, hi, hz0, hz1, hz2⟩ := info_parts infoInt
  go_enter Try.func57, Try.ntmps57
  go_wp2_with fail
  refine (l1Copy_any v xs _ h (by omega)).mono ?_
  rintro e w1 ⟨v1, rfl, ho1, hb1⟩
  have hy1 := h2.below hb1
  clear h h2
  go_wp2_with (at_builtin; refine wpList_append_ints rfl _ _ 29 rfl w.heap.size 3 i0 Try.underlying29 hi hz0 hz1 hz2 v1 _ _ rfl ho1.1 v2 ys rfl hy1 (by omega) hb1.size ?_; intro v' w2 hown2 hgrow2 _)
  have hb2 : Below w.heap.size w w2 := hb1.grown hgrow2 hb1.size (fun k hk => (ho1.1.lt k hk).1)
  have ho2 := own_new (xs := xs ++ ys) (by simpa using hown2) (by simp; omega)
  clear hown2 hgrow2 ho1 hy1 hb1
  go_wp2
  go_ret
  exact ⟨_, rfl, ho2, hb2⟩

set_option maxHeartbeats 1000000 in
theorem implRowJoin_any (v v2 : Value) (xs ys : List Int) (w : World) (h : IntsAt w v xs) (h2 : IntsAt w v2 ys) (hlim : xs.length + ys.length ≤ 8796093022208) :
    Calls Try.prog 10 #[v, v2] w fun e w' => ∃ v', e = .returned v' ∧ Own w' w.heap.size w'.heap.size v' (xs ++ ys) ∧ Below w.heap.size w w' ∧ v' ≠ .slice none 0 0 := by
  obtain ⟨i0, hi, hz0, hz1, hz2⟩ := info_parts infoInt
  have hh := h
  have hh2 := h2
  obtain ⟨-, a, cap, rfl, -⟩ := h
  obtain ⟨-, a2, cap2, rfl, -⟩ := h2
  obtain ⟨n, hn⟩ : ∃ n, n = xs.length := ⟨_, rfl⟩
  obtain ⟨m, hm⟩ : ∃ m, m = ys.length := ⟨_, rfl⟩
  have HN : Hid (n = xs.length) := hn
  have HM : Hid (m = ys.length) := hm
  rw [← hn] at hlim hh ⊢
  rw [← hm] at hlim hh2 ⊢
  clear hn hm
  go_enter Try.func10, Try.ntmps10
  go_wp2_with (first
    | (at_make; refine wpList_make_own _ rfl _ _ 29 rfl w.heap.size 3 i0 (.int .i64 0) 1 Try.underlying29 hi hz0 hz1 _ _ _ (n + m) rfl rfl (by omega) (by rw [hz2]; omega) (by unfold maxLen; omega) (Nat.le_refl _) ?_; intro w1 hown1 hgrow1; have hb1 : Below w.heap.size w w1 := (Below.refl _ _).grown hgrow1 (Nat.le_refl _) (by simp))
    | (at_builtin; refine wpList_append_ints rfl (.tmp 12) (.tmp 13) 29 rfl w.heap.size 3 i0 Try.underlying29 hi hz0 hz1 hz2 (.slice (some ⟨w.heap.size, 0, none⟩) 0 (n + m)) 0 [] rfl hown1 (.slice a n cap) xs rfl (hh.below hb1) (by rw [← HN.out]; omega) hb1.size ?_; intro v2' w2 hown2 hgrow2 hnn2; have hb2 : Below w.heap.size w w2 := hb1.grown hgrow2 hb1.size (fun k hk => (hown1.lt k hk).1))
    | (at_builtin; refine wpList_append_ints rfl (.tmp 15) (.tmp 16) 29 rfl w.heap.size 3 i0 Try.underlying29 hi hz0 hz1 hz2 v2' _ _ rfl hown2 (.slice a2 m cap2) ys rfl (hh2.below hb2) (by rw [← HN.out, ← HM.out]; omega) hb2.size ?_; intro v3' w3 hown3 hgrow3 hnn3; have hb3 : Below w.heap.size w w3 := hb2.grown hgrow3 hb2.size (fun k hk => (hown2.lt k hk).1)))
  have ho3 := own_new (xs := xs ++ ys) (by simpa using hown3) (by simp only [List.length_append, ← HN.out, ← HM.out]; omega)
  go_ret
  exact ⟨_, rfl, ho3, hb3, hnn3 (hnn2 (by simp))⟩

end Go.Proofs.Ytjaehoehfmklcaa
