/-
  The contracts of spec.l7Last and spec.l7Copy, at runs of the call's own.
-/
import Derived.Test.YtjaehoehfmklcaaRunLast
import Derived.Test.YtjaehoehfmklcaaRunOkSpec
namespace Go.Proofs.Ytjaehoehfmklcaa
set_option maxRecDepth 100000
open Go.RowKit

theorem only_new {lo hi : Nat} {w w' : World} (h : Below w.heap.size w w') : Only lo hi w w' := ⟨h.os, h.tape, h.output, h.size, fun k hk _ => h.block k hk⟩
theorem only_cellAt {lo hi : Nat} {w w' : World} (k : Only lo hi w w') {p : Addr} {v : Option Value} (hp : p.block < w.heap.size) (hr : p.block < lo ∨ hi ≤ p.block) (hv : w.cell? p = v) : w'.cell? p = v := by
  rw [← hv]
  simp only [World.cell?, k.block _ hp hr]
theorem own_shape {w : World} {lo n size : Nat} {e : TypeId} {v : Value} {xs : List Value} (h : w.ownsRow lo e size v n xs) : ∃ a m c, v = .slice a m c := by
  rcases h.2 with ⟨e, _⟩ | ⟨g, c, _, e, _⟩ <;> exact ⟨_, _, _, e⟩
theorem last_news (w : World) (t : TypeId) (u : Value) : ∀ j x, ([u] : List Value)[j]? = some x → (w.alloc (.cells #[u] t)).cell? ((⟨w.heap.size, 0, none⟩ : Addr).add j) = some x := World.news_of_block (cs := #[u]) (t := t) (fr := (0, 0)) (alloc_last _ _)
theorem last_news2 (w : World) (o : Obj) (t : TypeId) (u : Value) : ∀ j x, ([u] : List Value)[j]? = some x → ((w.alloc o).alloc (.cells #[u] t)).cell? ((⟨w.heap.size + 1, 0, none⟩ : Addr).add j) = some x := by
  have h := last_news (w.alloc o) t u
  rw [show (w.alloc o).heap.size = w.heap.size + 1 by simp] at h
  exact h
theorem box_two (w : World) (t : TypeId) (u : Value) (o : Obj) : ((w.alloc (.cells #[u] t)).alloc o).cell? ⟨w.heap.size, 0, none⟩ = some u ∧ ((w.alloc (.cells #[u] t)).alloc o).frozen? ⟨w.heap.size, 0, none⟩ = false :=
  ⟨cell_is (below_alloc o) (show w.heap.size < _ by simp) (by simp [go_sem]), frozen_is (below_alloc o) (show w.heap.size < _ by simp) (by simp [go_sem])⟩
theorem lt_alloc {w : World} {k : Nat} {o : Obj} (h : k < w.heap.size) : k < (w.alloc o).heap.size := Nat.lt_of_lt_of_le h (below_alloc o).size
theorem lt_alloc2 (w : World) (o o' : Obj) : w.heap.size < ((w.alloc o).alloc o').heap.size := lt_alloc (by simp)
theorem ne_of_lt_row {v : Value} {w2 w3 k : Nat} (h : ∀ k, v.ownBlock = some k → w2 ≤ k ∧ k < w3) (hk : k + 2 ≤ w2) (e : some (k + 1) = v.ownBlock) : False := by
  have := h _ e.symm
  omega
theorem le_alloc2 {w2 w3 : World} {o p q : Obj} {r : Prop} (_ : r) (h : (w2.alloc o).heap.size ≤ w3.heap.size) : w2.heap.size ≤ ((w3.alloc p).alloc q).heap.size := by
  have h1 := (below_alloc (w := w2) o).size
  have h2 := (below_alloc (w := w3) p).size
  have h3 := (below_alloc (w := w3.alloc p) q).size
  omega

set_option maxHeartbeats 8000000 in
theorem l7Last_any (v : Value) (zss : Rn) (lo hi : Nat) (w : World) (h : OwnR w lo hi v zss) (hlo : lo ≤ w.heap.size) (h2 : 2 ≤ zss.length) (hl : zss.length ≤ 1048576) (hma : Light 500 (zss.getD (zss.length - 2) [])) (hmb : Light 500 (zss.getD (zss.length - 1) [])) :
    Calls Try.prog 80 #[.agg #[v]] w fun e w' => ∃ v', e = .returned (.agg #[v']) ∧ OwnR w' lo w'.heap.size v' (lastR zss) ∧ Below w.heap.size w w' := by
  obtain ⟨i0, hi0, hz0, hz1, hz2⟩ := info_parts infoRun
  have hhi := h.hi_le
  obtain ⟨b, off, cap, n, tp, tz, x, y, a1, n1, c1, a2, n2, c2, rfl, hcap, hcm, hbw, hc1, ht1, hc2, ht2, hvt, hT, htl, hpl, ex, ey, elast, hn2⟩ := last_open h h2
  have HT : Hid (RunsIn w (.slice (some ⟨b, off, none⟩) (n + 2) cap) lo hi tp tz) := hT
  have HL : Hid (tz.length = n ∧ tp.length = n) := ⟨htl, hpl⟩
  obtain ⟨os, HOS⟩ : ∃ os, Hid (os = lastR zss) := ⟨_, rfl⟩
  have HLA : Hid (lastR zss = tz ++ (if addZ x y = [] then [] else [addZ x y])) := elast
  rw [← HOS.out]
  rw [← ex] at hma
  rw [← ey] at hmb
  have hnl : n ≤ 1048576 := by omega
  have hnc : n ≤ cap := by omega
  have hlens : Hid ((addZ x y).length ≤ 100000) := by
    have h1 := add_len y x
    have h2 := hma.2.2.1
    have h3 := hmb.2.2.1
    show _ ≤ _
    omega
  clear hT htl hpl ex ey elast hn2 h h2 hl
  have hbW : Below w.heap.size w ((w.alloc (.cells #[.slice (some ⟨b, off, none⟩) (n + 2) cap] 38)).alloc (.cells #[.slice none 0 0] 38)) := below_then (below_alloc _) (below_alloc _)
  have zW : ((w.alloc (.cells #[.slice (some ⟨b, off, none⟩) (n + 2) cap] 38)).alloc (.cells #[.slice none 0 0] 38)).heap.size = w.heap.size + 2 := by simp
  have ZW : Hid (((w.alloc (.cells #[.slice (some ⟨b, off, none⟩) (n + 2) cap] 38)).alloc (.cells #[.slice none 0 0] 38)).heap.size = w.heap.size + 2) := zW
  clear zW
  have bx : ((w.alloc (.cells #[.slice (some ⟨b, off, none⟩) (n + 2) cap] 38)).alloc (.cells #[.slice none 0 0] 38)).cell? ⟨w.heap.size, 0, none⟩ = some (.slice (some ⟨b, off, none⟩) (n + 2) cap) := by simp [go_sem]
  have br : ((w.alloc (.cells #[.slice (some ⟨b, off, none⟩) (n + 2) cap] 38)).alloc (.cells #[.slice none 0 0] 38)).cell? ⟨w.heap.size + 1, 0, none⟩ = some (.slice none 0 0) := by simp [go_sem]
  have fr : ((w.alloc (.cells #[.slice (some ⟨b, off, none⟩) (n + 2) cap] 38)).alloc (.cells #[.slice none 0 0] 38)).frozen? ⟨w.heap.size + 1, 0, none⟩ = false := by simp [go_sem]
  have q1 := (hbW.cell (p := ⟨b, off + n, none⟩) hbw).trans hc1
  have q2 := (hbW.cell (p := ⟨b, off + (n + 1), none⟩) hbw).trans hc2
  have t1 := (ht1.below hbW).below (Below.drew (Below.refl _ _))
  have t2 := (ht2.below hbW).below (Below.drew (Below.refl _ _))
  have hwr : IntKind.i64.wrap (n : Int) = n := wrap_small (by omega) (by omega)
  have hwr2 : IntKind.i64.wrap ((n : Int) + 2 - 1) = ((n + 1 : Nat) : Int) := by rw [IntKind.wrap_i64]; omega
  have hbr : b < ((w.alloc (.cells #[.slice (some ⟨b, off, none⟩) (n + 2) cap] 38)).alloc (.cells #[.slice none 0 0] 38)).heap.size := Nat.lt_of_lt_of_le hbw hbW.size
  have hws : w.heap.size < ((w.alloc (.cells #[.slice (some ⟨b, off, none⟩) (n + 2) cap] 38)).alloc (.cells #[.slice none 0 0] 38)).heap.size := by rw [ZW.out]; omega
  clear hc1 hc2 ht1 ht2
  go_enter Try.func80, Try.ntmps80
  go_wp2
  go_region_held (fun w' => w'.cell? ⟨w.heap.size, 0, none⟩ = some (.slice (some ⟨b, off, none⟩) (n + 2) cap) ∧ w'.cell? ⟨b, off + n, none⟩ = some (.slice a1 n1 c1) ∧ w'.cell? ⟨b, off + (n + 1), none⟩ = some (.slice a2 n2 c2)) (go_keep)
    ((go_at_call 63; refine (l2Add_any _ _ x y _ t1.items t2.items (hma.mild (by omega)) (hmb.mild (by omega))).mono ?_; rintro e w2 ⟨v2, rfl, Z2, hb2⟩; have k0 := cell_is (p := ⟨w.heap.size, 0, none⟩) hb2 hws bx; have k1 := cell_is (p := ⟨b, off + n, none⟩) hb2 hbr q1; have k2 := cell_is (p := ⟨b, off + (n + 1), none⟩) hb2 hbr q2))
  all_goals
    have hb2' : Below ((w.alloc (.cells #[.slice (some ⟨b, off, none⟩) (n + 2) cap] 38)).alloc (.cells #[.slice none 0 0] 38)).heap.size ((w.alloc (.cells #[.slice (some ⟨b, off, none⟩) (n + 2) cap] 38)).alloc (.cells #[.slice none 0 0] 38)) w2 := below_then (Below.drew (Below.refl _ _)) hb2
    have z2 : w.heap.size + 2 ≤ w2.heap.size := by have := hb2'.size; rw [ZW.out] at this; exact this
    have hk2 := below_then hbW hb2'
    have br2 := cell_is hb2' (show w.heap.size + 1 < ((w.alloc (.cells #[.slice (some ⟨b, off, none⟩) (n + 2) cap] 38)).alloc (.cells #[.slice none 0 0] 38)).heap.size by rw [ZW.out]; omega) br
    have fr2 := frozen_is hb2' (show w.heap.size + 1 < ((w.alloc (.cells #[.slice (some ⟨b, off, none⟩) (n + 2) cap] 38)).alloc (.cells #[.slice none 0 0] 38)).heap.size by rw [ZW.out]; omega) fr
    have bx2 := cell_is hb2' hws bx
    have Z2' : OwnZ w2 (w.heap.size + 2) w2.heap.size v2 (addZ x y) := by
      have := Z2
      rw [← ZW.out]
      exact this
    obtain ⟨va, vc, hsh⟩ := Z2'.shape
    obtain ⟨m, HM⟩ : ∃ m, Hid (m = (addZ x y).length) := ⟨_, rfl⟩
    have hml : m ≤ 100000 := by rw [HM.out]; exact hlens.out
    rw [← HM.out] at hsh
    subst hsh
    have hx1 : ValsAt (w2.alloc (.cells #[] 23)) (.slice (some ⟨b, off, none⟩) n cap) tp := (hvt.below hk2).below (below_alloc _)
    have ho1 : (w2.alloc (.cells #[] 23)).ownsRow w2.heap.size 23 1 (.slice (some ⟨w2.heap.size, 0, none⟩) 0 0) 0 [] := World.ownsRow_lit w2 #[] 0 (Nat.le_refl _) (by unfold maxLen; omega) rfl
    have hnews := hx1.news
    have hsl : ∀ p ∈ tp, ∃ a n c, p = Value.slice a n c := hvt.2.1
    have htl : tp.length = n := HL.out.2
    have HTL : Hid (tp.length = n) := htl
    clear htl
    have hbx3 := cell_is (below_alloc (.cells #[] 23)) (show w.heap.size < w2.heap.size by omega) bx2
    have hbr3 := cell_is (below_alloc (.cells #[] 23)) (show w.heap.size + 1 < w2.heap.size by omega) br2
    have hfr3 := frozen_is (below_alloc (.cells #[] 23)) (show w.heap.size + 1 < w2.heap.size by omega) fr2
    have hle3 : w.heap.size + 1 < (w2.alloc (.cells #[] 23)).heap.size := by simp; omega
    have hne3 : some (w.heap.size + 1) ≠ (Value.slice (some ⟨w2.heap.size, 0, none⟩) 0 0).ownBlock := fun e => by simp [Value.ownBlock] at e; omega
    clear hb2 hb2' Z2 t1 t2 q1 q2 bx br fr hx1 k0 k1 k2 hma hmb hlens hwr hwr2 hbr hws hvt hbW
    by_cases hm0 : m = 0
    · have HZ : Hid (addZ x y = []) := List.length_eq_zero_iff.1 (by rw [← HM.out]; exact hm0)
      subst hm0
      clear Z2'
      go_wp2_with (at_builtin; refine wpList_append_own _ rfl _ _ 36 rfl w2.heap.size 23 i0 (.slice none 0 0) 1 24 Try.underlying36 hi0 hz0 hz1 hz2 rfl (by decide) (.slice (some ⟨w2.heap.size, 0, none⟩) 0 0) 0 [] rfl ho1 ⟨b, off, none⟩ n cap tp rfl (by rw [HTL.out, Nat.mul_one]) hnews (one_of hsl) (by unfold maxLen; omega) (by omega) (by simp) ?_; intro v3 w3 hown3 hgrow3 _; have hsh3 := own_shape hown3; obtain ⟨a3, m3, c3, rfl⟩ := hsh3; have br4 := far_cell hgrow3 hle3 hne3 hbr3; have fr4 := far_frozen hgrow3 hle3 hne3 hfr3; have z3 := hgrow3.size; have bl3 := hown3.lt; have hz3 : w.heap.size + 1 < w3.heap.size := Nat.lt_of_lt_of_le hle3 z3; have bb4 := cell_is (below_alloc (.cells #[.slice a3 m3 c3] 38)) (show w.heap.size + 1 < w3.heap.size from hz3) br4; have fb4 := frozen_is (below_alloc (.cells #[.slice a3 m3 c3] 38)) (show w.heap.size + 1 < w3.heap.size from hz3) fr4)
      clear hnews hsl ho1
      have hk3 : Below w2.heap.size w2 w3 := (below_alloc _).grown hgrow3 (by simp) (fun k hk => by simp [Value.ownBlock] at hk; omega)
      have HB : Below w.heap.size w ((w3.setCell ⟨w.heap.size + 1, 0, none⟩ (.slice a3 m3 c3)).alloc (.cells #[.slice a3 m3 c3] 38)) := below_then ((below_then hk2 hk3).setCell (by simp) _) (below_alloc _)
      have hon : Only (w.heap.size + 1) (w.heap.size + 2) w3 ((w3.setCell ⟨w.heap.size + 1, 0, none⟩ (.slice a3 m3 c3)).alloc (.cells #[.slice a3 m3 c3] 38)) := ((Only.refl _ _ _).setCell (p := ⟨w.heap.size + 1, 0, none⟩) (Nat.le_refl _) (Nat.lt_succ_self _) _).trans (only_new (below_alloc _))
      have hres := cell_is (p := ⟨w.heap.size + 1, 0, none⟩) (v := some (.slice a3 m3 c3)) (below_alloc (w := w3.setCell ⟨w.heap.size + 1, 0, none⟩ (.slice a3 m3 c3)) (.cells #[.slice a3 m3 c3] 38)) (by simp; omega) (by simp [go_sem, br4])
      refine bodyPost_ret (v := .agg #[.slice a3 m3 c3]) (by simp [results, Try.results80, go_sem, hres]) rfl ⟨_, rfl, ?_, HB⟩
      rw [HOS.out, HLA.out, if_pos HZ.out, List.append_nil]
      have hbl : ∀ k, (Value.slice a3 m3 c3).ownBlock = some k → w2.heap.size ≤ k := fun k hk => (bl3 k hk).1
      refine ownR_same (HT.out.keep (HB.mono hhi)) ?_ (fun k hk => .inr (by have := hbl k hk; omega)) (by have := HL.out; omega) (Nat.le_trans hhi HB.size)
      have hl2 := HL.out
      rw [hl2.1]
      have := ownsRow_only (ownsRow_wide hown3 (lo := lo) (by omega)) hon (fun k hk => .inr (by have := hbl k hk; omega))
      simpa using this
    · have HZ : Hid (addZ x y ≠ []) := fun e => hm0 (by rw [HM.out, e]; rfl)
      have hmp : (0 : Int) < m := by omega
      go_wp2_with (first | (at_builtin; have hO5 := hS5; refine wpList_append_lies _ rfl _ _ 36 rfl w2.heap.size 23 i0 (.slice none 0 0) 1 24 Try.underlying36 hi0 hz0 hz1 hz2 rfl (by decide) (.slice a3 m3 c3) (0 + n) ([] ++ tp) rfl hS5 ⟨w3.heap.size + 1, 0, none⟩ 1 1 [.slice va m vc] rfl rfl hn5 (one_of (fun p hp => by simp at hp; exact ⟨_, _, _, hp⟩)) (by omega) (by unfold maxLen; omega) (by omega) (le_alloc2 ho1 z3) _ rfl ?_; intro g6 cap6 w6 hown6 hgrow6 hat6 hlt6; have bx6 := far_cell hgrow6 (show w3.heap.size < _ from lt_alloc2 w3 _ _) hnx bx5.1; have fx6 := far_frozen hgrow6 (show w3.heap.size < _ from lt_alloc2 w3 _ _) hnx bx5.2; have bb6 := far_cell hgrow6 (lt_alloc (lt_alloc hz3)) hnb bb5; have fb6 := far_frozen hgrow6 (lt_alloc (lt_alloc hz3)) hnb fb5; have z6 := hgrow6.size) | (at_builtin; refine wpList_append_own _ rfl _ _ 36 rfl w2.heap.size 23 i0 (.slice none 0 0) 1 24 Try.underlying36 hi0 hz0 hz1 hz2 rfl (by decide) (.slice (some ⟨w2.heap.size, 0, none⟩) 0 0) 0 [] rfl ho1 ⟨b, off, none⟩ n cap tp rfl (by rw [HTL.out, Nat.mul_one]) hnews (one_of hsl) (by unfold maxLen; omega) (by omega) (by simp) ?_; intro v3 w3 hown3 hgrow3 _; have hsh3 := own_shape hown3; obtain ⟨a3, m3, c3, rfl⟩ := hsh3; have br4 := far_cell hgrow3 hle3 hne3 hbr3; have fr4 := far_frozen hgrow3 hle3 hne3 hfr3; have z3 := hgrow3.size; have bl3 := hown3.lt; have hz3 : w.heap.size + 1 < w3.heap.size := Nat.lt_of_lt_of_le hle3 z3; have bb4 := cell_is (below_alloc (.cells #[.slice a3 m3 c3] 38)) (show w.heap.size + 1 < w3.heap.size from hz3) br4; have fb4 := frozen_is (below_alloc (.cells #[.slice a3 m3 c3] 38)) (show w.heap.size + 1 < w3.heap.size from hz3) fr4; have hS5 := (hown3.alloc (.cells #[.slice a3 m3 c3] 38)).alloc (.cells #[.slice va m vc] 23); have hn5 := last_news2 w3 (.cells #[.slice a3 m3 c3] 38) 23 (.slice va m vc); have bx5 := box_two w3 38 (.slice a3 m3 c3) (.cells #[.slice va m vc] 23); have bb5 := cell_is (below_alloc (.cells #[.slice va m vc] 23)) (lt_alloc hz3) bb4; have fb5 := frozen_is (below_alloc (.cells #[.slice va m vc] 23)) (lt_alloc hz3) fb4; have hnb : some (w.heap.size + 1) ≠ (Value.slice a3 m3 c3).ownBlock := fun e => ne_of_lt_row bl3 z2 e; have hnx : some w3.heap.size ≠ (Value.slice a3 m3 c3).ownBlock := fun e => Nat.lt_irrefl _ (bl3 _ e.symm).2))
      have hg6 : w2.heap.size ≤ g6 ∧ (g6 < w3.heap.size ∨ w3.heap.size + 2 ≤ g6) := by
        rcases hat6 with e | e
        · have := bl3 g6 e; omega
        · have h1 := (below_alloc (w := w2) (.cells #[] 23)).size
          simp at e; omega
      have z6' : w3.heap.size + 2 ≤ w6.heap.size := by have := z6; simp at this; omega
      have z3' : w2.heap.size ≤ w3.heap.size := Nat.le_trans (below_alloc _).size z3
      have hk3 : Below w2.heap.size w2 w3 := (below_alloc _).grown hgrow3 (by simp) (fun k hk => by simp [Value.ownBlock] at hk; omega)
      have hk6 : Below w2.heap.size w2 w6 := (below_then hk3 (below_then (below_alloc _) (below_alloc _))).grown hgrow6 (by simp; omega) (fun k hk => (bl3 k hk).1)
      have HO6 : Hid (w6.ownsRow w2.heap.size 23 1 (.slice (some ⟨g6, 0, none⟩) (0 + n + 1) cap6) (0 + n + 1) (([] ++ tp) ++ [.slice va m vc])) := hown6
      have Z6 : Hid (OwnZ w6 (w.heap.size + 2) w2.heap.size (.slice va m vc) (addZ x y)) := Z2'.keep hk6
      have HB : Below w.heap.size w ((w6.setCell ⟨w3.heap.size, 0, none⟩ (.slice (some ⟨g6, 0, none⟩) (n + 1) cap6)).setCell ⟨w.heap.size + 1, 0, none⟩ (.slice (some ⟨g6, 0, none⟩) (n + 1) cap6)) := ((below_then hk2 hk6).setCell (by simp; omega) _).setCell (by simp) _
      have hon1 : Only w3.heap.size (w3.heap.size + 1) w6 (w6.setCell ⟨w3.heap.size, 0, none⟩ (.slice (some ⟨g6, 0, none⟩) (n + 1) cap6)) := (Only.refl _ _ _).setCell (p := ⟨w3.heap.size, 0, none⟩) (Nat.le_refl _) (Nat.lt_succ_self _) _
      have hon2 : Only (w.heap.size + 1) (w.heap.size + 2) (w6.setCell ⟨w3.heap.size, 0, none⟩ (.slice (some ⟨g6, 0, none⟩) (n + 1) cap6)) ((w6.setCell ⟨w3.heap.size, 0, none⟩ (.slice (some ⟨g6, 0, none⟩) (n + 1) cap6)).setCell ⟨w.heap.size + 1, 0, none⟩ (.slice (some ⟨g6, 0, none⟩) (n + 1) cap6)) := (Only.refl _ _ _).setCell (p := ⟨w.heap.size + 1, 0, none⟩) (Nat.le_refl _) (Nat.lt_succ_self _) _
      have bb7 := only_cellAt hon1 (p := ⟨w.heap.size + 1, 0, none⟩) (by simp only; omega) (by simp only; omega) bb6
      refine bodyPost_ret (v := .agg #[(.slice (some ⟨g6, 0, none⟩) (n + 1) cap6)]) (by simp [results, Try.results80, go_sem, bb7]) rfl ⟨_, rfl, ?_, HB⟩
      rw [HOS.out, HLA.out, if_neg HZ.out]
      have hl2 := HL.out
      refine ownR_snoc (HT.out.keep (HB.mono hhi)) (m1 := w.heap.size + 2) (m2 := w2.heap.size) (by omega) z2 ((Z6.out.only hon1 (by omega)).only hon2 (by omega)) ?_ (fun k hk => by simp [Value.ownBlock] at hk; omega) (by simp; omega) (by simp; omega)
      rw [List.length_append, hl2.1]
      have h6 := HO6.out
      simp only [Nat.zero_add, List.nil_append] at h6
      exact ownsRow_only (ownsRow_only (ownsRow_wide h6 (by omega)) hon1 (fun k hk => by simp [Value.ownBlock] at hk; omega)) hon2 (fun k hk => by simp [Value.ownBlock] at hk; omega)

theorem RunsIn.chV {w : World} {v v' : Value} {ps : List Value} {zs : Rn} {lo hi : Nat} (h : RunsIn w v lo hi ps zs) (hv : v'.ownBlock = v.ownBlock ∨ ∀ b, v'.ownBlock = some b → b < lo ∨ hi ≤ b) : RunsIn w v' lo hi ps zs := by
  rcases hv with hv | hv
  · exact h.imp fun _ _ _ _ _ _ _ h4 h5 => ⟨h5, fun b hb => h4 b (by rw [← hv]; exact hb)⟩
  · exact h.newV hv
theorem RunsIn.grown {w w' : World} {v : Value} {ps : List Value} {zs : Rn} {lo hi : Nat} (h : RunsIn w v lo hi ps zs) (hg : w.grownBy w' v.ownBlock) : RunsIn w' v lo hi ps zs :=
  h.imp fun _ _ _ _ _ _ _ h4 h5 => ⟨h5.grown hg h4, h4⟩

end Go.Proofs.Ytjaehoehfmklcaa
