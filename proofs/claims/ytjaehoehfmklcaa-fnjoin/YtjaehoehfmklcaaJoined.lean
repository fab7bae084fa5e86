/-
  The contract of impl.joined: rows of two lists that have the same in a cell each, looked up in a map by that cell, in memory of their own.
-/
import Derived.Test.YtjaehoehfmklcaaMapMem
import Derived.Test.YtjaehoehfmklcaaJoinMath
import Derived.Test.YtjaehoehfmklcaaMerge
import Derived.Test.YtjaehoehfmklcaaJoin
import Derived.Carry
namespace Go.Proofs.Ytjaehoehfmklcaa
set_option maxRecDepth 100000
open Go.RowKit
attribute [local go_sem ↓] Go.wp_at_zero Go.wp_at_succ

def grpR (l : List Rw) (y : Nat) (c : Int) : List Rw := l.filter fun r => decide (r.2.1.getD y 0 = c)
theorem its_grp (l : List Rw) (y : Nat) (c : Int) : its (grpR l y c) = meetZ (its l) y c := by
  unfold grpR meetZ its
  rw [List.filter_map]
  rfl
theorem grp_take {l : List Rw} (y : Nat) {k : Nat} (hk : k < l.length) : (fun c => grpR (l.take (k + 1)) y c) = fun d => if d = (l.getD k (vn, ([], 0))).2.1.getD y 0 then grpR (l.take k) y ((l.getD k (vn, ([], 0))).2.1.getD y 0) ++ [l.getD k (vn, ([], 0))] else grpR (l.take k) y d := by
  funext d
  have e : l.getD k (vn, ([], 0)) = l[k] := by simp [List.getD, hk]
  rw [e]
  unfold grpR
  rw [List.take_succ_eq_append_getElem hk, List.filter_append, List.filter_cons, List.filter_nil]
  by_cases h : d = l[k].2.1.getD y 0
  · rw [if_pos h, if_pos (by simp [h]), h]
  · rw [if_neg h, if_neg (by simpa using fun e => h e.symm), List.append_nil]
theorem grp_len (l : List Rw) (y : Nat) (c : Int) : (grpR l y c).length ≤ l.length := List.length_filter_le _ _
theorem mapType : Try.prog.underlying 81 = some (.map 3 23) := Try.underlying81
theorem row_at {w : World} {v : Value} {xs : List Int} (h : IntsAt w v xs) {j : Nat} (hj : j < xs.length) : ∃ b off cap, v = .slice (some ⟨b, off, none⟩) xs.length cap ∧ b < w.heap.size ∧ w.cell? ⟨b, off + j, none⟩ = some (.int .i64 (xs.getD j 0)) := by
  obtain ⟨_, a, cap, rfl, _, hc⟩ := h
  obtain ⟨b, off, rfl, hb, hcell⟩ := hc (fun e => by rw [e] at hj; simp at hj)
  exact ⟨b, off, cap, rfl, hb, hcell j hj⟩

theorem grown_cell {w w' : World} {row : Option Nat} {p : Addr} {u : Value} (hg : w.grownBy w' row) (hp : p.block < w.heap.size) (hne : some p.block ≠ row) (hv : w.cell? p = some u) : w'.cell? p = some u := (World.cell?_of_block (hg.block p.block hp hne)).trans hv
/-- What an append to a looked-up slice and the store behind it leave. -/
theorem GMap.put {w w1 : World} {t : TypeId} {mb lo n : Nat} {G : Int → List Rw} (h : GMap w t mb lo n G) (hb1 : Below w.heap.size w w1) {c : Int} (hc : -9223372036854775808 ≤ c ∧ c ≤ 9223372036854775807) (hn : n < maxLen) (xv : Value) (x : List Int) (y : Int) (hs : ∃ a n c, xv = Value.slice a n c) (hlo : lo ≤ w.heap.size) (hlen : (G c).length ≤ 1048576) :
    ∃ v, (∀ w', w.grownBy w' none → (Instr.lookup t (.map (some mb)) (.int .i64 c) false).run Try.prog w' = .ok v w') ∧ (∀ g, v.ownBlock = some g → lo ≤ g ∧ g < w.heap.size) ∧
      (w1.alloc (.cells #[xv, .int .i64 y] 31)).ownsRow lo 31 2 v (prs (G c)).length (cells2 (prs (G c))) ∧ PairsAt (w1.alloc (.cells #[xv, .int .i64 y] 31)) (.slice (some ⟨w1.heap.size, 0, none⟩) 1 1) [(xv, y)] ∧
      ∀ v' w', w'.ownsRow lo 31 2 v' (prs (G c) ++ [(xv, y)]).length (cells2 (prs (G c) ++ [(xv, y)])) → (w1.alloc (.cells #[xv, .int .i64 y] 31)).grownBy w' v.ownBlock → (v'.ownBlock = v.ownBlock ∨ v'.ownBlock = some (w1.alloc (.cells #[xv, .int .i64 y] 31)).heap.size) →
        ∃ w2, (Instr.mapUpdate t (.map (some mb)) (.int .i64 c) v').run Try.prog w' = .ok () w2 ∧ GMap w2 t mb lo (n + 1) (fun d => if d = c then G c ++ [(xv, (x, y))] else G d) ∧ Below mb w1 w2 ∧ w'.grownBy w2 (some mb) := by
  have hmb : mb < lo := by obtain ⟨_, _, _, _, _, _, h5, _⟩ := h; exact h5
  obtain ⟨v, hrun, S, back⟩ := h.look hc hn
  have hga : w.grownBy (w1.alloc (.cells #[xv, .int .i64 y] 31)) v.ownBlock := grown_trans ⟨hb1.os, hb1.tape, hb1.output, hb1.size, fun k hk _ => hb1.block k hk⟩ (World.grownBy_alloc _ _ _)
  obtain ⟨r1, r2, r3⟩ := merge_ready (xv := xv) y (S.keep' hb1) hs (Nat.le_trans hlo hb1.size) (by omega)
  refine ⟨v, hrun, fun g hg => S.1.lt g hg, r1, r2, fun v' w' hown hg hat => ?_⟩
  obtain ⟨S3, B3⟩ := r3 v' w' x hown hg
  have hloc : v'.ownBlock = v.ownBlock ∨ ∃ g, v'.ownBlock = some g ∧ w.heap.size ≤ g := by
    rcases hat with e | e
    · exact .inl e
    · exact .inr ⟨_, e, by have := hb1.size; simp; omega⟩
  obtain ⟨w2, hr2, G2, hg2⟩ := back w' v' (G c ++ [(xv, (x, y))]) (grown_trans hga hg) S3 hloc
  refine ⟨w2, hr2, G2, ?_, hg2⟩
  exact (B3.mono (by omega)).trans ⟨hg2.os, hg2.tape, hg2.output, hg2.size, fun k hk => hg2.block k (by have := B3.size; have := hb1.size; omega) (fun e => by simp at e; omega)⟩

set_option maxHeartbeats 16000000 in
theorem joined_some (v u : Value) (a b : List It) (x y : Nat) (w : World) (h : ItemsAt w v a) (h2 : ItemsAt w u b) (hpa : 0 < a.length) (hpb : 0 < b.length) (ha : a.length ≤ 100) (hb : b.length ≤ 100) (hx : ∀ k, k < a.length → x < (a.getD k ([], 0)).1.length) (hy : ∀ k, k < b.length → y < (b.getD k ([], 0)).1.length)
    (hla : ∀ p ∈ a, p.1.length ≤ 6 ∧ -10000 ≤ p.2 ∧ p.2 ≤ 10000) (hlb : ∀ p ∈ b, p.1.length ≤ 6 ∧ -10000 ≤ p.2 ∧ p.2 ≤ 10000) (hca : ∀ k, k < a.length → -9223372036854775808 ≤ (a.getD k ([], 0)).1.getD x 0 ∧ (a.getD k ([], 0)).1.getD x 0 ≤ 9223372036854775807) (hcb : ∀ k, k < b.length → -9223372036854775808 ≤ (b.getD k ([], 0)).1.getD y 0 ∧ (b.getD k ([], 0)).1.getD y 0 ≤ 9223372036854775807) :
    Calls Try.prog 25 #[v, u, .int .i64 x, .int .i64 y] w fun e w' => ∃ v', e = .returned v' ∧ OwnZ w' w.heap.size w'.heap.size v' (joinZ a b x y) ∧ Below w.heap.size w w' := by
  obtain ⟨i0, hi0, hz0, hz1, hz2⟩ := info_parts infoItem
  obtain ⟨la, ea, PA, RA⟩ := h.opened
  obtain ⟨lb, eb, PB, RB⟩ := h2.opened
  have hna : la.length = a.length := by rw [ea, its_length]
  have hnb : lb.length = b.length := by rw [eb, its_length]
  obtain ⟨hpla, hpsa, aa, ac, rfl, _, hca'⟩ := PA
  obtain ⟨hplb, hpsb, ba, bc, rfl, _, hcb'⟩ := PB
  rw [prs_length, hna] at hpla hca' ⊢
  rw [prs_length, hnb] at hplb hcb' ⊢
  obtain ⟨ab, aoff, rfl, habw, hacell⟩ := hca' (by intro e; have h5 := prs_length la; rw [e] at h5; simp at h5; omega)
  obtain ⟨bb, boff, rfl, hbbw, hbcell⟩ := hcb' (by intro e; have h5 := prs_length lb; rw [e] at h5; simp at h5; omega)
  obtain ⟨n, hn⟩ : ∃ n, n = a.length := ⟨_, rfl⟩
  obtain ⟨m, hm⟩ : ∃ m, m = b.length := ⟨_, rfl⟩
  rw [← hn] at hpa ha hx hca hna hpla hacell ⊢
  rw [← hm] at hpb hb hy hcb hnb hplb hbcell ⊢
  have HN : Hid (n = a.length) := hn
  have HM : Hid (m = b.length) := hm
  have HA : Hid (a = its la) := ea
  have HB : Hid (b = its lb) := eb
  have hnf : ((n : Int) == 0) = false := by simp; omega
  have hmf : ((m : Int) == 0) = false := by simp; omega
  have HMADE : Hid (GMap (w.alloc (.map #[] 0)) 81 w.heap.size (w.heap.size + 1) 0 (fun c => grpR (lb.take 0) y c)) := gmap_made w _ mapType
  clear hn hm h h2 hca' hcb' hpsa hpsb
  have hmm := @run_makeMap Try.prog
  go_enter Try.func25, Try.ntmps25
  go_wp2
  clear hmm
  go_loopw [28] (fun i wr => ∃ k : Nat, k ≤ m ∧ i = .int .i64 k ∧ Hid (GMap wr 81 w.heap.size (w.heap.size + 1) k (fun c => grpR (lb.take k) y c)) ∧ Hid (Below w.heap.size w wr) ∧ w.heap.size + 1 ≤ wr.heap.size) (fun i _ => m - (intOf i).toNat)
  case atStart => exact ⟨0, Nat.zero_le _, rfl, HMADE.out, below_alloc _, by simp⟩
  case round =>
    obtain ⟨k, hk, rfl, HG, HW, hws⟩ := hrel
    clear HMADE
    by_cases hlt : k < m
    · have hk' : k < lb.length := by omega
      have HBW := HW.out
      obtain ⟨c0, c1⟩ := hbcell k hlt
      rw [prs_getD hk'] at c0 c1
      have e1 : b.getD k ([], 0) = (lb.getD k (vn, ([], 0))).2 := by have := its_getD hk'; rw [← HB.out] at this; exact this
      have hyk := hy k hlt
      have hck := hcb k hlt
      rw [e1] at hyk hck
      have hix0 := RB (lb.getD k (vn, ([], 0))) (by simp [List.getD, hk'])
      have HT : Hid _ := grp_take (l := lb) y hk'
      obtain ⟨r, HR⟩ : ∃ r, Hid (r = lb.getD k (vn, ([], 0))) := ⟨_, rfl⟩
      rw [← HR.out] at c0 c1 hyk hck hix0 HT
      obtain ⟨rv, rx, ry⟩ := r
      simp only at c0 c1 hyk hck hix0 HT
      have hix := hix0.below HBW
      obtain ⟨rb, roff, rcap, rfl, hrbw, hcy0⟩ := row_at hix0 hyk
      have hcy := (HBW.cell (p := ⟨rb, roff + y, none⟩) hrbw).trans hcy0
      have hrb : rb < wr.heap.size := Nat.lt_of_lt_of_le hrbw HBW.size
      have g0 := (HBW.cell (p := ⟨bb, boff + k * 2, none⟩) hbbw).trans c0
      have g1 := (HBW.cell (p := ⟨bb, boff + k * 2 + 1, none⟩) hbbw).trans c1
      have hbr : bb < wr.heap.size := Nat.lt_of_lt_of_le hbbw HBW.size
      obtain ⟨wa, hwa⟩ : ∃ wa, wa = wr.alloc (.cells #[.slice (some ⟨rb, roff, none⟩) rx.length rcap, .int .i64 ry] 31) := ⟨_, rfl⟩
      have hba : Below wr.heap.size wr wa := by rw [hwa]; exact below_alloc _
      have hwl : wr.heap.size < wa.heap.size := by rw [hwa]; simp
      have t0 : wa.cell? ⟨wr.heap.size, 0, none⟩ = some (.slice (some ⟨rb, roff, none⟩) rx.length rcap) := by rw [hwa]; simp [go_sem]
      have t1 : wa.cell? ⟨wr.heap.size, 1, none⟩ = some (.int .i64 ry) := by rw [hwa]; simp [go_sem]
      have hcy' := cell_is (p := ⟨rb, roff + y, none⟩) hba hrb hcy
      have hrba : rb < wa.heap.size := by omega
      have hbd : Below wr.heap.size wr wa.drew := hba.drew
      have hgl : (grpR (lb.take k) y (rx.getD y 0)).length ≤ 100 := by have := grp_len (lb.take k) y (rx.getD y 0); rw [List.length_take] at this; omega
      obtain ⟨vc, hlook, hvb, hspW, hprW, hback⟩ := HG.out.put hbd hck (by unfold maxLen; omega) (.slice (some ⟨rb, roff, none⟩) rx.length rcap) rx ry ⟨_, _, _, rfl⟩ hws (by omega)
      have hpl : (prs (grpR (lb.take k) y (rx.getD y 0))).length ≤ 100 := by rw [prs_length]; exact hgl
      have hl1 := hlook wa.drew ⟨hbd.os, hbd.tape, hbd.output, hbd.size, fun k hk _ => hbd.block k hk⟩
      have hl2 : (Instr.lookup 81 (.map (some w.heap.size)) (.int .i64 (rx.getD y 0)) false).run Try.prog (wa.alloc (.cells #[.slice (some ⟨rb, roff, none⟩) rx.length rcap, .int .i64 ry] 31)).drew = .ok vc (wa.alloc (.cells #[.slice (some ⟨rb, roff, none⟩) rx.length rcap, .int .i64 ry] 31)).drew := hlook _ (grown_trans ⟨hbd.os, hbd.tape, hbd.output, hbd.size, fun k hk _ => hbd.block k hk⟩ (World.grownBy_alloc wa.drew _ _))
      clear hlook
      have hal : Below wa.drew.heap.size wa.drew (wa.drew.alloc (.cells #[.slice (some ⟨rb, roff, none⟩) rx.length rcap, .int .i64 ry] 31)) := below_alloc _
      have u0 := cell_is (p := ⟨wr.heap.size, 0, none⟩) hal hwl t0
      have u1 := cell_is (p := ⟨rb, roff + y, none⟩) hal hrba hcy'
      have u2 := cell_is (p := ⟨wr.heap.size, 1, none⟩) hal hwl t1
      have hs0 : wr.heap.size < (wa.drew.alloc (.cells #[.slice (some ⟨rb, roff, none⟩) rx.length rcap, .int .i64 ry] 31)).heap.size := Nat.lt_of_lt_of_le hwl hal.size
      have hs1 : rb < (wa.drew.alloc (.cells #[.slice (some ⟨rb, roff, none⟩) rx.length rcap, .int .i64 ry] 31)).heap.size := Nat.lt_of_lt_of_le hrba hal.size
      have hne0 : some wr.heap.size ≠ vc.ownBlock := fun e => by have := hvb _ e.symm; omega
      have hne1 : some rb ≠ vc.ownBlock := fun e => by have := hvb _ e.symm; omega
      have HBA : Hid (Below w.heap.size w wa.drew) := (HBW.trans (hba.mono HBW.size)).drew
      obtain ⟨G0, HG0⟩ : ∃ G0, Hid (G0 = grpR (lb.take k) y (rx.getD y 0)) := ⟨_, rfl⟩
      rw [← HG0.out] at hspW hback hpl HT
      obtain ⟨cc, HCC⟩ : ∃ cc, Hid (cc = rx.getD y 0) := ⟨_, rfl⟩
      rw [← HCC.out] at hcy hcy' hl1 hl2 hback HT u1
      clear c0 c1 hix0 hix hbcell HG HW HBW hba hbd hgl hcy hal hvb
      have Y0 : wa.drew.cell? ⟨wr.heap.size, 0, none⟩ = some (.slice (some ⟨rb, roff, none⟩) rx.length rcap) ∧ wa.drew.cell? ⟨wr.heap.size, 1, none⟩ = some (.int .i64 ry) ∧ wa.drew.cell? ⟨rb, roff + y, none⟩ = some (.int .i64 cc) := ⟨t0, t1, hcy'⟩
      have YB : (wa.drew.alloc (.cells #[.slice (some ⟨rb, roff, none⟩) rx.length rcap, .int .i64 ry] 31)).cell? ⟨wr.heap.size, 0, none⟩ = some (.slice (some ⟨rb, roff, none⟩) rx.length rcap) ∧ (wa.drew.alloc (.cells #[.slice (some ⟨rb, roff, none⟩) rx.length rcap, .int .i64 ry] 31)).cell? ⟨wr.heap.size, 1, none⟩ = some (.int .i64 ry) ∧ (wa.drew.alloc (.cells #[.slice (some ⟨rb, roff, none⟩) rx.length rcap, .int .i64 ry] 31)).cell? ⟨rb, roff + y, none⟩ = some (.int .i64 cc) := ⟨u0, u2, u1⟩
      go_wp2
      rw [← hwa]
      clear hwa g0 g1
      refine wp_region_held_drew (S := (fun w' => w'.cell? ⟨wr.heap.size, 0, none⟩ = some (.slice (some ⟨rb, roff, none⟩) rx.length rcap) ∧ w'.cell? ⟨wr.heap.size, 1, none⟩ = some (.int .i64 ry) ∧ w'.cell? ⟨rb, roff + y, none⟩ = some (.int .i64 cc))) (by kernel_rfl) ?_ (fun hHeld => ?_)
      · (try dsimp only); exact Y0
      refine wpAnyH_take (i := 0) (v := ?_) rfl (by kernel_rfl) (by kernel_rfl) (by kernel_rfl) (fun _ _ _ h => h) (Or.inl ⟨by rfl, ?_⟩) (by assumption) ?_
      rotate_left 1
      · intro w hSw; (try dsimp only at hSw); go_simp; try with_reducible rfl
      simp only [Act.put, List.getElem_toArray, List.getElem_cons_zero, List.setIfInBounds_toArray, List.set_cons_zero, List.set_cons_succ]
      refine wpAnyH_take (i := 1) (v := ?_) rfl (by kernel_rfl) (by kernel_rfl) (by kernel_rfl) (fun _ _ _ h => h) (Or.inl ⟨by rfl, ?_⟩) (by assumption) ?_
      rotate_left 1
      · intro w hSw; (try dsimp only at hSw); go_simp; try with_reducible rfl
      simp only [Act.put, List.getElem_toArray, List.getElem_cons_succ, List.getElem_cons_zero, List.setIfInBounds_toArray, List.set_cons_zero, List.set_cons_succ]
      refine wpAnyH_take (i := 2) (v := ?_) rfl (by kernel_rfl) (by kernel_rfl) (by kernel_rfl) (fun _ _ _ h => h) (Or.inl ⟨by rfl, ?_⟩) (by assumption) ?_
      rotate_left 1
      · intro w hSw; (try dsimp only at hSw); go_simp; try with_reducible rfl
      simp only [Act.put, List.getElem_toArray, List.getElem_cons_succ, List.getElem_cons_zero, List.setIfInBounds_toArray, List.set_cons_zero, List.set_cons_succ]
      refine wpAnyH_take (i := 3) (v := ?_) rfl (by kernel_rfl) (by kernel_rfl) (by kernel_rfl) (fun _ _ _ h => h) (Or.inl ⟨by rfl, ?_⟩) (by assumption) ?_
      rotate_left 1
      · intro w hSw; (try dsimp only at hSw); go_simp; try with_reducible rfl
      simp only [Act.put, List.getElem_toArray, List.getElem_cons_succ, List.getElem_cons_zero, List.setIfInBounds_toArray, List.set_cons_zero, List.set_cons_succ]
      refine wpAnyH_take (i := 4) (v := ?_) rfl (by kernel_rfl) (by kernel_rfl) (by kernel_rfl) (fun _ _ _ h => h) (Or.inl ⟨by rfl, ?_⟩) (by assumption) ?_
      rotate_left 1
      · intro w hSw; (try dsimp only at hSw); go_simp; try with_reducible rfl
      simp only [Act.put, List.getElem_toArray, List.getElem_cons_succ, List.getElem_cons_zero, List.setIfInBounds_toArray, List.set_cons_zero, List.set_cons_succ]
      refine wpAnyH_take (i := 5) (v := ?_) rfl (by kernel_rfl) (by kernel_rfl) (by kernel_rfl) (fun _ _ _ h => h) (Or.inl ⟨by rfl, ?_⟩) (by assumption) ?_
      rotate_left 1
      · intro w hSw; (try dsimp only at hSw); go_simp; try with_reducible rfl
      simp only [Act.put, List.getElem_toArray, List.getElem_cons_succ, List.getElem_cons_zero, List.setIfInBounds_toArray, List.set_cons_zero, List.set_cons_succ]
      refine wpAnyH_take (i := 6) (v := ?_) rfl (by kernel_rfl) (by kernel_rfl) (by kernel_rfl) (fun _ _ _ h => h) (Or.inl ⟨by rfl, ?_⟩) (by assumption) ?_
      rotate_left 1
      · intro w hSw; (try dsimp only at hSw); go_simp; try with_reducible rfl
      simp only [Act.put, List.getElem_toArray, List.getElem_cons_succ, List.getElem_cons_zero, List.setIfInBounds_toArray, List.set_cons_zero, List.set_cons_succ]
      refine wpAnyH_take (i := 7) (v := ?_) rfl (by kernel_rfl) (by kernel_rfl) (by kernel_rfl) (fun _ _ _ h => h) (Or.inl ⟨by rfl, ?_⟩) (by assumption) ?_
      rotate_left 1
      · intro w hSw; (try dsimp only at hSw); go_simp; try with_reducible rfl
      simp only [Act.put, List.getElem_toArray, List.getElem_cons_succ, List.getElem_cons_zero, List.setIfInBounds_toArray, List.set_cons_zero, List.set_cons_succ]
      refine wpAnyH_take (i := 8) (v := ?_) rfl (by kernel_rfl) (by kernel_rfl) (by kernel_rfl) (fun _ _ _ h => h) (Or.inl ⟨by rfl, ?_⟩) (by assumption) ?_
      rotate_left 1
      · intro w hSw; (try dsimp only at hSw); go_simp; try with_reducible rfl
      simp only [Act.put, List.getElem_toArray, List.getElem_cons_succ, List.getElem_cons_zero, List.setIfInBounds_toArray, List.set_cons_zero, List.set_cons_succ]
      refine wpAnyH_take (i := 9) (v := ?_) rfl (by kernel_rfl) (by kernel_rfl) (by kernel_rfl) (fun _ _ _ h => h) (Or.inl ⟨by rfl, ?_⟩) (by assumption) ?_
      rotate_left 1
      · intro w hSw; (try dsimp only at hSw); go_simp; try with_reducible rfl
      simp only [Act.put, List.getElem_toArray, List.getElem_cons_succ, List.getElem_cons_zero, List.setIfInBounds_toArray, List.set_cons_zero, List.set_cons_succ]
      refine wpAnyH_take (i := 10) (v := ?_) rfl (by kernel_rfl) (by kernel_rfl) (by kernel_rfl) (fun _ _ _ h => h) (Or.inl ⟨by rfl, ?_⟩) (by assumption) ?_
      rotate_left 1
      · intro w hSw; (try dsimp only at hSw); go_simp; try with_reducible rfl
      simp only [Act.put, List.getElem_toArray, List.getElem_cons_succ, List.getElem_cons_zero, List.setIfInBounds_toArray, List.set_cons_zero, List.set_cons_succ]
      refine wpAnyH_take (i := 11) (v := ?_) rfl (by kernel_rfl) (by kernel_rfl) (by kernel_rfl) (fun _ _ _ h => h) (Or.inl ⟨by rfl, ?_⟩) (by assumption) ?_
      rotate_left 1
      · intro w hSw; (try dsimp only at hSw); go_simp; try with_reducible rfl
      simp only [Act.put, List.getElem_toArray, List.getElem_cons_succ, List.getElem_cons_zero, List.setIfInBounds_toArray, List.set_cons_zero, List.set_cons_succ]
      refine wpAnyH_take (i := 13) (v := ?_) rfl (by kernel_rfl) (by kernel_rfl) (by kernel_rfl) (fun _ _ _ h => h) (Or.inl ⟨by rfl, ?_⟩) (by assumption) ?_
      rotate_left 1
      · intro w hSw; (try dsimp only at hSw); go_simp; try with_reducible rfl
      simp only [Act.put, List.getElem_toArray, List.getElem_cons_succ, List.getElem_cons_zero, List.setIfInBounds_toArray, List.set_cons_zero, List.set_cons_succ]
      refine wpAnyH_ready (rs := [12, 14]) (by kernel_rfl) (by simp) ?_
      refine AllReadyH.cons rfl (fun K hK => ?_) (AllReadyH.cons rfl (fun K hK => ?_) AllReadyH.nil)
      · go_simp
        refine hK.out _ _ ?_ (fun hHeld => ?_)
        · (try dsimp only); exact Y0
        clear hK K
        try simp only [Act.put, List.getElem_toArray, List.getElem_cons_succ, List.getElem_cons_zero, List.setIfInBounds_toArray, List.set_cons_zero, List.set_cons_succ]
        refine wpAnyH_ready (rs := [14]) (by kernel_rfl) (by simp) ?_
        refine AllReadyH.cons rfl (fun K hK => ?_) AllReadyH.nil
        go_simp
        refine hK.out _ _ ?_ (fun hHeld => ?_)
        · (try dsimp only); exact YB
        clear hK K
        try simp only [Act.put, List.getElem_toArray, List.getElem_cons_succ, List.getElem_cons_zero, List.setIfInBounds_toArray, List.set_cons_zero, List.set_cons_succ]
        refine wpAnyH_ready (rs := [15]) (by kernel_rfl) (by simp) ?_
        refine AllReadyH.cons rfl (fun K hK => ?_) AllReadyH.nil
        refine step_append_at rfl (.tmp 44) (.tmp 46) 23 rfl (w.heap.size + 1) 31 i0 Try.underlying23 hi0 hz0 hz1 hz2 vc (prs G0) (by simp [Act.eval]) hspW ⟨wa.heap.size, 0, none⟩ 1 1 [(.slice (some ⟨rb, roff, none⟩) rx.length rcap, ry)] (by simp [Act.eval]) hprW (by simp; omega) (by simp; omega) ?_
        intro v3 w3 hown3 hg3 hat3
        have Y3 : w3.cell? ⟨wr.heap.size, 0, none⟩ = some (.slice (some ⟨rb, roff, none⟩) rx.length rcap) ∧ w3.cell? ⟨wr.heap.size, 1, none⟩ = some (.int .i64 ry) ∧ w3.cell? ⟨rb, roff + y, none⟩ = some (.int .i64 cc) := ⟨grown_cell (p := ⟨wr.heap.size, 0, none⟩) hg3 hs0 hne0 u0, grown_cell (p := ⟨wr.heap.size, 1, none⟩) hg3 hs0 hne0 u2, grown_cell (p := ⟨rb, roff + y, none⟩) hg3 hs1 hne1 u1⟩
        obtain ⟨w4, hrun4, G4, B4, hg4⟩ := hback v3 w3 hown3 hg3 hat3
        have hs3 := hg3.size
        have Y4 : w4.cell? ⟨wr.heap.size, 0, none⟩ = some (.slice (some ⟨rb, roff, none⟩) rx.length rcap) ∧ w4.cell? ⟨wr.heap.size, 1, none⟩ = some (.int .i64 ry) ∧ w4.cell? ⟨rb, roff + y, none⟩ = some (.int .i64 cc) := ⟨grown_cell (p := ⟨wr.heap.size, 0, none⟩) hg4 (Nat.lt_of_lt_of_le hs0 hs3) (fun e => by simp at e; omega) Y3.1, grown_cell (p := ⟨wr.heap.size, 1, none⟩) hg4 (Nat.lt_of_lt_of_le hs0 hs3) (fun e => by simp at e; omega) Y3.2.1, grown_cell (p := ⟨rb, roff + y, none⟩) hg4 (Nat.lt_of_lt_of_le hs1 hs3) (fun e => by simp at e; omega) Y3.2.2⟩
        refine hK.out _ _ ?_ (fun hHeld => ?_)
        · (try dsimp only); exact Y3
        clear hK K
        try simp only [Act.put, List.getElem_toArray, List.getElem_cons_succ, List.getElem_cons_zero, List.setIfInBounds_toArray, List.set_cons_zero, List.set_cons_succ]
        refine wpAnyH_ready (rs := [16]) (by kernel_rfl) (by simp) ?_
        refine AllReadyH.cons rfl (fun K hK => ?_) AllReadyH.nil
        refine step_mapUpdate rfl (.tmp 32) (.tmp 37) (.tmp 47) 81 rfl _ _ _ (by simp [Act.eval]) (by simp [Act.eval]) (by simp [Act.eval]) hrun4 ?_
        refine hK.out _ _ ?_ (fun hHeld => ?_)
        · (try dsimp only); exact Y4
        clear hK K
        try simp only [Act.put]
        refine wpAnyH_done (by kernel_rfl) ?_ _
        have HK : Hid (Below w.heap.size w w4) := HBA.out.trans B4
        have HG4 : Hid (GMap w4 81 w.heap.size (w.heap.size + 1) (k + 1) (fun c => grpR (lb.take (k + 1)) y c)) := by
          show GMap _ _ _ _ _ _
          rw [HT.out]
          exact G4
        have hs4 : w.heap.size + 1 ≤ w4.heap.size := by have h5 : wa.heap.size ≤ w4.heap.size := B4.size; omega
        clear hback hown3 hg3 hat3 hspW hprW B4 G4 hl1 hl2 hrun4 HBA t0 t1 Y0 YB Y3 Y4 hg4 u0 u1 u2
        go_wp2
        go_roundw
        case rel => exact ⟨k + 1, by omega, by go_num, HG4.out, HK.out, hs4⟩
        case measure => simp [intOf]; omega
      · go_simp
        refine hK.out _ _ ?_ (fun hHeld => ?_)
        · (try dsimp only); exact YB
        clear hK K
        try simp only [Act.put, List.getElem_toArray, List.getElem_cons_succ, List.getElem_cons_zero, List.setIfInBounds_toArray, List.set_cons_zero, List.set_cons_succ]
        refine wpAnyH_ready (rs := [12]) (by kernel_rfl) (by simp) ?_
        refine AllReadyH.cons rfl (fun K hK => ?_) AllReadyH.nil
        go_simp
        refine hK.out _ _ ?_ (fun hHeld => ?_)
        · (try dsimp only); exact YB
        clear hK K
        try simp only [Act.put, List.getElem_toArray, List.getElem_cons_succ, List.getElem_cons_zero, List.setIfInBounds_toArray, List.set_cons_zero, List.set_cons_succ]
        refine wpAnyH_ready (rs := [15]) (by kernel_rfl) (by simp) ?_
        refine AllReadyH.cons rfl (fun K hK => ?_) AllReadyH.nil
        refine step_append_at rfl (.tmp 44) (.tmp 46) 23 rfl (w.heap.size + 1) 31 i0 Try.underlying23 hi0 hz0 hz1 hz2 vc (prs G0) (by simp [Act.eval]) hspW ⟨wa.heap.size, 0, none⟩ 1 1 [(.slice (some ⟨rb, roff, none⟩) rx.length rcap, ry)] (by simp [Act.eval]) hprW (by simp; omega) (by simp; omega) ?_
        intro v3 w3 hown3 hg3 hat3
        have Y3 : w3.cell? ⟨wr.heap.size, 0, none⟩ = some (.slice (some ⟨rb, roff, none⟩) rx.length rcap) ∧ w3.cell? ⟨wr.heap.size, 1, none⟩ = some (.int .i64 ry) ∧ w3.cell? ⟨rb, roff + y, none⟩ = some (.int .i64 cc) := ⟨grown_cell (p := ⟨wr.heap.size, 0, none⟩) hg3 hs0 hne0 u0, grown_cell (p := ⟨wr.heap.size, 1, none⟩) hg3 hs0 hne0 u2, grown_cell (p := ⟨rb, roff + y, none⟩) hg3 hs1 hne1 u1⟩
        obtain ⟨w4, hrun4, G4, B4, hg4⟩ := hback v3 w3 hown3 hg3 hat3
        have hs3 := hg3.size
        have Y4 : w4.cell? ⟨wr.heap.size, 0, none⟩ = some (.slice (some ⟨rb, roff, none⟩) rx.length rcap) ∧ w4.cell? ⟨wr.heap.size, 1, none⟩ = some (.int .i64 ry) ∧ w4.cell? ⟨rb, roff + y, none⟩ = some (.int .i64 cc) := ⟨grown_cell (p := ⟨wr.heap.size, 0, none⟩) hg4 (Nat.lt_of_lt_of_le hs0 hs3) (fun e => by simp at e; omega) Y3.1, grown_cell (p := ⟨wr.heap.size, 1, none⟩) hg4 (Nat.lt_of_lt_of_le hs0 hs3) (fun e => by simp at e; omega) Y3.2.1, grown_cell (p := ⟨rb, roff + y, none⟩) hg4 (Nat.lt_of_lt_of_le hs1 hs3) (fun e => by simp at e; omega) Y3.2.2⟩
        refine hK.out _ _ ?_ (fun hHeld => ?_)
        · (try dsimp only); exact Y3
        clear hK K
        try simp only [Act.put, List.getElem_toArray, List.getElem_cons_succ, List.getElem_cons_zero, List.setIfInBounds_toArray, List.set_cons_zero, List.set_cons_succ]
        refine wpAnyH_ready (rs := [16]) (by kernel_rfl) (by simp) ?_
        refine AllReadyH.cons rfl (fun K hK => ?_) AllReadyH.nil
        refine step_mapUpdate rfl (.tmp 32) (.tmp 37) (.tmp 47) 81 rfl _ _ _ (by simp [Act.eval]) (by simp [Act.eval]) (by simp [Act.eval]) hrun4 ?_
        refine hK.out _ _ ?_ (fun hHeld => ?_)
        · (try dsimp only); exact Y4
        clear hK K
        try simp only [Act.put]
        refine wpAnyH_done (by kernel_rfl) ?_ _
        have HK : Hid (Below w.heap.size w w4) := HBA.out.trans B4
        have HG4 : Hid (GMap w4 81 w.heap.size (w.heap.size + 1) (k + 1) (fun c => grpR (lb.take (k + 1)) y c)) := by
          show GMap _ _ _ _ _ _
          rw [HT.out]
          exact G4
        have hs4 : w.heap.size + 1 ≤ w4.heap.size := by have h5 : wa.heap.size ≤ w4.heap.size := B4.size; omega
        clear hback hown3 hg3 hat3 hspW hprW B4 G4 hl1 hl2 hrun4 HBA t0 t1 Y0 YB Y3 Y4 hg4 u0 u1 u2
        go_wp2
        go_roundw
        case rel => exact ⟨k + 1, by omega, by go_num, HG4.out, HK.out, hs4⟩
        case measure => simp [intOf]; omega
    · obtain rfl : k = m := by omega
      obtain ⟨w2, hw2⟩ : ∃ w2, w2 = wr := ⟨_, rfl⟩
      rw [← hw2] at HG HW hws ⊢
      have HG2 : Hid (GMap w2 81 w.heap.size (w.heap.size + 1) k (fun c => grpR lb y c)) := by
        have := HG.out
        rw [← hnb, List.take_length] at this
        rw [← hnb]
        exact this
      clear HG hw2 hbcell hcb hy
      go_wp2
      go_loopw [12, 51] (fun s i wr => ∃ (j : Nat), j ≤ n ∧ i = .int .i64 j ∧ Hid (OwnZ wr w2.heap.size wr.heap.size s (joinZ (a.take j) b x y)) ∧ Hid (Below w2.heap.size w2 wr)) (fun _ i _ => n - (intOf i).toNat)
      case atStart => exact ⟨0, Nat.zero_le _, rfl, nil_ownZ _ _, Below.refl _ _⟩
      case round =>
        obtain ⟨j, hj, rfl, HZ, HW2⟩ := hrel
        by_cases hltj : j < n
        · have hj' : j < la.length := by omega
          have HBW := HW2.out
          have hww : Below w.heap.size w wr := HW.out.trans (HBW.mono (by omega))
          obtain ⟨c0, c1⟩ := hacell j hltj
          rw [prs_getD hj'] at c0 c1
          have e1 : a.getD j ([], 0) = (la.getD j (vn, ([], 0))).2 := by have := its_getD hj'; rw [← HA.out] at this; exact this
          have hxk := hx j hltj
          have hck := hca j hltj
          have hpin := hla (a.getD j ([], 0)) (by simp [List.getD, show j < a.length by rw [← HN.out]; exact hltj])
          have HT : Hid _ := joinZ_take (a := a) b x y (k := j) (by rw [← HN.out]; exact hltj)
          rw [e1] at hxk hck hpin HT
          have hix0 := RA (la.getD j (vn, ([], 0))) (by simp [List.getD, hj'])
          obtain ⟨r, HR⟩ : ∃ r, Hid (r = la.getD j (vn, ([], 0))) := ⟨_, rfl⟩
          rw [← HR.out] at c0 c1 hxk hck hpin hix0 HT
          obtain ⟨pv, px, pw⟩ := r
          simp only at c0 c1 hxk hck hpin hix0 HT
          have hix := hix0.below hww
          obtain ⟨rb, roff, rcap, rfl, hrb, hcx⟩ := row_at hix hxk
          have g0 := (hww.cell (p := ⟨ab, aoff + j * 2, none⟩) habw).trans c0
          have g1 := (hww.cell (p := ⟨ab, aoff + j * 2 + 1, none⟩) habw).trans c1
          have hbr : ab < wr.heap.size := Nat.lt_of_lt_of_le habw hww.size
          obtain ⟨wa, hwa⟩ : ∃ wa, wa = wr.alloc (.cells #[.slice (some ⟨rb, roff, none⟩) px.length rcap, .int .i64 pw] 31) := ⟨_, rfl⟩
          have hba : Below wr.heap.size wr wa := by rw [hwa]; exact below_alloc _
          have hwl : wr.heap.size < wa.heap.size := by rw [hwa]; simp
          have t0 : wa.cell? ⟨wr.heap.size, 0, none⟩ = some (.slice (some ⟨rb, roff, none⟩) px.length rcap) := by rw [hwa]; simp [go_sem]
          have t1 : wa.cell? ⟨wr.heap.size, 1, none⟩ = some (.int .i64 pw) := by rw [hwa]; simp [go_sem]
          have hcx' := cell_is (p := ⟨rb, roff + x, none⟩) hba hrb hcx
          have HIX : Hid (IntsAt w (.slice (some ⟨rb, roff, none⟩) px.length rcap) px) := hix0
          have hb2a : Below w2.heap.size w2 wa := HBW.trans (hba.mono HBW.size)
          obtain ⟨vc, hlook, SV, -⟩ := HG2.out.look hck (by unfold maxLen; omega)
          have hl1 := hlook wa ⟨hb2a.os, hb2a.tape, hb2a.output, hb2a.size, fun k hk _ => hb2a.block k hk⟩
          have hsh : ∃ va vcp, vc = .slice va (grpR lb y (px.getD x 0)).length vcp := by
            rcases SV.1.2 with ⟨rfl, h0⟩ | ⟨g, cp, cu, rfl, _⟩
            · rw [prs_length] at h0
              exact ⟨none, 0, by rw [h0]⟩
            · exact ⟨_, _, by rw [prs_length]⟩
          obtain ⟨va, vcp, rfl⟩ := hsh
          have hgl : (grpR lb y (px.getD x 0)).length ≤ 100 := by have := grp_len lb y (px.getD x 0); omega
          have HITS : Hid (its (grpR lb y (px.getD x 0)) = meetZ b y (px.getD x 0)) := by rw [Hid, its_grp, HB.out]
          have HROW : Hid (∀ q ∈ grpR lb y (px.getD x 0), IntsAt w q.1 q.2.1 ∧ q.2.1.length ≤ 6 ∧ -10000 ≤ q.2.2 ∧ q.2.2 ≤ 10000) := fun q hq => by
            have hq' := (List.mem_filter.1 hq).1
            exact ⟨RB q hq', hlb q.2 (by rw [HB.out]; exact List.mem_map.2 ⟨q, hq', rfl⟩)⟩
          obtain ⟨cc, HCC⟩ : ∃ cc, Hid (cc = px.getD x 0) := ⟨_, rfl⟩
          rw [← HCC.out] at hcx hcx' hl1 SV hgl HITS HROW HT
          obtain ⟨G0, HG0⟩ : ∃ G0, Hid (G0 = grpR lb y cc) := ⟨_, rfl⟩
          rw [← HG0.out] at hl1 SV hgl HITS HROW
          obtain ⟨L, hL⟩ : ∃ L, L = G0.length := ⟨_, rfl⟩
          have HL : Hid (L = G0.length) := hL
          rw [← hL] at hl1 SV hgl
          have HZA : Hid (OwnZ wa w2.heap.size wa.heap.size u12 (joinZ (a.take j) b x y ++ withZ (px, pw) ((meetZ b y cc).take 0))) := by
            have := (HZ.out.keep' hba).wide (Nat.le_refl _) hba.size (Nat.le_refl _)
            simpa [withZ, Hid] using this
          have hjl : (joinZ (a.take j) b x y).length ≤ 10000 := by
            have h5 := joinZ_len b x y (a.take j)
            have h6 : (a.take j).length * b.length ≤ 100 * 100 := Nat.mul_le_mul (by rw [List.length_take]; omega) (by rw [← HM.out]; omega)
            omega
          have hl1' : (Instr.lookup 81 (.map (some w.heap.size)) (.int .i64 cc) false).run Try.prog (wr.alloc (.cells #[.slice (some ⟨rb, roff, none⟩) px.length rcap, .int .i64 pw] 31)) = .ok (.slice va L vcp) (wr.alloc (.cells #[.slice (some ⟨rb, roff, none⟩) px.length rcap, .int .i64 pw] 31)) := by rw [← hwa]; exact hl1
          have HNE : Hid (some wr.heap.size ≠ u12.ownBlock) := fun e => by
            obtain ⟨ps, _, hsp, _⟩ := HZ.out
            have := hsp.2.1 _ e.symm
            omega
          have hw2a : w2.heap.size ≤ wa.heap.size := by have := HBW.size; omega
          have HWA2 : Hid (Below w2.heap.size w2 wa) := hb2a
          clear hL c0 c1 hix0 hix hacell hx hca HZ HW2 HBW hba hww hlook hb2a
          go_wp2
          rw [← hwa]
          clear hwa g0 g1 hl1' hl1 hcx hcx'
          obtain ⟨fb, hfb⟩ : ∃ fb, fb = wr.heap.size := ⟨_, rfl⟩
          rw [← hfb] at t0 t1 hwl HNE ⊢
          clear hfb
          go_loopw [12, 63] (fun s i wr => ∃ (l : Nat), l ≤ L ∧ i = .int .i64 l ∧ Hid (OwnZ wr w2.heap.size wr.heap.size s (joinZ (a.take j) b x y ++ withZ (px, pw) ((meetZ b y cc).take l))) ∧ Hid (Below w2.heap.size w2 wr) ∧ Hid (some fb ≠ s.ownBlock) ∧ Hid (fb < wr.heap.size ∧ wr.cell? ⟨fb, 0, none⟩ = some (.slice (some ⟨rb, roff, none⟩) px.length rcap) ∧ wr.cell? ⟨fb, 1, none⟩ = some (.int .i64 pw))) (fun _ i _ => L - (intOf i).toNat)
          case atStart => exact ⟨0, Nat.zero_le _, rfl, HZA.out, HWA2.out, HNE.out, ⟨hwl, t0, t1⟩⟩
          case round =>
            obtain ⟨l, hl, rfl, HZQ, HWQ, HSN, HFC⟩ := hrel
            clear HZA HNE t0 t1 hwl
            by_cases hltl : l < L
            · have hl' : l < G0.length := by rw [← HL.out]; exact hltl
              obtain ⟨gv, gcp, hve, hgv1, hgv2, -, -⟩ := SV.shape (by rw [prs_length]; omega)
              simp only [Value.slice.injEq] at hve
              obtain ⟨rfl, -, rfl⟩ := hve
              have hbq := HWQ.out
              have d0 := (hbq.cell (p := ⟨gv, l * 2, none⟩) hgv2).trans (SV.cell0 (j := l) (by rw [prs_length]; exact hl'))
              have d1 := (hbq.cell (p := ⟨gv, l * 2 + 1, none⟩) hgv2).trans (SV.cell1 (j := l) (by rw [prs_length]; exact hl'))
              rw [prs_getD hl'] at d0 d1
              obtain ⟨hqi0, hq6, hqw1, hqw2⟩ := HROW.out (G0.getD l (vn, ([], 0))) (by simp [List.getD, hl'])
              have hmg : (meetZ b y cc).getD l ([], 0) = (G0.getD l (vn, ([], 0))).2 := by rw [← HITS.out]; exact its_getD hl'
              have HTW : Hid _ := withZ_take (p := (px, pw)) (qs := meetZ b y cc) (j := l) (by rw [← HITS.out, its_length]; exact hl')
              rw [hmg] at HTW
              obtain ⟨q, HQ⟩ : ∃ q, Hid (q = G0.getD l (vn, ([], 0))) := ⟨_, rfl⟩
              rw [← HQ.out] at d0 d1 hqi0 hq6 hqw1 hqw2 HTW
              obtain ⟨qv, qx, qw⟩ := q
              simp only at d0 d1 hqi0 hq6 hqw1 hqw2 HTW
              have hwq : Below w.heap.size w wr := HW.out.trans (hbq.mono (by omega))
              have hqi := hqi0.below hwq
              obtain ⟨qa, qn, qc, rfl⟩ := hqi.shape
              obtain ⟨hfl, f0, f1⟩ := HFC.out
              have hgq : gv < wr.heap.size := Nat.lt_of_lt_of_le hgv2 hbq.size
              have hixq := HIX.out.below hwq
              obtain ⟨wb, hwb⟩ : ∃ wb, wb = wr.alloc (.cells #[.slice qa qn qc, .int .i64 qw] 31) := ⟨_, rfl⟩
              have hbb2 : Below wr.heap.size wr wb := by rw [hwb]; exact below_alloc _
              have hsl : wr.heap.size < wb.heap.size := by rw [hwb]; simp
              have s0 : wb.cell? ⟨wr.heap.size, 0, none⟩ = some (.slice qa qn qc) := by rw [hwb]; simp [go_sem]
              have s1 : wb.cell? ⟨wr.heap.size, 1, none⟩ = some (.int .i64 qw) := by rw [hwb]; simp [go_sem]
              have f0b := cell_is (p := ⟨fb, 0, none⟩) hbb2 hfl f0
              have f1b := cell_is (p := ⟨fb, 1, none⟩) hbb2 hfl f1
              have hflb : fb < wb.heap.size := by omega
              have i1 : IntsAt wb.drew (.slice (some ⟨rb, roff, none⟩) px.length rcap) px := (hixq.below hbb2).below (Below.drew (Below.refl _ _))
              have i2 : IntsAt wb.drew (.slice qa qn qc) qx := (hqi.below hbb2).below (Below.drew (Below.refl _ _))
              have ZB : OwnZ wb.drew w2.heap.size wr.heap.size u12 (joinZ (a.take j) b x y ++ withZ (px, pw) ((meetZ b y cc).take l)) := (HZQ.out.keep' hbb2).keep' (Below.drew (Below.refl _ _))
              have hmul := mul_in (A := 10000) (B := 10000) (a := pw) (b := qw) hpin.2 ⟨hqw1, hqw2⟩ (by omega) (by omega)
              obtain ⟨pq, HPQ⟩ : ∃ pq, Hid (pq = pw * qw) := ⟨_, rfl⟩
              have hwrap : IntKind.i64.wrap (pw * qw) = pq := by rw [HPQ.out, IntKind.wrap_i64]; omega
              have hacl : (joinZ (a.take j) b x y ++ withZ (px, pw) ((meetZ b y cc).take l)).length ≤ 10100 := by rw [List.length_append, withZ_len, List.length_take]; omega
              have hne1 : some fb ≠ u12.ownBlock := HSN.out
              have hne2 : some wr.heap.size ≠ u12.ownBlock := fun e => by
                obtain ⟨ps, _, hsp, _⟩ := HZQ.out
                have := hsp.2.1 _ e.symm
                omega
              have HBB : Hid (Below w2.heap.size w2 wb.drew) := (hbq.trans (hbb2.mono hbq.size)).drew
              have hw2b : w2.heap.size ≤ wr.heap.size := by have := hbq.size; omega
              have Y0 : wb.drew.cell? ⟨fb, 0, none⟩ = some (.slice (some ⟨rb, roff, none⟩) px.length rcap) ∧ wb.drew.cell? ⟨fb, 1, none⟩ = some (.int .i64 pw) ∧ wb.drew.cell? ⟨wr.heap.size, 0, none⟩ = some (.slice qa qn qc) ∧ wb.drew.cell? ⟨wr.heap.size, 1, none⟩ = some (.int .i64 qw) := ⟨f0b, f1b, s0, s1⟩
              obtain ⟨acc, HACC⟩ : ∃ acc, Hid (acc = joinZ (a.take j) b x y ++ withZ (px, pw) ((meetZ b y cc).take l)) := ⟨_, rfl⟩
              rw [← HACC.out] at ZB hacl
              rw [← HPQ.out] at HTW
              have hjn : px.length + qx.length ≤ 8796093022208 := by omega
              clear hqi0 hqi hixq hmg HZQ HSN HWQ hbq hbb2 s0 s1 f0b f1b hmul hwq HFC
              go_wp2
              rw [← hwb]
              clear hwb d0 d1 f0 f1
              refine wp_region_held_drew (S := (fun w' => w'.cell? ⟨fb, 0, none⟩ = some (.slice (some ⟨rb, roff, none⟩) px.length rcap) ∧ w'.cell? ⟨fb, 1, none⟩ = some (.int .i64 pw) ∧ w'.cell? ⟨wr.heap.size, 0, none⟩ = some (.slice qa qn qc) ∧ w'.cell? ⟨wr.heap.size, 1, none⟩ = some (.int .i64 qw))) (by kernel_rfl) ?_ (fun hHeld => ?_)
              · (try dsimp only); exact Y0
              refine wpAnyH_take (i := 0) (v := ?_) rfl (by kernel_rfl) (by kernel_rfl) (by kernel_rfl) (fun _ _ _ h => h) (Or.inl ⟨by rfl, ?_⟩) (by assumption) ?_
              rotate_left 1
              · intro w hSw; (try dsimp only at hSw); go_simp; try with_reducible rfl
              simp only [Act.put, List.getElem_toArray, List.getElem_cons_zero, List.setIfInBounds_toArray, List.set_cons_zero, List.set_cons_succ]
              refine wpAnyH_take (i := 1) (v := ?_) rfl (by kernel_rfl) (by kernel_rfl) (by kernel_rfl) (fun _ _ _ h => h) (Or.inl ⟨by rfl, ?_⟩) (by assumption) ?_
              rotate_left 1
              · intro w hSw; (try dsimp only at hSw); go_simp; try with_reducible rfl
              simp only [Act.put, List.getElem_toArray, List.getElem_cons_succ, List.getElem_cons_zero, List.setIfInBounds_toArray, List.set_cons_zero, List.set_cons_succ]
              refine wpAnyH_take (i := 2) (v := ?_) rfl (by kernel_rfl) (by kernel_rfl) (by kernel_rfl) (fun _ _ _ h => h) (Or.inl ⟨by rfl, ?_⟩) (by assumption) ?_
              rotate_left 1
              · intro w hSw; (try dsimp only at hSw); go_simp; try with_reducible rfl
              simp only [Act.put, List.getElem_toArray, List.getElem_cons_succ, List.getElem_cons_zero, List.setIfInBounds_toArray, List.set_cons_zero, List.set_cons_succ]
              refine wpAnyH_take (i := 3) (v := ?_) rfl (by kernel_rfl) (by kernel_rfl) (by kernel_rfl) (fun _ _ _ h => h) (Or.inl ⟨by rfl, ?_⟩) (by assumption) ?_
              rotate_left 1
              · intro w hSw; (try dsimp only at hSw); go_simp; try with_reducible rfl
              simp only [Act.put, List.getElem_toArray, List.getElem_cons_succ, List.getElem_cons_zero, List.setIfInBounds_toArray, List.set_cons_zero, List.set_cons_succ]
              refine wpAnyH_take (i := 4) (v := ?_) rfl (by kernel_rfl) (by kernel_rfl) (by kernel_rfl) (fun _ _ _ h => h) (Or.inl ⟨by rfl, ?_⟩) (by assumption) ?_
              rotate_left 1
              · intro w hSw; (try dsimp only at hSw); go_simp; try with_reducible rfl
              simp only [Act.put, List.getElem_toArray, List.getElem_cons_succ, List.getElem_cons_zero, List.setIfInBounds_toArray, List.set_cons_zero, List.set_cons_succ]
              refine wpAnyH_take (i := 6) (v := ?_) rfl (by kernel_rfl) (by kernel_rfl) (by kernel_rfl) (fun _ _ _ h => h) (Or.inl ⟨by rfl, ?_⟩) (by assumption) ?_
              rotate_left 1
              · intro w hSw; (try dsimp only at hSw); go_simp; try with_reducible rfl
              simp only [Act.put, List.getElem_toArray, List.getElem_cons_succ, List.getElem_cons_zero, List.setIfInBounds_toArray, List.set_cons_zero, List.set_cons_succ]
              refine wpAnyH_take (i := 7) (v := ?_) rfl (by kernel_rfl) (by kernel_rfl) (by kernel_rfl) (fun _ _ _ h => h) (Or.inl ⟨by rfl, ?_⟩) (by assumption) ?_
              rotate_left 1
              · intro w hSw; (try dsimp only at hSw); go_simp; try with_reducible rfl
              simp only [Act.put, List.getElem_toArray, List.getElem_cons_succ, List.getElem_cons_zero, List.setIfInBounds_toArray, List.set_cons_zero, List.set_cons_succ]
              refine wpAnyH_take (i := 8) (v := ?_) rfl (by kernel_rfl) (by kernel_rfl) (by kernel_rfl) (fun _ _ _ h => h) (Or.inl ⟨by rfl, ?_⟩) (by assumption) ?_
              rotate_left 1
              · intro w hSw; (try dsimp only at hSw); go_simp; try with_reducible rfl
              simp only [Act.put, List.getElem_toArray, List.getElem_cons_succ, List.getElem_cons_zero, List.setIfInBounds_toArray, List.set_cons_zero, List.set_cons_succ]
              refine wpAnyH_take (i := 9) (v := ?_) rfl (by kernel_rfl) (by kernel_rfl) (by kernel_rfl) (fun _ _ _ h => h) (Or.inl ⟨by rfl, ?_⟩) (by assumption) ?_
              rotate_left 1
              · intro w hSw; (try dsimp only at hSw); go_simp; try with_reducible rfl
              simp only [Act.put, List.getElem_toArray, List.getElem_cons_succ, List.getElem_cons_zero, List.setIfInBounds_toArray, List.set_cons_zero, List.set_cons_succ]
              refine wpAnyH_take (i := 10) (v := ?_) rfl (by kernel_rfl) (by kernel_rfl) (by kernel_rfl) (fun _ _ _ h => h) (Or.inl ⟨by rfl, ?_⟩) (by assumption) ?_
              rotate_left 1
              · intro w hSw; (try dsimp only at hSw); go_simp; try with_reducible rfl
              simp only [Act.put, List.getElem_toArray, List.getElem_cons_succ, List.getElem_cons_zero, List.setIfInBounds_toArray, List.set_cons_zero, List.set_cons_succ]
              refine wpAnyH_ready (rs := [5]) (by kernel_rfl) (by simp) ?_
              refine AllReadyH.cons rfl (fun K hK => ?_) AllReadyH.nil
              go_simp
              (go_at_call 10; refine (implRowJoin_any _ _ px qx _ i1 i2 hjn).mono ?_; rintro e w3 ⟨v3, rfl, O3, hb3, -⟩)
              have hk3 : Below wb.heap.size wb w3 := (Below.drew (Below.refl _ wb)).trans hb3
              obtain ⟨va3, vn3, vc3, rfl⟩ := O3.ints.shape
              have Y3 : w3.cell? ⟨fb, 0, none⟩ = some (.slice (some ⟨rb, roff, none⟩) px.length rcap) ∧ w3.cell? ⟨fb, 1, none⟩ = some (.int .i64 pw) ∧ w3.cell? ⟨wr.heap.size, 0, none⟩ = some (.slice qa qn qc) ∧ w3.cell? ⟨wr.heap.size, 1, none⟩ = some (.int .i64 qw) := ⟨cell_is (p := ⟨fb, 0, none⟩) hk3 hflb Y0.1, cell_is (p := ⟨fb, 1, none⟩) hk3 hflb Y0.2.1, cell_is (p := ⟨wr.heap.size, 0, none⟩) hk3 hsl Y0.2.2.1, cell_is (p := ⟨wr.heap.size, 1, none⟩) hk3 hsl Y0.2.2.2⟩
              have hs3 : wb.heap.size ≤ w3.heap.size := hk3.size
              obtain ⟨ps, hpsl, hspW, hprW, hfin⟩ := (ZB.keep' hb3).ready pq O3 (by (show _ ≤ wb.heap.size); omega) (by (show _ ≤ wb.heap.size); omega) (by omega) (by omega)
              have hpl2 : ps.length ≤ 1048576 := by omega
              have hf3 : fb < w3.heap.size := by omega
              have hq3 : wr.heap.size < w3.heap.size := by omega
              have hal : Below w3.heap.size w3 (w3.alloc (.cells #[.slice va3 vn3 vc3, .int .i64 pq] 31)) := below_alloc _
              have Y5 : (w3.alloc (.cells #[.slice va3 vn3 vc3, .int .i64 pq] 31)).cell? ⟨fb, 0, none⟩ = some (.slice (some ⟨rb, roff, none⟩) px.length rcap) ∧ (w3.alloc (.cells #[.slice va3 vn3 vc3, .int .i64 pq] 31)).cell? ⟨fb, 1, none⟩ = some (.int .i64 pw) ∧ (w3.alloc (.cells #[.slice va3 vn3 vc3, .int .i64 pq] 31)).cell? ⟨wr.heap.size, 0, none⟩ = some (.slice qa qn qc) ∧ (w3.alloc (.cells #[.slice va3 vn3 vc3, .int .i64 pq] 31)).cell? ⟨wr.heap.size, 1, none⟩ = some (.int .i64 qw) := ⟨cell_is (p := ⟨fb, 0, none⟩) hal hf3 Y3.1, cell_is (p := ⟨fb, 1, none⟩) hal hf3 Y3.2.1, cell_is (p := ⟨wr.heap.size, 0, none⟩) hal hq3 Y3.2.2.1, cell_is (p := ⟨wr.heap.size, 1, none⟩) hal hq3 Y3.2.2.2⟩
              have hf4 := Nat.lt_of_lt_of_le hf3 hal.size
              have hq4 := Nat.lt_of_lt_of_le hq3 hal.size
              refine hK.out _ _ ?_ (fun hHeld => ?_)
              · (try dsimp only); exact Y3
              clear hK K
              try simp only [Act.put, List.getElem_toArray, List.getElem_cons_succ, List.getElem_cons_zero, List.setIfInBounds_toArray, List.set_cons_zero, List.set_cons_succ]
              refine wpAnyH_take (i := 11) (v := ?_) rfl (by kernel_rfl) (by kernel_rfl) (by kernel_rfl) (fun _ _ _ h => h) (Or.inl ⟨by rfl, ?_⟩) (by assumption) ?_
              rotate_left 1
              · intro w hSw; (try dsimp only at hSw); go_simp; try with_reducible rfl
              simp only [Act.put, List.getElem_toArray, List.getElem_cons_succ, List.getElem_cons_zero, List.setIfInBounds_toArray, List.set_cons_zero, List.set_cons_succ]
              refine wpAnyH_ready (rs := [12]) (by kernel_rfl) (by simp) ?_
              refine AllReadyH.cons rfl (fun K hK => ?_) AllReadyH.nil
              go_simp
              refine hK.out _ _ ?_ (fun hHeld => ?_)
              · (try dsimp only); exact Y5
              clear hK K
              try simp only [Act.put, List.getElem_toArray, List.getElem_cons_succ, List.getElem_cons_zero, List.setIfInBounds_toArray, List.set_cons_zero, List.set_cons_succ]
              refine wpAnyH_ready (rs := [13]) (by kernel_rfl) (by simp) ?_
              refine AllReadyH.cons rfl (fun K hK => ?_) AllReadyH.nil
              refine step_append_at rfl (.tmp 67) (.tmp 79) 23 rfl w2.heap.size 31 i0 Try.underlying23 hi0 hz0 hz1 hz2 u12 ps (by simp [Act.eval]) hspW ⟨w3.heap.size, 0, none⟩ 1 1 [(.slice va3 vn3 vc3, pq)] (by simp [Act.eval]) hprW (by simp; omega) (by simp; omega) ?_
              intro v4 w4 hown4 hg4 hat4
              have Y6 : w4.cell? ⟨fb, 0, none⟩ = some (.slice (some ⟨rb, roff, none⟩) px.length rcap) ∧ w4.cell? ⟨fb, 1, none⟩ = some (.int .i64 pw) ∧ w4.cell? ⟨wr.heap.size, 0, none⟩ = some (.slice qa qn qc) ∧ w4.cell? ⟨wr.heap.size, 1, none⟩ = some (.int .i64 qw) := ⟨grown_cell (p := ⟨fb, 0, none⟩) hg4 hf4 hne1 Y5.1, grown_cell (p := ⟨fb, 1, none⟩) hg4 hf4 hne1 Y5.2.1, grown_cell (p := ⟨wr.heap.size, 0, none⟩) hg4 hq4 hne2 Y5.2.2.1, grown_cell (p := ⟨wr.heap.size, 1, none⟩) hg4 hq4 hne2 Y5.2.2.2⟩
              obtain ⟨Z4, B4⟩ := hfin v4 w4 hown4 hg4
              have HN4 : Hid (some fb ≠ v4.ownBlock) := by
                rcases hat4 with e | e
                · rw [Hid, e]; exact hne1
                · rw [Hid, e]; intro e2; injection e2 with e2; omega
              refine hK.out _ _ ?_ (fun hHeld => ?_)
              · (try dsimp only); exact Y6
              clear hK K
              try simp only [Act.put, List.getElem_toArray, List.getElem_cons_succ, List.getElem_cons_zero, List.setIfInBounds_toArray, List.set_cons_zero, List.set_cons_succ]
              refine wpAnyH_take (i := 14) (v := ?_) rfl (by kernel_rfl) (by kernel_rfl) (by kernel_rfl) (fun _ _ _ h => h) (Or.inl ⟨by rfl, ?_⟩) (by assumption) ?_
              rotate_left 1
              · intro w hSw; (try dsimp only at hSw); go_simp; try with_reducible rfl
              simp only [Act.put, List.getElem_toArray, List.getElem_cons_succ, List.getElem_cons_zero, List.setIfInBounds_toArray, List.set_cons_zero, List.set_cons_succ]
              refine wpAnyH_done (by kernel_rfl) ?_ _
              have HK : Hid (Below w2.heap.size w2 w4) := HBB.out.trans ((hb3.mono (by (show _ ≤ wb.heap.size); omega)).trans B4)
              have HF4 : Hid (fb < w4.heap.size ∧ w4.cell? ⟨fb, 0, none⟩ = some (.slice (some ⟨rb, roff, none⟩) px.length rcap) ∧ w4.cell? ⟨fb, 1, none⟩ = some (.int .i64 pw)) := ⟨Nat.lt_of_lt_of_le hf4 hg4.size, Y6.1, Y6.2.1⟩
              have HZ4 : Hid (OwnZ w4 w2.heap.size w4.heap.size v4 (joinZ (a.take j) b x y ++ withZ (px, pw) ((meetZ b y cc).take (l + 1)))) := by
                show OwnZ _ _ _ _ _
                rw [HTW.out, ← List.append_assoc, ← HACC.out]
                exact Z4
              clear hfin hown4 hg4 hat4 hspW hprW B4 Z4 Y0 Y3 Y5 Y6 hb3 hk3 O3 ZB i1 i2 hal
              go_wp2
              go_roundw
              case rel => exact ⟨l + 1, by omega, by go_num, HZ4.out, HK.out, HN4.out, HF4.out⟩
              case measure => simp [intOf]; omega
            · obtain rfl : l = L := by omega
              have hZ := HZQ.out
              have hml : (meetZ b y cc).length = l := by rw [← HITS.out, its_length, ← HL.out]
              have htk : (meetZ b y cc).take l = meetZ b y cc := List.take_of_length_le (by omega)
              rw [htk] at hZ
              have HK2 : Hid (Below w2.heap.size w2 wr) := HWQ.out
              have HZ2 : Hid (OwnZ wr w2.heap.size wr.heap.size u12 (joinZ (a.take (j + 1)) b x y)) := by
                show OwnZ _ _ _ _ _
                rw [HT.out]
                exact hZ
              clear hZ
              go_wp2
              go_roundw
              case rel => exact ⟨j + 1, by omega, by go_num, HZ2.out, HK2.out⟩
              case measure => simp [intOf]; omega
        · obtain rfl : j = n := by omega
          have hZ := HZ.out
          rw [HN.out, List.take_length] at hZ
          clear hacell hx hca
          go_wp2
          go_ret
          exact ⟨_, rfl, hZ.wide (by omega) (Nat.le_refl _) (Nat.le_refl _), HW.out.trans (HW2.out.mono (by omega))⟩

end Go.Proofs.Ytjaehoehfmklcaa
