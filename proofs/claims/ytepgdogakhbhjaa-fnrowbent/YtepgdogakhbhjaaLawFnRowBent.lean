/-
  The walk of laws.FnRowBent, out of the contracts: it answers true whatever the bytes are, and nothing that was there is written.
-/
import Derived.Test.YtepgdogakhbhjaaDraw2
import Derived.Test.YtepgdogakhbhjaaOrderFacts
import Derived.Test.YtepgdogakhbhjaaRowOk
namespace Go.Proofs.Ytepgdogakhbhjaa
open Go.RowKit

theorem ok_wideRange {xs : List Int} (h : rowOkB xs = true) : 1 ≤ xs.length ∧ xs.length ≤ 6 := by
  simp [rowOkB] at h
  exact h.1
theorem bent_set {xs : List Int} (h : 0 < xs.length) (z : Int) (hz : cellB z = false) : rowOkB (xs.set 0 z) = false :=
  all_miss (k := 0) (by simpa using h) (by simpa [List.getD, h] using hz)
theorem front_ok {xs : List Int} (h : rowOkB xs = true) (m : Nat) (hm : m ≤ xs.length) : rowOkB (xs.take m) = decide (0 < m) := by
  by_cases h0 : 0 < m
  · have hw := ok_wideRange h
    simp only [rowOkB, Bool.and_eq_true] at h ⊢
    have ha : (xs.take m).all cellB = true := by
      rw [List.all_eq_true] at h ⊢
      intro x hx
      exact h.2 x (List.mem_of_mem_take hx)
    have hl : (xs.take m).length = m := by simp; omega
    rw [ha, hl]
    simp [h0]; omega
  · obtain rfl : m = 0 := by omega
    simp [rowOkB]
theorem front_less {xs : List Int} (m : Nat) (hm : m < xs.length) : rowLessB (xs.take m) xs = true := by
  have h : xs.drop m ≠ [] := fun e => by rw [List.drop_eq_nil_iff] at e; omega
  have := less_append (xs := xs.take m) h
  rwa [List.take_append_drop] at this

theorem own_empty (W : World) (s : Nat) (hs : W.heap.size = s) : (W.alloc (.cells #[] 3)).ownsRow s 3 1 (.slice (some ⟨s, 0, none⟩) 0 0) 0 [] := by
  subst hs
  exact World.ownsRow_lit W #[] 0 (Nat.le_refl _) (by unfold maxLen; omega) rfl

/-- A copy in new memory, its first cell about to be written. -/
theorem copy_facts {w5 : World} {base : Nat} {va : Value} {xs : List Int} (hx1 : 1 ≤ xs.length) (hx6 : xs.length ≤ 6) (hown : w5.ownsRow base 3 1 va (0 + xs.length) ([] ++ xs.map (Value.int .i64))) :
    ∃ g c, va = .slice (some ⟨g, 0, none⟩) xs.length c ∧ base ≤ g ∧ g < w5.heap.size ∧ w5.cell? ⟨g, 0, none⟩ = some (.int .i64 (xs.getD 0 0)) ∧ w5.frozen? ⟨g, 0, none⟩ = false ∧
      ∀ z, Own (w5.setCell ⟨g, 0, none⟩ (.int .i64 z)) base w5.heap.size (.slice (some ⟨g, 0, none⟩) xs.length c) (xs.set 0 z) := by
  have hown' : w5.ownsRow base 3 1 va xs.length (xs.map (Value.int .i64)) := by simpa using hown
  have ho := own_new hown' (by omega)
  obtain ⟨g, c, hv, h1, h2, _, _⟩ := ho.shape hx1
  subst hv
  refine ⟨g, c, rfl, h1, h2, ?_, hown'.frozenAt 0, fun z => ?_⟩
  · rw [hown'.cellAt 0 (by omega)]
    have : 0 < xs.length := hx1
    simp [List.getD, this]
  · have hst := (hown'.stored 0 (.int .i64 z)).1
    have hset : (xs.map (Value.int .i64)).set 0 (.int .i64 z) = (xs.set 0 z).map (Value.int .i64) := by rw [List.map_set]
    rw [hset] at hst
    refine ⟨by simpa using hst, fun k hk => ?_, by simp; omega, by simp [World.setCell]⟩
    simp [Value.ownBlock] at hk
    omega

def lenIn : Value → Nat
  | .slice _ n _ => n
  | _ => 0

/-- Behind append([]int, r...) : what lay below is kept, and so is what was owned. -/
theorem copy_step {w4 W w6 : World} (s : Nat) (hs : W.heap.size = s) (B : Below w4.heap.size w4 W) (hgrow : (W.alloc (.cells #[] 3)).grownBy w6 (Value.slice (some ⟨s, 0, none⟩) 0 0).ownBlock) :
    Below w4.heap.size w4 w6 ∧ s < w6.heap.size ∧ ∀ {lo hi : Nat} {v : Value} {ys : List Int}, Own W lo hi v ys → Own w6 lo hi v ys := by
  subst hs
  have hb := B.size
  refine ⟨(B.alloc hb _).grown hgrow (by simp; omega) (fun k hk => by simp [Value.ownBlock] at hk; omega), by have := hgrow.size; simp at this; omega, fun h => ?_⟩
  have h1 := h.2.2.2
  exact (h.keep' ((Below.refl _ _).alloc (Nat.le_refl _) _)).kept hgrow (fun k hk => by simp [Value.ownBlock] at hk; omega)
theorem set_step {w4 w6 : World} {s g : Nat} (u : Value) (B : Below w4.heap.size w4 w6) (hs : w4.heap.size ≤ s) (hg : s ≤ g) :
    Below w4.heap.size w4 (w6.setCell ⟨g, 0, none⟩ u) ∧ (w6.setCell ⟨g, 0, none⟩ u).heap.size = w6.heap.size ∧ ∀ {lo hi : Nat} {v : Value} {ys : List Int}, hi ≤ s → Own w6 lo hi v ys → Own (w6.setCell ⟨g, 0, none⟩ u) lo hi v ys :=
  ⟨B.setCell (Nat.le_trans hs hg) _, by simp [World.setCell], fun hh h => h.keep ((Below.refl _ w6).setCell (p := ⟨g, 0, none⟩) (Nat.le_trans hh hg) u)⟩

set_option maxHeartbeats 8000000 in
theorem lawFnRowBent (a : Option Addr) (len cap : Nat) (zs0 : List Int) (w : World) (h : IsRow .u8 w a len cap zs0) :
    Calls Try.prog 4 #[.slice a len cap] w fun e w' => e = .returned (.bool true) ∧ Below w.heap.size w w' := by
  obtain ⟨i0, hi, hz0, hz1, hz2⟩ := info_parts infoInt
  by_cases hbig : (1048576 : Int) < (len : Int)
  · go_enter Try.func4, Try.ntmps4
    go_wp2
    go_ret
    exact ⟨rfl, Below.refl _ _⟩
  go_enter Try.func4, Try.ntmps4
  go_wp2_with fail
  refine (drawOk_any _ _ _ zs0 _ h).mono ?_
  rintro e w1 ⟨vr, rfl, xs, hxl, hr, hk⟩
  clear h
  cases hok : rowOkB xs with
  | false =>
    go_wp2_with fail
    refine (implRowOk_any _ xs _ hr.ints).mono ?_
    rintro e w2 ⟨rfl, rfl⟩
    rw [hok]
    go_wp2_with fail
    refine (specRowOk_any _ xs _ hr.ints).mono ?_
    rintro e w3 ⟨rfl, rfl⟩
    rw [hok]
    go_wp2_with fail
    refine (specRowOk_any _ xs _ hr.ints).mono ?_
    rintro e w4 ⟨rfl, rfl⟩
    rw [hok]
    go_wp2_with fail
    refine (implRowOk_any _ xs _ hr.ints).mono ?_
    rintro e w5 ⟨rfl, rfl⟩
    rw [hok]
    go_wp2_with fail
    refine (specRowOk_any _ xs _ hr.ints).mono ?_
    rintro e w6 ⟨rfl, rfl⟩
    rw [hok]
    clear hr
    go_wp2
    go_ret
    exact ⟨rfl, hk⟩
  | true =>
    have hxw := ok_wideRange hok
    obtain ⟨hx1, hx6⟩ := hxw
    obtain ⟨gr, cr, hvr, hgr1, hgr2, hcr, hcm⟩ := hr.shape hx1
    unfold maxLen at hcm
    subst hvr
    obtain ⟨n, HN⟩ : ∃ n, Hid (n = xs.length) := ⟨_, rfl⟩
    have hn1 : 1 ≤ n := by rw [HN.out]; exact hx1
    have hn6 : n ≤ 6 := by rw [HN.out]; exact hx6
    rw [← HN.out] at hcr hr ⊢
    go_wp2_with fail
    refine (implRowOk_any _ xs _ hr.ints).mono ?_
    rintro e w2 ⟨rfl, rfl⟩
    rw [hok]
    go_wp2_with fail
    refine (specRowOk_any _ xs _ hr.ints).mono ?_
    rintro e w3 ⟨rfl, rfl⟩
    rw [hok]
    go_wp2_with fail
    refine (specRowOk_any _ xs _ hr.ints).mono ?_
    rintro e w4 ⟨rfl, rfl⟩
    rw [hok]
    have B4 := Below.refl w4.heap.size w4
    go_wp2_with (first
      | (at_builtin; refine wpList_append_ints rfl (.tmp 28) (.tmp 29) 23 rfl w4.heap.size 3 i0 Try.underlying23 hi hz0 hz1 hz2 (.slice (some ⟨w4.heap.size, 0, none⟩) 0 0) 0 [] rfl (own_empty _ _ rfl) (.slice (some ⟨gr, 0, none⟩) n cr) xs rfl (hr.ints.below ((Below.refl _ _).alloc (Nat.le_refl _) _)) (by rw [← HN.out]; omega) (by simp) ?_; intro va w5 hown5 hgrow5 hnn5; obtain ⟨b5, s5, k5⟩ := copy_step _ rfl B4 hgrow5; obtain ⟨ga, ca, hva, hga, hga2, hca, hfa, OA⟩ := copy_facts hx1 hx6 hown5; subst hva; obtain ⟨B5, z5, -⟩ := set_step (.int .i64 1000000001) b5 (Nat.le_refl _) hga; have A5 := OA 1000000001; clear hown5 hgrow5 hnn5 OA b5 k5)
      | (at_builtin; refine wpList_append_ints rfl (.tmp 33) (.tmp 34) 23 rfl w5.heap.size 3 i0 Try.underlying23 hi hz0 hz1 hz2 (.slice (some ⟨w5.heap.size, 0, none⟩) 0 0) 0 [] rfl (own_empty _ _ z5) (.slice (some ⟨gr, 0, none⟩) n cr) xs rfl (hr.ints.below (B5.alloc B5.size _)) (by rw [← HN.out]; omega) (by rw [World.size_alloc, z5]; omega) ?_; intro vb w6 hown6 hgrow6 hnn6; obtain ⟨b6, s6, k6⟩ := copy_step _ z5 B5 hgrow6; obtain ⟨gb, cb, hvb, hgb, hgb2, hcb, hfb, OB⟩ := copy_facts hx1 hx6 hown6; subst hvb; obtain ⟨B6, z6, q6⟩ := set_step (.int .i64 (-1000000001)) b6 (Nat.le_of_lt s5) hgb; have A6 := q6 (Nat.le_refl _) (k6 A5); have C6 := OB (-1000000001); clear hown6 hgrow6 hnn6 OB b6 k6 q6 A5)
      | (at_builtin; refine wpList_append_ints rfl (.tmp 38) (.tmp 39) 23 rfl w6.heap.size 3 i0 Try.underlying23 hi hz0 hz1 hz2 (.slice (some ⟨w6.heap.size, 0, none⟩) 0 0) 0 [] rfl (own_empty _ _ z6) (.slice (some ⟨gr, 0, none⟩) n cr) xs rfl (hr.ints.below (B6.alloc B6.size _)) (by rw [← HN.out]; omega) (by rw [World.size_alloc, z6]; omega) ?_; intro vc w7 hown7 hgrow7 hnn7; obtain ⟨B7, s7, k7⟩ := copy_step _ z6 B6 hgrow7; have A7 := k7 A6; have C7 := k7 C6; have D7 := own_new (xs := xs) (by simpa using hown7) (by omega); obtain ⟨gc, cc, hvc, hgc, hgc2, -, -⟩ := D7.shape hx1; subst hvc; clear hown7 hgrow7 hnn7 k7 A6 C6 B5 B6 z5 z6)
      | fail)
    clear hca hfa hcb hfb B4
    go_loopw [6] (fun c wr => ∃ (gq cq m : Nat) (cs : List Int), c = .slice (some ⟨gq, 0, none⟩) m cq ∧ Hid (cs.length = m) ∧ m ≤ 7 ∧ Own wr w6.heap.size wr.heap.size (.slice (some ⟨gq, 0, none⟩) m cq) cs ∧ Below w6.heap.size w7 wr)
      (fun c _ => 7 - lenIn c)
    case atStart => exact ⟨gc, cc, xs.length, xs, rfl, rfl, by omega, D7, Below.refl _ _⟩
    case round =>
      obtain ⟨gq, cq, m, cs, rfl, HM, hm7, hoc, hbc⟩ := hrel
      clear D7
      by_cases hm6 : m ≤ 6
      · have hs1 : IntsAt (wr.alloc (.cells #[.int .i64 0] 3)) (.slice (some ⟨wr.heap.size, 0, none⟩) 1 1) [0] := (own_lit wr [0] (by simp)).ints
        have ho1 := hoc.1.alloc (.cells #[.int .i64 0] 3)
        have hsz := hbc.size
        have hrow : Hid (∀ v' w', w'.ownsRow w6.heap.size 3 1 v' (cs.length + [(0 : Int)].length) (cs.map (Value.int .i64) ++ [(0 : Int)].map (Value.int .i64)) → (wr.alloc (.cells #[.int .i64 0] 3)).grownBy w' (Value.slice (some ⟨gq, 0, none⟩) m cq).ownBlock → ∃ g c, v' = .slice (some ⟨g, 0, none⟩) (m + 1) c ∧ Own w' w6.heap.size w'.heap.size (.slice (some ⟨g, 0, none⟩) (m + 1) c) (cs ++ [0]) ∧ Below w6.heap.size w7 w') := by
          intro v' w' h1 h2
          have h3 := own_new (xs := cs ++ [0]) (by simpa using h1) (by simp; have := HM.out; omega)
          obtain ⟨g, c, hv, -, -, -, -⟩ := h3.shape (by simp)
          have hl : (cs ++ [(0 : Int)]).length = m + 1 := by simp [HM.out]
          rw [hl] at hv
          subst hv
          exact ⟨g, c, rfl, h3, (hbc.alloc (by omega) _).grown h2 (by simp; omega) (fun k hk => (hoc.1.lt k hk).1)⟩
        clear hbc
        go_wp2_with (at_builtin; refine wpList_append_ints rfl (.tmp 44) (.tmp 45) 23 rfl w6.heap.size 3 i0 Try.underlying23 hi hz0 hz1 hz2 (.slice (some ⟨gq, 0, none⟩) m cq) cs.length _ rfl ho1 (.slice (some ⟨wr.heap.size, 0, none⟩) 1 1) [0] rfl hs1 (by have := HM.out; simp; omega) (by simp; omega) ?_; intro v' w8 hown8 hgrow8 hnn8; obtain ⟨g8, c8, hv8, ho8, hb8⟩ := hrow.out v' w8 hown8 hgrow8; subst hv8; clear hown8 hgrow8 hnn8 hrow hs1 ho1 hoc)
        go_roundw
        case rel => exact ⟨g8, c8, m + 1, cs ++ [0], rfl, by simp [Hid, HM.out], by omega, ho8, hb8⟩
        case measure => simp [lenIn]; omega
      · have hk8 : Below w4.heap.size w4 wr := B7.trans (hbc.mono (by omega))
        have ha8 := (A7.keep (hbc.mono (by omega))).ints
        have hc8 := (C7.keep (hbc.mono (Nat.le_refl _))).ints
        have hr8 := hr.ints.below hk8
        have hrf := hr
        rw [HN.out] at hrf
        have hd8 := (hrf.front (m := n - 1) (by rw [← HN.out]; omega)).below hk8
        have ho8 := hoc.ints
        have f1 : rowOkB (xs.set 0 1000000001) = false := bent_set hx1 _ rfl
        have f2 : rowOkB (xs.set 0 (-1000000001)) = false := bent_set hx1 _ rfl
        have f3 : rowOkB cs = false := ok_wide (by rw [HM.out]; exact hm6)
        obtain ⟨ts, HT⟩ : ∃ ts, Hid (ts = xs.take (n - 1)) := ⟨_, rfl⟩
        have f4 : rowLessB ts xs = true := by rw [HT.out]; exact front_less _ (by rw [← HN.out]; omega)
        have f5 : rowOkB ts = decide (0 < n - 1) := by rw [HT.out]; exact front_ok hok _ (by rw [← HN.out]; omega)
        rw [← HT.out] at hd8
        have hkk : Below w.heap.size w wr := hk.trans (hk8.mono hk.size)
        clear hrf A7 C7 hoc hbc B7 hr hk hk8
        go_wp2_with fail
        refine (implRowOk_any _ _ _ ha8).mono ?_
        rintro e w9 ⟨rfl, rfl⟩
        rw [f1]
        go_wp2_with fail
        refine (implRowOk_any _ _ _ hc8).mono ?_
        rintro e w10 ⟨rfl, rfl⟩
        rw [f2]
        go_wp2_with fail
        refine (implRowOk_any _ _ _ ho8).mono ?_
        rintro e w11 ⟨rfl, rfl⟩
        rw [f3]
        go_wp2_with fail
        refine (implRowLess_any _ _ ts xs _ hd8 hr8).mono ?_
        rintro e w12 ⟨rfl, hb12⟩
        rw [f4]
        have hd12 := hd8.below hb12
        have hk12 : Below w.heap.size w w12 := hkk.trans (hb12.mono hkk.size)
        clear ha8 hc8 ho8 hr8 hd8 hb12 hkk f1 f2 f3 f4
        go_wp2_with fail
        refine (implRowOk_any _ _ _ hd12).mono ?_
        rintro e w13 ⟨rfl, rfl⟩
        rw [f5]
        clear f5 hd12
        go_wp2
        go_ret
        exact ⟨ret_bool (by simp; try omega), hk12⟩

end Go.Proofs.Ytepgdogakhbhjaa
