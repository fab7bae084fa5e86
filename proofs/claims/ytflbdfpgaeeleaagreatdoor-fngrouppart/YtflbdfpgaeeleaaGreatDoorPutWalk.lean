/-
  spec.l2Put's contract: a row put so often into items of the call's own, in their own memory.
-/
import Derived.Test.YtflbdfpgaeeleaaGreatDoorPut
import Derived.Test.YtflbdfpgaeeleaaGreatDoorZSame
namespace Go.Proofs.YtflbdfpgaeeleaaGreatDoor
set_option maxRecDepth 100000
open Go.RowKit
attribute [local go_sem ↓] Go.wp_at_zero Go.wp_at_succ

theorem Only.of_below {lo hi : Nat} {w w' : World} (h : Below w.heap.size w w') : Only lo hi w w' := ⟨h.os, h.tape, h.output, h.size, fun k hk _ => h.block k hk⟩
theorem grown_drew {w w' : World} {row : Option Nat} (h : w.drew.grownBy w' row) : w.grownBy w' row := ⟨h.os, h.tape, h.output, h.size, h.block⟩
theorem Only.grown {lo hi : Nat} {w a b : World} {row : Option Nat} (h : Only lo hi w a) (k : a.grownBy b row) (hr : ∀ i, row = some i → (lo ≤ i ∧ i < hi) ∨ w.heap.size ≤ i) : Only lo hi w b :=
  ⟨k.os.trans h.os, k.tape.trans h.tape, k.output.trans h.output, Nat.le_trans h.size k.size, fun i hi' hk => (k.block i (Nat.lt_of_lt_of_le hi' h.size) (fun e => by have := hr i e.symm; omega)).trans (h.block i hi' hk)⟩
theorem less_of {xs ys : List Int} (h : ordL xs ys = -1) : rowLessB xs ys = true := by unfold rowLessB; rw [h]; decide
theorem less_not {xs ys : List Int} (h : ¬ ordL xs ys = -1) : rowLessB xs ys = false := by
  unfold rowLessB
  rcases ordL_cases xs ys with c | c | c
  · exact absurd c.1 h
  · rw [c.1]; decide
  · rw [c.1]; decide
theorem same_of {xs ys : List Int} (h : xs = ys) : rowSameB xs ys = true := by rw [same_iff]; simp [h]
theorem same_not {xs ys : List Int} (h : ¬ xs = ys) : rowSameB xs ys = false := by rw [same_iff]; simp [h]

/-- What is behind place k, as the slice expression gives it. -/
theorem PairsAt.cut {w : World} {g n cap : Nat} {ps : List (Value × Int)} (h : PairsAt w (.slice (some ⟨g, 0, none⟩) n cap) ps) {k : Nat} (hk : k ≤ ps.length) (hcap : n ≤ cap) :
    ∃ ad : Addr, (if cap = k then some (⟨g, 0, none⟩ : Addr) else some ⟨g, k * 2, none⟩) = some ad ∧ PairsAt w (.slice (some ad) (n - k) (cap - k)) (ps.drop k) := by
  have hn : n = ps.length := by obtain ⟨_, _, a, c, e, _⟩ := h; simp at e; exact e.2.1
  by_cases hc : cap = k
  · refine ⟨_, if_pos hc, ?_⟩
    have h0 : ps.drop k = [] := List.drop_eq_nil_of_le (by omega)
    have hnk : n - k = 0 := by omega
    rw [h0, hnk]
    exact ⟨by simp, fun p hp => by simp at hp, _, _, rfl, fun h => by simp at h, fun h => absurd rfl h⟩
  · refine ⟨_, if_neg hc, ?_⟩
    have := h.dropped hk (cap - k)
    rwa [Nat.zero_add] at this

theorem Spine.keep' {w w' : World} {lo hi : Nat} {v : Value} {ps : List (Value × Int)} (h : Spine w lo hi v ps) (hb : Below w.heap.size w w') : Spine w' lo hi v ps := h.keep (hb.mono h.2.2.2)
/-- The tail that was put aside lies in a new block. -/
theorem tail_lies {w : World} {lo k n : Nat} {v : Value} {l : List Rw} {W : World} {lo' hi' : Nat} (h : w.ownsRow lo 36 2 v ((prs l).drop k).length (cells2 ((prs l).drop k))) (hnn : v ≠ .slice none 0 0) (hdl : ((prs l).drop k).length = n) (hlim : n ≤ 140737488355328) (hr : ∀ x ∈ l, Own W lo' hi' x.1 x.2.1) :
    ∃ g c, v = .slice (some ⟨g, 0, none⟩) n c ∧ lo ≤ g ∧ PairsAt w v ((prs l).drop k) := by
  have S := spine_new h (by omega)
  have hp := S.pairs (fun p hp => by obtain ⟨q, hq, rfl⟩ := List.mem_map.1 (List.mem_of_mem_drop hp); exact (hr q hq).ints.shape)
  rcases h.2 with ⟨e, _⟩ | ⟨g, c, cur, e, hb, _⟩
  · exact absurd e hnn
  · exact ⟨g, c, by rw [e, hdl], hb, hp⟩
theorem own_after {w w' : World} {lo : Nat} {g k cap : Nat} {ps : List (Value × Int)} (h : w.ownsRow lo 36 2 (.slice (some ⟨g, 0, none⟩) k cap) ps.length (cells2 ps)) (hb : Below w.heap.size w w') : w'.ownsRow lo 36 2 (.slice (some ⟨g, 0, none⟩) k cap) ps.length (cells2 ps) := by
  refine ⟨h.1, ?_⟩
  rcases h.2 with h2 | ⟨g', cap', cur, hv, hg, hh, r⟩
  · exact .inl h2
  · exact .inr ⟨g', cap', cur, hv, hg, (hb.block g' (Array.getElem?_eq_some_iff.1 hh).1).trans hh, r⟩
theorem put_ready {w : World} {lo hi g n cap k : Nat} {zs : List It} (Z : OwnZ w lo hi (.slice (some ⟨g, 0, none⟩) n cap) zs) (hn : n = zs.length) (hk : k ≤ n) (hcap : n ≤ cap) :
    ∃ (l : List Rw) (ad : Addr), Hid (zs = its l) ∧ Hid (Spine w lo hi (.slice (some ⟨g, 0, none⟩) n cap) (prs l)) ∧ Hid (∀ x ∈ l, Own w lo hi x.1 x.2.1) ∧ Hid (Apart l) ∧ Hid (l.length = n) ∧
      (if cap = k then some (⟨g, 0, none⟩ : Addr) else some ⟨g, k * 2, none⟩) = some ad ∧ PairsAt w (.slice (some ad) (n - k) (cap - k)) ((prs l).drop k) := by
  obtain ⟨l, HL, S, R, A⟩ := Z.opened
  have hll : l.length = n := by rw [← its_length, ← HL, hn]
  obtain ⟨ad, hif, hpr⟩ := (S.pairs (fun p hp => by obtain ⟨q, hq, rfl⟩ := List.mem_map.1 hp; exact (R q hq).ints.shape)).cut (k := k) (by rw [prs_length]; omega) hcap
  exact ⟨l, ad, HL, S, R, A, hll, hif, hpr⟩

/-- Behind both appends. -/
theorem put_done {w8 w9 w10 w11 : World} {lo hi k : Nat} {l : List Rw} {v rv9 v10 v11 : Value} {r : List Int} {y : Int} (S8 : Spine w8 lo hi v (prs l)) (R8 : ∀ x ∈ l, Own w8 lo hi x.1 x.2.1) (A : Apart l)
    (hk : k ≤ l.length) (hv : ∀ i, v.ownBlock = some i → lo ≤ i ∧ i < hi) (hlo : lo ≤ hi) (hlim : l.length ≤ 1099511627775) (O9 : Own w9 w8.drew.heap.size w9.heap.size rv9 r) (hb9 : Below w8.drew.heap.size w8.drew w9)
    (hown10 : w10.ownsRow lo 36 2 v10 ((prs l).take k ++ [(rv9, y)]).length (cells2 ((prs l).take k ++ [(rv9, y)]))) (hg10 : (w9.alloc (.cells #[rv9, .int .i64 y] 36)).grownBy w10 v.ownBlock)
    (hat10 : v10.ownBlock = v.ownBlock ∨ v10.ownBlock = some (w9.alloc (.cells #[rv9, .int .i64 y] 36)).heap.size)
    (hown11 : w11.ownsRow lo 36 2 v11 (((prs l).take k ++ [(rv9, y)]) ++ (prs l).drop k).length (cells2 (((prs l).take k ++ [(rv9, y)]) ++ (prs l).drop k))) (hg11 : w10.grownBy w11 v10.ownBlock) :
    OwnZ w11 lo w11.heap.size v11 (its (l.take k) ++ (r, y) :: its (l.drop k)) ∧ Only lo hi w8 w11 := by
  have hbd : Below w8.heap.size w8 w8.drew := Below.drew (Below.refl _ _)
  have hbA : Below w8.heap.size w8 (w9.alloc (.cells #[rv9, .int .i64 y] 36)) := below_then (below_then hbd hb9) (below_alloc _)
  have hhi := S8.2.2.2
  have SA := S8.keep' hbA
  have RA : ∀ x ∈ l, Own (w9.alloc (.cells #[rv9, .int .i64 y] 36)) lo hi x.1 x.2.1 := fun x hx => (R8 x hx).keep' hbA
  have OA : Own (w9.alloc (.cells #[rv9, .int .i64 y] 36)) w8.heap.size w9.heap.size rv9 r := O9.keep' (below_alloc _)
  have S10 : Spine w10 lo w10.heap.size v10 _ := spine_new hown10 (by rw [List.length_append, List.length_take, prs_length]; simp; omega)
  have R10 : ∀ x ∈ l, Own w10 lo hi x.1 x.2.1 := fun x hx => (RA x hx).keptB hg10 (row_ne_spine SA (RA x hx))
  have O10 := OA.keptB hg10 (row_ne_spine SA OA)
  have R11 : ∀ x ∈ l, Own w11 lo hi x.1 x.2.1 := fun x hx => (R10 x hx).keptB hg11 (row_ne_spine S10 (R10 x hx))
  have O11 := O10.keptB hg11 (row_ne_spine S10 O10)
  have z1 := hbA.size
  have z2 := hg10.size
  have z3 := hg11.size
  have z4 := hb9.size
  have z5 : w8.drew.heap.size = w8.heap.size := rfl
  have e1 : its (l.take k) ++ (r, y) :: its (l.drop k) = its (l.take k ++ (rv9, (r, y)) :: l.drop k) := by simp [its]
  have e2 : ((prs l).take k ++ [(rv9, y)]) ++ (prs l).drop k = prs (l.take k ++ (rv9, (r, y)) :: l.drop k) := by simp [prs]
  refine ⟨?_, ((Only.of_below hbA).grown hg10 (fun i e => .inl (hv i e))).grown hg11 (fun i e => ?_)⟩
  · rw [e1]
    refine OwnZ.closed ?_ (fun x hx => ?_) (A.insert k (fun x hx b hb hb' => ?_))
    · rw [← e2]
      refine spine_new hown11 ?_
      rw [e2, prs_length]
      simp
      omega
    · rcases List.mem_append.1 hx with h | h
      · exact (R11 x (List.mem_of_mem_take h)).wide (Nat.le_refl _) (by omega) (Nat.le_refl _)
      · rcases List.mem_cons.1 h with rfl | h
        · exact O11.wide (by omega) (by have := O11.2.2.2; omega) (Nat.le_refl _)
        · exact (R11 x (List.mem_of_mem_drop h)).wide (Nat.le_refl _) (by omega) (Nat.le_refl _)
    · have h1 := (R8 x hx).2.1 b hb
      have h2 := (O9.1.lt b hb').1
      omega
  · rcases hat10 with h | h
    · rw [h] at e; exact .inl (hv i e)
    · rw [h] at e
      simp at e
      simp at z1
      omega

set_option maxHeartbeats 16000000 in
theorem l2Put_some (g n cap lo hi : Nat) (zs : List It) (rv : Value) (r : List Int) (y : Int) (w : World) (h : OwnZ w lo hi (.slice (some ⟨g, 0, none⟩) n cap) zs) (hn : n = zs.length) (hlo : lo ≤ hi) (hg1 : lo ≤ g) (hg2 : g < hi) (hcap : n ≤ cap) (hcm : cap ≤ 9223372036854775807)
    (hr : IntsAt w rv r) (hlim : n ≤ 1099511627775) (hrl : r.length ≤ 8796093022208) (hwz : ∀ j, j < n → -4611686018427387904 ≤ (zs.getD j ([], 0)).2 ∧ (zs.getD j ([], 0)).2 ≤ 4611686018427387903) (hwy : -4611686018427387904 ≤ y ∧ y ≤ 4611686018427387903) :
    Calls Tryz.prog 33 #[.slice (some ⟨g, 0, none⟩) n cap, rv, .int .i64 y] w fun e w' => ∃ v', e = .returned v' ∧ OwnZ w' lo w'.heap.size v' (putZ zs r y) ∧ Only lo hi w w' := by
  obtain ⟨i0, hi0, hz0, hz1, hz2⟩ := info_parts infoItem
  have HN : Hid (n = zs.length) := hn
  have HZ : Hid (OwnZ w lo hi (.slice (some ⟨g, 0, none⟩) n cap) zs) := h
  have HR : Hid (IntsAt w rv r) := hr
  obtain ⟨ra, rn, rc, rfl⟩ := hr.shape
  clear hn h hr
  go_enter Tryz.func33, Tryz.ntmps33
  go_wp2
  go_loopw [7] (fun i wr => ∃ k : Nat, k ≤ n ∧ i = .int .i64 k ∧ Hid (∀ j, j < k → ordL (zs.getD j ([], 0)).1 r = -1) ∧ Hid (Below w.heap.size w wr)) (fun i _ => n - (intOf i).toNat)
  case atStart => exact ⟨0, Nat.zero_le _, rfl, fun j hj => by omega, Below.refl _ _⟩
  case round =>
    obtain ⟨k, hk, rfl, HS, HW⟩ := hrel
    have Zr := HZ.out.keep' HW.out
    have hrr := HR.out.below HW.out
    have cells : k < n → ∃ xv, wr.cell? ⟨g, k * 2, none⟩ = some xv ∧ wr.cell? ⟨g, k * 2 + 1, none⟩ = some (.int .i64 (zs.getD k ([], 0)).2) ∧ IntsAt wr xv (zs.getD k ([], 0)).1 := fun hlt => by
      obtain ⟨ps, he, hs, hro, _⟩ := Zr
      have hl := snd_len he
      have hkp : k < ps.length := by rw [hl, ← HN.out]; exact hlt
      exact ⟨_, hs.cell0 hkp, by rw [hs.cell1 hkp, snd_getD he], (hro k hkp).ints⟩
    obtain ⟨x, HX⟩ : ∃ x, Hid (x = (zs.getD k ([], 0)).1) := ⟨_, rfl⟩
    obtain ⟨yk, HY⟩ : ∃ y, Hid (y = (zs.getD k ([], 0)).2) := ⟨_, rfl⟩
    rw [← HX.out, ← HY.out] at cells
    by_cases hcont : k < n ∧ ordL x r = -1
    · obtain ⟨hlt, hless⟩ := hcont
      obtain ⟨xv, hx, hy, hix⟩ := cells hlt
      obtain ⟨xa, xn, xc, rfl⟩ := hix.shape
      have hlessB := less_of hless
      have HL : Hid (ordL x r = -1) := hless
      clear cells Zr hless hwz
      go_wp2_with fail
      refine (specRowLess_val hlessB hix hrr).mono ?_
      rintro e w6 ⟨rfl, hd6⟩
      have HK : Hid (Below w.heap.size w w6) := below_then HW.out hd6.below
      clear hix hrr hd6 hx hy
      go_wp2
      go_roundw
      case rel => exact ⟨k + 1, by omega, by go_num, fun j hj => by
        rcases Nat.lt_succ_iff_lt_or_eq.1 hj with h | h
        · exact HS.out j h
        · rw [h, ← HX.out]; exact HL.out, HK.out⟩
      case measure => simp [intOf]; omega
    · by_cases hsame : k < n ∧ x = r
      · obtain ⟨hlt, hsm⟩ := hsame
        have hnl : ¬ ordL x r = -1 := fun e => hcont ⟨hlt, e⟩
        obtain ⟨xv, hx, hy, hix⟩ := cells hlt
        obtain ⟨xa, xn, xc, rfl⟩ := hix.shape
        have hlessB := less_not hnl
        have hsameB := same_of hsm
        have HSM : Hid (x = r) := hsm
        have hyb := hwz k hlt
        rw [← HY.out] at hyb
        clear cells Zr hnl hcont hsm hwz
        go_wp2_with fail
        refine (specRowLess_val hlessB hix hrr).mono ?_
        rintro e w5 ⟨rfl, hd5⟩
        have hx5 := (hd5.below.cell (p := ⟨g, k * 2, none⟩) (lt_of_cell hx)).trans hx
        have hix5 := hix.below hd5.below
        have hrr5 := hrr.below hd5.below
        have HK5 : Hid (Below w.heap.size w w5) := below_then HW.out hd5.below
        clear hix hrr hd5 hx hy
        go_wp2_with fail
        refine (specRowSame_val hsameB hix5 hrr5).mono ?_
        rintro e w6 ⟨rfl, hd6⟩
        have HK : Hid (Below w.heap.size w w6) := below_then HK5.out hd6.below
        clear hix5 hrr5 hd6 hx5 HK5
        have Z6 := HZ.out.keep' HK.out
        have hkl : k < zs.length := by rw [← HN.out]; exact hlt
        have hy6 : w6.cell? ⟨g, k * 2 + 1, none⟩ = some (.int .i64 yk) := by
          obtain ⟨ps, he, hs, hro, _⟩ := Z6
          rw [hs.cell1 (by rw [snd_len he]; exact hkl), snd_getD he, HY.out]
        have hf6 := Z6.frozenAt (k * 2 + 1)
        obtain ⟨Z7, hg7⟩ := Z6.putW hkl (yk + y)
        have H7 : Hid (OwnZ (w6.setCell ⟨g, k * 2 + 1, none⟩ (.int .i64 (yk + y))) lo hi (.slice (some ⟨g, 0, none⟩) n cap) (zs.set k (r, yk + y))) := by
          rw [← HX.out, HSM.out] at Z7; exact Z7
        have O7 : Hid (Only lo hi w (w6.setCell ⟨g, k * 2 + 1, none⟩ (.int .i64 (yk + y)))) := (Only.of_below HK.out).trans (Only.of_grown hg7 (fun b hb => by simp at hb; omega))
        have hc7 : (w6.setCell ⟨g, k * 2 + 1, none⟩ (.int .i64 (yk + y))).cell? ⟨g, k * 2 + 1, none⟩ = some (.int .i64 (yk + y)) := by
          obtain ⟨ps, he, hs, hro, _⟩ := H7.out
          rw [hs.cell1 (by rw [snd_len he]; simpa using hkl), snd_getD he, getD_set_self hkl]
        clear Z6 Z7 hg7
        obtain ⟨w7, hw7⟩ : ∃ w7, w7 = w6.setCell ⟨g, k * 2 + 1, none⟩ (.int .i64 (yk + y)) := ⟨_, rfl⟩
        by_cases hz : yk + y = 0
        · rw [hz] at H7 O7 hc7 hw7
          have HW7 : Hid (w7 = w6.setCell ⟨g, k * 2 + 1, none⟩ (.int .i64 0)) := hw7
          clear hw7
          go_wp2
          have hw7 := HW7.out
          clear HW7
          rw [← hw7] at H7 O7 hc7 ⊢
          clear hw7 hy6 hf6
          obtain ⟨l, HL, S7, R7, A7⟩ := H7.out.opened
          have hll : l.length = n := by rw [← its_length, ← HL, List.length_set, HN.out]
          have hsp := S7.taken (k := k) (by rw [prs_length]; omega)
          obtain ⟨m, hm⟩ : ∃ m, m = k + 1 := ⟨_, rfl⟩
          have hwrap : IntKind.i64.wrap ((k : Int) + 1) = (m : Int) := by rw [IntKind.wrap_i64]; omega
          obtain ⟨ad, hif, hpr⟩ := (S7.pairs (fun p hp => by obtain ⟨q, hq, rfl⟩ := List.mem_map.1 hp; exact (R7 q hq).ints.shape)).cut (k := m) (by rw [prs_length]; omega) hcap
          have hk1 : m ≤ n := by omega
          have hk2 : k ≤ cap := by omega
          have hk3 : m ≤ cap := by omega
          have hsl : ((prs l).take k).length = k := by rw [List.length_take, prs_length]; omega
          have hdl : ((prs l).drop m).length = n - m := by rw [List.length_drop, prs_length]; omega
          have hsz : lo ≤ w7.heap.size := by have := O7.out.size; have := HZ.out.hi_le; omega
          have HM : Hid (m = k + 1) := hm
          clear hm
          have hspo : w7.drew.ownsRow lo 36 2 (.slice (some ⟨g, 0, none⟩) k cap) ((prs l).take k).length (cells2 ((prs l).take k)) := hsp.1
          have hprd : PairsAt w7.drew (.slice (some ad) (n - m) (cap - m)) ((prs l).drop m) := hpr
          go_region_law (first
            | ((refine step_append_at rfl (.tmp 56) (.tmp 60) 23 rfl lo 36 i0 Tryz.underlying23 hi0 hz0 hz1 hz2 (.slice (some ⟨g, 0, none⟩) k cap) ((prs l).take k) (by simp [Act.eval, Act.put]) hspo ad (n - m) (cap - m) ((prs l).drop m) (by simp [Act.eval, Act.put]) hprd (by rw [hsl, hdl]; omega) hsz ?_; intro v3 w3 hown3 hg3 hat3)))
          all_goals
            go_wp2
            go_ret
            have S3 : Spine w3 lo w3.heap.size v3 (prs (l.take k ++ l.drop (k + 1))) := by
              rw [prs_append, prs_take, prs_drop, ← HM.out]
              exact spine_new hown3 (by rw [List.length_append, hsl, hdl]; omega)
            have hg3' : w7.grownBy w3 (some g) := grown_drew hg3
            refine ⟨_, rfl, ?_, O7.out.trans (Only.of_grown hg3' (fun b hb => by simp at hb; omega))⟩
            rw [putZ_same y HS.out hkl (by rw [← HX.out]; exact HSM.out), ← HY.out, if_pos hz]
            have e1 : zs.take k ++ zs.drop (k + 1) = its (l.take k ++ l.drop (k + 1)) := by
              rw [its_append, its_take, its_drop, ← HL, List.take_set_of_le (Nat.le_refl _), List.drop_set_of_lt (by omega)]
            rw [e1]
            refine OwnZ.closed S3 (fun x hx => ?_) (A7.remove k)
            have hxl : x ∈ l := by
              rcases List.mem_append.1 hx with h | h
              · exact List.mem_of_mem_take h
              · exact List.mem_of_mem_drop h
            exact ((R7 x hxl).keptB hg3' (row_ne_spine S7 (R7 x hxl))).wide (Nat.le_refl _) (by have := S7.2.2.2; have := hg3'.size; omega) (Nat.le_refl _)
        · go_wp2
          go_ret
          refine ⟨_, rfl, ?_, O7.out⟩
          rw [putZ_same y HS.out hkl (by rw [← HX.out]; exact HSM.out), ← HY.out, if_neg hz]
          exact H7.out.wide (Nat.le_refl _) (by have := O7.out.size; have := HZ.out.hi_le; omega) (Nat.le_refl _)
      · have hfin : k < n → ordL x r ≠ -1 ∧ x ≠ r := fun hlt => ⟨fun e => hcont ⟨hlt, e⟩, fun e => hsame ⟨hlt, e⟩⟩
        have HF : Hid (k < zs.length → ordL (zs.getD k ([], 0)).1 r ≠ -1 ∧ (zs.getD k ([], 0)).1 ≠ r) := by rw [← HN.out, ← HX.out]; exact hfin
        have hkl : k ≤ zs.length := by rw [← HN.out]; exact hk
        clear hcont hsame hwz
        by_cases hy0 : y = 0
        · subst hy0
          have hput : putZ zs r 0 = zs := putZ_zero HS.out hkl HF.out
          have HP : Hid (putZ zs r 0 = zs) := hput
          clear hput
          by_cases hlt : k < n
          · obtain ⟨xv, hx, hy, hix⟩ := cells hlt
            obtain ⟨xa, xn, xc, rfl⟩ := hix.shape
            have hlessB := less_not (hfin hlt).1
            have hsameB := same_not (hfin hlt).2
            clear cells Zr hfin
            go_wp2_with fail
            refine (specRowLess_val hlessB hix hrr).mono ?_
            rintro e w5 ⟨rfl, hd5⟩
            have hx5 := (hd5.below.cell (p := ⟨g, k * 2, none⟩) (lt_of_cell hx)).trans hx
            have hix5 := hix.below hd5.below
            have hrr5 := hrr.below hd5.below
            have HK5 : Hid (Below w.heap.size w w5) := below_then HW.out hd5.below
            clear hix hrr hd5 hx hy
            go_wp2_with fail
            refine (specRowSame_val hsameB hix5 hrr5).mono ?_
            rintro e w6 ⟨rfl, hd6⟩
            have HK : Hid (Below w.heap.size w w6) := below_then HK5.out hd6.below
            clear hix5 hrr5 hd6 hx5 HK5
            go_wp2
            go_ret
            refine ⟨_, rfl, ?_, Only.of_below HK.out⟩
            rw [HP.out]
            exact (HZ.out.keep' HK.out).wide (Nat.le_refl _) (by have := HK.out.size; have := HZ.out.hi_le; omega) (Nat.le_refl _)
          · clear cells Zr hfin hrr
            go_wp2
            go_ret
            refine ⟨_, rfl, ?_, Only.of_below HW.out⟩
            rw [HP.out]
            exact (HZ.out.keep' HW.out).wide (Nat.le_refl _) (by have := HW.out.size; have := HZ.out.hi_le; omega) (Nat.le_refl _)
        · have hput : putZ zs r y = zs.take k ++ (r, y) :: zs.drop k := putZ_new hy0 HS.out hkl HF.out
          have HP : Hid (putZ zs r y = zs.take k ++ (r, y) :: zs.drop k) := hput
          clear hput
          have hkc : k ≤ cap := by omega
          by_cases hlt : k < n
          · obtain ⟨xv, hx, hy, hix⟩ := cells hlt
            obtain ⟨xa, xn, xc, rfl⟩ := hix.shape
            have hlessB := less_not (hfin hlt).1
            have hsameB := same_not (hfin hlt).2
            clear cells Zr hfin
            go_wp2_with fail
            refine (specRowLess_val hlessB hix hrr).mono ?_
            rintro e w5 ⟨rfl, hd5⟩
            have hx5 := (hd5.below.cell (p := ⟨g, k * 2, none⟩) (lt_of_cell hx)).trans hx
            have hix5 := hix.below hd5.below
            have hrr5 := hrr.below hd5.below
            have HK5 : Hid (Below w.heap.size w w5) := below_then HW.out hd5.below
            clear hix hrr hd5 hx hy
            go_wp2_with fail
            refine (specRowSame_val hsameB hix5 hrr5).mono ?_
            rintro e w6 ⟨rfl, hd6⟩
            have HK : Hid (Below w.heap.size w w6) := below_then HK5.out hd6.below
            clear hix5 hrr5 hd6 hx5 HK5
            obtain ⟨l, ad, HL, HS6, HR6, HA6, hll, hif, hpr⟩ := put_ready (HZ.out.keep' HK.out) HN.out hk hcap
            obtain rfl : ad = ⟨g, k * 2, none⟩ := by rw [if_neg (by omega)] at hif; simpa using hif.symm
            clear hif
            have ho1 : (w6.alloc (.cells #[] 36)).ownsRow w6.heap.size 36 2 (.slice (some ⟨w6.heap.size, 0, none⟩) 0 0) 0 [] := World.ownsRow_lit w6 #[] 0 (Nat.le_refl _) (by unfold maxLen; omega) rfl
            have hpr1 : PairsAt (w6.alloc (.cells #[] 36)) (.slice (some ⟨g, k * 2, none⟩) (n - k) (cap - k)) ((prs l).drop k) := hpr.below (below_alloc _)
            have hdl : ((prs l).drop k).length = n - k := by rw [List.length_drop, prs_length, hll.out]
            have hsl : ((prs l).take k).length = k := by rw [List.length_take, prs_length, hll.out]; omega
            clear hpr
            go_wp2_with (at_builtin; refine wpList_append_pairs rfl _ _ 23 rfl w6.heap.size 36 i0 Tryz.underlying23 hi0 hz0 hz1 hz2 (.slice (some ⟨w6.heap.size, 0, none⟩) 0 0) [] rfl ho1 _ ((prs l).drop k) rfl hpr1 (by rw [hdl]; simp; omega) (by simp) ?_; intro vt w8 hown8 hg8 hnn8)
            clear hpr1
            obtain ⟨gt, ct, rfl, hgt, hpt8⟩ := tail_lies (by simpa using hown8) (hnn8 (by simp)) hdl (by omega) HR6.out
            have hb8 : Below w6.heap.size w6 w8 := (below_alloc _).grown hg8 (by simp) (by simp [Value.ownBlock])
            have HK8 : Hid (Below w.heap.size w w8) := below_then HK.out hb8
            have S8 := HS6.out.keep' hb8
            have hrr8 : IntsAt w8.drew (.slice ra rn rc) r := HR.out.below HK8.out.drew
            have hspd : w8.drew.ownsRow lo 36 2 (.slice (some ⟨g, 0, none⟩) k cap) ((prs l).take k).length (cells2 ((prs l).take k)) := (S8.taken (k := k) (by rw [prs_length, hll.out]; exact hk)).1
            have hsz8 := HK8.out.size
            have hlo8 : lo ≤ w8.drew.heap.size := by have := S8.2.2.2; show lo ≤ w8.heap.size; omega
            have hgne : gt ≠ g := by have := HS6.out.2.2.2; omega
            have HS8 : Hid (Spine w8 lo hi (.slice (some ⟨g, 0, none⟩) n cap) (prs l)) := S8
            have HR8 : Hid (∀ x ∈ l, Own w8 lo hi x.1 x.2.1) := fun x hx => (HR6.out x hx).keep' hb8
            have hpt8d : PairsAt w8.drew (.slice (some ⟨gt, 0, none⟩) (n - k) ct) ((prs l).drop k) := hpt8
            clear S8 hpt8 hown8 hg8 hnn8 ho1 HS6 HR6
            go_region_law (first
              | (go_simp; go_at_call 60; (refine (l1Copy_any _ r _ hrr8 hrl).mono ?_; rintro e w9 ⟨rv9, rfl, O9, hb9⟩; obtain ⟨ra9, rn9, rc9, rfl⟩ := O9.ints.shape; have hsp9 := own_after hspd (below_then hb9 (below_alloc (.cells #[.slice ra9 rn9 rc9, .int .i64 y] 36))); have hpl9 := pairs_lit w9 36 (rv := .slice ra9 rn9 rc9) y ⟨_, _, _, rfl⟩; have hlo9 : lo ≤ (w9.alloc (.cells #[.slice ra9 rn9 rc9, .int .i64 y] 36)).heap.size := (by have := hb9.size; simp; omega); have hpt9 := hpt8d.below (below_then hb9 (below_alloc (.cells #[.slice ra9 rn9 rc9, .int .i64 y] 36)))))
              | ((refine step_append_at rfl (.tmp 73) (.tmp 78) 23 rfl lo 36 i0 Tryz.underlying23 hi0 hz0 hz1 hz2 (.slice (some ⟨g, 0, none⟩) k cap) ((prs l).take k) (by simp [Act.eval]) hsp9 ⟨w9.heap.size, 0, none⟩ 1 1 [(.slice ra9 rn9 rc9, y)] (by simp [Act.eval]) hpl9 (by rw [hsl]; simp; omega) hlo9 ?_; intro v10 w10 hown10 hg10 hat10; have hpt10 := hpt9.kept hg10 (fun e => hgne (Option.some.inj e).symm); have hlo10 := Nat.le_trans hlo9 hg10.size))
              | ((refine step_append_at rfl (.tmp 79) (.tmp 80) 23 rfl lo 36 i0 Tryz.underlying23 hi0 hz0 hz1 hz2 v10 ((prs l).take k ++ [(.slice ra9 rn9 rc9, y)]) (by simp [Act.eval]) hown10 ⟨gt, 0, none⟩ (n - k) ct ((prs l).drop k) (by simp [Act.eval]) hpt10 (by rw [List.length_append, hsl, hdl]; simp; omega) hlo10 ?_; intro v11 w11 hown11 hg11 hat11)))
            all_goals
              obtain ⟨Z11, O11⟩ := put_done HS8.out HR8.out HA6.out (by rw [hll.out]; exact hk) (fun i e => by simp [Value.ownBlock] at e; omega) hlo (by rw [hll.out]; exact hlim) O9 hb9 hown10 hg10 hat10 hown11 hg11
              rw [its_take, its_drop, ← HL.out, ← HP.out] at Z11
              have HO11 : Hid (Only lo hi w w11) := (Only.of_below HK8.out).trans O11
              clear O11 hown10 hown11 hg10 hg11 hat10 hat11 hpt10 hpt9 hsp9 hpl9 hb9 O9 hspd hrr8 hpt8d hb8
              go_wp2
              go_ret
              exact ⟨_, rfl, Z11, HO11.out⟩
          · clear cells Zr hfin hrr
            have HK : Hid (Below w.heap.size w wr) := HW.out
            obtain ⟨l, ad, HL, HS6, HR6, HA6, hll, hif, hpr⟩ := put_ready (HZ.out.keep' HK.out) HN.out hk hcap
            have ho1 : (wr.alloc (.cells #[] 36)).ownsRow wr.heap.size 36 2 (.slice (some ⟨wr.heap.size, 0, none⟩) 0 0) 0 [] := World.ownsRow_lit wr #[] 0 (Nat.le_refl _) (by unfold maxLen; omega) rfl
            have hpr1 : PairsAt (wr.alloc (.cells #[] 36)) (.slice (some ad) (n - k) (cap - k)) ((prs l).drop k) := hpr.below (below_alloc _)
            have hdl : ((prs l).drop k).length = n - k := by rw [List.length_drop, prs_length, hll.out]
            have hsl : ((prs l).take k).length = k := by rw [List.length_take, prs_length, hll.out]; omega
            clear hpr
            go_wp2_with (at_builtin; refine wpList_append_pairs rfl _ _ 23 rfl wr.heap.size 36 i0 Tryz.underlying23 hi0 hz0 hz1 hz2 (.slice (some ⟨wr.heap.size, 0, none⟩) 0 0) [] rfl ho1 _ ((prs l).drop k) rfl hpr1 (by rw [hdl]; simp; omega) (by simp) ?_; intro vt w8 hown8 hg8 hnn8)
            clear hpr1 hif
            obtain ⟨gt, ct, rfl, hgt, hpt8⟩ := tail_lies (by simpa using hown8) (hnn8 (by simp)) hdl (by omega) HR6.out
            have hb8 : Below wr.heap.size wr w8 := (below_alloc _).grown hg8 (by simp) (by simp [Value.ownBlock])
            have HK8 : Hid (Below w.heap.size w w8) := below_then HK.out hb8
            have S8 := HS6.out.keep' hb8
            have hrr8 : IntsAt w8.drew (.slice ra rn rc) r := HR.out.below HK8.out.drew
            have hspd : w8.drew.ownsRow lo 36 2 (.slice (some ⟨g, 0, none⟩) k cap) ((prs l).take k).length (cells2 ((prs l).take k)) := (S8.taken (k := k) (by rw [prs_length, hll.out]; exact hk)).1
            have hsz8 := HK8.out.size
            have hlo8 : lo ≤ w8.drew.heap.size := by have := S8.2.2.2; show lo ≤ w8.heap.size; omega
            have hgne : gt ≠ g := by have := HS6.out.2.2.2; omega
            have HS8 : Hid (Spine w8 lo hi (.slice (some ⟨g, 0, none⟩) n cap) (prs l)) := S8
            have HR8 : Hid (∀ x ∈ l, Own w8 lo hi x.1 x.2.1) := fun x hx => (HR6.out x hx).keep' hb8
            have hpt8d : PairsAt w8.drew (.slice (some ⟨gt, 0, none⟩) (n - k) ct) ((prs l).drop k) := hpt8
            clear S8 hpt8 hown8 hg8 hnn8 ho1 HS6 HR6
            go_region_law (first
              | (go_simp; go_at_call 60; (refine (l1Copy_any _ r _ hrr8 hrl).mono ?_; rintro e w9 ⟨rv9, rfl, O9, hb9⟩; obtain ⟨ra9, rn9, rc9, rfl⟩ := O9.ints.shape; have hsp9 := own_after hspd (below_then hb9 (below_alloc (.cells #[.slice ra9 rn9 rc9, .int .i64 y] 36))); have hpl9 := pairs_lit w9 36 (rv := .slice ra9 rn9 rc9) y ⟨_, _, _, rfl⟩; have hlo9 : lo ≤ (w9.alloc (.cells #[.slice ra9 rn9 rc9, .int .i64 y] 36)).heap.size := (by have := hb9.size; simp; omega); have hpt9 := hpt8d.below (below_then hb9 (below_alloc (.cells #[.slice ra9 rn9 rc9, .int .i64 y] 36)))))
              | ((refine step_append_at rfl (.tmp 73) (.tmp 78) 23 rfl lo 36 i0 Tryz.underlying23 hi0 hz0 hz1 hz2 (.slice (some ⟨g, 0, none⟩) k cap) ((prs l).take k) (by simp [Act.eval]) hsp9 ⟨w9.heap.size, 0, none⟩ 1 1 [(.slice ra9 rn9 rc9, y)] (by simp [Act.eval]) hpl9 (by rw [hsl]; simp; omega) hlo9 ?_; intro v10 w10 hown10 hg10 hat10; have hpt10 := hpt9.kept hg10 (fun e => hgne (Option.some.inj e).symm); have hlo10 := Nat.le_trans hlo9 hg10.size))
              | ((refine step_append_at rfl (.tmp 79) (.tmp 80) 23 rfl lo 36 i0 Tryz.underlying23 hi0 hz0 hz1 hz2 v10 ((prs l).take k ++ [(.slice ra9 rn9 rc9, y)]) (by simp [Act.eval]) hown10 ⟨gt, 0, none⟩ (n - k) ct ((prs l).drop k) (by simp [Act.eval]) hpt10 (by rw [List.length_append, hsl, hdl]; simp; omega) hlo10 ?_; intro v11 w11 hown11 hg11 hat11)))
            all_goals
              obtain ⟨Z11, O11⟩ := put_done HS8.out HR8.out HA6.out (by rw [hll.out]; exact hk) (fun i e => by simp [Value.ownBlock] at e; omega) hlo (by rw [hll.out]; exact hlim) O9 hb9 hown10 hg10 hat10 hown11 hg11
              rw [its_take, its_drop, ← HL.out, ← HP.out] at Z11
              have HO11 : Hid (Only lo hi w w11) := (Only.of_below HK8.out).trans O11
              clear O11 hown10 hown11 hg10 hg11 hat10 hat11 hpt10 hpt9 hsp9 hpl9 hb9 O9 hspd hrr8 hpt8d hb8
              go_wp2
              go_ret
              exact ⟨_, rfl, Z11, HO11.out⟩

set_option maxHeartbeats 4000000 in
theorem l2Put_none (lo hi : Nat) (rv : Value) (r : List Int) (y : Int) (w : World) (hlo : lo ≤ hi) (hhi : hi ≤ w.heap.size) (hr : IntsAt w rv r) (hrl : r.length ≤ 8796093022208) :
    Calls Tryz.prog 33 #[.slice none 0 0, rv, .int .i64 y] w fun e w' => ∃ v', e = .returned v' ∧ OwnZ w' lo w'.heap.size v' (putZ [] r y) ∧ Only lo hi w w' := by
  obtain ⟨i0, hi0, hz0, hz1, hz2⟩ := info_parts infoItem
  obtain ⟨ra, rn, rc, rfl⟩ := hr.shape
  have HR : Hid (IntsAt w (.slice ra rn rc) r) := hr
  by_cases hy0 : y = 0
  · subst hy0
    clear hr
    go_enter Tryz.func33, Tryz.ntmps33
    go_wp2
    refine wp_loop_rounds 1 ?_
    rw [rounds_succ]
    go_wp2
    go_ret
    exact ⟨_, rfl, by simpa [putZ] using nil_ownZ w lo, Only.refl _ _ _⟩
  · have HP : Hid (putZ [] r y = [(r, y)]) := by simp [Hid, putZ, hy0]
    have ho1 : (w.alloc (.cells #[] 36)).ownsRow w.heap.size 36 2 (.slice (some ⟨w.heap.size, 0, none⟩) 0 0) 0 [] := World.ownsRow_lit w #[] 0 (Nat.le_refl _) (by unfold maxLen; omega) rfl
    have hpr1 : PairsAt (w.alloc (.cells #[] 36)) (.slice none 0 0) [] := ⟨by simp, fun p hp => by simp at hp, none, 0, rfl, fun _ => rfl, fun h => absurd rfl h⟩
    clear hr
    go_enter Tryz.func33, Tryz.ntmps33
    go_wp2
    refine wp_loop_rounds 1 ?_
    rw [rounds_succ]
    go_wp2_with (at_builtin; refine wpList_append_pairs rfl _ _ 23 rfl w.heap.size 36 i0 Tryz.underlying23 hi0 hz0 hz1 hz2 (.slice (some ⟨w.heap.size, 0, none⟩) 0 0) [] rfl ho1 _ [] rfl hpr1 (by simp) (by simp) ?_; intro vt w8 hown8 hg8 hnn8)
    obtain ⟨gt, ct, rfl, hgt, hpt8⟩ := tail_lies (l := []) (k := 0) (W := w) (lo' := 0) (hi' := 0) (by simpa [prs] using hown8) (hnn8 (by simp)) (by simp [prs]; rfl) (by omega) (fun x hx => by simp at hx)
    have hb8 : Below w.heap.size w w8 := (below_alloc _).grown hg8 (by simp) (by simp [Value.ownBlock])
    have hrr8 : IntsAt w8.drew (.slice ra rn rc) r := HR.out.below hb8.drew
    have hspd : w8.drew.ownsRow lo 36 2 (.slice none 0 0) ([] : List (Value × Int)).length (cells2 []) := World.ownsRow_nil _ _ _ _
    have hsz8 := hb8.size
    have hlo8 : lo ≤ w8.drew.heap.size := by show lo ≤ w8.heap.size; omega
    have HS8 : Hid (Spine w8 lo hi (.slice none 0 0) (prs [])) := ⟨World.ownsRow_nil _ _ _ _, fun k hk => by simp [Value.ownBlock] at hk, by simp [prs], by omega⟩
    have hpt8d : PairsAt w8.drew (.slice (some ⟨gt, 0, none⟩) 0 ct) [] := by have := hpt8.below (Below.drew (Below.refl _ _)); simpa [prs] using this
    have HB8 : Hid (Below w.heap.size w w8) := hb8
    clear hpt8 hown8 hg8 hnn8 ho1 hpr1 hb8
    go_region_law (first
      | (go_simp; go_at_call 60; (refine (l1Copy_any _ r _ hrr8 hrl).mono ?_; rintro e w9 ⟨rv9, rfl, O9, hb9⟩; obtain ⟨ra9, rn9, rc9, rfl⟩ := O9.ints.shape; have hsp9 : (w9.alloc (.cells #[.slice ra9 rn9 rc9, .int .i64 y] 36)).ownsRow lo 36 2 (.slice none 0 0) ([] : List (Value × Int)).length (cells2 []) := World.ownsRow_nil _ _ _ _; have hpl9 := pairs_lit w9 36 (rv := .slice ra9 rn9 rc9) y ⟨_, _, _, rfl⟩; have hlo9 : lo ≤ (w9.alloc (.cells #[.slice ra9 rn9 rc9, .int .i64 y] 36)).heap.size := (by have := hb9.size; simp; omega); have hpt9 := hpt8d.below (below_then hb9 (below_alloc (.cells #[.slice ra9 rn9 rc9, .int .i64 y] 36)))))
      | ((refine step_append_at rfl (.tmp 73) (.tmp 78) 23 rfl lo 36 i0 Tryz.underlying23 hi0 hz0 hz1 hz2 (.slice none 0 0) [] (by simp [Act.eval]) hsp9 ⟨w9.heap.size, 0, none⟩ 1 1 [(.slice ra9 rn9 rc9, y)] (by simp [Act.eval]) hpl9 (by simp) hlo9 ?_; intro v10 w10 hown10 hg10 hat10; have hpt10 := hpt9.kept hg10 (fun e => by simp [Value.ownBlock] at e); have hlo10 := Nat.le_trans hlo9 hg10.size))
      | ((refine step_append_at rfl (.tmp 79) (.tmp 80) 23 rfl lo 36 i0 Tryz.underlying23 hi0 hz0 hz1 hz2 v10 ([] ++ [(.slice ra9 rn9 rc9, y)]) (by simp [Act.eval]) hown10 ⟨gt, 0, none⟩ 0 ct [] (by simp [Act.eval]) hpt10 (by simp) hlo10 ?_; intro v11 w11 hown11 hg11 hat11)))
    all_goals
      obtain ⟨Z11, O11⟩ := put_done (k := 0) (l := []) HS8.out (fun x hx => by simp at hx) List.Pairwise.nil (by simp) (fun i e => by simp [Value.ownBlock] at e) hlo (by simp) O9 hb9 hown10 hg10 hat10 hown11 hg11
      have Z : OwnZ w11 lo w11.heap.size v11 (putZ [] r y) := by rw [HP.out]; simpa [its] using Z11
      have HO11 : Hid (Only lo hi w w11) := (Only.of_below HB8.out).trans O11
      clear O11 Z11 hown10 hown11 hg10 hg11 hat10 hat11 hpt10 hpt9 hsp9 hpl9 hb9 O9 hspd hrr8 hpt8d
      go_wp2
      go_ret
      exact ⟨_, rfl, Z, HO11.out⟩

theorem l2Put_any (v : Value) (lo hi : Nat) (zs : List It) (rv : Value) (r : List Int) (y : Int) (w : World) (h : OwnZ w lo hi v zs) (hlo : lo ≤ hi)
    (hr : IntsAt w rv r) (hlim : zs.length ≤ 1099511627775) (hrl : r.length ≤ 8796093022208) (hwz : ∀ j, j < zs.length → -4611686018427387904 ≤ (zs.getD j ([], 0)).2 ∧ (zs.getD j ([], 0)).2 ≤ 4611686018427387903) (hwy : -4611686018427387904 ≤ y ∧ y ≤ 4611686018427387903) :
    Calls Tryz.prog 33 #[v, rv, .int .i64 y] w fun e w' => ∃ v', e = .returned v' ∧ OwnZ w' lo w'.heap.size v' (putZ zs r y) ∧ Only lo hi w w' := by
  have hh := h
  obtain ⟨ps, he, hs, _⟩ := hh
  have hl := snd_len he
  rcases hs.1.2 with ⟨rfl, h0⟩ | ⟨g, cap, cur, rfl, hg1, hg, hnc, hcm, _⟩
  · have hz : zs = [] := List.length_eq_zero_iff.1 (by omega)
    subst hz
    exact l2Put_none lo hi rv r y w hlo hs.2.2.2 hr hrl
  · rw [hl] at h ⊢
    exact l2Put_some g zs.length cap lo hi zs rv r y w h rfl hlo hg1 (hs.2.1 g rfl) (by omega) (by have := hcm; simp only [maxLen] at this; omega) hr hlim hrl hwz hwy

end Go.Proofs.YtflbdfpgaeeleaaGreatDoor
