/-
  The contracts of spec.l2Copy, spec.l2Add, spec.l2Told and spec.ZAdd: items in memory of their own; one list put into a copy of another one; both together, if that is right.
-/
import Derived.Test.YtjaehoehfmklcaaPutWalk
import Derived.Test.YtjaehoehfmklcaaZNeg
namespace Go.Proofs.Ytjaehoehfmklcaa
set_option maxRecDepth 100000
open Go.RowKit

theorem take_get {zs : List It} {k : Nat} (hk : k < zs.length) : zs.take (k + 1) = zs.take k ++ [((zs.getD k ([], 0)).1, (zs.getD k ([], 0)).2)] := by
  have e : zs.getD k ([], 0) = zs[k] := by simp [List.getD, hk]
  rw [e, List.take_succ_eq_append_getElem hk]

set_option maxHeartbeats 8000000 in
theorem l2Copy_any (v : Value) (zs : List It) (w : World) (h : ItemsAt w v zs) (hlim : zs.length ≤ 1048576) (hrow : ∀ k, k < zs.length → (zs.getD k ([], 0)).1.length ≤ 8796093022208) :
    Calls Try.prog 79 #[v] w fun e w' => ∃ v', e = .returned v' ∧ OwnZ w' w.heap.size w'.heap.size v' zs ∧ Below w.heap.size w w' := by
  obtain ⟨i0, hi, hz0, hz1, hz2⟩ := info_parts infoItem
  rcases h.cases with ⟨a, cap, rfl, rfl⟩ | ⟨b, off, cap, hpos, hlim', rfl, hbw, hc⟩
  · clear h hrow
    go_enter Try.func79, Try.ntmps79
    go_wp2
    refine wp_loop_rounds 1 ?_
    rw [rounds_succ]
    go_wp2
    go_ret
    exact ⟨_, rfl, lit_ownZ w, below_alloc _⟩
  · clear h hlim'
    obtain ⟨n, hn⟩ : ∃ n, n = zs.length := ⟨_, rfl⟩
    have HN : Hid (n = zs.length) := hn
    rw [← hn] at hpos hlim hc hrow ⊢
    clear hn
    go_enter Try.func79, Try.ntmps79
    go_wp2
    go_loopw [3, 4] (fun s i wr => ∃ (k : Nat), k ≤ n ∧ i = .int .i64 k ∧ Hid (OwnZ wr w.heap.size wr.heap.size s (zs.take k)) ∧ Hid (Below w.heap.size w wr)) (fun _ i _ => n - (intOf i).toNat)
    case atStart => exact ⟨0, Nat.zero_le _, rfl, lit_ownZ w, below_alloc _⟩
    case round =>
      obtain ⟨k, hk, rfl, HZ, HW⟩ := hrel
      by_cases hlt : k < n
      · have hlt' : k < zs.length := by rw [← HN.out]; exact hlt
        have HB := HW.out
        obtain ⟨rv, hrv0, hwt0, hix0⟩ := hc k hlt
        have hrv := (HB.cell (p := ⟨b, off + k * 2, none⟩) hbw).trans hrv0
        have hwt := (HB.cell (p := ⟨b, off + k * 2 + 1, none⟩) hbw).trans hwt0
        have hix := hix0.below HB
        have hbr : b < wr.heap.size := Nat.lt_of_lt_of_le hbw HB.size
        have hxl := hrow k hlt
        have hpl : (zs.take k).length ≤ 1048576 := by rw [List.length_take]; omega
        have HTT : Hid (zs.take (k + 1) = zs.take k ++ [((zs.getD k ([], 0)).1, (zs.getD k ([], 0)).2)]) := take_get hlt'
        have Z5 := HZ.out
        have Z5d : OwnZ wr.drew w.heap.size wr.drew.heap.size u3 (zs.take k) := Z5.keep' (Below.drew (Below.refl _ _))
        have hixd : IntsAt wr.drew rv (zs.getD k ([], 0)).1 := hix.below (Below.drew (Below.refl _ _))
        have hwtd : wr.drew.cell? ⟨b, off + k * 2 + 1, none⟩ = some (.int .i64 (zs.getD k ([], 0)).2) := hwt
        have hszw : w.heap.size ≤ wr.drew.heap.size := HB.size
        have HBd : Below w.heap.size w wr.drew := HB.drew
        clear hrv0 hwt0 hix0 hc hrow hix Z5 HZ HW HB
        obtain ⟨x, HX⟩ : ∃ x, Hid (x = (zs.getD k ([], 0)).1) := ⟨_, rfl⟩
        obtain ⟨y, HY⟩ : ∃ y, Hid (y = (zs.getD k ([], 0)).2) := ⟨_, rfl⟩
        rw [← HX.out] at hixd hxl HTT
        rw [← HY.out] at hwt hwtd HTT
        obtain ⟨ra, rn, rc, rfl⟩ := hixd.shape
        go_wp2
        go_region_law (first
          | (go_simp; go_at_call 78; (refine (l1Copy_any _ x _ hixd hxl).mono ?_; rintro e w2 ⟨rv2, rfl, O2, hk2⟩; obtain ⟨ra2, rn2, rc2, rfl⟩ := O2.ints.shape; have hwt2 := cell_is (p := ⟨b, off + k * 2 + 1, none⟩) hk2 hbr hwtd; have hszk := hk2.size; obtain ⟨ps, hpsl, hspW, hprW, hfin⟩ := (Z5d.keep' hk2).ready y O2 (Nat.le_refl _) (by omega) (by omega) (by omega); have hpl2 : ps.length ≤ 1048576 := (by omega)))
          | ((refine step_append_pairs rfl (.tmp 12) (.tmp 25) 23 rfl w.heap.size 31 i0 Try.underlying23 hi hz0 hz1 hz2 u3 ps (by simp [Act.eval]) hspW ⟨w2.heap.size, 0, none⟩ 1 1 [(.slice ra2 rn2 rc2, y)] (by simp [Act.eval]) rfl (news_lit _ _ _ _) (fun p hp => by simp at hp; subst hp; exact ⟨_, _, _, rfl⟩) (by simp; omega) (by simp; omega) ?_; intro v3 w3 hown3 hg3)))
        all_goals
          obtain ⟨Z3, B3⟩ := hfin v3 w3 hown3 hg3
          have HK : Hid (Below w.heap.size w w3) := HBd.trans ((hk2.mono hszw).trans B3)
          clear hfin hown3 hg3 hspW hprW B3 hk2 HBd Z5d hixd O2
          go_wp2
          go_roundw
          case rel => exact ⟨k + 1, by omega, by go_num, by show OwnZ _ _ _ _ _; rw [HTT.out]; exact Z3, HK.out⟩
          case measure => simp [intOf]; omega
      · have e : k = n := by omega
        subst e
        clear hc hrow
        go_wp2
        go_ret
        refine ⟨_, rfl, ?_, HW.out⟩
        have := HZ.out
        rw [HN.out, List.take_length] at this
        exact this

theorem add_bound {B C : Int} (hB0 : 0 ≤ B) (hC0 : 0 ≤ C) : ∀ (b : List It) {a : List It} {k : Int}, 0 ≤ k → (∀ p ∈ a, -(B + k * C) ≤ p.2 ∧ p.2 ≤ B + k * C) → (∀ p ∈ b, -C ≤ p.2 ∧ p.2 ≤ C) → ∀ x ∈ addZ a b, -(B + (k + b.length) * C) ≤ x.2 ∧ x.2 ≤ B + (k + b.length) * C
  | [], a, k, _, ha, _, x, hx => by simpa [addZ] using ha x hx
  | p :: b, a, k, hk, ha, hb, x, hx => by
    rw [addZ_cons] at hx
    have hkC : 0 ≤ k * C := Int.mul_nonneg hk hC0
    have h1 := put_bound (r := p.1) (hb p (by simp)) (show 0 ≤ B + k * C by omega) hC0 ha
    have h2 := add_bound hB0 hC0 b (k := k + 1) (by omega) (fun q hq => by have := h1 q hq; rw [Int.add_mul, Int.one_mul]; omega) (fun q hq => hb q (by simp [hq])) x hx
    have e : (k + 1 + (b.length : Int)) = k + ((p :: b).length : Int) := by simp; omega
    rw [e] at h2
    exact h2
theorem add_len : ∀ (b a : List It), (addZ a b).length ≤ a.length + b.length
  | [], a => by simp [addZ]
  | p :: b, a => by
    rw [addZ_cons]
    have h1 := add_len b (putZ a p.1 p.2)
    have h2 := put_len p.1 p.2 a
    simp; omega
theorem add_rows {x : It} : ∀ {b a : List It}, x ∈ addZ a b → (∃ p ∈ a, x.1 = p.1) ∨ ∃ p ∈ b, x.1 = p.1
  | [], a, h => .inl ⟨x, h, rfl⟩
  | p :: b, a, h => by
    rw [addZ_cons] at h
    rcases add_rows h with ⟨q, hq, e⟩ | ⟨q, hq, e⟩
    · rcases mem_put hq with h | h
      · exact .inl ⟨q, h, e⟩
      · exact .inr ⟨p, by simp, by rw [e, h]⟩
    · exact .inr ⟨q, by simp [hq], e⟩
theorem add_take {a b : List It} {k : Nat} (hk : k < b.length) : addZ a (b.take (k + 1)) = putZ (addZ a (b.take k)) (b.getD k ([], 0)).1 (b.getD k ([], 0)).2 := by
  rw [List.take_succ_eq_append_getElem hk, addZ_snoc]
  simp [List.getD, hk]

/-- Items whose weights and sizes are small. -/
def Mild (zs : List It) : Prop := zs.length ≤ 1048576 ∧ (∀ k, k < zs.length → (zs.getD k ([], 0)).1.length ≤ 8796093022208) ∧ ∀ p ∈ zs, -2199023255552 ≤ p.2 ∧ p.2 ≤ 2199023255552
theorem getZ_mem {zs : List It} {k : Nat} (hk : k < zs.length) : zs.getD k ([], 0) ∈ zs := by simp [List.getD, hk]
theorem mild_bound {a b : List It} (ha : Mild a) (hb : Mild b) (k : Nat) : ∀ j, j < (addZ a (b.take k)).length → -4611686018427387904 ≤ ((addZ a (b.take k)).getD j ([], 0)).2 ∧ ((addZ a (b.take k)).getD j ([], 0)).2 ≤ 4611686018427387903 := by
  intro j hj
  have h1 := add_bound (B := 2199023255552) (C := 2199023255552) (by omega) (by omega) (b.take k) (a := a) (k := 0) (by omega) (fun p hp => by have := ha.2.2 p hp; omega) (fun p hp => hb.2.2 p (List.mem_of_mem_take hp)) _ (getZ_mem hj)
  have h2 : ((b.take k).length : Int) ≤ 1048576 := by
    have := hb.1
    have h3 : (b.take k).length ≤ b.length := by rw [List.length_take]; omega
    omega
  omega
theorem mild_len {a b : List It} (ha : Mild a) (hb : Mild b) (k : Nat) : (addZ a (b.take k)).length ≤ 2097152 := by
  have h1 := add_len (b.take k) a
  have h3 : (b.take k).length ≤ b.length := by rw [List.length_take]; omega
  have := ha.1
  have := hb.1
  omega

set_option maxHeartbeats 8000000 in
theorem l2Add_any (v v2 : Value) (a b : List It) (w : World) (h : ItemsAt w v a) (h2 : ItemsAt w v2 b) (ha : Mild a) (hb : Mild b) :
    Calls Try.prog 63 #[v, v2] w fun e w' => ∃ v', e = .returned v' ∧ OwnZ w' w.heap.size w'.heap.size v' (addZ a b) ∧ Below w.heap.size w w' := by
  go_enter Try.func63, Try.ntmps63
  go_wp2_with fail
  refine (l2Copy_any v a _ h ha.1 ha.2.1).mono ?_
  rintro e w1 ⟨v1, rfl, Z1, hb1⟩
  have H1 : Hid (OwnZ w1 w.heap.size w1.heap.size v1 a) := Z1
  have HB1 : Hid (Below w.heap.size w w1) := hb1
  have HMA : Hid (Mild a) := ha
  have HMB : Hid (Mild b) := hb
  rcases h2.cases with ⟨ad, cap, rfl, rfl⟩ | ⟨b0, off, cap, hpos, hlim', rfl, hbw, hc⟩
  · clear h h2 ha hb Z1 hb1
    go_wp2
    refine wp_loop_rounds 1 ?_
    rw [rounds_succ]
    go_wp2
    go_ret
    exact ⟨_, rfl, by simpa [addZ] using H1.out, HB1.out⟩
  · clear h h2 ha hb Z1 hb1 hlim'
    obtain ⟨n, hn⟩ : ∃ n, n = b.length := ⟨_, rfl⟩
    have HN : Hid (n = b.length) := hn
    have hlim : n ≤ 1048576 := by rw [hn]; exact HMB.out.1
    rw [← hn] at hpos hc ⊢
    clear hn
    go_wp2
    go_loopw [5, 6] (fun s i wr => ∃ (k : Nat), k ≤ n ∧ i = .int .i64 k ∧ Hid (OwnZ wr w.heap.size wr.heap.size s (addZ a (b.take k))) ∧ Hid (Below w.heap.size w wr)) (fun _ i _ => n - (intOf i).toNat)
    case atStart => exact ⟨0, Nat.zero_le _, rfl, H1.out, HB1.out⟩
    case round =>
      obtain ⟨k, hk, rfl, HZ, HW⟩ := hrel
      clear H1 HB1
      by_cases hlt : k < n
      · have hlt' : k < b.length := by rw [← HN.out]; exact hlt
        have HB := HW.out
        obtain ⟨rv, hrv0, hwt0, hix0⟩ := hc k hlt
        have hrv := (HB.cell (p := ⟨b0, off + k * 2, none⟩) hbw).trans hrv0
        have hwt := (HB.cell (p := ⟨b0, off + k * 2 + 1, none⟩) hbw).trans hwt0
        have hix := hix0.below HB
        have HTT : Hid (addZ a (b.take (k + 1)) = putZ (addZ a (b.take k)) (b.getD k ([], 0)).1 (b.getD k ([], 0)).2) := add_take hlt'
        have hxl := HMB.out.2.1 k hlt'
        have hyw := HMB.out.2.2 _ (getZ_mem hlt')
        have hbd := mild_bound HMA.out HMB.out k
        have hln := mild_len HMA.out HMB.out k
        have Z5d : OwnZ wr.drew w.heap.size wr.drew.heap.size u5 (addZ a (b.take k)) := HZ.out.keep' (Below.drew (Below.refl _ _))
        have hixd : IntsAt wr.drew rv (b.getD k ([], 0)).1 := hix.below (Below.drew (Below.refl _ _))
        have hwtd : wr.drew.cell? ⟨b0, off + k * 2 + 1, none⟩ = some (.int .i64 (b.getD k ([], 0)).2) := hwt
        have hrvd : wr.drew.cell? ⟨b0, off + k * 2, none⟩ = some rv := hrv
        have hszw : w.heap.size ≤ wr.drew.heap.size := HB.size
        have HBd : Hid (Below w.heap.size w wr.drew) := HB.drew
        clear hrv0 hwt0 hix0 hc hix HZ HW HB
        obtain ⟨x, HX⟩ : ∃ x, Hid (x = (b.getD k ([], 0)).1) := ⟨_, rfl⟩
        obtain ⟨y, HY⟩ : ∃ y, Hid (y = (b.getD k ([], 0)).2) := ⟨_, rfl⟩
        obtain ⟨zz, HZZ⟩ : ∃ zz, Hid (zz = addZ a (b.take k)) := ⟨_, rfl⟩
        rw [← HX.out] at hixd hxl HTT
        rw [← HY.out] at hwt hwtd HTT hyw
        rw [← HZZ.out] at Z5d hbd hln HTT
        obtain ⟨ra, rn, rc, rfl⟩ := hixd.shape
        go_wp2
        go_region_law (first
          | (go_simp; go_at_call 56; (refine (l2Put_any _ w.heap.size wr.drew.heap.size zz _ x y _ Z5d hszw hixd (by omega) hxl hbd (by omega)).mono ?_; rintro e w2 ⟨v2, rfl, Z2, O2⟩)))
        all_goals
          have HK : Hid (Below w.heap.size w w2) := O2.below HBd.out (Nat.le_refl _) hszw
          have R2 : Hid (OwnZ w2 w.heap.size w2.heap.size v2 (addZ a (b.take (k + 1)))) := by rw [HTT.out]; exact Z2
          clear O2 Z2 Z5d hixd hbd
          go_wp2
          go_roundw
          case rel => exact ⟨k + 1, by omega, by go_num, R2.out, HK.out⟩
          case measure => simp [intOf]; omega
      · have e : k = n := by omega
        subst e
        clear hc
        go_wp2
        go_ret
        refine ⟨_, rfl, ?_, HW.out⟩
        have := HZ.out
        rw [HN.out, List.take_length] at this
        exact this

/-- What both sides answer. -/
def addOk (a b : List It) : Bool := zOkB a && zOkB b && zOkB (addZ a b)
def addOut (a b : List It) : List It := if addOk a b then addZ a b else []

theorem zOk_mild {zs : List It} (h : zOkB zs = true) : Mild zs := by
  refine ⟨by have := zOk_le h; omega, fun k hk => by have := rowOk_le (zOk_row h hk).1; omega, fun p hp => ?_⟩
  obtain ⟨j, hj, rfl⟩ := mem_getD (d := ([], 0)) hp
  have := (wB_in (zOk_row h hj).2).2
  omega

set_option maxHeartbeats 1000000 in
theorem l2Told_any (v : Value) (zs : List It) (lo hi : Nat) (w : World) (h : OwnZ w lo hi v zs) (hlo : lo ≤ w.heap.size) :
    Calls Try.prog 29 #[v] w fun e w' => ∃ v', e = .returned (.tuple #[v', .bool (zOkB zs)]) ∧ OwnZ w' lo w'.heap.size v' (if zOkB zs then zs else []) ∧ Below w.heap.size w w' := by
  cases hz : zOkB zs with
  | false =>
    have hI := h.items
    go_enter Try.func29, Try.ntmps29
    go_wp2_with fail
    refine (specZOk_any v zs _ hI).mono ?_
    rw [hz]
    rintro e w1 ⟨rfl, hd1⟩
    have HK : Hid (Below w.heap.size w w1) := hd1.below
    clear h hI hd1
    go_wp2
    go_ret2
    exact ⟨_, rfl, by simpa using (lit_ownZ w1).wide (Nat.le_trans hlo HK.out.size) (Nat.le_refl _) (Nat.le_refl _), below_then HK.out (below_alloc _)⟩
  | true =>
    have hI := h.items
    go_enter Try.func29, Try.ntmps29
    go_wp2_with fail
    refine (specZOk_any v zs _ hI).mono ?_
    rw [hz]
    rintro e w1 ⟨rfl, hd1⟩
    have HK : Hid (Below w.heap.size w w1) := hd1.below
    have R : Hid (OwnZ w1 lo w1.heap.size v zs) := (h.keep' HK.out).wide (Nat.le_refl _) (by have := h.hi_le; have := HK.out.size; omega) (Nat.le_refl _)
    clear h hI hd1
    go_wp2
    go_ret2
    exact ⟨_, rfl, by simpa using R.out, HK.out⟩

end Go.Proofs.Ytjaehoehfmklcaa
