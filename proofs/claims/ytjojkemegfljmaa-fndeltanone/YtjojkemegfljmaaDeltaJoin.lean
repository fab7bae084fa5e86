/-
  The contracts of impl.DeltaJoin and spec.DeltaJoin: by how much what is joined is turned, in memory of its own; none, and false, if that can not be told.
-/
import Derived.Test.YtjojkemegfljmaaJoinOf
import Derived.Test.YtjojkemegfljmaaZFacts
namespace Go.Proofs.Ytjojkemegfljmaa
set_option maxRecDepth 100000
open Go.RowKit
attribute [local go_sem ↓] Go.wp_at_zero Go.wp_at_succ

def pairZ (a b : List It) (x y : Int) : List It := addZ [] (joinZ a b x.toNat y.toNat)
def djZ (a da b db : List It) (x y : Int) : List It := addZ (addZ (pairZ da b x y) (pairZ a db x y)) (pairZ da db x y)
def djIn (a da b db : List It) : Bool := zOkB a && zOkB da && zOkB b && zOkB db
def djCan (a da b db : List It) (x y : Int) : Bool := canB da b x y && canB a db x y && canB da db x y
def djOk (a da b db : List It) (x y : Int) : Bool := djIn a da b db && djCan a da b db x y && zOkB (djZ a da b db x y)
def djOut (a da b db : List It) (x y : Int) : List It := if djOk a da b db x y then djZ a da b db x y else []

theorem dj_not {a da b db : List It} {x y : Int} (h : (djIn a da b db && djCan a da b db x y) = false) : djOk a da b db x y = false ∧ djOut a da b db x y = [] := by
  have : djOk a da b db x y = false := by unfold djOk; rw [h]; rfl
  exact ⟨this, by unfold djOut; rw [this]; rfl⟩
/-- Items that are in order, none with nothing, and not much. -/
def Lo (k : Nat) (zs : List It) : Prop := Srt zs ∧ Nz zs ∧ zs.length ≤ 10000 * k ∧ ∀ p ∈ zs, p.1.length ≤ 12 ∧ -(1000000000000 * (k : Int)) ≤ p.2 ∧ p.2 ≤ 1000000000000 * (k : Int)
theorem lo_nil : Lo 0 [] := ⟨Srt.nil, nz_nil, by simp, fun p hp => by simp at hp⟩
theorem getZ_ownD : ∀ {zs : List It}, Srt zs → ∀ p ∈ zs, getZ zs p.1 = p.2
  | q :: zs, h, p, hp => by
    rw [getZ_cons]
    rcases List.mem_cons.1 hp with rfl | hp
    · rw [if_pos rfl]
    · rw [if_neg (ordL_ne ((Srt.cons.1 h).1 p hp))]
      exact getZ_ownD (Srt.cons.1 h).2 p hp
theorem getZ_bound {M : Int} (hM : 0 ≤ M) (q : List Int) : ∀ {zs : List It}, (∀ p ∈ zs, -M ≤ p.2 ∧ p.2 ≤ M) → -M ≤ getZ zs q ∧ getZ zs q ≤ M
  | [], _ => by rw [getZ_nil]; omega
  | p :: zs, h => by
    rw [getZ_cons]
    by_cases hq : p.1 = q
    · rw [if_pos hq]; exact h p (by simp)
    · rw [if_neg hq]; exact getZ_bound hM q fun r hr => h r (by simp [hr])
theorem lo_add {j k : Nat} {a b : List It} (ha : Lo j a) (hb : Lo k b) : Lo (j + k) (addZ a b) := by
  have hs : Srt (addZ a b) := srt_add ha.1
  refine ⟨hs, nz_add ha.2.1, ?_, fun p hp => ⟨?_, ?_⟩⟩
  · have := add_len b a
    have h1 := ha.2.2.1
    have h2 := hb.2.2.1
    omega
  · rcases add_rows hp with ⟨q, hq, e⟩ | ⟨q, hq, e⟩
    · rw [e]; exact (ha.2.2.2 q hq).1
    · rw [e]; exact (hb.2.2.2 q hq).1
  · rw [← getZ_ownD hs p hp, getZ_add ha.1 hb.1]
    have h1 := getZ_bound (M := 1000000000000 * (j : Int)) (by omega) p.1 (fun q hq => (ha.2.2.2 q hq).2)
    have h2 := getZ_bound (M := 1000000000000 * (k : Int)) (by omega) p.1 (fun q hq => (hb.2.2.2 q hq).2)
    omega
theorem lo_pair {a b : List It} (ha : zOkB a = true) (hb : zOkB b = true) (x y : Nat) : Lo 1 (addZ [] (joinZ a b x y)) := by
  have hf := join_few ha hb x y
  refine ⟨srt_add Srt.nil, nz_add nz_nil, ?_, fun p hp => ⟨?_, ?_⟩⟩
  · have := add_len (joinZ a b x y) []
    simp at this
    omega
  · rcases add_rows hp with ⟨q, hq, e⟩ | ⟨q, hq, e⟩
    · simp at hq
    · rw [e]; exact (join_in ha hb hq).1
  · have h1 := add_bound (B := 0) (C := 100000000) (by omega) (by omega) (joinZ a b x y) (a := []) (k := 0) (by omega) (fun p hp => by simp at hp) (fun q hq => (join_in ha hb hq).2) p hp
    omega
theorem Lo.mild {k : Nat} {zs : List It} (h : Lo k zs) (hk : k ≤ 2) : Mild zs := by
  refine ⟨by have := h.2.2.1; omega, fun j hj => ?_, fun p hp => ?_⟩
  · have := (h.2.2.2 _ (getZ_mem hj)).1
    omega
  · have := (h.2.2.2 p hp).2
    omega
theorem add_none {zs : List It} (hs : Srt zs) (hn : Nz zs) : addZ [] zs = zs := by
  rw [add_comm Srt.nil nz_nil hs hn, addZ_nil]

theorem sides_at0 (v0 v1 v2 v3 v4 v5 : Value) (w : World) : (Instr.index 61 (.agg #[v0, v1, v2, v3, v4, v5]) (.int .i64 0)).run Try.prog w = .ok (.agg #[v0, v1]) w := by
  have h1 : Try.prog.underlying 61 = some (.array 3 60) := Try.underlying61
  have h2 : Try.t60.size = 2 := by kernel_rfl
  simp [Instr.index, asIntOf, run_underlying h1, go_sem, part, sizeOf, h2]
theorem sides_at1 (v0 v1 v2 v3 v4 v5 : Value) (w : World) : (Instr.index 61 (.agg #[v0, v1, v2, v3, v4, v5]) (.int .i64 1)).run Try.prog w = .ok (.agg #[v2, v3]) w := by
  have h1 : Try.prog.underlying 61 = some (.array 3 60) := Try.underlying61
  have h2 : Try.t60.size = 2 := by kernel_rfl
  simp [Instr.index, asIntOf, run_underlying h1, go_sem, part, sizeOf, h2]
theorem sides_at2 (v0 v1 v2 v3 v4 v5 : Value) (w : World) : (Instr.index 61 (.agg #[v0, v1, v2, v3, v4, v5]) (.int .i64 2)).run Try.prog w = .ok (.agg #[v4, v5]) w := by
  have h1 : Try.prog.underlying 61 = some (.array 3 60) := Try.underlying61
  have h2 : Try.t60.size = 2 := by kernel_rfl
  simp [Instr.index, asIntOf, run_underlying h1, go_sem, part, sizeOf, h2]

set_option maxHeartbeats 8000000 in
theorem implDeltaJoin_any (v0 v1 v2 v3 : Value) (a da b db : List It) (x y : Int) (w : World) (h0 : ItemsAt w v0 a) (h1 : ItemsAt w v1 da) (h2 : ItemsAt w v2 b) (h3 : ItemsAt w v3 db) :
    Calls Try.prog 18 #[v0, v1, v2, v3, .int .i64 x, .int .i64 y] w fun e w' => ∃ v', e = .returned (.tuple #[v', .bool (djOk a da b db x y)]) ∧ OwnZ w' w.heap.size w'.heap.size v' (djOut a da b db x y) ∧ Below w.heap.size w w' := by
  obtain ⟨p0, c0, rfl⟩ : ∃ pa ca, v0 = .slice pa a.length ca := by obtain ⟨_, pa, ca, hv, _⟩ := h0; exact ⟨pa, ca, hv⟩
  obtain ⟨p1, c1, rfl⟩ : ∃ pa ca, v1 = .slice pa da.length ca := by obtain ⟨_, pa, ca, hv, _⟩ := h1; exact ⟨pa, ca, hv⟩
  obtain ⟨p2, c2, rfl⟩ : ∃ pa ca, v2 = .slice pa b.length ca := by obtain ⟨_, pa, ca, hv, _⟩ := h2; exact ⟨pa, ca, hv⟩
  obtain ⟨p3, c3, rfl⟩ : ∃ pa ca, v3 = .slice pa db.length ca := by obtain ⟨_, pa, ca, hv, _⟩ := h3; exact ⟨pa, ca, hv⟩
  cases ea : zOkB a with
  | false =>
    obtain ⟨q0, q1⟩ := dj_not (a := a) (da := da) (b := b) (db := db) (x := x) (y := y) (by simp [djIn, ea])
    rw [q0, q1]
    clear q0 q1
    go_enter Try.func18, Try.ntmps18
    go_wp2_with fail
    refine (implZOk_any _ a _ h0).mono ?_
    rw [ea]
    rintro e w1 ⟨rfl, hb1⟩
    have hk1 := hb1
    clear hb1
    have HK : Hid (Below w.heap.size w w1) := hk1
    clear hk1 h0 h1 h2 h3
    go_wp2
    go_ret2
    exact ⟨_, rfl, nil_ownZ _ _, HK.out⟩
  | true =>
    cases eda : zOkB da with
    | false =>
      obtain ⟨q0, q1⟩ := dj_not (a := a) (da := da) (b := b) (db := db) (x := x) (y := y) (by simp [djIn, eda])
      rw [q0, q1]
      clear q0 q1
      go_enter Try.func18, Try.ntmps18
      go_wp2_with fail
      refine (implZOk_any _ a _ h0).mono ?_
      rw [ea]
      rintro e w1 ⟨rfl, hb1⟩
      have hk1 := hb1
      clear hb1
      go_wp2_with fail
      refine (implZOk_any _ da _ (h1.below hk1)).mono ?_
      rw [eda]
      rintro e w2 ⟨rfl, hb2⟩
      have hk2 := below_then hk1 hb2
      clear hb2 hk1
      have HK : Hid (Below w.heap.size w w2) := hk2
      clear hk2 h0 h1 h2 h3
      go_wp2
      go_ret2
      exact ⟨_, rfl, nil_ownZ _ _, HK.out⟩
    | true =>
      cases eb : zOkB b with
      | false =>
        obtain ⟨q0, q1⟩ := dj_not (a := a) (da := da) (b := b) (db := db) (x := x) (y := y) (by simp [djIn, eb])
        rw [q0, q1]
        clear q0 q1
        go_enter Try.func18, Try.ntmps18
        go_wp2_with fail
        refine (implZOk_any _ a _ h0).mono ?_
        rw [ea]
        rintro e w1 ⟨rfl, hb1⟩
        have hk1 := hb1
        clear hb1
        go_wp2_with fail
        refine (implZOk_any _ da _ (h1.below hk1)).mono ?_
        rw [eda]
        rintro e w2 ⟨rfl, hb2⟩
        have hk2 := below_then hk1 hb2
        clear hb2 hk1
        go_wp2_with fail
        refine (implZOk_any _ b _ (h2.below hk2)).mono ?_
        rw [eb]
        rintro e w3 ⟨rfl, hb3⟩
        have hk3 := below_then hk2 hb3
        clear hb3 hk2
        have HK : Hid (Below w.heap.size w w3) := hk3
        clear hk3 h0 h1 h2 h3
        go_wp2
        go_ret2
        exact ⟨_, rfl, nil_ownZ _ _, HK.out⟩
      | true =>
        cases edb : zOkB db with
        | false =>
          obtain ⟨q0, q1⟩ := dj_not (a := a) (da := da) (b := b) (db := db) (x := x) (y := y) (by simp [djIn, edb])
          rw [q0, q1]
          clear q0 q1
          go_enter Try.func18, Try.ntmps18
          go_wp2_with fail
          refine (implZOk_any _ a _ h0).mono ?_
          rw [ea]
          rintro e w1 ⟨rfl, hb1⟩
          have hk1 := hb1
          clear hb1
          go_wp2_with fail
          refine (implZOk_any _ da _ (h1.below hk1)).mono ?_
          rw [eda]
          rintro e w2 ⟨rfl, hb2⟩
          have hk2 := below_then hk1 hb2
          clear hb2 hk1
          go_wp2_with fail
          refine (implZOk_any _ b _ (h2.below hk2)).mono ?_
          rw [eb]
          rintro e w3 ⟨rfl, hb3⟩
          have hk3 := below_then hk2 hb3
          clear hb3 hk2
          go_wp2_with fail
          refine (implZOk_any _ db _ (h3.below hk3)).mono ?_
          rw [edb]
          rintro e w4 ⟨rfl, hb4⟩
          have hk4 := below_then hk3 hb4
          clear hb4 hk3
          have HK : Hid (Below w.heap.size w w4) := hk4
          clear hk4 h0 h1 h2 h3
          go_wp2
          go_ret2
          exact ⟨_, rfl, nil_ownZ _ _, HK.out⟩
        | true =>
          cases k0 : canB da b x y with
          | false =>
            obtain ⟨q0, q1⟩ := dj_not (a := a) (da := da) (b := b) (db := db) (x := x) (y := y) (by simp [djCan, k0])
            rw [q0, q1]
            clear q0 q1
            go_enter Try.func18, Try.ntmps18
            go_wp2_with fail
            refine (implZOk_any _ a _ h0).mono ?_
            rw [ea]
            rintro e w1 ⟨rfl, hb1⟩
            have hk1 := hb1
            clear hb1
            go_wp2_with fail
            refine (implZOk_any _ da _ (h1.below hk1)).mono ?_
            rw [eda]
            rintro e w2 ⟨rfl, hb2⟩
            have hk2 := below_then hk1 hb2
            clear hb2 hk1
            go_wp2_with fail
            refine (implZOk_any _ b _ (h2.below hk2)).mono ?_
            rw [eb]
            rintro e w3 ⟨rfl, hb3⟩
            have hk3 := below_then hk2 hb3
            clear hb3 hk2
            go_wp2_with fail
            refine (implZOk_any _ db _ (h3.below hk3)).mono ?_
            rw [edb]
            rintro e w4 ⟨rfl, hb4⟩
            have hk4 := below_then hk3 hb4
            clear hb4 hk3
            have t4 := hk4.size
            have ix0 := sides_at0
            have ix1 := sides_at1
            have ix2 := sides_at2
            go_wp2
            refine wp_loop_rounds 4 ?_
            rw [rounds_succ]
            go_wp2
            go_quiet (fail)
            go_wp2_with fail
            refine (canJoin_any _ _ da b x y _ (h1.below (below_then hk4 (below_drewN (below_alloc _) _))) (h2.below (below_then hk4 (below_drewN (below_alloc _) _)))).mono ?_
            rw [k0]
            rintro e w5 ⟨rfl, hb5⟩
            have hj5 := below_then (below_drewN (below_alloc _) _) hb5
            have hk5 := below_then hk4 hj5
            have s5 := hj5.size
            have t5 := hk5.size
            clear hb5 hj5 hk4
            have HK : Hid (Below w.heap.size w w5) := hk5
            clear hk5 h0 h1 h2 h3
            go_wp2
            go_ret2
            exact ⟨_, rfl, nil_ownZ _ _, HK.out⟩
          | true =>
            cases k1 : canB a db x y with
            | false =>
              obtain ⟨q0, q1⟩ := dj_not (a := a) (da := da) (b := b) (db := db) (x := x) (y := y) (by simp [djCan, k1])
              rw [q0, q1]
              clear q0 q1
              have hxy : 0 ≤ x ∧ 0 ≤ y := by
                have := k0
                unfold canB placeB at this
                simp only [Bool.and_eq_true, decide_eq_true_eq] at this
                exact ⟨this.1.1.1, this.1.2.1⟩
              obtain ⟨xn, rfl⟩ := Int.eq_ofNat_of_zero_le hxy.1
              obtain ⟨yn, rfl⟩ := Int.eq_ofNat_of_zero_le hxy.2
              clear hxy
              go_enter Try.func18, Try.ntmps18
              go_wp2_with fail
              refine (implZOk_any _ a _ h0).mono ?_
              rw [ea]
              rintro e w1 ⟨rfl, hb1⟩
              have hk1 := hb1
              clear hb1
              go_wp2_with fail
              refine (implZOk_any _ da _ (h1.below hk1)).mono ?_
              rw [eda]
              rintro e w2 ⟨rfl, hb2⟩
              have hk2 := below_then hk1 hb2
              clear hb2 hk1
              go_wp2_with fail
              refine (implZOk_any _ b _ (h2.below hk2)).mono ?_
              rw [eb]
              rintro e w3 ⟨rfl, hb3⟩
              have hk3 := below_then hk2 hb3
              clear hb3 hk2
              go_wp2_with fail
              refine (implZOk_any _ db _ (h3.below hk3)).mono ?_
              rw [edb]
              rintro e w4 ⟨rfl, hb4⟩
              have hk4 := below_then hk3 hb4
              clear hb4 hk3
              have t4 := hk4.size
              have ix0 := sides_at0
              have ix1 := sides_at1
              have ix2 := sides_at2
              go_wp2
              refine wp_loop_rounds 4 ?_
              rw [rounds_succ]
              go_wp2
              go_quiet (fail)
              go_wp2_with fail
              refine (canJoin_any _ _ da b xn yn _ (h1.below (below_then hk4 (below_drewN (below_alloc _) _))) (h2.below (below_then hk4 (below_drewN (below_alloc _) _)))).mono ?_
              rw [k0]
              rintro e w5 ⟨rfl, hb5⟩
              have hj5 := below_then (below_drewN (below_alloc _) _) hb5
              have hk5 := below_then hk4 hj5
              have s5 := hj5.size
              have t5 := hk5.size
              clear hb5 hj5 hk4
              go_wp2_with fail
              refine (joined_any _ _ da b xn yn _ (h1.below hk5) (h2.below hk5) eda eb k0).mono ?_
              rintro e w6 ⟨j6, rfl, J_6, hb6⟩
              have hk6 := below_then hk5 hb6
              have s6 := hb6.size
              have t6 := hk6.size
              clear hk5
              have hfew7 := join_few eda eb xn yn
              go_wp2_with fail
              refine (gather_any j6 _ _ (joinZ da b xn yn) _ J_6 (by omega) (by omega) (fun z hz => by have := (join_in eda eb hz).2; omega)).mono ?_
              rintro e w7 ⟨g7, rfl, Q_7, O7⟩
              have hk7 : Below w.heap.size w w7 := O7.below hk6 (by omega) (by omega)
              have s7 := O7.size
              have t7 := hk7.size
              clear O7 J_6 hb6 hk6 hfew7
              have M8 := lo_pair eda eb xn yn
              have L8 : Lo 1 (addZ [] (addZ [] (joinZ da b xn yn))) := lo_add (j := 0) (k := 1) lo_nil M8
              go_wp2_with fail
              refine (together_mild _ g7 [] (addZ [] (joinZ da b xn yn)) _ (nil_ownZ _ 0).tail Q_7.tail lo_nil.1 lo_nil.2.1 M8.1 (lo_nil.mild (by omega)) (M8.mild (by omega))).mono ?_
              rintro e w8 ⟨u8, rfl, T_8, hb8⟩
              have hk8 := below_then hk7 hb8
              have s8 := hb8.size
              have t8 := hk8.size
              clear hb8 hk7 Q_7
              go_wp2
              rw [rounds_succ]
              go_wp2
              go_quiet (fail)
              go_wp2_with fail
              refine (canJoin_any _ _ a db xn yn _ (h0.below (below_then hk8 (below_drewN (below_alloc _) _))) (h3.below (below_then hk8 (below_drewN (below_alloc _) _)))).mono ?_
              rw [k1]
              rintro e w9 ⟨rfl, hb9⟩
              have hj9 := below_then (below_drewN (below_alloc _) _) hb9
              have hk9 := below_then hk8 hj9
              have s9 := hj9.size
              have t9 := hk9.size
              have T_9 := T_8.keep' hj9
              clear hb9 hj9 hk8 T_8
              have HK : Hid (Below w.heap.size w w9) := hk9
              clear hk9 h0 h1 h2 h3 T_9
              go_wp2
              go_ret2
              exact ⟨_, rfl, nil_ownZ _ _, HK.out⟩
            | true =>
              cases k2 : canB da db x y with
              | false =>
                obtain ⟨q0, q1⟩ := dj_not (a := a) (da := da) (b := b) (db := db) (x := x) (y := y) (by simp [djCan, k2])
                rw [q0, q1]
                clear q0 q1
                have hxy : 0 ≤ x ∧ 0 ≤ y := by
                  have := k0
                  unfold canB placeB at this
                  simp only [Bool.and_eq_true, decide_eq_true_eq] at this
                  exact ⟨this.1.1.1, this.1.2.1⟩
                obtain ⟨xn, rfl⟩ := Int.eq_ofNat_of_zero_le hxy.1
                obtain ⟨yn, rfl⟩ := Int.eq_ofNat_of_zero_le hxy.2
                clear hxy
                go_enter Try.func18, Try.ntmps18
                go_wp2_with fail
                refine (implZOk_any _ a _ h0).mono ?_
                rw [ea]
                rintro e w1 ⟨rfl, hb1⟩
                have hk1 := hb1
                clear hb1
                go_wp2_with fail
                refine (implZOk_any _ da _ (h1.below hk1)).mono ?_
                rw [eda]
                rintro e w2 ⟨rfl, hb2⟩
                have hk2 := below_then hk1 hb2
                clear hb2 hk1
                go_wp2_with fail
                refine (implZOk_any _ b _ (h2.below hk2)).mono ?_
                rw [eb]
                rintro e w3 ⟨rfl, hb3⟩
                have hk3 := below_then hk2 hb3
                clear hb3 hk2
                go_wp2_with fail
                refine (implZOk_any _ db _ (h3.below hk3)).mono ?_
                rw [edb]
                rintro e w4 ⟨rfl, hb4⟩
                have hk4 := below_then hk3 hb4
                clear hb4 hk3
                have t4 := hk4.size
                have ix0 := sides_at0
                have ix1 := sides_at1
                have ix2 := sides_at2
                go_wp2
                refine wp_loop_rounds 4 ?_
                rw [rounds_succ]
                go_wp2
                go_quiet (fail)
                go_wp2_with fail
                refine (canJoin_any _ _ da b xn yn _ (h1.below (below_then hk4 (below_drewN (below_alloc _) _))) (h2.below (below_then hk4 (below_drewN (below_alloc _) _)))).mono ?_
                rw [k0]
                rintro e w5 ⟨rfl, hb5⟩
                have hj5 := below_then (below_drewN (below_alloc _) _) hb5
                have hk5 := below_then hk4 hj5
                have s5 := hj5.size
                have t5 := hk5.size
                clear hb5 hj5 hk4
                go_wp2_with fail
                refine (joined_any _ _ da b xn yn _ (h1.below hk5) (h2.below hk5) eda eb k0).mono ?_
                rintro e w6 ⟨j6, rfl, J_6, hb6⟩
                have hk6 := below_then hk5 hb6
                have s6 := hb6.size
                have t6 := hk6.size
                clear hk5
                have hfew7 := join_few eda eb xn yn
                go_wp2_with fail
                refine (gather_any j6 _ _ (joinZ da b xn yn) _ J_6 (by omega) (by omega) (fun z hz => by have := (join_in eda eb hz).2; omega)).mono ?_
                rintro e w7 ⟨g7, rfl, Q_7, O7⟩
                have hk7 : Below w.heap.size w w7 := O7.below hk6 (by omega) (by omega)
                have s7 := O7.size
                have t7 := hk7.size
                clear O7 J_6 hb6 hk6 hfew7
                have M8 := lo_pair eda eb xn yn
                have L8 : Lo 1 (addZ [] (addZ [] (joinZ da b xn yn))) := lo_add (j := 0) (k := 1) lo_nil M8
                go_wp2_with fail
                refine (together_mild _ g7 [] (addZ [] (joinZ da b xn yn)) _ (nil_ownZ _ 0).tail Q_7.tail lo_nil.1 lo_nil.2.1 M8.1 (lo_nil.mild (by omega)) (M8.mild (by omega))).mono ?_
                rintro e w8 ⟨u8, rfl, T_8, hb8⟩
                have hk8 := below_then hk7 hb8
                have s8 := hb8.size
                have t8 := hk8.size
                clear hb8 hk7 Q_7
                go_wp2
                rw [rounds_succ]
                go_wp2
                go_quiet (fail)
                go_wp2_with fail
                refine (canJoin_any _ _ a db xn yn _ (h0.below (below_then hk8 (below_drewN (below_alloc _) _))) (h3.below (below_then hk8 (below_drewN (below_alloc _) _)))).mono ?_
                rw [k1]
                rintro e w9 ⟨rfl, hb9⟩
                have hj9 := below_then (below_drewN (below_alloc _) _) hb9
                have hk9 := below_then hk8 hj9
                have s9 := hj9.size
                have t9 := hk9.size
                have T_9 := T_8.keep' hj9
                clear hb9 hj9 hk8 T_8
                go_wp2_with fail
                refine (joined_any _ _ a db xn yn _ (h0.below hk9) (h3.below hk9) ea edb k1).mono ?_
                rintro e w10 ⟨j10, rfl, J_10, hb10⟩
                have hk10 := below_then hk9 hb10
                have s10 := hb10.size
                have t10 := hk10.size
                have T_10 := T_9.keep' hb10
                clear hk9 T_9
                have hfew11 := join_few ea edb xn yn
                go_wp2_with fail
                refine (gather_any j10 _ _ (joinZ a db xn yn) _ J_10 (by omega) (by omega) (fun z hz => by have := (join_in ea edb hz).2; omega)).mono ?_
                rintro e w11 ⟨g11, rfl, Q_11, O11⟩
                have hk11 : Below w.heap.size w w11 := O11.below hk10 (by omega) (by omega)
                have s11 := O11.size
                have t11 := hk11.size
                have T_11 := T_10.only O11 (by omega)
                clear O11 J_10 hb10 hk10 hfew11 T_10
                have M12 := lo_pair ea edb xn yn
                have L12 : Lo 2 (addZ (addZ [] (addZ [] (joinZ da b xn yn))) (addZ [] (joinZ a db xn yn))) := lo_add (j := 1) (k := 1) L8 M12
                go_wp2_with fail
                refine (together_mild _ g11 (addZ [] (addZ [] (joinZ da b xn yn))) (addZ [] (joinZ a db xn yn)) _ T_11.tail Q_11.tail L8.1 L8.2.1 M12.1 (L8.mild (by omega)) (M12.mild (by omega))).mono ?_
                rintro e w12 ⟨u12, rfl, T_12, hb12⟩
                have hk12 := below_then hk11 hb12
                have s12 := hb12.size
                have t12 := hk12.size
                clear hb12 hk11 Q_11 T_11
                go_wp2
                rw [rounds_succ]
                go_wp2
                go_quiet (fail)
                go_wp2_with fail
                refine (canJoin_any _ _ da db xn yn _ (h1.below (below_then hk12 (below_drewN (below_alloc _) _))) (h3.below (below_then hk12 (below_drewN (below_alloc _) _)))).mono ?_
                rw [k2]
                rintro e w13 ⟨rfl, hb13⟩
                have hj13 := below_then (below_drewN (below_alloc _) _) hb13
                have hk13 := below_then hk12 hj13
                have s13 := hj13.size
                have t13 := hk13.size
                have T_13 := T_12.keep' hj13
                clear hb13 hj13 hk12 T_12
                have HK : Hid (Below w.heap.size w w13) := hk13
                clear hk13 h0 h1 h2 h3 T_13
                go_wp2
                go_ret2
                exact ⟨_, rfl, nil_ownZ _ _, HK.out⟩
              | true =>
                have q0 : djOk a da b db x y = zOkB (djZ a da b db x y) := by simp [djOk, djIn, djCan, ea, eda, eb, edb, k0, k1, k2]
                have q1 : djOut a da b db x y = if zOkB (djZ a da b db x y) then djZ a da b db x y else [] := by unfold djOut; rw [q0]
                rw [q0, q1]
                clear q0 q1
                obtain ⟨os, HO⟩ : ∃ os, Hid (os = if zOkB (djZ a da b db x y) then djZ a da b db x y else []) := ⟨_, rfl⟩
                obtain ⟨c, HC⟩ : ∃ c, Hid (c = zOkB (djZ a da b db x y)) := ⟨_, rfl⟩
                rw [← HO.out, ← HC.out]
                have hxy : 0 ≤ x ∧ 0 ≤ y := by
                  have := k0
                  unfold canB placeB at this
                  simp only [Bool.and_eq_true, decide_eq_true_eq] at this
                  exact ⟨this.1.1.1, this.1.2.1⟩
                obtain ⟨xn, rfl⟩ := Int.eq_ofNat_of_zero_le hxy.1
                obtain ⟨yn, rfl⟩ := Int.eq_ofNat_of_zero_le hxy.2
                clear hxy
                go_enter Try.func18, Try.ntmps18
                go_wp2_with fail
                refine (implZOk_any _ a _ h0).mono ?_
                rw [ea]
                rintro e w1 ⟨rfl, hb1⟩
                have hk1 := hb1
                clear hb1
                go_wp2_with fail
                refine (implZOk_any _ da _ (h1.below hk1)).mono ?_
                rw [eda]
                rintro e w2 ⟨rfl, hb2⟩
                have hk2 := below_then hk1 hb2
                clear hb2 hk1
                go_wp2_with fail
                refine (implZOk_any _ b _ (h2.below hk2)).mono ?_
                rw [eb]
                rintro e w3 ⟨rfl, hb3⟩
                have hk3 := below_then hk2 hb3
                clear hb3 hk2
                go_wp2_with fail
                refine (implZOk_any _ db _ (h3.below hk3)).mono ?_
                rw [edb]
                rintro e w4 ⟨rfl, hb4⟩
                have hk4 := below_then hk3 hb4
                clear hb4 hk3
                have t4 := hk4.size
                have ix0 := sides_at0
                have ix1 := sides_at1
                have ix2 := sides_at2
                go_wp2
                refine wp_loop_rounds 4 ?_
                rw [rounds_succ]
                go_wp2
                go_quiet (fail)
                go_wp2_with fail
                refine (canJoin_any _ _ da b xn yn _ (h1.below (below_then hk4 (below_drewN (below_alloc _) _))) (h2.below (below_then hk4 (below_drewN (below_alloc _) _)))).mono ?_
                rw [k0]
                rintro e w5 ⟨rfl, hb5⟩
                have hj5 := below_then (below_drewN (below_alloc _) _) hb5
                have hk5 := below_then hk4 hj5
                have s5 := hj5.size
                have t5 := hk5.size
                clear hb5 hj5 hk4
                go_wp2_with fail
                refine (joined_any _ _ da b xn yn _ (h1.below hk5) (h2.below hk5) eda eb k0).mono ?_
                rintro e w6 ⟨j6, rfl, J_6, hb6⟩
                have hk6 := below_then hk5 hb6
                have s6 := hb6.size
                have t6 := hk6.size
                clear hk5
                have hfew7 := join_few eda eb xn yn
                go_wp2_with fail
                refine (gather_any j6 _ _ (joinZ da b xn yn) _ J_6 (by omega) (by omega) (fun z hz => by have := (join_in eda eb hz).2; omega)).mono ?_
                rintro e w7 ⟨g7, rfl, Q_7, O7⟩
                have hk7 : Below w.heap.size w w7 := O7.below hk6 (by omega) (by omega)
                have s7 := O7.size
                have t7 := hk7.size
                clear O7 J_6 hb6 hk6 hfew7
                have M8 := lo_pair eda eb xn yn
                have L8 : Lo 1 (addZ [] (addZ [] (joinZ da b xn yn))) := lo_add (j := 0) (k := 1) lo_nil M8
                go_wp2_with fail
                refine (together_mild _ g7 [] (addZ [] (joinZ da b xn yn)) _ (nil_ownZ _ 0).tail Q_7.tail lo_nil.1 lo_nil.2.1 M8.1 (lo_nil.mild (by omega)) (M8.mild (by omega))).mono ?_
                rintro e w8 ⟨u8, rfl, T_8, hb8⟩
                have hk8 := below_then hk7 hb8
                have s8 := hb8.size
                have t8 := hk8.size
                clear hb8 hk7 Q_7
                go_wp2
                rw [rounds_succ]
                go_wp2
                go_quiet (fail)
                go_wp2_with fail
                refine (canJoin_any _ _ a db xn yn _ (h0.below (below_then hk8 (below_drewN (below_alloc _) _))) (h3.below (below_then hk8 (below_drewN (below_alloc _) _)))).mono ?_
                rw [k1]
                rintro e w9 ⟨rfl, hb9⟩
                have hj9 := below_then (below_drewN (below_alloc _) _) hb9
                have hk9 := below_then hk8 hj9
                have s9 := hj9.size
                have t9 := hk9.size
                have T_9 := T_8.keep' hj9
                clear hb9 hj9 hk8 T_8
                go_wp2_with fail
                refine (joined_any _ _ a db xn yn _ (h0.below hk9) (h3.below hk9) ea edb k1).mono ?_
                rintro e w10 ⟨j10, rfl, J_10, hb10⟩
                have hk10 := below_then hk9 hb10
                have s10 := hb10.size
                have t10 := hk10.size
                have T_10 := T_9.keep' hb10
                clear hk9 T_9
                have hfew11 := join_few ea edb xn yn
                go_wp2_with fail
                refine (gather_any j10 _ _ (joinZ a db xn yn) _ J_10 (by omega) (by omega) (fun z hz => by have := (join_in ea edb hz).2; omega)).mono ?_
                rintro e w11 ⟨g11, rfl, Q_11, O11⟩
                have hk11 : Below w.heap.size w w11 := O11.below hk10 (by omega) (by omega)
                have s11 := O11.size
                have t11 := hk11.size
                have T_11 := T_10.only O11 (by omega)
                clear O11 J_10 hb10 hk10 hfew11 T_10
                have M12 := lo_pair ea edb xn yn
                have L12 : Lo 2 (addZ (addZ [] (addZ [] (joinZ da b xn yn))) (addZ [] (joinZ a db xn yn))) := lo_add (j := 1) (k := 1) L8 M12
                go_wp2_with fail
                refine (together_mild _ g11 (addZ [] (addZ [] (joinZ da b xn yn))) (addZ [] (joinZ a db xn yn)) _ T_11.tail Q_11.tail L8.1 L8.2.1 M12.1 (L8.mild (by omega)) (M12.mild (by omega))).mono ?_
                rintro e w12 ⟨u12, rfl, T_12, hb12⟩
                have hk12 := below_then hk11 hb12
                have s12 := hb12.size
                have t12 := hk12.size
                clear hb12 hk11 Q_11 T_11
                go_wp2
                rw [rounds_succ]
                go_wp2
                go_quiet (fail)
                go_wp2_with fail
                refine (canJoin_any _ _ da db xn yn _ (h1.below (below_then hk12 (below_drewN (below_alloc _) _))) (h3.below (below_then hk12 (below_drewN (below_alloc _) _)))).mono ?_
                rw [k2]
                rintro e w13 ⟨rfl, hb13⟩
                have hj13 := below_then (below_drewN (below_alloc _) _) hb13
                have hk13 := below_then hk12 hj13
                have s13 := hj13.size
                have t13 := hk13.size
                have T_13 := T_12.keep' hj13
                clear hb13 hj13 hk12 T_12
                go_wp2_with fail
                refine (joined_any _ _ da db xn yn _ (h1.below hk13) (h3.below hk13) eda edb k2).mono ?_
                rintro e w14 ⟨j14, rfl, J_14, hb14⟩
                have hk14 := below_then hk13 hb14
                have s14 := hb14.size
                have t14 := hk14.size
                have T_14 := T_13.keep' hb14
                clear hk13 T_13
                have hfew15 := join_few eda edb xn yn
                go_wp2_with fail
                refine (gather_any j14 _ _ (joinZ da db xn yn) _ J_14 (by omega) (by omega) (fun z hz => by have := (join_in eda edb hz).2; omega)).mono ?_
                rintro e w15 ⟨g15, rfl, Q_15, O15⟩
                have hk15 : Below w.heap.size w w15 := O15.below hk14 (by omega) (by omega)
                have s15 := O15.size
                have t15 := hk15.size
                have T_15 := T_14.only O15 (by omega)
                clear O15 J_14 hb14 hk14 hfew15 T_14
                have M16 := lo_pair eda edb xn yn
                have L16 : Lo 3 (addZ (addZ (addZ [] (addZ [] (joinZ da b xn yn))) (addZ [] (joinZ a db xn yn))) (addZ [] (joinZ da db xn yn))) := lo_add (j := 2) (k := 1) L12 M16
                go_wp2_with fail
                refine (together_mild _ g15 (addZ (addZ [] (addZ [] (joinZ da b xn yn))) (addZ [] (joinZ a db xn yn))) (addZ [] (joinZ da db xn yn)) _ T_15.tail Q_15.tail L12.1 L12.2.1 M16.1 (L12.mild (by omega)) (M16.mild (by omega))).mono ?_
                rintro e w16 ⟨u16, rfl, T_16, hb16⟩
                have hk16 := below_then hk15 hb16
                have s16 := hb16.size
                have t16 := hk16.size
                clear hb16 hk15 Q_15 T_15
                go_wp2
                rw [rounds_succ]
                have hd : djZ a da b db xn yn = (addZ (addZ (addZ [] (addZ [] (joinZ da b xn yn))) (addZ [] (joinZ a db xn yn))) (addZ [] (joinZ da db xn yn))) := by
                  unfold djZ pairZ
                  simp only [Int.toNat_natCast]
                  rw [add_none (lo_pair eda eb xn yn).1 (lo_pair eda eb xn yn).2.1]
                rw [← hd] at T_16
                go_wp2_with fail
                refine (unlessTooMuch_any _ (djZ a da b db xn yn) _ _ _ T_16 (by omega)).mono ?_
                rw [← HO.out, ← HC.out]
                rintro e w17 ⟨vr, rfl, R_17, hb17⟩
                have HK : Hid (Below w.heap.size w w17) := below_then hk16 hb17
                have R : Hid (OwnZ w17 w.heap.size w17.heap.size vr os) := R_17.wide (by omega) (Nat.le_refl _) (Nat.le_refl _)
                clear hb17 hk16 T_16 R_17 h0 h1 h2 h3 hd
                go_wp2
                go_ret2
                exact ⟨_, rfl, R.out, HK.out⟩

set_option maxHeartbeats 8000000 in
theorem specDeltaJoin_any (v0 v1 v2 v3 : Value) (a da b db : List It) (x y : Int) (w : World) (h0 : ItemsAt w v0 a) (h1 : ItemsAt w v1 da) (h2 : ItemsAt w v2 b) (h3 : ItemsAt w v3 db) :
    Calls Try.prog 19 #[v0, v1, v2, v3, .int .i64 x, .int .i64 y] w fun e w' => ∃ v', e = .returned (.tuple #[v', .bool (djOk a da b db x y)]) ∧ OwnZ w' w.heap.size w'.heap.size v' (djOut a da b db x y) ∧ Below w.heap.size w w' := by
  obtain ⟨p0, c0, rfl⟩ : ∃ pa ca, v0 = .slice pa a.length ca := by obtain ⟨_, pa, ca, hv, _⟩ := h0; exact ⟨pa, ca, hv⟩
  obtain ⟨p1, c1, rfl⟩ : ∃ pa ca, v1 = .slice pa da.length ca := by obtain ⟨_, pa, ca, hv, _⟩ := h1; exact ⟨pa, ca, hv⟩
  obtain ⟨p2, c2, rfl⟩ : ∃ pa ca, v2 = .slice pa b.length ca := by obtain ⟨_, pa, ca, hv, _⟩ := h2; exact ⟨pa, ca, hv⟩
  obtain ⟨p3, c3, rfl⟩ : ∃ pa ca, v3 = .slice pa db.length ca := by obtain ⟨_, pa, ca, hv, _⟩ := h3; exact ⟨pa, ca, hv⟩
  cases ea : zOkB a with
  | false =>
    obtain ⟨q0, q1⟩ := dj_not (a := a) (da := da) (b := b) (db := db) (x := x) (y := y) (by simp [djIn, ea])
    rw [q0, q1]
    clear q0 q1
    go_enter Try.func19, Try.ntmps19
    go_wp2_with fail
    refine (specZOk_any _ a _ h0).mono ?_
    rw [ea]
    rintro e w1 ⟨rfl, hb1⟩
    have hk1 := hb1.below
    clear hb1
    have HK : Hid (Below w.heap.size w w1) := hk1
    clear hk1 h0 h1 h2 h3
    go_wp2
    go_ret2
    exact ⟨_, rfl, (lit_ownZ w1).wide HK.out.size (Nat.le_refl _) (Nat.le_refl _), below_then HK.out (below_alloc _)⟩
  | true =>
    cases eda : zOkB da with
    | false =>
      obtain ⟨q0, q1⟩ := dj_not (a := a) (da := da) (b := b) (db := db) (x := x) (y := y) (by simp [djIn, eda])
      rw [q0, q1]
      clear q0 q1
      go_enter Try.func19, Try.ntmps19
      go_wp2_with fail
      refine (specZOk_any _ a _ h0).mono ?_
      rw [ea]
      rintro e w1 ⟨rfl, hb1⟩
      have hk1 := hb1.below
      clear hb1
      go_wp2_with fail
      refine (specZOk_any _ da _ (h1.below hk1)).mono ?_
      rw [eda]
      rintro e w2 ⟨rfl, hb2⟩
      have hk2 := below_then hk1 hb2.below
      clear hb2 hk1
      have HK : Hid (Below w.heap.size w w2) := hk2
      clear hk2 h0 h1 h2 h3
      go_wp2
      go_ret2
      exact ⟨_, rfl, (lit_ownZ w2).wide HK.out.size (Nat.le_refl _) (Nat.le_refl _), below_then HK.out (below_alloc _)⟩
    | true =>
      cases eb : zOkB b with
      | false =>
        obtain ⟨q0, q1⟩ := dj_not (a := a) (da := da) (b := b) (db := db) (x := x) (y := y) (by simp [djIn, eb])
        rw [q0, q1]
        clear q0 q1
        go_enter Try.func19, Try.ntmps19
        go_wp2_with fail
        refine (specZOk_any _ a _ h0).mono ?_
        rw [ea]
        rintro e w1 ⟨rfl, hb1⟩
        have hk1 := hb1.below
        clear hb1
        go_wp2_with fail
        refine (specZOk_any _ da _ (h1.below hk1)).mono ?_
        rw [eda]
        rintro e w2 ⟨rfl, hb2⟩
        have hk2 := below_then hk1 hb2.below
        clear hb2 hk1
        go_wp2_with fail
        refine (specZOk_any _ b _ (h2.below hk2)).mono ?_
        rw [eb]
        rintro e w3 ⟨rfl, hb3⟩
        have hk3 := below_then hk2 hb3.below
        clear hb3 hk2
        have HK : Hid (Below w.heap.size w w3) := hk3
        clear hk3 h0 h1 h2 h3
        go_wp2
        go_ret2
        exact ⟨_, rfl, (lit_ownZ w3).wide HK.out.size (Nat.le_refl _) (Nat.le_refl _), below_then HK.out (below_alloc _)⟩
      | true =>
        cases edb : zOkB db with
        | false =>
          obtain ⟨q0, q1⟩ := dj_not (a := a) (da := da) (b := b) (db := db) (x := x) (y := y) (by simp [djIn, edb])
          rw [q0, q1]
          clear q0 q1
          go_enter Try.func19, Try.ntmps19
          go_wp2_with fail
          refine (specZOk_any _ a _ h0).mono ?_
          rw [ea]
          rintro e w1 ⟨rfl, hb1⟩
          have hk1 := hb1.below
          clear hb1
          go_wp2_with fail
          refine (specZOk_any _ da _ (h1.below hk1)).mono ?_
          rw [eda]
          rintro e w2 ⟨rfl, hb2⟩
          have hk2 := below_then hk1 hb2.below
          clear hb2 hk1
          go_wp2_with fail
          refine (specZOk_any _ b _ (h2.below hk2)).mono ?_
          rw [eb]
          rintro e w3 ⟨rfl, hb3⟩
          have hk3 := below_then hk2 hb3.below
          clear hb3 hk2
          go_wp2_with fail
          refine (specZOk_any _ db _ (h3.below hk3)).mono ?_
          rw [edb]
          rintro e w4 ⟨rfl, hb4⟩
          have hk4 := below_then hk3 hb4.below
          clear hb4 hk3
          have HK : Hid (Below w.heap.size w w4) := hk4
          clear hk4 h0 h1 h2 h3
          go_wp2
          go_ret2
          exact ⟨_, rfl, (lit_ownZ w4).wide HK.out.size (Nat.le_refl _) (Nat.le_refl _), below_then HK.out (below_alloc _)⟩
        | true =>
          cases gx : placeB x with
          | false =>
            obtain ⟨q0, q1⟩ := dj_not (a := a) (da := da) (b := b) (db := db) (x := x) (y := y) (by simp [djCan, canB, gx])
            rw [q0, q1]
            clear q0 q1
            go_enter Try.func19, Try.ntmps19
            go_wp2_with fail
            refine (specZOk_any _ a _ h0).mono ?_
            rw [ea]
            rintro e w1 ⟨rfl, hb1⟩
            have hk1 := hb1.below
            clear hb1
            go_wp2_with fail
            refine (specZOk_any _ da _ (h1.below hk1)).mono ?_
            rw [eda]
            rintro e w2 ⟨rfl, hb2⟩
            have hk2 := below_then hk1 hb2.below
            clear hb2 hk1
            go_wp2_with fail
            refine (specZOk_any _ b _ (h2.below hk2)).mono ?_
            rw [eb]
            rintro e w3 ⟨rfl, hb3⟩
            have hk3 := below_then hk2 hb3.below
            clear hb3 hk2
            go_wp2_with fail
            refine (specZOk_any _ db _ (h3.below hk3)).mono ?_
            rw [edb]
            rintro e w4 ⟨rfl, hb4⟩
            have hk4 := below_then hk3 hb4.below
            clear hb4 hk3
            go_wp2_with fail
            refine (colJ_any x _).mono ?_
            rw [gx]
            rintro e wq ⟨rfl, rfl⟩
            have HK : Hid (Below w.heap.size w wq) := hk4
            clear hk4 h0 h1 h2 h3
            go_wp2
            go_ret2
            exact ⟨_, rfl, (lit_ownZ wq).wide HK.out.size (Nat.le_refl _) (Nat.le_refl _), below_then HK.out (below_alloc _)⟩
          | true =>
            cases gy : placeB y with
            | false =>
              obtain ⟨q0, q1⟩ := dj_not (a := a) (da := da) (b := b) (db := db) (x := x) (y := y) (by simp [djCan, canB, gy])
              rw [q0, q1]
              clear q0 q1
              go_enter Try.func19, Try.ntmps19
              go_wp2_with fail
              refine (specZOk_any _ a _ h0).mono ?_
              rw [ea]
              rintro e w1 ⟨rfl, hb1⟩
              have hk1 := hb1.below
              clear hb1
              go_wp2_with fail
              refine (specZOk_any _ da _ (h1.below hk1)).mono ?_
              rw [eda]
              rintro e w2 ⟨rfl, hb2⟩
              have hk2 := below_then hk1 hb2.below
              clear hb2 hk1
              go_wp2_with fail
              refine (specZOk_any _ b _ (h2.below hk2)).mono ?_
              rw [eb]
              rintro e w3 ⟨rfl, hb3⟩
              have hk3 := below_then hk2 hb3.below
              clear hb3 hk2
              go_wp2_with fail
              refine (specZOk_any _ db _ (h3.below hk3)).mono ?_
              rw [edb]
              rintro e w4 ⟨rfl, hb4⟩
              have hk4 := below_then hk3 hb4.below
              clear hb4 hk3
              go_wp2_with fail
              refine (colJ_any x _).mono ?_
              rw [gx]
              rintro e wq ⟨rfl, rfl⟩
              go_wp2_with fail
              refine (colJ_any y _).mono ?_
              rw [gy]
              rintro e wp ⟨rfl, rfl⟩
              have HK : Hid (Below w.heap.size w wp) := hk4
              clear hk4 h0 h1 h2 h3
              go_wp2
              go_ret2
              exact ⟨_, rfl, (lit_ownZ wp).wide HK.out.size (Nat.le_refl _) (Nat.le_refl _), below_then HK.out (below_alloc _)⟩
            | true =>
              have gx' := gx
              have gy' := gy
              unfold placeB at gx' gy'
              simp only [decide_eq_true_eq] at gx' gy'
              obtain ⟨xn, rfl⟩ := Int.eq_ofNat_of_zero_le gx'.1
              obtain ⟨yn, rfl⟩ := Int.eq_ofNat_of_zero_le gy'.1
              have k0 : canB da b xn yn = bothHave da b xn yn := both_can (by omega) (by omega)
              have k1 : canB a db xn yn = bothHave a db xn yn := both_can (by omega) (by omega)
              have k2 : canB da db xn yn = bothHave da db xn yn := both_can (by omega) (by omega)
              obtain ⟨os, HO⟩ : ∃ os, Hid (os = djOut a da b db xn yn) := ⟨_, rfl⟩
              obtain ⟨c, HC⟩ : ∃ c, Hid (c = djOk a da b db xn yn) := ⟨_, rfl⟩
              rw [← HO.out, ← HC.out]
              go_enter Try.func19, Try.ntmps19
              go_wp2_with fail
              refine (specZOk_any _ a _ h0).mono ?_
              rw [ea]
              rintro e w1 ⟨rfl, hb1⟩
              have hk1 := hb1.below
              clear hb1
              go_wp2_with fail
              refine (specZOk_any _ da _ (h1.below hk1)).mono ?_
              rw [eda]
              rintro e w2 ⟨rfl, hb2⟩
              have hk2 := below_then hk1 hb2.below
              clear hb2 hk1
              go_wp2_with fail
              refine (specZOk_any _ b _ (h2.below hk2)).mono ?_
              rw [eb]
              rintro e w3 ⟨rfl, hb3⟩
              have hk3 := below_then hk2 hb3.below
              clear hb3 hk2
              go_wp2_with fail
              refine (specZOk_any _ db _ (h3.below hk3)).mono ?_
              rw [edb]
              rintro e w4 ⟨rfl, hb4⟩
              have hk4 := below_then hk3 hb4.below
              clear hb4 hk3
              have t4 := hk4.size
              go_wp2_with fail
              refine (colJ_any xn _).mono ?_
              rw [gx]
              rintro e wq ⟨rfl, rfl⟩
              go_wp2_with fail
              refine (colJ_any yn _).mono ?_
              rw [gy]
              rintro e w4 ⟨rfl, rfl⟩
              go_wp2_with fail
              refine (l5Join_any _ _ da b xn yn _ (h1.below hk4) (h2.below hk4) eda eb).mono ?_
              obtain ⟨b0, HB0⟩ : ∃ bb : Bool, Hid (bb = bothHave da b xn yn) := ⟨_, rfl⟩
              rw [← HB0.out]
              rintro e w5 ⟨j0, rfl, Z0, hb5⟩
              have hk5 := below_then hk4 hb5
              have s5 := hb5.size
              have t5 := hk5.size
              clear hb5 hk4
              go_wp2_with fail
              refine (l5Join_any _ _ a db xn yn _ (h0.below hk5) (h3.below hk5) ea edb).mono ?_
              obtain ⟨b1, HB1⟩ : ∃ bb : Bool, Hid (bb = bothHave a db xn yn) := ⟨_, rfl⟩
              rw [← HB1.out]
              rintro e w6 ⟨j1, rfl, Z1, hb6⟩
              have hk6 := below_then hk5 hb6
              have s6 := hb6.size
              have t6 := hk6.size
              have Z0' := fun hb => (Z0 hb).keep' hb6
              clear Z0
              have Z0 := Z0'
              clear Z0'
              clear hb6 hk5
              go_wp2_with fail
              refine (l5Join_any _ _ da db xn yn _ (h1.below hk6) (h3.below hk6) eda edb).mono ?_
              obtain ⟨b2, HB2⟩ : ∃ bb : Bool, Hid (bb = bothHave da db xn yn) := ⟨_, rfl⟩
              rw [← HB2.out]
              rintro e w7 ⟨j2, rfl, Z2, hb7⟩
              have hk7 := below_then hk6 hb7
              have s7 := hb7.size
              have t7 := hk7.size
              have Z0' := fun hb => (Z0 hb).keep' hb7
              clear Z0
              have Z0 := Z0'
              clear Z0'
              have Z1' := fun hb => (Z1 hb).keep' hb7
              clear Z1
              have Z1 := Z1'
              clear Z1'
              clear hb7 hk6
              cases b0 with
              | false =>
                obtain ⟨q0, q1⟩ := dj_not (a := a) (da := da) (b := b) (db := db) (x := (xn : Int)) (y := (yn : Int)) (by simp [djCan, k0, ← HB0.out])
                have HE0 : Hid (c = false) := HC.out.trans q0
                have HE1 : Hid (os = []) := HO.out.trans q1
                have HK : Hid (Below w.heap.size w w7) := hk7
                clear hk7 h0 h1 h2 h3 Z0 Z1 Z2 q0 q1
                go_wp2
                go_ret2
                rw [HE0.out, HE1.out]
                exact ⟨_, rfl, (lit_ownZ w7).wide HK.out.size (Nat.le_refl _) (Nat.le_refl _), below_then HK.out (below_alloc _)⟩
              | true =>
                cases b1 with
                | false =>
                  obtain ⟨q0, q1⟩ := dj_not (a := a) (da := da) (b := b) (db := db) (x := (xn : Int)) (y := (yn : Int)) (by simp [djCan, k1, ← HB1.out])
                  have HE0 : Hid (c = false) := HC.out.trans q0
                  have HE1 : Hid (os = []) := HO.out.trans q1
                  have HK : Hid (Below w.heap.size w w7) := hk7
                  clear hk7 h0 h1 h2 h3 Z0 Z1 Z2 q0 q1
                  go_wp2
                  go_ret2
                  rw [HE0.out, HE1.out]
                  exact ⟨_, rfl, (lit_ownZ w7).wide HK.out.size (Nat.le_refl _) (Nat.le_refl _), below_then HK.out (below_alloc _)⟩
                | true =>
                  cases b2 with
                  | false =>
                    obtain ⟨q0, q1⟩ := dj_not (a := a) (da := da) (b := b) (db := db) (x := (xn : Int)) (y := (yn : Int)) (by simp [djCan, k2, ← HB2.out])
                    have HE0 : Hid (c = false) := HC.out.trans q0
                    have HE1 : Hid (os = []) := HO.out.trans q1
                    have HK : Hid (Below w.heap.size w w7) := hk7
                    clear hk7 h0 h1 h2 h3 Z0 Z1 Z2 q0 q1
                    go_wp2
                    go_ret2
                    rw [HE0.out, HE1.out]
                    exact ⟨_, rfl, (lit_ownZ w7).wide HK.out.size (Nat.le_refl _) (Nat.le_refl _), below_then HK.out (below_alloc _)⟩
                  | true =>
                    have q0 : zOkB (djZ a da b db xn yn) = c := by rw [HC.out]; simp [djOk, djIn, djCan, ea, eda, eb, edb, k0, k1, k2, ← HB0.out, ← HB1.out, ← HB2.out]
                    have q1 : (if zOkB (djZ a da b db xn yn) then djZ a da b db xn yn else []) = os := by rw [HO.out]; unfold djOut; rw [← HC.out, ← q0]
                    have Y0 := Z0 rfl
                    have Y1 := Z1 rfl
                    have Y2 := Z2 rfl
                    clear Z0 Z1 Z2 h0 h1 h2 h3
                    have hd : djZ a da b db xn yn = addZ (addZ (addZ [] (joinZ da b xn yn)) (addZ [] (joinZ a db xn yn))) (addZ [] (joinZ da db xn yn)) := rfl
                    have M0 := lo_pair eda eb xn yn
                    have M1 := lo_pair ea edb xn yn
                    have M2 := lo_pair eda edb xn yn
                    have M3 := lo_add M0 M1
                    go_wp2_with fail
                    refine (l2Add_any j0 j1 _ _ _ Y0.items Y1.items (M0.mild (by omega)) (M1.mild (by omega))).mono ?_
                    rintro e w8 ⟨a1, rfl, A1, hb8⟩
                    have hk8 := below_then hk7 hb8
                    have s8 := hb8.size
                    have t8 := hk8.size
                    have Y2' := Y2.keep' hb8
                    clear Y0 Y1 Y2 hb8 hk7
                    go_wp2_with fail
                    refine (l2Add_any a1 j2 _ _ _ A1.items Y2'.items (M3.mild (by omega)) (M2.mild (by omega))).mono ?_
                    rintro e w9 ⟨a2, rfl, A2, hb9⟩
                    have hk9 := below_then hk8 hb9
                    have s9 := hb9.size
                    have t9 := hk9.size
                    rw [← hd] at A2
                    clear A1 Y2' hb9 hk8
                    go_wp2_with fail
                    refine (l2Told_any a2 (djZ a da b db xn yn) _ _ _ A2 (by omega)).mono ?_
                    rw [q0] at *
                    rw [q1]
                    rintro e w10 ⟨vr, rfl, R1, hb10⟩
                    have HK : Hid (Below w.heap.size w w10) := below_then hk9 hb10
                    have R : Hid (OwnZ w10 w.heap.size w10.heap.size vr os) := R1.wide (by omega) (Nat.le_refl _) (Nat.le_refl _)
                    clear R1 A2 hb10 hk9 q0 q1 hd
                    go_wp2
                    go_ret2
                    exact ⟨_, rfl, R.out, HK.out⟩

end Go.Proofs.Ytjojkemegfljmaa
