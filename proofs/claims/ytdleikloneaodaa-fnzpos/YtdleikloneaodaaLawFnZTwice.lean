/-
  The walk of laws.FnZTwice, out of the contracts: it answers true whatever the bytes are, and nothing that was there is written.
-/
import Derived.Test.YtdleikloneaodaaZVals
import Derived.Deep.RegionHeld
import Derived.Deep.DrawnRows
namespace Go.Proofs.Ytdleikloneaodaa
open Go.RowKit
attribute [local go_sem ↓] Go.wp_at_zero Go.wp_at_succ

/-- Each weight twice. -/
def dblZ (zs : List It) : List It := zs.map fun p => (p.1, p.2 + p.2)
theorem getZ_dbl (q : List Int) : ∀ a : List It, getZ (dblZ a) q = getZ a q + getZ a q
  | [] => rfl
  | p :: a => by
    have ih := getZ_dbl q a
    have e : dblZ (p :: a) = (p.1, p.2 + p.2) :: dblZ a := rfl
    rw [e, getZ_cons, getZ_cons, ih]
    by_cases h : p.1 = q <;> simp [h]
theorem add_dbl {a : List It} (h : Srt a) (hn : Nz a) : addZ a a = dblZ a := by
  refine canon (srt_add h) (nz_add hn) ?_ (fun p hp => ?_) fun q => by rw [getZ_add h h, getZ_dbl]
  · unfold Srt dblZ at *
    rw [List.pairwise_map]
    exact h
  · obtain ⟨q, hq, rfl⟩ := List.mem_map.1 hp
    have := hn q hq
    show q.2 + q.2 ≠ 0
    omega
theorem pos_dbl (a : List It) : posZ (dblZ a) = posZ a := by
  unfold posZ dblZ
  rw [List.filter_map, List.map_map]
  have e : (fun p : It => decide (0 < p.2)) ∘ (fun p : It => (p.1, p.2 + p.2)) = fun p : It => decide (0 < p.2) := by
    funext p
    simp only [Function.comp]
    congr 1
    apply propext
    omega
  rw [e]
  rfl
theorem getZ_own {a : List It} (h : zOkB a = true) {k : Nat} (hk : k < a.length) : getZ a (a.getD k ([], 0)).1 = (a.getD k ([], 0)).2 :=
  getZ_at hk (fun j hj e => by have := zOk_ord h hj hk; rw [e, ordL_self] at this; omega) rfl
/-- The cells of items at a place. -/
theorem TailZ.at {w : World} {a : Option Addr} {n cap : Nat} {zs : List It} (h : TailZ w (.slice a n cap) zs) {k : Nat} (hk : k < zs.length) :
    ∃ b off xa xn xc, a = some ⟨b, off, none⟩ ∧ b < w.heap.size ∧ w.cell? ⟨b, off + k * 2, none⟩ = some (.slice xa xn xc) ∧ w.cell? ⟨b, off + k * 2 + 1, none⟩ = some (.int .i64 (zs.getD k ([], 0)).2) ∧ IntsAt w (.slice xa xn xc) (zs.getD k ([], 0)).1 := by
  obtain ⟨_, a', c', e, _, hc⟩ := h.items
  obtain ⟨b, off, rfl, hb, hcell⟩ := hc (fun e => by rw [e] at hk; simp at hk)
  obtain ⟨rv, c0, c1, c2⟩ := hcell k hk
  obtain ⟨xa, xn, xc, rfl⟩ := c2.shape
  simp at e
  exact ⟨b, off, xa, xn, xc, e.1, hb, c0, c1, c2⟩

set_option maxRecDepth 100000 in
set_option maxHeartbeats 16000000 in
theorem lawFnZTwice (a : Option Addr) (len cap : Nat) (bs : List Int) (w : World) (h : IsRow .u8 w a len cap bs) :
    Calls Try.prog 6 #[.slice a len cap] w fun e w' => e = .returned (.bool true) ∧ Below w.heap.size w w' := by
  by_cases hbig : (1048576 : Int) < (len : Int)
  · go_enter Try.func6, Try.ntmps6
    go_wp2
    go_ret
    exact ⟨rfl, Below.refl _ _⟩
  go_enter Try.func6, Try.ntmps6
  go_wp2_with fail
  refine (drawZNeg_any a len cap bs _ h).mono ?_
  rintro e w1 ⟨va, rfl, zs, hgz, TA, hk1⟩
  have hz200 : zs.length ≤ 200 := hgz.1
  clear h hgz
  cases hz : zOkB zs with
  | false =>
    obtain ⟨e1, e2⟩ := add_no_l zs hz
    go_wp2_with fail
    refine (add_val e1 e2 TA TA).mono ?_
    rintro e w2 ⟨vx, rfl, TX, hb2⟩
    have hk2 := below_then hk1 hb2
    have A_2 := TA.below hb2
    clear hb2 hk1 TA
    go_wp2_with fail
    refine (specAdd_val e1 e2 A_2 A_2).mono ?_
    rintro e w3 ⟨vy, rfl, TY, hb3⟩
    have hk3 := below_then hk2 hb3
    have A_3 := A_2.below hb3
    have X_3 := TX.below hb3
    clear hb3 hk2 A_2 TX
    go_wp2_with fail
    refine (zsame_val (zsB_refl _) X_3 TY).mono ?_
    rintro e w4 ⟨rfl, hb4⟩
    have hk4 := below_then hk3 hb4
    have A_4 := A_3.below hb4
    have X_4 := X_3.below hb4
    have Y_4 := TY.below hb4
    clear hb4 hk3 A_3 X_3 TY
    go_wp2_with fail
    refine (zsame_val (zsB_refl _) X_4 Y_4).mono ?_
    rintro e w5 ⟨rfl, hb5⟩
    have hk5 := below_then hk4 hb5
    have A_5 := A_4.below hb5
    have X_5 := X_4.below hb5
    have Y_5 := Y_4.below hb5
    clear hb5 hk4 A_4 X_4 Y_4
    clear A_5 X_5 Y_5
    clear e1 e2
    go_wp2
    go_ret
    exact ⟨rfl, hk5⟩
  | true =>
    cases hs : zOkB (addZ zs zs) with
    | false =>
      obtain ⟨e1, e2⟩ := add_not hz hz rfl hs
      go_wp2_with fail
      refine (add_val e1 e2 TA TA).mono ?_
      rintro e w2 ⟨vx, rfl, TX, hb2⟩
      have hk2 := below_then hk1 hb2
      have A_2 := TA.below hb2
      clear hb2 hk1 TA
      go_wp2_with fail
      refine (specAdd_val e1 e2 A_2 A_2).mono ?_
      rintro e w3 ⟨vy, rfl, TY, hb3⟩
      have hk3 := below_then hk2 hb3
      have A_3 := A_2.below hb3
      have X_3 := TX.below hb3
      clear hb3 hk2 A_2 TX
      go_wp2_with fail
      refine (zsame_val (zsB_refl _) X_3 TY).mono ?_
      rintro e w4 ⟨rfl, hb4⟩
      have hk4 := below_then hk3 hb4
      have A_4 := A_3.below hb4
      have X_4 := X_3.below hb4
      have Y_4 := TY.below hb4
      clear hb4 hk3 A_3 X_3 TY
      go_wp2_with fail
      refine (zsame_val (zsB_refl _) X_4 Y_4).mono ?_
      rintro e w5 ⟨rfl, hb5⟩
      have hk5 := below_then hk4 hb5
      have A_5 := A_4.below hb5
      have X_5 := X_4.below hb5
      have Y_5 := Y_4.below hb5
      clear hb5 hk4 A_4 X_4 Y_4
      clear A_5 X_5 Y_5
      clear e1 e2
      go_wp2
      go_ret
      exact ⟨rfl, hk5⟩
    | true =>
      obtain ⟨e1, e2⟩ := add_yes hz hz rfl hs
      go_wp2_with fail
      refine (add_val e1 e2 TA TA).mono ?_
      rintro e w2 ⟨vx, rfl, TX, hb2⟩
      have hk2 := below_then hk1 hb2
      have A_2 := TA.below hb2
      clear hb2 hk1 TA
      go_wp2_with fail
      refine (specAdd_val e1 e2 A_2 A_2).mono ?_
      rintro e w3 ⟨vy, rfl, TY, hb3⟩
      have hk3 := below_then hk2 hb3
      have A_3 := A_2.below hb3
      have X_3 := TX.below hb3
      clear hb3 hk2 A_2 TX
      go_wp2_with fail
      refine (zsame_val (zsB_refl _) X_3 TY).mono ?_
      rintro e w4 ⟨rfl, hb4⟩
      have hk4 := below_then hk3 hb4
      have A_4 := A_3.below hb4
      have X_4 := X_3.below hb4
      have Y_4 := TY.below hb4
      clear hb4 hk3 A_3 X_3 TY
      clear Y_4
      have HZ : Hid (zOkB zs = true) := hz
      have HSM : Hid (zOkB (addZ zs zs) = true) := hs
      have hdb := add_dbl (zOk_srt hz) (zOk_nz hz)
      have hlen : (addZ zs zs).length = zs.length := by rw [hdb]; simp [dblZ]
      have HDB : Hid (addZ zs zs = dblZ zs) := hdb
      obtain ⟨sa, sc, rfl⟩ := A_4.shape
      obtain ⟨da, dc, rfl⟩ := X_4.shape
      rw [hlen]
      obtain ⟨n, hn⟩ : ∃ n, n = zs.length := ⟨_, rfl⟩
      have HN : Hid (n = zs.length) := hn
      have HTA : Hid (TailZ w4 (.slice sa n sc) zs) := by rw [hn]; exact A_4
      have HTX : Hid (TailZ w4 (.slice da n dc) (addZ zs zs)) := by have := X_4; rw [hlen, ← hn] at this; exact this
      have HK0 : Hid (Below w.heap.size w w4) := hk4
      rw [← hn] at hz200 ⊢
      clear hn hlen hdb e1 e2 hs hz A_4 X_4 hk4
      go_wp2
      go_loopw [8] (fun i wr => ∃ k : Nat, k ≤ n ∧ i = .int .i64 k ∧ Hid (Below w4.heap.size w4 wr)) (fun i _ => n - (intOf i).toNat)
      case atStart => exact ⟨0, Nat.zero_le _, rfl, Below.refl _ _⟩
      case round =>
        obtain ⟨k, hk, rfl, HW⟩ := hrel
        by_cases hlt : k < n
        · have hkz : k < zs.length := by rw [← HN.out]; exact hlt
          obtain ⟨b, off, xa, xn, xc, rfl, hb, c0, c1, hix⟩ := (HTA.out.below HW.out).at hkz
          have TD := (HTX.out.below HW.out).below (Below.drew (Below.refl _ _))
          have hwt := (wB_in (zOk_row HZ.out hkz).2).2
          obtain ⟨x, HX⟩ : ∃ x, Hid (x = (zs.getD k ([], 0)).1) := ⟨_, rfl⟩
          obtain ⟨y, HY⟩ : ∃ y, Hid (y = (zs.getD k ([], 0)).2) := ⟨_, rfl⟩
          have g1 : (if zOkB (addZ zs zs) then getZ (addZ zs zs) x else 0) = 2 * y := by
            rw [get_ok HSM.out, HDB.out, getZ_dbl, HX.out, getZ_own HZ.out hkz, HY.out]; omega
          rw [← HX.out] at hix
          rw [← HY.out] at c1 hwt
          have hwrap : IntKind.i64.wrap (2 * y) = 2 * y := by rw [IntKind.wrap_i64]; omega
          have hixd : IntsAt wr.drew (.slice xa xn xc) x := hix.below (Below.drew (Below.refl _ _))
          clear hix
          go_wp2
          go_region_held (fun w' => w'.cell? ⟨b, off + k * 2, none⟩ = some (.slice xa xn xc) ∧ w'.cell? ⟨b, off + k * 2 + 1, none⟩ = some (.int .i64 y)) (go_keep)
            ((go_at_call 15; refine (get_val g1 TD hixd).mono ?_; rintro e w2 ⟨rfl, hb2⟩; have q0 := cell_is (p := ⟨b, off + k * 2, none⟩) hb2 hb c0; have q1 := cell_is (p := ⟨b, off + k * 2 + 1, none⟩) hb2 hb c1))
          all_goals
            have HK : Hid (Below w4.heap.size w4 w2) := below_then (below_then HW.out (Below.drew (Below.refl _ _))) hb2
            clear hb2 q0 q1 c0 c1 TD hixd g1
            go_wp2
            go_roundw
            case rel => exact ⟨k + 1, by omega, by go_num, HK.out⟩
            case measure => simp [intOf]; omega
        · obtain rfl : k = n := by omega
          have TA9 := HTA.out.below HW.out
          have TX9 := HTX.out.below HW.out
          have hk9 := below_then HK0.out HW.out
          have hz := HZ.out
          have e5 : (if zOkB zs then negZ zs else []) = negZ zs := by rw [hz]; rfl
          obtain ⟨e3, e4⟩ := add_yes HSM.out ((zOk_neg zs).trans hz) (add_back (zOk_srt hz) (zOk_nz hz) (zOk_srt hz)) hz
          have e6 : (if zOkB (addZ zs zs) then posZ (addZ zs zs) else []) = posZ zs := by rw [HSM.out, HDB.out]; simp [pos_dbl]
          have e7 : (if zOkB zs then posZ zs else []) = posZ zs := by rw [hz]; rfl
          go_wp2_with fail
          refine (neg_val e5 TA9).mono ?_
          rintro e w31 ⟨vn, rfl, TN, hb31⟩
          have hk31 := below_then hk9 hb31
          have A_31 := TA9.below hb31
          have X_31 := TX9.below hb31
          clear hb31 hk9 TA9 TX9
          go_wp2_with fail
          refine (add_val e3 e4 X_31 TN).mono ?_
          rintro e w32 ⟨vk, rfl, TK, hb32⟩
          have hk32 := below_then hk31 hb32
          have A_32 := A_31.below hb32
          have X_32 := X_31.below hb32
          have N_32 := TN.below hb32
          clear hb32 hk31 A_31 X_31 TN
          clear N_32
          go_wp2_with fail
          refine (zsame_val (zsB_refl _) TK A_32).mono ?_
          rintro e w33 ⟨rfl, hb33⟩
          have hk33 := below_then hk32 hb33
          have A_33 := A_32.below hb33
          have X_33 := X_32.below hb33
          have K_33 := TK.below hb33
          clear hb33 hk32 A_32 X_32 TK
          clear K_33
          go_wp2_with fail
          refine (pos_val e6 X_33).mono ?_
          rintro e w34 ⟨vp, rfl, TP, hb34⟩
          have hk34 := below_then hk33 hb34
          have A_34 := A_33.below hb34
          have X_34 := X_33.below hb34
          clear hb34 hk33 A_33 X_33
          go_wp2_with fail
          refine (pos_val e7 A_34).mono ?_
          rintro e w35 ⟨vq, rfl, TQ, hb35⟩
          have hk35 := below_then hk34 hb35
          have A_35 := A_34.below hb35
          have X_35 := X_34.below hb35
          have P_35 := TP.below hb35
          clear hb35 hk34 A_34 X_34 TP
          go_wp2_with fail
          refine (zsame_val (zsB_refl _) P_35 TQ).mono ?_
          rintro e w36 ⟨rfl, hb36⟩
          have hk36 := below_then hk35 hb36
          have A_36 := A_35.below hb36
          have X_36 := X_35.below hb36
          have P_36 := P_35.below hb36
          have Q_36 := TQ.below hb36
          clear hb36 hk35 A_35 X_35 P_35 TQ
          clear A_36 X_36 P_36 Q_36
          clear e3 e4 e5 e6 e7 hz
          go_wp2
          go_ret
          exact ⟨rfl, hk36⟩

end Go.Proofs.Ytdleikloneaodaa
