/-
  The contracts of spec.ZText, impl.itemText and impl.ZText: at all items of together at most 2^20 both return their text, and write nothing that was there. Condition: the table of powers of ten reads as it was laid.
-/
import Derived.Test.YtnkhgppfnkglfaaGreatDoorZTextMath
import Derived.Test.YtnkhgppfnkglfaaGreatDoorText
import Derived.Deep.RegionHeld
import Derived.Deep.DrawnRows
namespace Go.Proofs.YtnkhgppfnkglfaaGreatDoor
set_option maxRecDepth 100000
open Go.RowKit
attribute [local go_sem ↓] Go.wp_at_zero Go.wp_at_succ

theorem cell_at {w w' : World} {p : Addr} {u : Value} (hb : Below w.heap.size w w') (hp : p.block < w.heap.size) (h : w.cell? p = some u) : w'.cell? p = some u := (hb.cell hp).trans h

set_option maxHeartbeats 2000000 in
theorem itemText_any (rv : Value) (x : List Int) (y : Int) (w : World) (h : IntsAt w rv x) (htab : Tab w) (hwx : WfInts x) (hxl : x.length ≤ 1048576) (hy1 : -9223372036854775808 ≤ y) (hy2 : y ≤ 9223372036854775807) :
    Calls Tryz.prog 22 #[.agg #[rv, .int .i64 y]] w fun e w' => ∃ s : ByteArray, e = .returned (.string s) ∧ s.data.toList = itemTx (x, y) ∧ Below w.heap.size w w' := by
  obtain ⟨ra, rn, rc, rfl⟩ := h.shape
  have ha : IntsAt (w.alloc (.cells #[.slice ra rn rc, .int .i64 y] 33)).drew (.slice ra rn rc) x := h.below (below_alloc _).drew
  have htd : Tab (w.alloc (.cells #[.slice ra rn rc, .int .i64 y] 33)).drew := htab.below (below_alloc _).drew
  have HR1 : Hid ((rowTx x).length ≤ 23068672) := by
    have := rowTx_le x hwx
    show _ ≤ _
    omega
  have HI1 : Hid ((Lib.itoa y).length ≤ 21) := Lib.itoa_length_le y hy1 hy2
  have HWX : Hid (WfInts x) := hwx
  clear h htab hwx
  go_enter Tryz.func22, Tryz.ntmps22
  go_wp2
  go_region_held (fun w' => w'.cell? ⟨w.heap.size, 0, none⟩ = some (.slice ra rn rc) ∧ w'.cell? ⟨w.heap.size, 1, none⟩ = some (.int .i64 y)) (go_keep)
    ((first
      | (go_at_call 42; refine (implRowText_any _ x _ htd ha HWX.out hxl).mono ?_; rintro e w2 ⟨t1, rfl, ht1, hb2⟩; have q0 := cell_at (p := ⟨w.heap.size, 0, none⟩) (u := .slice ra rn rc) hb2 (by simp) (by simp [go_sem]); have q1 := cell_at (p := ⟨w.heap.size, 1, none⟩) (u := .int .i64 y) hb2 (by simp) (by simp [go_sem]); have hz1 : t1.size ≤ 23068672 := (by rw [← size_list, ht1]; exact HR1.out); have HT1 : Hid (t1.data.toList = rowTx x) := ht1; have HB2 : Hid (Below w.heap.size w w2) := below_then (below_alloc _).drew hb2; have ht2 := htd.below hb2; have hbr2 : w.heap.size < w2.heap.size := (by have := hb2.size; simp at this; omega); clear ht1 hb2)
      | (go_at_call 43; refine (itoa_any _ _ ⟨hy1, hy2⟩ ht2).mono ?_; rintro e w3 ⟨t2, rfl, ht3, hb3⟩; have q2 := cell_at (p := ⟨w.heap.size, 0, none⟩) hb3 hbr2 q0; have q3 := cell_at (p := ⟨w.heap.size, 1, none⟩) hb3 hbr2 q1; have hz2 : t2.size ≤ 21 := (by rw [← size_list, ht3]; exact HI1.out); have HT2 : Hid (t2.data.toList = Lib.itoa y) := ht3; have HB3 : Hid (Below w2.heap.size w2 w3) := hb3; clear ht3 hb3)))
  all_goals
    have HK : Hid (Below w.heap.size w w3) := below_then HB2.out HB3.out
    have HT : Hid ((t1 ++ ⟨#[42]⟩ ++ t2 : ByteArray).data.toList = itemTx (x, y)) := by
      show _ = _
      rw [itemTx, ← HT1.out, ← HT2.out]; simp
    clear q0 q1 q2 q3 ha htd ht2
    go_wp2
    go_ret
    exact ⟨_, rfl, HT.out, HK.out⟩

/-- The writer leaves a block of another type as it was. -/
theorem check_far (B b f : Nat) (bs : List Value) (w : World) (cs : Array Value) (T : TypeId) (h : Lib.IsBuilder 44 5 B b bs w) (hf : w.heap[f]? = some (.cells cs T (0, 0))) (hT : T ≠ 44) :
    Calls Tryz.prog 41 #[.pointer (some ⟨b, 0, none⟩)] w fun e w' => e = .returned (.tuple #[]) ∧ Lib.BuilderAt 44 5 B b (.pointer (some ⟨b, 0, none⟩)) bs w' ∧ Below B w w' ∧ w'.heap[f]? = some (.cells cs T (0, 0)) := by
  rcases h with h | h
  · have hne : f ≠ b := fun e => by
      obtain ⟨_, v, hbk, _⟩ := h
      rw [e, hbk] at hf
      simp at hf
      exact hT hf.2.symm
    refine (check_fresh b w h.cell0 h.shape h.frozen0).mono fun e w' ⟨he, hw⟩ => ?_
    subst hw
    exact ⟨he, h.used _, (Below.refl B w).setCell (p := ⟨b, 0, none⟩) h.1 _, (Below.heap_setCell w ⟨b, 0, none⟩ _ f hne).trans hf⟩
  · refine (check_used b w h.cell0).mono fun e w' ⟨he, hw⟩ => ?_
    subst hw
    exact ⟨he, h, Below.refl B _, hf⟩

set_option maxHeartbeats 2000000 in
set_option maxRecDepth 100000 in
theorem writeByte_far (B b f : Nat) (bs : List Value) (c : Int) (w : World) (cs : Array Value) (T : TypeId) (h : Lib.IsBuilder 44 5 B b bs w) (hf : w.heap[f]? = some (.cells cs T (0, 0))) (hT : T ≠ 44) (hT2 : T ≠ 5) (hlen : bs.length + 1 ≤ 140737488355328) (hBw : B ≤ w.heap.size) :
    Calls Tryz.prog 20 #[.pointer (some ⟨b, 0, none⟩), .int .u8 c] w fun e w' => e = .returned .nilIface ∧ Lib.IsBuilder 44 5 B b (bs ++ [.int .u8 c]) w' ∧ Below B w w' ∧ w'.heap[f]? = some (.cells cs T (0, 0)) := by
  obtain ⟨i0, hi, hz0, hz1, hz2⟩ := info_parts byteInfo
  go_enter Tryz.func20, Tryz.ntmps20
  go_wp2_with fail
  refine (check_far B b f bs _ cs T h hf hT).mono ?_
  rintro e w1 ⟨rfl, ⟨hB, v, hbk, hown, hne⟩, hb1, hf1⟩
  have c1 : w1.cell? ⟨b, 1, none⟩ = some v := by rw [Lib.cell_of_heap hbk]; rfl
  have hs1 := hb1.size
  have HB : Hid (w1.heap[b]? = some (.cells #[.pointer (some ⟨b, 0, none⟩), v] 44 (0, 0))) := hbk
  have HF : Hid (w1.heap[f]? = some (.cells cs T (0, 0))) := hf1
  have HFB : Hid (f ≠ b) := fun e => by
    rw [e, hbk] at hf1
    simp at hf1
    exact hT hf1.2.symm
  have HFV : Hid (some f ≠ v.ownBlock) := fun e => by
    rcases hown.2 with ⟨rfl, _⟩ | ⟨g, cap, cur, rfl, _, hg, _⟩
    · simp [Value.ownBlock] at e
    · simp [Value.ownBlock] at e
      subst e
      rw [hf1] at hg
      simp at hg
      exact hT2 hg.2
  clear hbk h hf hf1
  go_wp2_with (at_builtin; refine wpList_append_own _ rfl (.tmp 11) (.tmp 13) 22 rfl B 5 i0 (.int .u8 0) 1 1 Tryz.underlying22 hi hz0 hz1 hz2 rfl (by decide) v _ _ rfl (hown.alloc (.cells #[.int .u8 c] 5)) ⟨w1.heap.size, 0, none⟩ 1 1 [.int .u8 c] rfl rfl (fun j u hj => by match j, hj with | 0, hj => simp at hj; subst hj; simp [Addr.add]) (fun u hu => by simp at hu; subst hu; rfl) (by unfold maxLen; omega) (by omega) (by simp; omega) ?_; intro v' w2 hown' hgrow _; obtain ⟨d1, f1, hput⟩ := bld_put (bs' := bs ++ [.int .u8 c]) hB ((Lib.alloc_old w1 (.cells #[.int .u8 c] 5) b (Array.getElem?_eq_some_iff.1 HB.out).1).trans HB.out) hgrow hne (by simpa using hown'); obtain ⟨a', c', hv'⟩ := ownSlice hown'; subst hv'; have hbel : Below B w w2 := (hb1.alloc (by omega) _).grown hgrow (by simp; omega) (fun k hk => (hown.lt k hk).1); have HF2 : Hid (w2.heap[f]? = some (.cells cs T (0, 0))) := (hgrow.block f (by have := (Array.getElem?_eq_some_iff.1 HF.out).1; simp; omega) HFV.out).trans ((Lib.alloc_old w1 (.cells #[.int .u8 c] 5) f (Array.getElem?_eq_some_iff.1 HF.out).1).trans HF.out); clear hown' hgrow)
  go_ret
  exact ⟨rfl, .inr hput, hbel.setCell (p := ⟨b, 1, none⟩) hB _, (Below.heap_setCell _ ⟨b, 1, none⟩ _ f HFB.out).trans HF2.out⟩

set_option maxHeartbeats 4000000 in
theorem implZText_some (b off cap : Nat) (zs : List It) (w : World) (htab : Tab w) (hwf : WfZ zs) (hpos : 0 < zs.length) (hlim : zs.length + rowsLen zs ≤ 1048576) (hbw : b < w.heap.size)
    (hc : ∀ j, j < zs.length → ∃ rv, w.cell? ⟨b, off + j * 2, none⟩ = some rv ∧ w.cell? ⟨b, off + j * 2 + 1, none⟩ = some (.int .i64 (zs.getD j ([], 0)).2) ∧ IntsAt w rv (zs.getD j ([], 0)).1) :
    Calls Tryz.prog 8 #[.slice (some ⟨b, off, none⟩) zs.length cap] w fun e w' => ∃ s : ByteArray, e = .returned (.string s) ∧ s.data.toList = zTx zs ∧ Below w.heap.size w w' := by
  obtain ⟨n, hn⟩ : ∃ n, n = zs.length := ⟨_, rfl⟩
  have HN : Hid (n = zs.length) := hn
  have HLIM : Hid (zs.length + rowsLen zs ≤ 1048576) := hlim
  have hnl : n ≤ 1048576 := by omega
  rw [← hn] at hpos hc ⊢
  clear hn hlim
  have hfr := Lib.fresh_isBuilder 44 5 w
  have HTAB : Hid (Tab w) := htab
  clear htab
  go_enter Tryz.func8, Tryz.ntmps8
  go_wp2
  go_loopw [8] (fun i wr => ∃ (k : Nat), k ≤ n ∧ i = .int .i64 k ∧ Hid (BldAt wr w.heap.size w.heap.size (zTx (zs.take k))) ∧ Hid (Below w.heap.size w wr))
    (fun i _ => n - (intOf i).toNat)
  case atStart => exact ⟨0, Nat.zero_le _, rfl, by simpa [Hid, BldAt, zTx, Lib.byteCells] using hfr, below_alloc _⟩
  case round =>
    obtain ⟨k, hk, rfl, HBL, HW⟩ := hrel
    clear hfr
    by_cases hlt : k < n
    · obtain ⟨rv, hc0, hc1, hix0⟩ := hc k hlt
      have hkx : k < zs.length := by rw [← HN.out]; exact hlt
      obtain ⟨x, HX⟩ : ∃ x, Hid (x = (zs.getD k ([], 0)).1) := ⟨_, rfl⟩
      obtain ⟨y, HY⟩ : ∃ y, Hid (y = (zs.getD k ([], 0)).2) := ⟨_, rfl⟩
      have HWF := hwf.at hkx
      have hxl : x.length ≤ 1048576 := by have := rowsLen_atLe hkx; have := HLIM.out; rw [HX.out]; omega
      rw [← HX.out] at hix0
      rw [← HY.out] at hc1
      rw [← HX.out, ← HY.out] at HWF
      obtain ⟨hwx, hy1, hy2⟩ := HWF
      have g0 : wr.cell? ⟨b, off + k * 2, none⟩ = some rv := cell_at HW.out hbw hc0
      have g1 : wr.cell? ⟨b, off + k * 2 + 1, none⟩ = some (.int .i64 y) := cell_at HW.out hbw hc1
      have HIX : Hid (IntsAt w rv x) := hix0
      have HFL : Hid ((zTx (zs.take k)).length ≤ 24117248) := by
        have h1 := zTx_le _ (hwf.take k)
        have h2 := rowsLen_takeLe k zs
        have h3 := HLIM.out
        show _ ≤ _
        omega
      have HIL : Hid ((itemTx (x, y)).length ≤ 24117248) := by
        have := itemTx_le (p := (x, y)) ⟨hwx, hy1, hy2⟩
        show _ ≤ _
        simp at this
        omega
      have HWX : Hid (WfInts x) := hwx
      obtain ⟨ra, rn, rc, rfl⟩ := hix0.shape
      have hA : Below wr.heap.size wr (wr.alloc (.cells #[.slice ra rn rc, .int .i64 y] 33)) := below_alloc _
      have t0 : (wr.alloc (.cells #[.slice ra rn rc, .int .i64 y] 33)).cell? ⟨wr.heap.size, 0, none⟩ = some (.slice ra rn rc) := by simp [go_sem]
      have t1 : (wr.alloc (.cells #[.slice ra rn rc, .int .i64 y] 33)).cell? ⟨wr.heap.size, 1, none⟩ = some (.int .i64 y) := by simp [go_sem]
      have HT0 : Hid ((wr.alloc (.cells #[.slice ra rn rc, .int .i64 y] 33)).cell? ⟨wr.heap.size, 0, none⟩ = some (.slice ra rn rc)) := t0
      have HT1 : Hid ((wr.alloc (.cells #[.slice ra rn rc, .int .i64 y] 33)).cell? ⟨wr.heap.size, 1, none⟩ = some (.int .i64 y)) := t1
      have hblA := bld_below HBL.out hA
      have hkA : Below w.heap.size w (wr.alloc (.cells #[.slice ra rn rc, .int .i64 y] 33)) := below_then HW.out hA
      have hsA := hkA.size
      have hsR := HW.out.size
      clear hc0 hc1 hix0 hc hwx hA t0 t1
      by_cases hk0 : 0 < k
      · have hkk : (0 : Int) < (k : Int) := by omega
        have HR : Hid (zTx (zs.take (k + 1)) = zTx (zs.take k) ++ 32 :: itemTx (x, y)) := by
          show _ = _
          rw [zTx_next hkx hk0, HX.out, HY.out]
        go_wp2_with fail
        refine (writeByte_far _ _ wr.heap.size _ _ _ _ _ hblA (heap_alloc_new wr _) (by decide) (by decide) (by have := HFL.out; simp [Lib.byteCells]; omega) hsA).mono ?_
        rintro e w1 ⟨rfl, hbl1, hb1, hf1⟩
        have HK1 : Hid (Below w.heap.size w w1) := hkA.trans hb1
        have q0 : w1.cell? ⟨wr.heap.size, 0, none⟩ = some (.slice ra rn rc) := by rw [Lib.cell_of_heap hf1]; rfl
        have q1 : w1.cell? ⟨wr.heap.size, 1, none⟩ = some (.int .i64 y) := by rw [Lib.cell_of_heap hf1]; rfl
        have hix1 : IntsAt w1 (.slice ra rn rc) x := HIX.out.below HK1.out
        have ht1 := HTAB.out.below HK1.out
        clear hblA hkA hb1 hf1 g0 g1
        go_wp2_with fail
        refine (itemText_any _ x y _ hix1 ht1 HWX.out hxl hy1 hy2).mono ?_
        rintro e w2 ⟨t, rfl, ht, hb2⟩
        have hbl2 := bld_below hbl1 hb2
        have HK2 : Hid (Below w.heap.size w w2) := below_then HK1.out hb2
        have htz : t.size ≤ 24117248 := by rw [← size_list, ht]; exact HIL.out
        have HT : Hid (t.data.toList = itemTx (x, y)) := ht
        have hs2 := HK2.out.size
        clear hbl1 ht1 hb2 ht q0 q1 hix1
        go_wp2_with fail
        refine (writeString_any _ _ _ _ _ hbl2 (by have := HFL.out; simp [Lib.byteCells]; omega) hs2).mono ?_
        rintro e w3 ⟨rfl, hbl3, hb3⟩
        have HBL3 : Hid (BldAt w3 w.heap.size w.heap.size (zTx (zs.take (k + 1)))) := by
          have h1 : Lib.byteCells (zTx (zs.take (k + 1))) = Lib.byteCells (zTx (zs.take k)) ++ [.int .u8 32] ++ Lib.strCells t := by
            rw [HR.out, ← HT.out]; simp [Lib.byteCells, Lib.strCells]
          show BldAt _ _ _ _
          unfold BldAt
          rw [h1]
          exact hbl3
        have HK3 : Hid (Below w.heap.size w w3) := HK2.out.trans hb3
        clear hbl2 hbl3 hb3
        go_wp2
        go_roundw
        case rel => exact ⟨k + 1, by omega, by go_num, HBL3.out, HK3.out⟩
        case measure => simp [intOf]; omega
      · have HK0 : Hid (k = 0) := by show k = 0; omega
        have hkk : ¬ (0 : Int) < (k : Int) := by omega
        have HR : Hid (zTx (zs.take (k + 1)) = itemTx (x, y)) := by
          show _ = _
          have h1 := zTx_first (zs := zs) (by omega)
          rw [HX.out, HY.out, HK0.out, h1]
        have hbl0 : Lib.IsBuilder 44 5 w.heap.size w.heap.size [] (wr.alloc (.cells #[.slice ra rn rc, .int .i64 y] 33)) := by
          have := hblA
          rw [HK0.out] at this
          simpa [zTx, Lib.byteCells] using this
        have hix1 : IntsAt (wr.alloc (.cells #[.slice ra rn rc, .int .i64 y] 33)) (.slice ra rn rc) x := HIX.out.below hkA
        have ht1 := HTAB.out.below hkA
        have HK1 : Hid (Below w.heap.size w (wr.alloc (.cells #[.slice ra rn rc, .int .i64 y] 33))) := hkA
        clear hblA hkA
        go_wp2_with fail
        refine (itemText_any _ x y _ hix1 ht1 HWX.out hxl hy1 hy2).mono ?_
        rintro e w2 ⟨t, rfl, ht, hb2⟩
        have hbl2 := bld_below hbl0 hb2
        have HK2 : Hid (Below w.heap.size w w2) := below_then HK1.out hb2
        have htz : t.size ≤ 24117248 := by rw [← size_list, ht]; exact HIL.out
        have HT : Hid (t.data.toList = itemTx (x, y)) := ht
        have hs2 := HK2.out.size
        clear hbl0 ht1 hb2 ht hix1 g0 g1
        go_wp2_with fail
        refine (writeString_any _ _ _ _ _ hbl2 (by simp; omega) hs2).mono ?_
        rintro e w3 ⟨rfl, hbl3, hb3⟩
        have HBL3 : Hid (BldAt w3 w.heap.size w.heap.size (zTx (zs.take (k + 1)))) := by
          have h1 : Lib.byteCells (zTx (zs.take (k + 1))) = [] ++ Lib.strCells t := by
            rw [HR.out, ← HT.out]; simp [Lib.byteCells, Lib.strCells]
          show BldAt _ _ _ _
          unfold BldAt
          rw [h1]
          exact hbl3
        have HK3 : Hid (Below w.heap.size w w3) := HK2.out.trans hb3
        clear hbl2 hbl3 hb3
        go_wp2
        go_roundw
        case rel => exact ⟨k + 1, by omega, by go_num, HBL3.out, HK3.out⟩
        case measure => simp [intOf]; omega
    · have e : k = n := by omega
      subst e
      have hbl2 : BldAt wr w.heap.size w.heap.size (zTx zs) := by
        have := HBL.out
        rw [HN.out, List.take_length] at this
        exact this
      have hws := HW.out.size
      clear hc
      go_wp2_with fail
      refine (Tryz.Builder_String_any _ _ _ _ hbl2 hws).mono ?_
      rintro e w1 ⟨rfl, hb1⟩
      have hk1 : Below w.heap.size w w1 := HW.out.trans hb1
      clear hbl2 hb1
      go_wp2
      go_ret
      exact ⟨_, rfl, rfl, hk1⟩

theorem implZText_any (v : Value) (zs : List It) (w : World) (htab : Tab w) (h : ItemsAt w v zs) (hwf : WfZ zs) (hlim : zs.length + rowsLen zs ≤ 1048576) :
    Calls Tryz.prog 8 #[v] w fun e w' => ∃ s : ByteArray, e = .returned (.string s) ∧ s.data.toList = zTx zs ∧ Below w.heap.size w w' := by
  rcases h.cases with ⟨a, cap, rfl, rfl⟩ | ⟨b, off, cap, hpos, _, rfl, hbw, hc⟩
  · have hfr := Lib.fresh_isBuilder 44 5 w
    have hb : Below w.heap.size w (w.alloc (.cells #[.pointer none, .slice none 0 0] 44)) := below_alloc _
    clear h htab
    go_enter Tryz.func8, Tryz.ntmps8
    go_wp2
    refine wp_loop_rounds 1 ?_
    rw [rounds_succ]
    go_wp2_with fail
    refine (Tryz.Builder_String_empty _ _ _ hfr (by simp)).mono ?_
    rintro e w1 ⟨rfl, hb1⟩
    have hk1 : Below w.heap.size w w1 := hb.trans hb1
    clear hfr hb hb1
    go_wp2
    go_ret
    exact ⟨_, rfl, rfl, hk1⟩
  · exact implZText_some b off cap zs w htab hwf hpos hlim hbw hc

end Go.Proofs.YtnkhgppfnkglfaaGreatDoor
