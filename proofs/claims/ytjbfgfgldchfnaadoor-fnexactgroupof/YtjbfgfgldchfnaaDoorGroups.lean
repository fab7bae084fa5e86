/-
  A map from a text to items of the call's own: for each text the triples that lie in its slice; no two texts' slices lie in one block; the contract of impl.groups.
-/
import Derived.Test.YtjbfgfgldchfnaaDoorGroupFacts
import Derived.Maps.RangeWalk
namespace Go.Proofs.YtjbfgfgldchfnaaDoor
set_option maxRecDepth 100000
open Go.RowKit Go.Maps
attribute [local go_sem ↓] Go.wp_at_zero Go.wp_at_succ

/-- append of pairs, and where the new slice lies. -/
theorem wpList_append_at {P : Program} {w : World} {ops : Array Oper} {rest : List Oper} {o : Oper} {a : Act} {Q : Exit → Act → World → Prop}
    (hg : o.guard = none) (s x : Operand) (t : TypeId) (hop : o.op = Op.call { callee := Callee.builtin Builtin.append, args := #[s, x], argTypes := #[t, t] })
    (base : Nat) (e : TypeId) (i : TypeInfo) (ht : P.underlying t = some (.slice e)) (hi : P.info? e = some i) (hz : i.zero = some (.agg #[.slice none 0 0, .int .i64 0]))
    (hsize : i.size = 2) (hby : i.bytes = 32)
    (v : Value) (ps : List (Value × Int)) (hs : a.eval s = v) (hown : w.ownsRow base e 2 v ps.length (cells2 ps))
    (ad : Addr) (m c : Nat) (qs : List (Value × Int)) (hx : a.eval x = .slice (some ad) m c) (hp : PairsAt w (.slice (some ad) m c) qs)
    (hbytes : (ps.length + qs.length) * 32 ≤ 140737488355328) (hbase : base ≤ w.heap.size)
    (hK : ∀ v' w', w'.ownsRow base e 2 v' (ps ++ qs).length (cells2 (ps ++ qs)) → w.grownBy w' v.ownBlock → (v'.ownBlock = v.ownBlock ∨ v'.ownBlock = some w.heap.size) → wpList P ops Q rest (a.put o.dst v') w') :
    wpList P ops Q (o :: rest) a w := by
  obtain ⟨hm, hnews, hsl⟩ := hp.news
  refine wpList_plain hg fun K' hK' => ?_
  subst hm
  obtain ⟨v', w', hrun, r1, r2, _, r3⟩ := run_append_own_at (P := P) w base t o.type e i (.agg #[.slice none 0 0, .int .i64 0]) 2 32 ht hi hz hsize hby rfl (by decide) v ps.length (cells2 ps) hown ad qs.length c (cells2 qs) (by rw [cells2_length]) hnews (cells2_one hsl) (by unfold maxLen; omega) hbytes hbase
  unfold Oper.wp
  simp [execOp, hop, resolve, invoke, builtin, hs, hx, hrun, Result.andThen]
  rw [← cells2_append] at r1
  exact hK' _ _ (hK v' w' (by rw [List.length_append]; exact r1) r2 r3)

def SMap (w : World) (t : TypeId) (mb lo n : Nat) (G : List UInt8 → List Rw) : Prop :=
  ∃ (D : DataW Value) (V : List UInt8 → Value), w.ownsMap Tryd.prog 9 heldT mb n D ∧ (∀ c, D.atKey (.string c) (.held vn) = .held (V c)) ∧ (∀ c, Spine w lo w.heap.size (V c) (prs (G c))) ∧
    (∀ c d, c ≠ d → (V c).ownBlock = none ∨ (V c).ownBlock ≠ (V d).ownBlock) ∧ mb < lo ∧ Tryd.prog.underlying t = some (.map 9 25) ∧ ∀ c, has D (.string c) = !(G c).isEmpty
theorem spine_nilS (w : World) (lo : Nat) : Spine w lo w.heap.size vn (prs []) := ⟨⟨rfl, .inl ⟨rfl, rfl⟩⟩, fun k hk => by simp [vn, Value.ownBlock] at hk, by simp [prs], Nat.le_refl _⟩
theorem smap_made (w : World) (t : TypeId) (ht : Tryd.prog.underlying t = some (.map 9 25)) : SMap (w.alloc (.map #[] 0)) t w.heap.size (w.heap.size + 1) 0 (fun _ => []) :=
  ⟨.map [], fun _ => vn, World.ownsMap_made w _ _ _, fun _ => rfl, fun _ => spine_nilS _ _, fun _ _ _ => .inl rfl, Nat.lt_succ_self _, ht, fun _ => rfl⟩
theorem SMap.grown {w w' : World} {t : TypeId} {mb lo n : Nat} {G : List UInt8 → List Rw} (h : SMap w t mb lo n G) (hb : Below w.heap.size w w') : SMap w' t mb lo n G := by
  obtain ⟨D, V, h1, h2, h3, h4, h5, h6, h7⟩ := h
  have hg : w.grownBy w' none := ⟨hb.os, hb.tape, hb.output, hb.size, fun k hk _ => hb.block k hk⟩
  exact ⟨D, V, h1.kept hg (by simp), h2, fun c => ((h3 c).keep' hb).wide (Nat.le_refl _) hb.size (Nat.le_refl _), h4, h5, h6, h7⟩
/-- What is looked up at a key, and the way back behind an append. -/
theorem SMap.look {w : World} {t : TypeId} {mb lo n : Nat} {G : List UInt8 → List Rw} (h : SMap w t mb lo n G) {s : ByteArray} (hs0 : s.size ≤ maxLen) (hn : n < maxLen) :
    ∃ v, (∀ w', w.grownBy w' none → (Instr.lookup t (.map (some mb)) (.string s) false).run Tryd.prog w' = .ok v w') ∧ Spine w lo w.heap.size v (prs (G s.data.toList)) ∧
      ∀ (w1 : World) (v' : Value) (L : List Rw), L ≠ [] → w.grownBy w1 v.ownBlock → Spine w1 lo w1.heap.size v' (prs L) → (v'.ownBlock = v.ownBlock ∨ ∃ g, v'.ownBlock = some g ∧ w.heap.size ≤ g) →
        ∃ w2, (Instr.mapUpdate t (.map (some mb)) (.string s) v').run Tryd.prog w1 = .ok () w2 ∧ SMap w2 t mb lo (n + 1) (fun d => if d = s.data.toList then L else G d) ∧ w1.grownBy w2 (some mb) := by
  obtain ⟨D, V, h1, h2, h3, h4, h5, h6, h7⟩ := h
  obtain ⟨c, hcs⟩ : ∃ c, c = s.data.toList := ⟨_, rfl⟩
  rw [← hcs]
  have K : Keyed Tryd.prog 9 := string_keyed Tryd.underlying9
  have hk : keyOf Tryd.prog 9 (.string s) = some (.string c) := by rw [hcs]; exact Go.WideMaps.keyOf_string_mk Tryd.underlying9 hs0
  refine ⟨V c, fun w' hg => ?_, h3 c, fun w1 v' L hL hg hs hloc => ?_⟩
  · have h1' := h1.kept hg (by simp)
    obtain ⟨v, ps, hrun, hv⟩ := h1'.lookup K h6 (z := vn) (Tryd.zeroValue25 _) (zd := .held vn) (zp := []) rfl hk
    have : v = V c := by
      simp only [heldT, h2 c] at hv
      injection hv with hv
      injection hv with hv _
      injection hv
    rw [hrun, this]
  · have hne : some mb ≠ (V c).ownBlock := fun e => by
      have := ((h3 c).1.lt mb e.symm).1
      omega
    have h1' := h1.kept hg hne
    obtain ⟨w2, hrun, hm2, hg2⟩ := h1'.update K h6 hn hk (val := v') (d := .held v') (ps := []) rfl
    have own_lo : ∀ {u : Value} {ps : List (Value × Int)} {W : World}, Spine W lo W.heap.size u ps → u.ownBlock = none ∨ u.ownBlock ≠ some mb := fun {u ps W} ho => by
      cases hu : u.ownBlock with
      | none => exact .inl rfl
      | some g =>
        refine .inr (fun e => ?_)
        have := (ho.1.lt g hu).1
        simp at e
        omega
    have old_new : ∀ d, d ≠ c → (V d).ownBlock = none ∨ (V d).ownBlock ≠ v'.ownBlock := fun d hd => by
      rcases hloc with e | ⟨g, e, hgl⟩
      · rw [e]; exact h4 d c hd
      · cases hd' : (V d).ownBlock with
        | none => exact .inl rfl
        | some gd =>
          refine .inr (fun e1 => ?_)
          have := (h3 d).2.1 gd hd'
          rw [e] at e1
          simp at e1
          omega
    refine ⟨w2, hrun, ⟨D.put (Lit.string c) (.held v'), fun d => if d = c then v' else V d, hm2, fun d => ?_, fun d => ?_, fun d f hdf => ?_, h5, h6, fun d => ?_⟩, hg2⟩
    · show _ = DataW.held (if d = c then v' else V d)
      by_cases hd : d = c
      · subst hd
        rw [if_pos rfl]
        exact atKey_put_same (k := .string d) (isMapT h1) (by simp [WideAt.IsKeyLit]) _ _
      · rw [if_neg hd, ← h2 d]
        exact atKey_put_other (fun e => hd (by simpa using e)) _ _
    · by_cases hd : d = c
      · simp only [if_pos hd]
        exact (hs.kept hg2 (own_lo hs)).wide (Nat.le_refl _) hg2.size (Nat.le_refl _)
      · simp only [if_neg hd]
        have s1 : Spine w1 lo w1.heap.size (V d) (prs (G d)) := ((h3 d).kept hg (h4 d c hd)).wide (Nat.le_refl _) hg.size (Nat.le_refl _)
        exact (s1.kept hg2 (own_lo s1)).wide (Nat.le_refl _) hg2.size (Nat.le_refl _)
    · by_cases hd : d = c
      · by_cases hf : f = c
        · exact absurd (hd.trans hf.symm) hdf
        · simp only [if_pos hd, if_neg hf]
          rcases old_new f hf with e | e
          · cases hv : v'.ownBlock with
            | none => exact .inl rfl
            | some g => exact .inr (fun e2 => by rw [e] at e2; cases e2)
          · exact .inr (fun e2 => e e2.symm)
      · by_cases hf : f = c
        · simp only [if_neg hd, if_pos hf]
          exact old_new d hd
        · simp only [if_neg hd, if_neg hf]
          exact h4 d f hdf
    · show has (D.put (Lit.string c) (.held v')) (.string d) = !(if d = c then L else G d).isEmpty
      by_cases hd : d = c
      · subst hd
        rw [if_pos rfl, has_put_same (isMapT h1) (by simp [WideAt.IsKeyLit])]
        cases L with
        | nil => exact absurd rfl hL
        | cons _ _ => rfl
      · rw [if_neg hd, has_put_other (fun e => hd (by simpa using e)), h7 d]

/-- The items that are there whose text at the keys is so. -/
def grpT (z : List It) (ks : List Int) (s : List UInt8) : List It := z.filter fun p => decide (0 < p.2) && decide (rowTx (keyZ p.1 ks) = s)
theorem grpT_take {z : List It} {ks : List Int} {k : Nat} (hk : k < z.length) (s : List UInt8) : grpT (z.take (k + 1)) ks s = grpT (z.take k) ks s ++ (if decide (0 < (z.getD k ([], 0)).2) && decide (rowTx (keyZ (z.getD k ([], 0)).1 ks) = s) then [((z.getD k ([], 0)).1, (z.getD k ([], 0)).2)] else []) := by
  unfold grpT
  have e : z.getD k ([], 0) = z[k] := by simp [List.getD, hk]
  rw [List.take_succ_eq_append_getElem hk, List.filter_append, e, List.filter_cons, List.filter_nil]
theorem grpT_len (z : List It) (ks : List Int) (s : List UInt8) : (grpT z ks s).length ≤ z.length := List.length_filter_le _ _

set_option maxHeartbeats 8000000 in
theorem groups_any (v u : Value) (z : List It) (ks : List Int) (w : World) (htab : Tab w) (h : ItemsAt w v z) (h2 : IntsAt w u ks) (hz : zOkB z = true) (hkz : haveAll z ks = true) (hl : ks.length ≤ 6) :
    Calls Tryd.prog 40 #[v, u] w fun e w' => ∃ (n : Nat) (G : List UInt8 → List Rw), e = .returned (.map (some w.heap.size)) ∧ SMap w' 62 w.heap.size (w.heap.size + 1) n G ∧ (∀ s, its (G s) = grpT z ks s) ∧ (∀ s, RowsIn w (G s)) ∧ n ≤ 100 ∧ Below w.heap.size w w' := by
  have ht : Tryd.prog.underlying 62 = some (.map 9 25) := Tryd.underlying62
  obtain ⟨i0, hi0, hz0, hz1, hz2⟩ := info_parts infoItem
  have hrow : ∀ k, k < z.length → rowOkB (z.getD k ([], 0)).1 = true ∧ (∀ q ∈ ks, 0 ≤ q ∧ q < ((z.getD k ([], 0)).1.length : Int)) := fun k hk => ⟨(zOk_row hz hk).1, fun q hq => have_iff.1 hkz q hq _ (by simp [List.getD, hk])⟩
  have hz100 := zOk_le hz
  have HC0 : Hid (SMap (w.alloc (.map #[] 0)) 62 w.heap.size (w.heap.size + 1) 0 (fun _ => [])) := smap_made w _ ht
  have HB0 : Hid (Below w.heap.size w (w.alloc (.map #[] 0))) := below_alloc _
  have HTAB : Hid (Tab w) := htab
  have HK2 : Hid (IntsAt w u ks) := h2
  obtain ⟨ua, un, uc, rfl⟩ := h2.shape
  clear htab h2 hz hkz
  have hmm := @run_makeMap Tryd.prog
  rcases h.cases with ⟨a, cap, rfl, rfl⟩ | ⟨b, off, cap, hpos, hlim, rfl, hbw, hc⟩
  · clear h hrow
    go_enter Tryd.func40, Tryd.ntmps40
    go_wp2
    clear hmm
    refine wp_loop_rounds 1 ?_
    rw [rounds_succ]
    go_wp2
    go_ret
    exact ⟨0, _, rfl, HC0.out, fun _ => rfl, fun s x hx => by simp at hx, by omega, HB0.out⟩
  · clear h
    obtain ⟨n, hn⟩ : ∃ n, n = z.length := ⟨_, rfl⟩
    have HN : Hid (n = z.length) := hn
    rw [← hn] at hpos hlim hc hrow hz100 ⊢
    clear hn
    go_enter Tryd.func40, Tryd.ntmps40
    go_wp2
    clear hmm
    go_loopw [12] (fun i wr => ∃ (k m : Nat) (G : List UInt8 → List Rw), k ≤ n ∧ m ≤ k ∧ i = .int .i64 k ∧ Hid (SMap wr 62 w.heap.size (w.heap.size + 1) m G) ∧ Hid (∀ s, its (G s) = grpT (z.take k) ks s) ∧ Hid (∀ s, RowsIn w (G s)) ∧ Hid (Below w.heap.size w wr)) (fun i _ => n - (intOf i).toNat)
    case atStart => exact ⟨0, 0, _, Nat.zero_le _, Nat.le_refl _, rfl, HC0.out, fun _ => rfl, fun s x hx => by simp at hx, HB0.out⟩
    case round =>
      obtain ⟨k, m, G, hk, hmk, rfl, HC, HG, HR, HW⟩ := hrel
      clear HC0 HB0
      by_cases hlt : k < n
      · have hlt' : k < z.length := by rw [← HN.out]; exact hlt
        have HB := HW.out
        obtain ⟨rv, hrv0, hwt0, hix0⟩ := hc k hlt
        have hrv := (HB.cell (p := ⟨b, off + k * 2, none⟩) hbw).trans hrv0
        have hwt := (HB.cell (p := ⟨b, off + k * 2 + 1, none⟩) hbw).trans hwt0
        have hix := hix0.below HB
        obtain ⟨hr1, hr2⟩ := hrow k hlt
        have HT : Hid (∀ s, grpT (z.take (k + 1)) ks s = _) := fun s => grpT_take (ks := ks) hlt' s
        have hGl : ∀ s, (G s).length ≤ 100 := fun s => by
          have h1 : (its (G s)).length = (grpT (z.take k) ks s).length := by rw [HG.out]
          have h2 := grpT_len (z.take k) ks s
          rw [its_length] at h1
          rw [List.length_take] at h2
          omega
        obtain ⟨x, HX⟩ : ∃ x, Hid (x = (z.getD k ([], 0)).1) := ⟨_, rfl⟩
        obtain ⟨y, HY⟩ : ∃ y, Hid (y = (z.getD k ([], 0)).2) := ⟨_, rfl⟩
        rw [← HX.out] at hix hr1 hr2 HT hix0
        rw [← HY.out] at hwt HT
        obtain ⟨xa, xn, xc, rfl⟩ := hix.shape
        have HIX : Hid (IntsAt w (.slice xa xn xc) x) := hix0
        obtain ⟨wa, hwa⟩ : ∃ wa, wa = wr.alloc (.cells #[.slice xa xn xc, .int .i64 y] 43) := ⟨_, rfl⟩
        have hba : Below wr.heap.size wr wa := by rw [hwa]; exact below_alloc _
        have hbl : wr.heap.size < wa.heap.size := by rw [hwa]; simp
        have t0 : wa.cell? ⟨wr.heap.size, 0, none⟩ = some (.slice xa xn xc) := by rw [hwa]; simp [go_sem]
        have t1 : wa.cell? ⟨wr.heap.size, 1, none⟩ = some (.int .i64 y) := by rw [hwa]; simp [go_sem]
        have hka := below_then HB hba
        have hsw := HB.size
        have hixa := hix.below hba
        have hCa := HC.out.grown hba
        clear hc hrow hrv0 hwt0 hix0
        by_cases hy : 0 < y
        · go_wp2_with fail
          rw [← hwa]
          refine (groupText_any _ _ x ks _ (HTAB.out.below hka) hixa (HK2.out.below hka) hr2 hl hr1).mono ?_
          rintro e w2 ⟨s, rfl, hs, hb2⟩
          have hk2 := below_then hka hb2
          have hw2 := hk2.size
          obtain ⟨sv, hlook, S2, hput⟩ := (hCa.grown hb2).look (tx_small hr1 hr2 hl hs) (by unfold maxLen; omega)
          rw [hs] at S2 hput
          have hlook2 := hlook w2 (grown_refl _ _)
          have r0 := cell_is (p := ⟨wr.heap.size, 0, none⟩) hb2 hbl t0
          have r1 := cell_is (p := ⟨wr.heap.size, 1, none⟩) hb2 hbl t1
          obtain ⟨tx, HTX⟩ : ∃ tx, Hid (tx = rowTx (keyZ x ks)) := ⟨_, rfl⟩
          rw [← HTX.out] at S2 hput HT
          have hls : w.heap.size + 1 ≤ w2.heap.size := by have := hb2.size; omega
          obtain ⟨hspW, hprW, hfin⟩ := merge_ready (xv := .slice xa xn xc) y S2 ⟨_, _, _, rfl⟩ hls (by have := hGl tx; omega)
          have hpl : (prs (G tx)).length ≤ 100 := by rw [prs_length]; exact hGl tx
          have HK2' : Hid (Below w.heap.size w w2) := hk2
          clear hrv hwt HB HW HC hba hka hb2 hk2 hs hixa hix hr1 hr2 hwa t0 t1 hCa hlook
          go_wp2_with (at_builtin; (refine wpList_append_at rfl _ _ 25 rfl (w.heap.size + 1) 43 i0 Tryd.underlying25 hi0 hz0 hz1 hz2 sv (prs (G tx)) rfl hspW _ _ _ [(.slice xa xn xc, y)] rfl hprW (by simp; omega) (by simp; omega) ?_; intro v3 w3 hown3 hg3 hat3; obtain ⟨S3, B3⟩ := hfin v3 w3 x hown3 hg3; obtain ⟨w4, hrun4, hC4, hg4⟩ := hput w3 v3 (G tx ++ [(.slice xa xn xc, (x, y))]) (by simp) (grown_trans (World.grownBy_alloc w2 _ _) hg3) S3 (hat3.elim Or.inl (fun e => Or.inr ⟨_, e, by simp⟩))))
          have HC4 : Hid (SMap w4 62 w.heap.size (w.heap.size + 1) (m + 1) (fun d => if d = tx then G tx ++ [(.slice xa xn xc, (x, y))] else G d)) := hC4
          have k3 : Below w.heap.size w w3 := HK2'.out.trans (B3.mono (by omega))
          have HK4 : Hid (Below w.heap.size w w4) := k3.grown hg4 k3.size (fun i e => by simp at e; omega)
          have HG4 : Hid (∀ d, its (if d = tx then G tx ++ [(.slice xa xn xc, (x, y))] else G d) = grpT (z.take (k + 1)) ks d) := fun d => by
            rw [HT.out d, decide_eq_true hy, Bool.true_and]
            by_cases hd : d = tx
            · subst hd
              rw [if_pos rfl, if_pos (decide_eq_true rfl), its_append, HG.out]; rfl
            · rw [if_neg hd, if_neg (by simpa using fun e => hd e.symm), HG.out, List.append_nil]
          have HR4 : Hid (∀ d, RowsIn w (if d = tx then G tx ++ [(.slice xa xn xc, (x, y))] else G d)) := fun d => by
            by_cases hd : d = tx
            · rw [if_pos hd]
              intro q hq
              rcases List.mem_append.1 hq with e | e
              · exact HR.out tx q e
              · simp at e; subst e; exact HIX.out
            · rw [if_neg hd]; exact HR.out d
          clear hC4 k3 hg4 hfin hown3 hg3 hat3 hspW hprW B3 S3 S2 hput r0 r1 hlook2 HT HG HR
          go_wp2
          go_roundw
          case rel => exact ⟨k + 1, m + 1, _, by omega, by omega, by go_num, HC4.out, HG4.out, HR4.out, HK4.out⟩
          case measure => simp [intOf]; omega
        · have HG4 : Hid (∀ d, its (G d) = grpT (z.take (k + 1)) ks d) := fun d => by
            rw [HT.out d, decide_eq_false hy, Bool.false_and, HG.out]; simp
          have HC4 : Hid (SMap wa 62 w.heap.size (w.heap.size + 1) m G) := hCa
          have HK4 : Hid (Below w.heap.size w wa) := hka
          clear hCa hka HT HG HB HW HC hba hix hixa hr1 hr2
          go_wp2
          rw [← hwa]
          go_roundw
          case rel => exact ⟨k + 1, m, _, by omega, by omega, by go_num, HC4.out, HG4.out, HR.out, HK4.out⟩
          case measure => simp [intOf]; omega
      · obtain rfl : k = n := by omega
        have hG := HG.out
        rw [HN.out, List.take_length] at hG
        have HG9 : Hid _ := hG
        clear hc hrow hG
        go_wp2
        go_ret
        exact ⟨m, G, rfl, HC.out, HG9.out, HR.out, by omega, HW.out⟩

end Go.Proofs.YtjbfgfgldchfnaaDoor
