/-
  Texts of this claim put behind one another: StoreMem, StoreSz, StoreCopy, StoreCopy2, StoreCopy3.
-/
import Derived.Test.YtfmgohoddaobmaaFlowSameI
import Derived.Test.YtfmgohoddaobmaaFlowIn
import Derived.Deep.MidRow

/-
  Stores: times, views, and what a store has; how much it holds; how it lies in memory.
-/
namespace Go.Proofs.Ytfmgohoddaobmaa.Fw
set_option maxRecDepth 100000
open Go.RowKit
set_option linter.unusedVariables false
set_option linter.unusedSimpArgs false
variable {D : Nat}

theorem wpList_load_midG {P : Program} {ops : Array Oper} {rest : List Oper} {op : Oper} {a : Act} {w : World} {Q : Exit → Act → World → Prop} (hw : Region.wanted op (yielded ops a.tmps) = true) (ty : TypeId) (x : Operand) (ho : op.op = .load ty x)
    (b o : Nat) (hx : a.eval x = .pointer (some ⟨b, o, none⟩)) (cs : List Value) (d : TypeDesc) (hc : w.rangeAt b o cs)
    (hu : P.underlying ty = some d) (hd : d.isRow = true) (hi : (P.info? ty).map (·.size) = some cs.length)
    (h : wpList P ops Q rest (a.put op.dst (.agg cs.toArray)) w) : wpList P ops Q (op :: rest) a w :=
  wpList_step fun K hK => by rw [if_pos hw]; exact wp_load_mid ty x ho b o hx cs d hc hu hd hi (hK _ _ h)

/-- By how much a view was turned at a time. -/
structure Pa where
  tm : Int
  out : List It
structure Vw (D n : Nat) where
  f : Fl D (n + 1)
  since : Int
  base : List It
  pasts : List Pa
structure St (D n : Nat) where
  wides : List Int
  tables : Rn
  views : List (Vw D n)
  now : Int
  keep : Int
variable {n : Nat}
def sumOf {α : Type} (g : α → Nat) (l : List α) : Nat := (l.map g).sum
theorem sumOf_take {α : Type} {g : α → Nat} {l : List α} {k : Nat} (hk : k < l.length) : sumOf g (l.take (k + 1)) = sumOf g (l.take k) + g l[k] := by
  unfold sumOf
  rw [List.take_succ_eq_append_getElem hk, List.map_append, List.sum_append]
  simp only [List.map_cons, List.map_nil, List.sum_cons, List.sum_nil, Nat.add_zero]
theorem sumOf_all {α : Type} {g : α → Nat} (l : List α) : sumOf g (l.take l.length) = sumOf g l := by rw [List.take_length]
theorem sumOf_at {α : Type} {g : α → Nat} {l : List α} {k : Nat} (hk : k < l.length) : g l[k] ≤ sumOf g l := by
  have h1 := sumOf_take (g := g) hk
  have h2 : sumOf g l = sumOf g (l.take (k + 1)) + sumOf g (l.drop (k + 1)) := by
    unfold sumOf
    rw [← List.sum_append, ← List.map_append, List.take_append_drop]
  omega
def Pa.sz (p : Pa) : Nat := p.out.length + rowsLen p.out
def Vw.sz (v : Vw D n) : Nat := Fl.sz (n + 1) v.f + (v.base.length + rowsLen v.base) + (v.pasts.length + sumOf Pa.sz v.pasts)
def St.sz (s : St D n) : Nat := s.wides.length + (s.tables.length + runsLen s.tables) + (s.views.length + sumOf Vw.sz s.views)
theorem Pa.ext' {x y : Pa} (h1 : x.tm = y.tm) (h2 : x.out = y.out) : x = y := by
  obtain ⟨a, b⟩ := x
  obtain ⟨c, d⟩ := y
  rw [Pa.mk.injEq]
  exact ⟨h1, h2⟩
theorem Vw.ext' {x y : Vw D n} (h1 : x.f = y.f) (h2 : x.since = y.since) (h3 : x.base = y.base) (h4 : x.pasts = y.pasts) : x = y := by
  obtain ⟨a, b, c, d⟩ := x
  obtain ⟨a', b', c', d'⟩ := y
  rw [Vw.mk.injEq]
  exact ⟨h1, h2, h3, h4⟩
theorem St.ext' {x y : St D n} (h1 : x.wides = y.wides) (h2 : x.tables = y.tables) (h3 : x.views = y.views) (h4 : x.now = y.now) (h5 : x.keep = y.keep) : x = y := by
  obtain ⟨a, b, c, d, e⟩ := x
  obtain ⟨a', b', c', d', e'⟩ := y
  rw [St.mk.injEq]
  exact ⟨h1, h2, h3, h4, h5⟩

/-- A slice of parts of k cells, each of which lies as N says. -/
def KV {α : Type} (k : Nat) (N : World → Nat → Nat → α → Prop) (w : World) (v : Value) (l : List α) : Prop :=
  l.length ≤ 9223372036854775807 ∧ ∃ (a : Option Addr) (cap : Nat), v = .slice a l.length cap ∧ (a = none → cap = 0) ∧
    (l ≠ [] → ∃ b off, a = some ⟨b, off, none⟩ ∧ b < w.heap.size ∧ ∀ j (hj : j < l.length), N w b (off + j * k) l[j])
theorem KV.below {α : Type} {k : Nat} {N : World → Nat → Nat → α → Prop} {w w' : World} {v : Value} {l : List α} (h : KV k N w v l) (hb : Below w.heap.size w w') (hN : ∀ b o x, N w b o x → N w' b o x) : KV k N w' v l := by
  obtain ⟨hl, a, cap, rfl, hn, hc⟩ := h
  refine ⟨hl, a, cap, rfl, hn, fun hne => ?_⟩
  obtain ⟨b, off, rfl, hbl, hk⟩ := hc hne
  exact ⟨b, off, rfl, Nat.lt_of_lt_of_le hbl hb.size, fun j hj => hN _ _ _ (hk j hj)⟩
theorem KV.weak {α : Type} {k : Nat} {N N' : World → Nat → Nat → α → Prop} {w : World} {v : Value} {l : List α} (h : KV k N w v l) (hN : ∀ b o x, N w b o x → N' w b o x) : KV k N' w v l := by
  obtain ⟨hl, a, cap, rfl, hn, hc⟩ := h
  refine ⟨hl, a, cap, rfl, hn, fun hne => ?_⟩
  obtain ⟨b, off, rfl, hbl, hk⟩ := hc hne
  exact ⟨b, off, rfl, hbl, fun j hj => hN _ _ _ (hk j hj)⟩
theorem KV.shapeN {α : Type} {k : Nat} {N : World → Nat → Nat → α → Prop} {w : World} {v : Value} {l : List α} (h : KV k N w v l) : ∃ a n c, v = .slice a n c := by
  obtain ⟨-, a, c, rfl, -⟩ := h
  exact ⟨_, _, _, rfl⟩
theorem KV.at {α : Type} {k : Nat} {N : World → Nat → Nat → α → Prop} {w : World} {a : Option Addr} {m c : Nat} {l : List α} (h : KV k N w (.slice a m c) l) : m = l.length ∧ (0 < m → ∃ b off, a = some ⟨b, off, none⟩ ∧ b < w.heap.size ∧ ∀ j (hj : j < l.length), N w b (off + j * k) l[j]) := by
  obtain ⟨-, a', c', e, -, hc⟩ := h
  injection e with e1 e2 e3
  subst e1 e2
  exact ⟨rfl, fun h0 => hc (List.length_pos_iff.1 h0)⟩
theorem RawItems.shapeN' {w : World} {v : Value} {zs : List It} (h : RawItems w v zs) : ∃ a n c, v = .slice a n c := by
  obtain ⟨-, a, c, rfl, -⟩ := h
  exact ⟨_, _, _, rfl⟩
theorem RawInts.shapeN' {w : World} {v : Value} {xs : List Int} (h : RawInts w v xs) : ∃ a n c, v = .slice a n c := by
  obtain ⟨-, a, c, rfl, -⟩ := h
  exact ⟨_, _, _, rfl⟩
/-- How a time lies. -/
def PaAt (w : World) (b o : Nat) (x : Pa) : Prop := b < w.heap.size ∧ ∃ vo, w.rangeAt b o [.int .i64 x.tm, vo] ∧ RawItems w vo x.out
/-- A flow; where u says so, in blocks that are not frozen. -/
def FlowB (u : Bool) (w : World) (p : Fl D (n + 1)) (vc vk vd vl vr vf : Value) : Prop := FlowV (n + 1) w p vc vk vd vl vr vf ∧ (u = true → KidsU D w vd ∧ FKidsU D n w vf)
def VwV (u : Bool) (w : World) (x : Vw D n) (vc vk vd vl vr vf vb vp : Value) : Prop := FlowB u w x.f vc vk vd vl vr vf ∧ RawItems w vb x.base ∧ KV 2 PaAt w vp x.pasts
def VwAt (u : Bool) (w : World) (b o : Nat) (x : Vw D n) : Prop := b < w.heap.size ∧ ∃ vc vk vd vl vr vf vb vp, w.rangeAt b o [.int .i64 x.f.nd.p.nd.k, .int .i64 x.f.nd.p.nd.n, .int .i64 x.f.nd.p.nd.t.k, .bool x.f.nd.p.nd.t.no, .int .i64 x.f.nd.p.nd.t.l.k, .int .i64 x.f.nd.p.nd.t.l.a, .int .i64 x.f.nd.p.nd.t.l.b, .int .i64 x.f.nd.p.nd.t.l.n, .int .i64 x.f.nd.p.nd.t.r.k, .int .i64 x.f.nd.p.nd.t.r.a, .int .i64 x.f.nd.p.nd.t.r.b, .int .i64 x.f.nd.p.nd.t.r.n, vc, .int .i64 x.f.nd.p.nd.a, .int .i64 x.f.nd.p.nd.b, vk, .int .i64 x.f.nd.p.nd.g, .int .i64 x.f.nd.p.nd.c, vd, vl, vr, vf, .int .i64 x.since, vb, vp] ∧ VwV u w x vc vk vd vl vr vf vb vp
def StV (u : Bool) (w : World) (s : St D n) (vw vt vv : Value) : Prop := RawInts w vw s.wides ∧ RawRuns w vt s.tables ∧ KV 25 (VwAt u) w vv s.views
theorem PaAt.below {w w' : World} {b o : Nat} {x : Pa} (h : PaAt w b o x) (hb : Below w.heap.size w w') : PaAt w' b o x := by
  obtain ⟨hl, vo, h1, h2⟩ := h
  exact ⟨Nat.lt_of_lt_of_le hl hb.size, vo, range_below h1 hb hl, h2.below hb⟩
theorem FlowB.below {u : Bool} {w w' : World} {p : Fl D (n + 1)} {vc vk vd vl vr vf : Value} (h : FlowB u w p vc vk vd vl vr vf) (hb : Below w.heap.size w w') : FlowB u w' p vc vk vd vl vr vf := ⟨FlowV.below h.1 hb, fun hu => ⟨(h.2 hu).1.below hb, FKidsU.below (h.2 hu).2 hb⟩⟩
theorem FlowB.u {w : World} {p : Fl D (n + 1)} {vc vk vd vl vr vf : Value} (h : FlowB true w p vc vk vd vl vr vf) : FlowU n w p vc vk vd vl vr vf := ⟨h.1, h.2 rfl⟩
theorem VwV.below {u : Bool} {w w' : World} {x : Vw D n} {vc vk vd vl vr vf vb vp : Value} (h : VwV u w x vc vk vd vl vr vf vb vp) (hb : Below w.heap.size w w') : VwV u w' x vc vk vd vl vr vf vb vp :=
  ⟨h.1.below hb, h.2.1.below hb, h.2.2.below hb fun b o x hx => hx.below hb⟩
theorem VwAt.below {u : Bool} {w w' : World} {b o : Nat} {x : Vw D n} (h : VwAt u w b o x) (hb : Below w.heap.size w w') : VwAt u w' b o x := by
  obtain ⟨hl, vc, vk, vd, vl, vr, vf, vb, vp, h1, h2⟩ := h
  exact ⟨Nat.lt_of_lt_of_le hl hb.size, vc, vk, vd, vl, vr, vf, vb, vp, range_below h1 hb hl, h2.below hb⟩
theorem VwV.weak {u : Bool} {w : World} {x : Vw D n} {vc vk vd vl vr vf vb vp : Value} (h : VwV u w x vc vk vd vl vr vf vb vp) : VwV false w x vc vk vd vl vr vf vb vp := ⟨⟨h.1.1, fun e => by cases e⟩, h.2⟩
theorem VwAt.weak {u : Bool} {w : World} {b o : Nat} {x : Vw D n} (h : VwAt u w b o x) : VwAt false w b o x := by
  obtain ⟨hl, vc, vk, vd, vl, vr, vf, vb, vp, h1, h2⟩ := h
  exact ⟨hl, vc, vk, vd, vl, vr, vf, vb, vp, h1, h2.weak⟩
theorem StV.below {u : Bool} {w w' : World} {s : St D n} {vw vt vv : Value} (h : StV u w s vw vt vv) (hb : Below w.heap.size w w') : StV u w' s vw vt vv :=
  ⟨h.1.below hb, h.2.1.below hb, h.2.2.below hb fun b o x hx => hx.below hb⟩
theorem StV.weak {u : Bool} {w : World} {s : St D n} {vw vt vv : Value} (h : StV u w s vw vt vv) : StV false w s vw vt vv := ⟨h.1, h.2.1, h.2.2.weak fun b o x hx => hx.weak⟩
theorem sub_range {w : World} {b o : Nat} {l r : List Value} (h : w.rangeAt b o (l ++ r)) : w.rangeAt b o l := fun j v hv => h j v (by rw [List.getElem?_append_left (List.getElem?_eq_some_iff.1 hv).1]; exact hv)
theorem cell_range {w : World} {b o j : Nat} {l : List Value} {v : Value} (h : w.rangeAt b o l) (hj : l[j]? = some v) : w.cell? ⟨b, o + j, none⟩ = some v := h j v hj
theorem flow_range {w : World} {b : Nat} {x : Vw D n} {vc vk vd vl vr vf vb vp : Value} {t : TypeId} (h : w.heap[b]? = some (.cells #[.int .i64 x.f.nd.p.nd.k, .int .i64 x.f.nd.p.nd.n, .int .i64 x.f.nd.p.nd.t.k, .bool x.f.nd.p.nd.t.no, .int .i64 x.f.nd.p.nd.t.l.k, .int .i64 x.f.nd.p.nd.t.l.a, .int .i64 x.f.nd.p.nd.t.l.b, .int .i64 x.f.nd.p.nd.t.l.n, .int .i64 x.f.nd.p.nd.t.r.k, .int .i64 x.f.nd.p.nd.t.r.a, .int .i64 x.f.nd.p.nd.t.r.b, .int .i64 x.f.nd.p.nd.t.r.n, vc, .int .i64 x.f.nd.p.nd.a, .int .i64 x.f.nd.p.nd.b, vk, .int .i64 x.f.nd.p.nd.g, .int .i64 x.f.nd.p.nd.c, vd, vl, vr, vf, .int .i64 x.since, vb, vp] t)) : w.rangeAt b 0 [.int .i64 x.f.nd.p.nd.k, .int .i64 x.f.nd.p.nd.n, .int .i64 x.f.nd.p.nd.t.k, .bool x.f.nd.p.nd.t.no, .int .i64 x.f.nd.p.nd.t.l.k, .int .i64 x.f.nd.p.nd.t.l.a, .int .i64 x.f.nd.p.nd.t.l.b, .int .i64 x.f.nd.p.nd.t.l.n, .int .i64 x.f.nd.p.nd.t.r.k, .int .i64 x.f.nd.p.nd.t.r.a, .int .i64 x.f.nd.p.nd.t.r.b, .int .i64 x.f.nd.p.nd.t.r.n, vc, .int .i64 x.f.nd.p.nd.a, .int .i64 x.f.nd.p.nd.b, vk, .int .i64 x.f.nd.p.nd.g, .int .i64 x.f.nd.p.nd.c, vd, vl, vr, vf] :=
  sub_range (r := [.int .i64 x.since, vb, vp]) (range_blk h)
theorem bool_of (p : Prop) : ∃ s : Bool, s = true ↔ p := by
  by_cases h : p
  · exact ⟨true, by simp [h]⟩
  · exact ⟨false, by simp [h]⟩

end Go.Proofs.Ytfmgohoddaobmaa.Fw

/-
  The contracts of laws.szPast, szPastS, szView, szViewS and szStore: what is left behind a store, or a number below 0.
-/
namespace Go.Proofs.Ytfmgohoddaobmaa.Fw
set_option maxRecDepth 100000
open Go.RowKit
set_option linter.unusedVariables false
set_option linter.unusedSimpArgs false
variable {D : Nat}

variable {n : Nat}
set_option maxHeartbeats 1000000 in
theorem szPast_any (p : Pa) (vo : Value) (l : Int) (w : World) (h : RawItems w vo p.out) (h0 : 0 ≤ l) (h1 : l ≤ 1048576) :
    Calls Try.prog 81 #[.agg #[.int .i64 p.tm, vo], .int .i64 l] w fun e w' => ∃ r : Int, e = .returned (.int .i64 r) ∧ (r < 0 ∨ (0 ≤ r ∧ r = l - (p.sz : Int))) ∧ Below w.heap.size w w' := by
  obtain ⟨oa, no, oc, rfl⟩ := RawItems.shapeN' h
  have HO : Hid (RawItems w (.slice oa no oc) p.out) := h
  clear h
  go_enter Try.func81, Try.ntmps81
  go_wp2_with fail
  refine (szItemS_any _ p.out l _ (HO.out.below (bel_alloc _)) h0 h1).mono ?_
  rintro e w1 ⟨r, rfl, hr, hb⟩
  have HB : Hid (Below w.heap.size w w1) := bel_then (bel_alloc _) hb
  have HR : Hid (r < 0 ∨ (0 ≤ r ∧ r = l - p.out.length - rowsLen p.out)) := hr
  clear hb hr
  by_cases g : r < 0
  · go_wp2
    go_ret
    exact ⟨-1, rfl, .inl (by omega), HB.out⟩
  · go_wp2
    go_ret
    refine ⟨r, rfl, .inr ?_, HB.out⟩
    have e := HR.out
    have e2 : p.sz = p.out.length + rowsLen p.out := rfl
    omega

theorem szPastS_none (a : Option Addr) (cap : Nat) (l : Int) (w : World) (h0 : 0 ≤ l) (h1 : l ≤ 1048576) :
    Calls Try.prog 74 #[.slice a 0 cap, .int .i64 l] w fun e w' => e = .returned (.int .i64 l) ∧ w' = w := by
  go_enter Try.func74, Try.ntmps74
  go_wp2
  refine wp_loop_rounds 1 ?_
  rw [rounds_succ]
  go_wp2
  go_ret
  exact ⟨rfl, rfl⟩
set_option maxHeartbeats 4000000 in
theorem szPastS_some (b off cap : Nat) (l : List Pa) (lf : Int) (w : World) (h0 : 0 ≤ lf) (h1 : lf ≤ 1048576) (hpos : 0 < l.length) (hlim : l.length ≤ 9223372036854775807) (hbw : b < w.heap.size)
    (hk : ∀ j (hj : j < l.length), PaAt w b (off + j * 2) l[j]) :
    Calls Try.prog 74 #[.slice (some ⟨b, off, none⟩) l.length cap, .int .i64 lf] w fun e w' => ∃ r : Int, e = .returned (.int .i64 r) ∧ (r < 0 ∨ (0 ≤ r ∧ r = lf - ((l.length + sumOf Pa.sz l : Nat) : Int))) ∧ Below w.heap.size w w' := by
  have HK : Hid (∀ j (hj : j < l.length), PaAt w b (off + j * 2) l[j]) := hk
  obtain ⟨m, hm⟩ : ∃ m, m = l.length := ⟨_, rfl⟩
  have HM : Hid (m = l.length) := hm
  rw [← hm] at hpos hlim ⊢
  clear hm hk
  by_cases h : (m : Int) ≤ lf
  · have h2 : ¬ lf - (m : Int) < 0 := by omega
    have hm3 : (m : Int) ≤ 1048576 := by omega
    clear hlim
    go_enter Try.func74, Try.ntmps74
    go_wp2_with fail
    go_loopw [1, 5] (fun x i wr => ∃ (k : Nat) (y : Int), k ≤ m ∧ i = .int .i64 k ∧ x = .int .i64 y ∧ 0 ≤ y ∧ y ≤ 1048576 ∧ Hid (y = lf - (m : Int) - (sumOf Pa.sz (l.take k) : Int)) ∧ Hid (Below w.heap.size w wr)) (fun _ i _ => m - (intOf i).toNat)
    case atStart => exact ⟨0, lf - (m : Int), Nat.zero_le _, rfl, rfl, by omega, by omega, by show _ = _; simp [sumOf], Below.refl _ _⟩
    case round =>
      obtain ⟨k, y, hkm, rfl, rfl, hy0, hy1, HY, HB⟩ := hrel
      by_cases hlt : k < m
      · have hkl : k < l.length := by rw [← HM.out]; exact hlt
        obtain ⟨-, vo, hf, hp⟩ := (HK.out k hkl).below HB.out
        obtain ⟨q, hq⟩ : ∃ q, k * 2 = q := ⟨_, rfl⟩
        rw [hq] at hf
        have HR : Hid (wr.rangeAt b (off + q) ([.int .i64 l[k].tm, vo] : List Value)) := hf
        have hi : (Try.prog.info? 141).map (·.size) = some ([.int .i64 l[k].tm, vo] : List Value).length := by kernel_rfl
        have HPV := hidden hp
        have HST : Hid (sumOf Pa.sz (l.take (k + 1)) = sumOf Pa.sz (l.take k) + Pa.sz l[k]) := sumOf_take hkl
        clear hp hf
        go_wp2_with (refine wpList_load_mid rfl 141 _ rfl b (off + q) rfl _ _ HR.out Try.underlying141 rfl hi ?_)
        refine (szPast_any l[k] vo y _ HPV.out hy0 hy1).mono ?_
        rintro e w2 ⟨r, rfl, hr, hb2⟩
        have HB2 : Hid (Below w.heap.size w w2) := bel_then HB.out hb2
        clear hb2 hi HR hq
        by_cases hs : r < 0
        · clear hr
          go_wp2
          go_ret
          exact ⟨-1, rfl, .inl (by omega), HB2.out⟩
        · have hz0 : 0 ≤ r := by omega
          have HZ : Hid (r = lf - (m : Int) - (sumOf Pa.sz (l.take (k + 1)) : Int)) := by
            show _ = _
            have e1 := HY.out
            have e2 := HST.out
            omega
          have hz1 : r ≤ 1048576 := by omega
          clear hr
          go_wp2
          go_roundw
          case rel => exact ⟨k + 1, r, by omega, by go_num, rfl, hz0, hz1, HZ.out, HB2.out⟩
          case measure => simp [intOf]; omega
      · obtain rfl : k = m := by omega
        have HF : Hid (y = lf - ((k + sumOf Pa.sz l : Nat) : Int)) := by
          show _ = _
          have e1 := HY.out
          rw [HM.out, sumOf_all, ← HM.out] at e1
          omega
        go_wp2
        go_ret
        exact ⟨y, rfl, .inr ⟨hy0, HF.out⟩, HB.out⟩
  · have h2 : lf - (m : Int) < 0 := by omega
    go_enter Try.func74, Try.ntmps74
    go_wp2
    go_ret
    exact ⟨-1, rfl, .inl (by omega), Below.refl _ _⟩
theorem szPastS_any (l : List Pa) (v : Value) (lf : Int) (w : World) (hv : KV 2 PaAt w v l) (h0 : 0 ≤ lf) (h1 : lf ≤ 1048576) :
    Calls Try.prog 74 #[v, .int .i64 lf] w fun e w' => ∃ r : Int, e = .returned (.int .i64 r) ∧ (r < 0 ∨ (0 ≤ r ∧ r = lf - ((l.length + sumOf Pa.sz l : Nat) : Int))) ∧ Below w.heap.size w w' := by
  obtain ⟨hl, a, cap, rfl, _, hc⟩ := hv
  by_cases hne : l = []
  · subst hne
    refine (szPastS_none a cap lf w h0 h1).mono fun e w' ⟨he, hw⟩ => ⟨lf, he, .inr ⟨h0, by simp [sumOf]⟩, by rw [hw]; exact Below.refl _ _⟩
  · obtain ⟨b, off, rfl, hbw, hk⟩ := hc hne
    exact szPastS_some b off cap l lf w h0 h1 (List.length_pos_iff.2 hne) hl hbw hk

set_option maxHeartbeats 2000000 in
theorem szView_any (u : Bool) (x : Vw D n) (vc vk vd vl vr vf vb vp : Value) (l : Int) (w : World) (h : VwV u w x vc vk vd vl vr vf vb vp) (h0 : 0 ≤ l) (h1 : l ≤ 1048576) :
    Calls Try.prog 57 #[.agg #[.int .i64 x.f.nd.p.nd.k, .int .i64 x.f.nd.p.nd.n, .int .i64 x.f.nd.p.nd.t.k, .bool x.f.nd.p.nd.t.no, .int .i64 x.f.nd.p.nd.t.l.k, .int .i64 x.f.nd.p.nd.t.l.a, .int .i64 x.f.nd.p.nd.t.l.b, .int .i64 x.f.nd.p.nd.t.l.n, .int .i64 x.f.nd.p.nd.t.r.k, .int .i64 x.f.nd.p.nd.t.r.a, .int .i64 x.f.nd.p.nd.t.r.b, .int .i64 x.f.nd.p.nd.t.r.n, vc, .int .i64 x.f.nd.p.nd.a, .int .i64 x.f.nd.p.nd.b, vk, .int .i64 x.f.nd.p.nd.g, .int .i64 x.f.nd.p.nd.c, vd, vl, vr, vf, .int .i64 x.since, vb, vp], .int .i64 l] w fun e w' => ∃ r : Int, e = .returned (.int .i64 r) ∧ (r < 0 ∨ (0 ≤ r ∧ r = l - (x.sz : Int))) ∧ Below w.heap.size w w' := by
  obtain ⟨⟨ca, nc, cc, rfl⟩, ⟨ka, nk, kc, rfl⟩, ⟨da, nd, dc, rfl⟩⟩ := planV_shapes h.1.1.1
  obtain ⟨la, nl, lc, rfl⟩ := h.1.1.2.1.shapeN
  obtain ⟨ra, nr, rc, rfl⟩ := h.1.1.2.2.1.shapeN
  obtain ⟨fa, nf, fc, rfl⟩ := h.1.1.2.2.2.shapeN
  obtain ⟨ba, nb, bc, rfl⟩ := RawItems.shapeN' h.2.1
  obtain ⟨pa, np, pc, rfl⟩ := h.2.2.shapeN
  have HF : Hid (FlowV (n + 1) w x.f (.slice ca nc cc) (.slice ka nk kc) (.slice da nd dc) (.slice la nl lc) (.slice ra nr rc) (.slice fa nf fc)) := h.1.1
  have HI : Hid (RawItems w (.slice ba nb bc) x.base) := h.2.1
  have HP : Hid (KV 2 PaAt w (.slice pa np pc) x.pasts) := h.2.2
  have HSZ : Hid (x.sz = Fl.sz (n + 1) x.f + (x.base.length + rowsLen x.base) + (x.pasts.length + sumOf Pa.sz x.pasts)) := by show _ = _; rfl
  clear h
  obtain ⟨W, hW⟩ : ∃ W, W = w.alloc (.cells #[.int .i64 x.f.nd.p.nd.k, .int .i64 x.f.nd.p.nd.n, .int .i64 x.f.nd.p.nd.t.k, .bool x.f.nd.p.nd.t.no, .int .i64 x.f.nd.p.nd.t.l.k, .int .i64 x.f.nd.p.nd.t.l.a, .int .i64 x.f.nd.p.nd.t.l.b, .int .i64 x.f.nd.p.nd.t.l.n, .int .i64 x.f.nd.p.nd.t.r.k, .int .i64 x.f.nd.p.nd.t.r.a, .int .i64 x.f.nd.p.nd.t.r.b, .int .i64 x.f.nd.p.nd.t.r.n, .slice ca nc cc, .int .i64 x.f.nd.p.nd.a, .int .i64 x.f.nd.p.nd.b, .slice ka nk kc, .int .i64 x.f.nd.p.nd.g, .int .i64 x.f.nd.p.nd.c, .slice da nd dc, .slice la nl lc, .slice ra nr rc, .slice fa nf fc, .int .i64 x.since, .slice ba nb bc, .slice pa np pc] 112) := ⟨_, rfl⟩
  have HA : Hid (W.heap[w.heap.size]? = some (.cells #[.int .i64 x.f.nd.p.nd.k, .int .i64 x.f.nd.p.nd.n, .int .i64 x.f.nd.p.nd.t.k, .bool x.f.nd.p.nd.t.no, .int .i64 x.f.nd.p.nd.t.l.k, .int .i64 x.f.nd.p.nd.t.l.a, .int .i64 x.f.nd.p.nd.t.l.b, .int .i64 x.f.nd.p.nd.t.l.n, .int .i64 x.f.nd.p.nd.t.r.k, .int .i64 x.f.nd.p.nd.t.r.a, .int .i64 x.f.nd.p.nd.t.r.b, .int .i64 x.f.nd.p.nd.t.r.n, .slice ca nc cc, .int .i64 x.f.nd.p.nd.a, .int .i64 x.f.nd.p.nd.b, .slice ka nk kc, .int .i64 x.f.nd.p.nd.g, .int .i64 x.f.nd.p.nd.c, .slice da nd dc, .slice la nl lc, .slice ra nr rc, .slice fa nf fc, .int .i64 x.since, .slice ba nb bc, .slice pa np pc] 112)) := by show _ = _; rw [hW]; exact alloc_at _ _
  have HB : Hid (Below w.heap.size w W) := by show Below _ _ _; rw [hW]; exact bel_alloc _
  have HR0 : Hid (W.rangeAt w.heap.size 0 [.int .i64 x.f.nd.p.nd.k, .int .i64 x.f.nd.p.nd.n, .int .i64 x.f.nd.p.nd.t.k, .bool x.f.nd.p.nd.t.no, .int .i64 x.f.nd.p.nd.t.l.k, .int .i64 x.f.nd.p.nd.t.l.a, .int .i64 x.f.nd.p.nd.t.l.b, .int .i64 x.f.nd.p.nd.t.l.n, .int .i64 x.f.nd.p.nd.t.r.k, .int .i64 x.f.nd.p.nd.t.r.a, .int .i64 x.f.nd.p.nd.t.r.b, .int .i64 x.f.nd.p.nd.t.r.n, .slice ca nc cc, .int .i64 x.f.nd.p.nd.a, .int .i64 x.f.nd.p.nd.b, .slice ka nk kc, .int .i64 x.f.nd.p.nd.g, .int .i64 x.f.nd.p.nd.c, .slice da nd dc, .slice la nl lc, .slice ra nr rc, .slice fa nf fc]) := flow_range HA.out
  have hil : (Try.prog.info? 36).map (·.size) = some ([.int .i64 x.f.nd.p.nd.k, .int .i64 x.f.nd.p.nd.n, .int .i64 x.f.nd.p.nd.t.k, .bool x.f.nd.p.nd.t.no, .int .i64 x.f.nd.p.nd.t.l.k, .int .i64 x.f.nd.p.nd.t.l.a, .int .i64 x.f.nd.p.nd.t.l.b, .int .i64 x.f.nd.p.nd.t.l.n, .int .i64 x.f.nd.p.nd.t.r.k, .int .i64 x.f.nd.p.nd.t.r.a, .int .i64 x.f.nd.p.nd.t.r.b, .int .i64 x.f.nd.p.nd.t.r.n, .slice ca nc cc, .int .i64 x.f.nd.p.nd.a, .int .i64 x.f.nd.p.nd.b, .slice ka nk kc, .int .i64 x.f.nd.p.nd.g, .int .i64 x.f.nd.p.nd.c, .slice da nd dc, .slice la nl lc, .slice ra nr rc, .slice fa nf fc] : List Value).length := by kernel_rfl
  have hW' := hW.symm
  clear hW
  go_enter Try.func57, Try.ntmps57
  go_wp2_with (refine wpList_load_mid rfl 36 _ rfl w.heap.size 0 rfl [.int .i64 x.f.nd.p.nd.k, .int .i64 x.f.nd.p.nd.n, .int .i64 x.f.nd.p.nd.t.k, .bool x.f.nd.p.nd.t.no, .int .i64 x.f.nd.p.nd.t.l.k, .int .i64 x.f.nd.p.nd.t.l.a, .int .i64 x.f.nd.p.nd.t.l.b, .int .i64 x.f.nd.p.nd.t.l.n, .int .i64 x.f.nd.p.nd.t.r.k, .int .i64 x.f.nd.p.nd.t.r.a, .int .i64 x.f.nd.p.nd.t.r.b, .int .i64 x.f.nd.p.nd.t.r.n, .slice ca nc cc, .int .i64 x.f.nd.p.nd.a, .int .i64 x.f.nd.p.nd.b, .slice ka nk kc, .int .i64 x.f.nd.p.nd.g, .int .i64 x.f.nd.p.nd.c, .slice da nd dc, .slice la nl lc, .slice ra nr rc, .slice fa nf fc] _ HR0.out Try.underlying36 rfl hil ?_)
  clear hW' HR0 hil
  refine (szFlow_any n x.f _ _ _ _ _ _ l _ (FlowV.below HF.out HB.out) h0 h1).mono ?_
  rintro e w1 ⟨y, rfl, hr, hb⟩
  have HY : Hid (y < 0 ∨ (0 ≤ y ∧ y = l - (Fl.sz (n + 1) x.f : Int))) := hr
  replace HA : Hid (w1.heap[w.heap.size]? = some (.cells #[.int .i64 x.f.nd.p.nd.k, .int .i64 x.f.nd.p.nd.n, .int .i64 x.f.nd.p.nd.t.k, .bool x.f.nd.p.nd.t.no, .int .i64 x.f.nd.p.nd.t.l.k, .int .i64 x.f.nd.p.nd.t.l.a, .int .i64 x.f.nd.p.nd.t.l.b, .int .i64 x.f.nd.p.nd.t.l.n, .int .i64 x.f.nd.p.nd.t.r.k, .int .i64 x.f.nd.p.nd.t.r.a, .int .i64 x.f.nd.p.nd.t.r.b, .int .i64 x.f.nd.p.nd.t.r.n, .slice ca nc cc, .int .i64 x.f.nd.p.nd.a, .int .i64 x.f.nd.p.nd.b, .slice ka nk kc, .int .i64 x.f.nd.p.nd.g, .int .i64 x.f.nd.p.nd.c, .slice da nd dc, .slice la nl lc, .slice ra nr rc, .slice fa nf fc, .int .i64 x.since, .slice ba nb bc, .slice pa np pc] 112)) := at_below HA.out hb
  replace HB : Hid (Below w.heap.size w w1) := bel_then HB.out hb
  have c23 : w1.cell? ⟨w.heap.size, 23, none⟩ = some (.slice ba nb bc) := cell_at HA.out rfl
  clear hb hr
  by_cases g1 : y < 0
  · go_wp2
    go_ret
    exact ⟨-1, rfl, .inl (by omega), HB.out⟩
  have hy0 : 0 ≤ y := by omega
  have hy1 : y ≤ 1048576 := by have := HY.out; omega
  go_wp2_with fail
  refine (szItemS_any _ x.base y _ (HI.out.below HB.out) hy0 hy1).mono ?_
  rintro e w2 ⟨z, rfl, hr, hb⟩
  have HZ : Hid (z < 0 ∨ (0 ≤ z ∧ z = y - x.base.length - rowsLen x.base)) := hr
  replace HA : Hid (w2.heap[w.heap.size]? = some (.cells #[.int .i64 x.f.nd.p.nd.k, .int .i64 x.f.nd.p.nd.n, .int .i64 x.f.nd.p.nd.t.k, .bool x.f.nd.p.nd.t.no, .int .i64 x.f.nd.p.nd.t.l.k, .int .i64 x.f.nd.p.nd.t.l.a, .int .i64 x.f.nd.p.nd.t.l.b, .int .i64 x.f.nd.p.nd.t.l.n, .int .i64 x.f.nd.p.nd.t.r.k, .int .i64 x.f.nd.p.nd.t.r.a, .int .i64 x.f.nd.p.nd.t.r.b, .int .i64 x.f.nd.p.nd.t.r.n, .slice ca nc cc, .int .i64 x.f.nd.p.nd.a, .int .i64 x.f.nd.p.nd.b, .slice ka nk kc, .int .i64 x.f.nd.p.nd.g, .int .i64 x.f.nd.p.nd.c, .slice da nd dc, .slice la nl lc, .slice ra nr rc, .slice fa nf fc, .int .i64 x.since, .slice ba nb bc, .slice pa np pc] 112)) := at_below HA.out hb
  replace HB : Hid (Below w.heap.size w w2) := bel_then HB.out hb
  have c24 : w2.cell? ⟨w.heap.size, 24, none⟩ = some (.slice pa np pc) := cell_at HA.out rfl
  clear hb hr c23
  by_cases g2 : z < 0
  · go_wp2
    go_ret
    exact ⟨-1, rfl, .inl (by omega), HB.out⟩
  have hz0 : 0 ≤ z := by omega
  have hz1 : z ≤ 1048576 := by have := HZ.out; omega
  go_wp2_with fail
  refine (szPastS_any x.pasts _ z _ (HP.out.below HB.out fun b o p hp => hp.below HB.out) hz0 hz1).mono ?_
  rintro e w3 ⟨t, rfl, hr, hb⟩
  have HT : Hid (t < 0 ∨ (0 ≤ t ∧ t = z - ((x.pasts.length + sumOf Pa.sz x.pasts : Nat) : Int))) := hr
  replace HB : Hid (Below w.heap.size w w3) := bel_then HB.out hb
  clear hb hr c24
  by_cases g3 : t < 0
  · go_wp2
    go_ret
    exact ⟨-1, rfl, .inl (by omega), HB.out⟩
  have HFIN : Hid (0 ≤ t ∧ t = l - (x.sz : Int)) := by
    show _ ∧ _
    have e1 := HY.out
    have e2 := HZ.out
    have e3 := HT.out
    rw [HSZ.out]
    omega
  go_wp2
  go_ret
  exact ⟨t, rfl, .inr HFIN.out, HB.out⟩

theorem szViewS_none (a : Option Addr) (cap : Nat) (l : Int) (w : World) (h0 : 0 ≤ l) (h1 : l ≤ 1048576) :
    Calls Try.prog 31 #[.slice a 0 cap, .int .i64 l] w fun e w' => e = .returned (.int .i64 l) ∧ w' = w := by
  go_enter Try.func31, Try.ntmps31
  go_wp2
  refine wp_loop_rounds 1 ?_
  rw [rounds_succ]
  go_wp2
  go_ret
  exact ⟨rfl, rfl⟩
set_option maxHeartbeats 4000000 in
theorem szViewS_some (b off cap : Nat) (l : List (Vw D n)) (lf : Int) (w : World) (h0 : 0 ≤ lf) (h1 : lf ≤ 1048576) (hpos : 0 < l.length) (hlim : l.length ≤ 9223372036854775807) (hbw : b < w.heap.size)
    (hk : ∀ j (hj : j < l.length), (VwAt false) w b (off + j * 25) l[j]) :
    Calls Try.prog 31 #[.slice (some ⟨b, off, none⟩) l.length cap, .int .i64 lf] w fun e w' => ∃ r : Int, e = .returned (.int .i64 r) ∧ (r < 0 ∨ (0 ≤ r ∧ r = lf - ((l.length + sumOf Vw.sz l : Nat) : Int))) ∧ Below w.heap.size w w' := by
  have HK : Hid (∀ j (hj : j < l.length), (VwAt false) w b (off + j * 25) l[j]) := hk
  obtain ⟨m, hm⟩ : ∃ m, m = l.length := ⟨_, rfl⟩
  have HM : Hid (m = l.length) := hm
  rw [← hm] at hpos hlim ⊢
  clear hm hk
  by_cases h : (m : Int) ≤ lf
  · have h2 : ¬ lf - (m : Int) < 0 := by omega
    have hm3 : (m : Int) ≤ 1048576 := by omega
    clear hlim
    go_enter Try.func31, Try.ntmps31
    go_wp2_with fail
    go_loopw [1, 5] (fun x i wr => ∃ (k : Nat) (y : Int), k ≤ m ∧ i = .int .i64 k ∧ x = .int .i64 y ∧ 0 ≤ y ∧ y ≤ 1048576 ∧ Hid (y = lf - (m : Int) - (sumOf Vw.sz (l.take k) : Int)) ∧ Hid (Below w.heap.size w wr)) (fun _ i _ => m - (intOf i).toNat)
    case atStart => exact ⟨0, lf - (m : Int), Nat.zero_le _, rfl, rfl, by omega, by omega, by show _ = _; simp [sumOf], Below.refl _ _⟩
    case round =>
      obtain ⟨k, y, hkm, rfl, rfl, hy0, hy1, HY, HB⟩ := hrel
      by_cases hlt : k < m
      · have hkl : k < l.length := by rw [← HM.out]; exact hlt
        obtain ⟨-, vc, vk, vd, vl, vr, vf, vb, vp, hf, hp⟩ := (HK.out k hkl).below HB.out
        obtain ⟨q, hq⟩ : ∃ q, k * 25 = q := ⟨_, rfl⟩
        rw [hq] at hf
        have HR : Hid (wr.rangeAt b (off + q) ([.int .i64 l[k].f.nd.p.nd.k, .int .i64 l[k].f.nd.p.nd.n, .int .i64 l[k].f.nd.p.nd.t.k, .bool l[k].f.nd.p.nd.t.no, .int .i64 l[k].f.nd.p.nd.t.l.k, .int .i64 l[k].f.nd.p.nd.t.l.a, .int .i64 l[k].f.nd.p.nd.t.l.b, .int .i64 l[k].f.nd.p.nd.t.l.n, .int .i64 l[k].f.nd.p.nd.t.r.k, .int .i64 l[k].f.nd.p.nd.t.r.a, .int .i64 l[k].f.nd.p.nd.t.r.b, .int .i64 l[k].f.nd.p.nd.t.r.n, vc, .int .i64 l[k].f.nd.p.nd.a, .int .i64 l[k].f.nd.p.nd.b, vk, .int .i64 l[k].f.nd.p.nd.g, .int .i64 l[k].f.nd.p.nd.c, vd, vl, vr, vf, .int .i64 l[k].since, vb, vp] : List Value)) := hf
        have hi : (Try.prog.info? 112).map (·.size) = some ([.int .i64 l[k].f.nd.p.nd.k, .int .i64 l[k].f.nd.p.nd.n, .int .i64 l[k].f.nd.p.nd.t.k, .bool l[k].f.nd.p.nd.t.no, .int .i64 l[k].f.nd.p.nd.t.l.k, .int .i64 l[k].f.nd.p.nd.t.l.a, .int .i64 l[k].f.nd.p.nd.t.l.b, .int .i64 l[k].f.nd.p.nd.t.l.n, .int .i64 l[k].f.nd.p.nd.t.r.k, .int .i64 l[k].f.nd.p.nd.t.r.a, .int .i64 l[k].f.nd.p.nd.t.r.b, .int .i64 l[k].f.nd.p.nd.t.r.n, vc, .int .i64 l[k].f.nd.p.nd.a, .int .i64 l[k].f.nd.p.nd.b, vk, .int .i64 l[k].f.nd.p.nd.g, .int .i64 l[k].f.nd.p.nd.c, vd, vl, vr, vf, .int .i64 l[k].since, vb, vp] : List Value).length := by kernel_rfl
        have HPV := hidden hp
        have HST : Hid (sumOf Vw.sz (l.take (k + 1)) = sumOf Vw.sz (l.take k) + Vw.sz l[k]) := sumOf_take hkl
        clear hp hf
        go_wp2_with (refine wpList_load_mid rfl 112 _ rfl b (off + q) rfl _ _ HR.out Try.underlying112 rfl hi ?_)
        refine (szView_any false l[k] vc vk vd vl vr vf vb vp y _ HPV.out hy0 hy1).mono ?_
        rintro e w2 ⟨r, rfl, hr, hb2⟩
        have HB2 : Hid (Below w.heap.size w w2) := bel_then HB.out hb2
        clear hb2 hi HR hq
        by_cases hs : r < 0
        · clear hr
          go_wp2
          go_ret
          exact ⟨-1, rfl, .inl (by omega), HB2.out⟩
        · have hz0 : 0 ≤ r := by omega
          have HZ : Hid (r = lf - (m : Int) - (sumOf Vw.sz (l.take (k + 1)) : Int)) := by
            show _ = _
            have e1 := HY.out
            have e2 := HST.out
            omega
          have hz1 : r ≤ 1048576 := by omega
          clear hr
          go_wp2
          go_roundw
          case rel => exact ⟨k + 1, r, by omega, by go_num, rfl, hz0, hz1, HZ.out, HB2.out⟩
          case measure => simp [intOf]; omega
      · obtain rfl : k = m := by omega
        have HF : Hid (y = lf - ((k + sumOf Vw.sz l : Nat) : Int)) := by
          show _ = _
          have e1 := HY.out
          rw [HM.out, sumOf_all, ← HM.out] at e1
          omega
        go_wp2
        go_ret
        exact ⟨y, rfl, .inr ⟨hy0, HF.out⟩, HB.out⟩
  · have h2 : lf - (m : Int) < 0 := by omega
    go_enter Try.func31, Try.ntmps31
    go_wp2
    go_ret
    exact ⟨-1, rfl, .inl (by omega), Below.refl _ _⟩
theorem szViewS_any (l : List (Vw D n)) (v : Value) (lf : Int) (w : World) (hv : KV 25 (VwAt false) w v l) (h0 : 0 ≤ lf) (h1 : lf ≤ 1048576) :
    Calls Try.prog 31 #[v, .int .i64 lf] w fun e w' => ∃ r : Int, e = .returned (.int .i64 r) ∧ (r < 0 ∨ (0 ≤ r ∧ r = lf - ((l.length + sumOf Vw.sz l : Nat) : Int))) ∧ Below w.heap.size w w' := by
  obtain ⟨hl, a, cap, rfl, _, hc⟩ := hv
  by_cases hne : l = []
  · subst hne
    refine (szViewS_none a cap lf w h0 h1).mono fun e w' ⟨he, hw⟩ => ⟨lf, he, .inr ⟨h0, by simp [sumOf]⟩, by rw [hw]; exact Below.refl _ _⟩
  · obtain ⟨b, off, rfl, hbw, hk⟩ := hc hne
    exact szViewS_some b off cap l lf w h0 h1 (List.length_pos_iff.2 hne) hl hbw hk

set_option maxHeartbeats 2000000 in
theorem szStore_any (s : St D n) (vw vt vv : Value) (l : Int) (w : World) (h : StV false w s vw vt vv) (h0 : 0 ≤ l) (h1 : l ≤ 1048576) :
    Calls Try.prog 10 #[.agg #[vw, vt, vv, .int .i64 s.now, .int .i64 s.keep], .int .i64 l] w fun e w' => ∃ r : Int, e = .returned (.int .i64 r) ∧ (r < 0 ∨ (0 ≤ r ∧ r = l - (s.sz : Int))) ∧ Below w.heap.size w w' := by
  obtain ⟨wa, nw, wc, rfl⟩ := RawInts.shapeN' h.1
  obtain ⟨ta, nt, tc, rfl⟩ := h.2.1.shapeN
  obtain ⟨va, nv, vc, rfl⟩ := h.2.2.shapeN
  have HI : Hid (RawInts w (.slice wa nw wc) s.wides) := h.1
  have HT : Hid (RawRuns w (.slice ta nt tc) s.tables) := h.2.1
  have HV : Hid (KV 25 (VwAt false) w (.slice va nv vc) s.views) := h.2.2
  have HSZ : Hid (s.sz = s.wides.length + (s.tables.length + runsLen s.tables) + (s.views.length + sumOf Vw.sz s.views)) := by show _ = _; rfl
  have HNW : Hid (nw = s.wides.length) := by
    obtain ⟨-, a, c, e, -⟩ := h.1
    injection e
  have hnw : nw ≤ 9223372036854775807 := by have := h.1.1; have := HNW.out; omega
  clear h
  obtain ⟨W, hW⟩ : ∃ W, W = w.alloc (.cells #[.slice wa nw wc, .slice ta nt tc, .slice va nv vc, .int .i64 s.now, .int .i64 s.keep] 56) := ⟨_, rfl⟩
  have HA : Hid (W.heap[w.heap.size]? = some (.cells #[.slice wa nw wc, .slice ta nt tc, .slice va nv vc, .int .i64 s.now, .int .i64 s.keep] 56)) := by show _ = _; rw [hW]; exact alloc_at _ _
  have HB : Hid (Below w.heap.size w W) := by show Below _ _ _; rw [hW]; exact bel_alloc _
  have c0 : W.cell? ⟨w.heap.size, 0, none⟩ = some (.slice wa nw wc) := cell_at HA.out rfl
  have hW' := hW.symm
  clear hW
  go_enter Try.func10, Try.ntmps10
  go_wp2_with fail
  clear hW' c0
  refine (szIntS_left wa nw wc l _ h0 h1 hnw).mono ?_
  rintro e w1 ⟨rfl, rfl⟩
  have c1 : w1.cell? ⟨w.heap.size, 1, none⟩ = some (.slice ta nt tc) := cell_at HA.out rfl
  by_cases g1 : (nw : Int) ≤ l
  case neg =>
    rw [left_no g1]
    clear g1
    go_wp2
    go_ret
    exact ⟨-1, rfl, .inl (by omega), HB.out⟩
  rw [left_yes g1]
  obtain ⟨y, hy⟩ : ∃ y, y = l - (nw : Int) := ⟨_, rfl⟩
  have HY : Hid (y = l - (nw : Int)) := hy
  have hy0 : 0 ≤ y := by omega
  have hy1 : y ≤ 1048576 := by omega
  have hy2 : ¬ y < 0 := by omega
  rw [← hy]
  clear hy g1
  go_wp2_with fail
  refine (szItemSS_any _ s.tables y _ (HT.out.below HB.out) hy0 hy1).mono ?_
  rintro e w2 ⟨z, rfl, hr, hb⟩
  have HZ : Hid (z < 0 ∨ (0 ≤ z ∧ z = y - s.tables.length - runsLen s.tables)) := hr
  replace HA : Hid (w2.heap[w.heap.size]? = some (.cells #[.slice wa nw wc, .slice ta nt tc, .slice va nv vc, .int .i64 s.now, .int .i64 s.keep] 56)) := at_below HA.out hb
  replace HB : Hid (Below w.heap.size w w2) := bel_then HB.out hb
  have c2 : w2.cell? ⟨w.heap.size, 2, none⟩ = some (.slice va nv vc) := cell_at HA.out rfl
  clear hb hr c1
  by_cases g2 : z < 0
  · go_wp2
    go_ret
    exact ⟨-1, rfl, .inl (by omega), HB.out⟩
  have hz0 : 0 ≤ z := by omega
  have hz1 : z ≤ 1048576 := by have := HZ.out; omega
  go_wp2_with fail
  refine (szViewS_any s.views _ z _ (HV.out.below HB.out fun b o p hp => hp.below HB.out) hz0 hz1).mono ?_
  rintro e w3 ⟨t, rfl, hr, hb⟩
  have HTT : Hid (t < 0 ∨ (0 ≤ t ∧ t = z - ((s.views.length + sumOf Vw.sz s.views : Nat) : Int))) := hr
  replace HB : Hid (Below w.heap.size w w3) := bel_then HB.out hb
  clear hb hr c2
  by_cases g3 : t < 0
  · go_wp2
    go_ret
    exact ⟨-1, rfl, .inl (by omega), HB.out⟩
  have HFIN : Hid (0 ≤ t ∧ t = l - (s.sz : Int)) := by
    show _ ∧ _
    have e0 := HNW.out
    have e1 := HY.out
    have e2 := HZ.out
    have e3 := HTT.out
    rw [HSZ.out]
    omega
  go_wp2
  go_ret
  exact ⟨t, rfl, .inr HFIN.out, HB.out⟩

end Go.Proofs.Ytfmgohoddaobmaa.Fw

/-
  The contracts of laws.toPast, toPastS, toView, toViewS and toStore: copies in new memory.
-/
namespace Go.Proofs.Ytfmgohoddaobmaa.Fw
set_option maxRecDepth 100000
open Go.RowKit
set_option linter.unusedVariables false
set_option linter.unusedSimpArgs false
variable {D : Nat}

variable {n : Nat}
theorem setsL_mid : ∀ (vs a us b : List Value), us.length = vs.length → setsL (a ++ (us ++ b)) a.length vs = a ++ (vs ++ b)
  | [], a, us, b, h => by
    obtain rfl : us = [] := List.length_eq_zero_iff.1 h
    rfl
  | v :: r, a, [], b, h => by simp at h
  | v :: r, a, u :: us, b, h => by
    have e : (a ++ (u :: us ++ b)).set a.length v = (a ++ [v]) ++ (us ++ b) := by
      rw [List.set_append_right _ _ (Nat.le_refl _), Nat.sub_self, List.cons_append, List.set_cons_zero, List.append_assoc]
      rfl
    have ih := setsL_mid r (a ++ [v]) us b (by simpa using h)
    rw [setsL, e, show a.length + 1 = (a ++ [v]).length by simp, ih, List.append_assoc]
    rfl
theorem blk_sets0 {g : Nat} {e : TypeId} (vs us b : List Value) {w : World} (h : us.length = vs.length) (hg : w.heap[g]? = some (.cells (us ++ b).toArray e)) : (w.setCells g 0 vs).heap[g]? = some (.cells (vs ++ b).toArray e) := by
  have := blk_sets vs 0 hg
  rw [show setsL (us ++ b) 0 vs = vs ++ b from setsL_mid vs [] us b h] at this
  exact this
theorem infoPa2 : (Try.prog.info? 117).map (fun i => (i.zero, i.size, i.bytes)) = some (some (.agg #[.int .i64 0, .slice none 0 0]), 2, 32) := by kernel_rfl
theorem infoVw25 : (Try.prog.info? 85).map (fun i => (i.zero, i.size, i.bytes)) = some (some (.agg #[.int .i64 0, .int .i64 0, .int .i64 0, .bool false, .int .i64 0, .int .i64 0, .int .i64 0, .int .i64 0, .int .i64 0, .int .i64 0, .int .i64 0, .int .i64 0, .slice none 0 0, .int .i64 0, .int .i64 0, .slice none 0 0, .int .i64 0, .int .i64 0, .slice none 0 0, .slice none 0 0, .slice none 0 0, .slice none 0 0, .int .i64 0, .slice none 0 0, .slice none 0 0]), 25, 328) := by kernel_rfl
theorem one25 (x : Vw D n) (vc vk vd vl vr vf vb vp : Value) (h0 : vc.oneCell' = true) (h1 : vk.oneCell' = true) (h2 : vd.oneCell' = true) (h3 : vl.oneCell' = true) (h4 : vr.oneCell' = true) (h5 : vf.oneCell' = true) (h6 : vb.oneCell' = true) (h7 : vp.oneCell' = true) : (#[.int .i64 x.f.nd.p.nd.k, .int .i64 x.f.nd.p.nd.n, .int .i64 x.f.nd.p.nd.t.k, .bool x.f.nd.p.nd.t.no, .int .i64 x.f.nd.p.nd.t.l.k, .int .i64 x.f.nd.p.nd.t.l.a, .int .i64 x.f.nd.p.nd.t.l.b, .int .i64 x.f.nd.p.nd.t.l.n, .int .i64 x.f.nd.p.nd.t.r.k, .int .i64 x.f.nd.p.nd.t.r.a, .int .i64 x.f.nd.p.nd.t.r.b, .int .i64 x.f.nd.p.nd.t.r.n, vc, .int .i64 x.f.nd.p.nd.a, .int .i64 x.f.nd.p.nd.b, vk, .int .i64 x.f.nd.p.nd.g, .int .i64 x.f.nd.p.nd.c, vd, vl, vr, vf, .int .i64 x.since, vb, vp] : Array Value).all (·.oneCell') = true :=
  all_oneCell_toArray (cs := [.int .i64 x.f.nd.p.nd.k, .int .i64 x.f.nd.p.nd.n, .int .i64 x.f.nd.p.nd.t.k, .bool x.f.nd.p.nd.t.no, .int .i64 x.f.nd.p.nd.t.l.k, .int .i64 x.f.nd.p.nd.t.l.a, .int .i64 x.f.nd.p.nd.t.l.b, .int .i64 x.f.nd.p.nd.t.l.n, .int .i64 x.f.nd.p.nd.t.r.k, .int .i64 x.f.nd.p.nd.t.r.a, .int .i64 x.f.nd.p.nd.t.r.b, .int .i64 x.f.nd.p.nd.t.r.n, vc, .int .i64 x.f.nd.p.nd.a, .int .i64 x.f.nd.p.nd.b, vk, .int .i64 x.f.nd.p.nd.g, .int .i64 x.f.nd.p.nd.c, vd, vl, vr, vf, .int .i64 x.since, vb, vp]) fun v hv => by
    simp only [List.mem_cons, List.not_mem_nil, or_false] at hv
    rcases hv with rfl | rfl | rfl | rfl | rfl | rfl | rfl | rfl | rfl | rfl | rfl | rfl | rfl | rfl | rfl | rfl | rfl | rfl | rfl | rfl | rfl | rfl | rfl | rfl | rfl <;> first | rfl | assumption

set_option maxHeartbeats 2000000 in
theorem toPast_any (p : Pa) (vo : Value) (w : World) (h : RawItems w vo p.out) (hl : p.sz ≤ 1048576) :
    Calls Try.prog 82 #[.agg #[.int .i64 p.tm, vo]] w fun e w' => ∃ vo', e = .returned (.agg #[.int .i64 p.tm, vo']) ∧ (∃ a n c, vo' = Value.slice a n c) ∧ Up w.heap.size w' (fun x => RawItems x vo' p.out) ∧ Below w.heap.size w w' := by
  obtain ⟨oa, no, oc, rfl⟩ := RawItems.shapeN' h
  have HI : Hid (RawItems w (.slice oa no oc) p.out) := h
  have HL : Hid (p.out.length + rowsLen p.out ≤ 1048576) := hl
  clear h hl
  go_enter Try.func82, Try.ntmps82
  go_wp2_with fail
  refine (toItemS_any _ p.out _ ((HI.out.below (threeAt w _ _ _).2.2.2.1).items HL.out) HL.out).mono ?_
  rintro e w1 ⟨vo', rfl, O1, hb⟩
  have HA : Hid (w1.heap[w.heap.size]? = some (.cells #[.int .i64 p.tm, .slice oa no oc] 141)) := at_below (threeAt w _ _ _).1 hb
  have HV : Hid (w1.heap[w.heap.size + 1]? = some (.cells #[.int .i64 0, .slice none 0 0] 117)) := at_below (threeAt w _ _ _).2.1 hb
  have HO : Hid (w1.heap[w.heap.size + 1 + 1]? = some (.cells #[.int .i64 p.tm, .slice none 0 0] 117)) := at_below (threeAt w _ _ _).2.2.1 hb
  have HB : Hid (Below w.heap.size w w1) := bel_then (threeAt w _ _ _).2.2.2.1 hb
  obtain ⟨oa', no', oc', rfl⟩ : ∃ a n c, vo' = Value.slice a n c := by obtain ⟨a, c, h⟩ := O1.shape; exact ⟨a, _, c, h⟩
  have HUO : Hid (Up (w.heap.size + 1 + 1 + 1) w1 (fun x => RawItems x (.slice oa' no' oc') p.out)) := fun x hx => O1.up (hx.mono (by rw [(threeAt w _ _ _).2.2.2.2]; exact Nat.le_refl _))
  clear hb O1
  have fz : ∀ j, w1.frozen? ⟨w.heap.size + 1 + 1, j, none⟩ = false := fun j => frozen_at HO.out j
  have o1 : w1.cell? ⟨w.heap.size + 1 + 1, 1, none⟩ = some (.slice none 0 0) := cell_at HO.out rfl
  have HR5 : Hid ((w1.setCell ⟨w.heap.size + 1 + 1, 1, none⟩ (.slice oa' no' oc')).rangeAt (w.heap.size + 1 + 1) 0 ([.int .i64 p.tm, .slice oa' no' oc'] : List Value)) := range_blk (vs := #[.int .i64 p.tm, .slice oa' no' oc']) (blk_same (HO.out))
  have HT5 : Hid ((w1.setCell ⟨w.heap.size + 1 + 1, 1, none⟩ (.slice oa' no' oc')).there (w.heap.size + 1) 0 (#[.int .i64 p.tm, .slice oa' no' oc'] : Array Value).size) := there_blk (vs := #[.int .i64 0, .slice none 0 0]) (blk_other (HV.out) (by omega))
  have hio : (Try.prog.info? 117).map (·.size) = some ([.int .i64 p.tm, .slice oa' no' oc'] : List Value).length := by kernel_rfl
  have hia : (Try.prog.info? 117).map (·.size) = some (#[.int .i64 p.tm, .slice oa' no' oc'] : Array Value).size := by kernel_rfl
  have H1 : Hid ((#[.int .i64 p.tm, .slice oa' no' oc'] : Array Value).all (·.oneCell') = true) := by show _ = _; simp [Value.oneCell']
  go_wp2_with (first | (refine wpList_load_mid rfl 117 _ rfl (w.heap.size + 1 + 1) 0 rfl _ _ HR5.out Try.underlying117 rfl hio ?_) | (refine wpList_store_mid rfl 117 _ _ rfl (w.heap.size + 1) 0 #[.int .i64 p.tm, .slice oa' no' oc'] rfl rfl ?_ hia H1.out ?_))
  · exact HT5.out
  refine bodyPost_ret (v := .agg #[.int .i64 p.tm, .slice oa' no' oc']) (results_cell (a := 2) (t := 117) (ad := ⟨w.heap.size + 1, 0, none⟩) Try.results82 (by simp [Act.put]) ?hload) (by simp [Act.put]) ⟨_, rfl, ⟨_, _, _, rfl⟩, ?hup, ?hbelow⟩
  case hload => exact run_loadVar_mid (P := Try.prog) _ (w.heap.size + 1) 0 117 [.int .i64 p.tm, .slice oa' no' oc'] _ (World.rangeAt_setCells_same _ _ _ _ HT5.out) Try.underlying117 rfl hio
  case hup =>
    intro x hx
    have hx2 : Ab (w.heap.size + 1 + 1 + 1) w1 x := Ab.trans (Ab.trans (ab_setCell (Ab.refl _ _) (Nat.lt_succ_self _)) (ab_setCells _ _ _ _ (by omega))) (hx.mono (by omega))
    exact HUO.out x hx2
  case hbelow => exact bel_setCells _ _ _ _ ((HB.out).setCell (Nat.le_succ_of_le (Nat.le_succ _)) _) (Nat.le_succ _)

set_option maxHeartbeats 1000000 in
theorem toPastS_none (a : Option Addr) (cap : Nat) (w : World) :
    Calls Try.prog 76 #[.slice a 0 cap] w fun e w' => e = .returned (.slice (some ⟨w.heap.size, 0, none⟩) 0 0) ∧ Below w.heap.size w w' := by
  obtain ⟨i0, hi, hz0, hz1, hz2⟩ := info_parts infoPa2
  go_enter Try.func76, Try.ntmps76
  go_wp2_with (at_make; refine wpList_make_full _ rfl _ _ 83 rfl w.heap.size 117 i0 (.agg #[.int .i64 0, .slice none 0 0]) 2 Try.underlying83 hi hz0 hz1 _ _ _ _ 0 rfl rfl rfl rfl (by rw [hz2]; omega) (by unfold maxLen; omega) (Nat.le_refl _) ?_; intro w1 hown1 hgrow1)
  have hb1 : Below w.heap.size w w1 := (Below.refl _ _).grown hgrow1 (Nat.le_refl _) (by simp)
  clear hown1 hgrow1 hi hz0 hz1 hz2
  refine wp_loop_rounds 1 ?_
  rw [rounds_succ]
  go_wp2
  go_ret
  exact ⟨rfl, hb1⟩
/-- The first k are copied. -/
def toPastSDone (l : List Pa) (g k : Nat) (w : World) : Prop := ∀ j (hj : j < l.length), j < k → ∃ vo, w.rangeAt g (0 + j * 2) [.int .i64 l[j].tm, vo] ∧ Up (g + 1) w (fun x => RawItems x vo (l[j]).out)
set_option maxHeartbeats 4000000 in
theorem toPastS_some (b off cap : Nat) (l : List Pa) (w : World) (hpos : 0 < l.length) (hlim : l.length + sumOf Pa.sz l ≤ 1048576) (hbw : b < w.heap.size)
    (hk : ∀ j (hj : j < l.length), PaAt w b (off + j * 2) l[j]) :
    Calls Try.prog 76 #[.slice (some ⟨b, off, none⟩) l.length cap] w fun e w' =>
      e = .returned (.slice (some ⟨w.heap.size, 0, none⟩) l.length l.length) ∧ w.heap.size < w'.heap.size ∧ toPastSDone l w.heap.size l.length w' ∧ Below w.heap.size w w' := by
  have HK : Hid (∀ j (hj : j < l.length), PaAt w b (off + j * 2) l[j]) := hk
  have HSZ : Hid (∀ j (hj : j < l.length), Pa.sz l[j] ≤ 1048576) := fun j hj => by have := sumOf_at (g := Pa.sz) hj; omega
  have hlim2 : l.length ≤ 1048576 := by omega
  obtain ⟨i0, hi, hz0, hz1, hz2⟩ := info_parts infoPa2
  obtain ⟨m, hm⟩ : ∃ m, m = l.length := ⟨_, rfl⟩
  have HM : Hid (m = l.length) := hm
  rw [← hm] at hpos hlim2 ⊢
  clear hm hk hlim
  go_enter Try.func76, Try.ntmps76
  go_wp2_with (at_make; refine wpList_make_full _ rfl _ _ 83 rfl w.heap.size 117 i0 (.agg #[.int .i64 0, .slice none 0 0]) 2 Try.underlying83 hi hz0 hz1 _ _ _ _ m rfl rfl rfl rfl (by rw [hz2]; omega) (by unfold maxLen; omega) (Nat.le_refl _) ?_; intro w1 hown1 hgrow1)
  have HB1 : Hid (Below w.heap.size w w1) := (Below.refl _ _).grown hgrow1 (Nat.le_refl _) (by simp)
  have HT1 : Hid (w1.there w.heap.size 0 (m * 2)) := there_own hown1
  have hl1 : w.heap.size < w1.heap.size := own_lt hown1
  clear hown1 hgrow1 hi hz0 hz1 hz2
  go_loopw [4] (fun i wr => ∃ k : Nat, k ≤ m ∧ i = .int .i64 k ∧ Hid (w.heap.size < wr.heap.size) ∧ Hid (wr.there w.heap.size 0 (m * 2)) ∧ Hid (toPastSDone l w.heap.size k wr) ∧ Hid (Below w.heap.size w wr))
    (fun i _ => m - (intOf i).toNat)
  case atStart => exact ⟨0, Nat.zero_le _, rfl, hl1, HT1.out, fun j _ hj => by omega, HB1.out⟩
  case round =>
    obtain ⟨k, hk, rfl, HL, HT, HD, HB⟩ := hrel
    clear HB1 HT1 hl1
    by_cases hlt : k < m
    · have hkl : k < l.length := by rw [← HM.out]; exact hlt
      obtain ⟨-, vo, hf, hp⟩ := (HK.out k hkl).below HB.out
      obtain ⟨q, hq⟩ : ∃ q, k * 2 = q := ⟨_, rfl⟩
      rw [hq] at hf
      have HQ : Hid (k * 2 = q) := hq
      have HR : Hid (wr.rangeAt b (off + q) ([.int .i64 l[k].tm, vo] : List Value)) := hf
      have hil : (Try.prog.info? 141).map (·.size) = some ([.int .i64 l[k].tm, vo] : List Value).length := by kernel_rfl
      have HPV := hidden hp
      clear hp hf
      go_wp2_with (refine wpList_load_mid rfl 141 _ rfl b (off + q) rfl _ _ HR.out Try.underlying141 rfl hil ?_)
      refine (toPast_any l[k] vo _ HPV.out (HSZ.out k hkl)).mono ?_
      rintro e w2 ⟨vo', rfl, ⟨oa', no', oc', rfl⟩, hup, hb⟩
      have HT2 : Hid (w2.there w.heap.size 0 (m * 2)) := there_below HT.out hb HL.out
      have HT3 : Hid (w2.there w.heap.size q (#[.int .i64 l[k].tm, .slice oa' no' oc'] : Array Value).size) := there_part HT2.out (by have := HQ.out; show q + 2 ≤ _; omega)
      have HL2 : Hid (w.heap.size < w2.heap.size) := Nat.lt_of_lt_of_le HL.out hb.size
      have HB2 : Hid (Below w.heap.size w w2) := bel_then HB.out hb
      have HU : Hid (Up (w.heap.size + 1) w2 (fun x => RawItems x (.slice oa' no' oc') (l[k]).out)) := fun x hx => hup x (hx.mono HL.out)
      have HD2 : Hid (toPastSDone l w.heap.size k w2) := fun j hj hjk => by
        obtain ⟨vo, h1, h2⟩ := HD.out j hj hjk
        exact ⟨vo, range_below h1 hb HL.out, h2.bel hb⟩
      have hii : (Try.prog.info? 117).map (·.size) = some (#[.int .i64 l[k].tm, .slice oa' no' oc'] : Array Value).size := by kernel_rfl
      have H1 : Hid ((#[.int .i64 l[k].tm, .slice oa' no' oc'] : Array Value).all (·.oneCell') = true) := by show _ = _; simp [Value.oneCell']
      clear hb hup HR hil HT HL HB HD HPV
      go_wp2_with (refine wpList_store_mid rfl 117 _ _ rfl w.heap.size q #[.int .i64 l[k].tm, .slice oa' no' oc'] rfl rfl ?_ hii H1.out ?_)
      · exact HT3.out
      go_roundw
      case rel =>
        refine ⟨k + 1, by omega, by go_num, ?_, ?_, ?_, ?_⟩
        · show _ < _
          rw [size_setCells]; exact HL2.out
        · exact World.there_setCells HT2.out _ _ _
        · intro j hj hjk1
          by_cases hjk : j = k
          · subst hjk
            refine ⟨_, ?_, HU.out.next (ab_setCells _ _ _ _ (by omega))⟩
            rw [Nat.zero_add, HQ.out]
            exact World.rangeAt_setCells_same _ _ _ _ HT3.out
          · have hlt2 : j < k := by omega
            obtain ⟨vo, h1, h2⟩ := HD2.out j hj hlt2
            refine ⟨vo, World.rangeAt_setCells_apart h1 _ _ _ (Or.inr (Or.inl ?_)), h2.next (ab_setCells _ _ _ _ (by omega))⟩
            have := HQ.out
            simp
            omega
        · exact bel_setCells _ _ _ _ HB2.out (Nat.le_refl _)
      case measure => simp [intOf]; omega
    · have e : k = m := by omega
      subst e
      go_wp2
      go_ret
      exact ⟨rfl, HL.out, HD.out, HB.out⟩
theorem toPastS_any (l : List Pa) (v : Value) (w : World) (hv : KV 2 PaAt w v l) (hlim : l.length + sumOf Pa.sz l ≤ 1048576) :
    Calls Try.prog 76 #[v] w fun e w' => ∃ a, e = .returned (.slice (some a) l.length l.length) ∧ Up w.heap.size w' (fun x => KV 2 PaAt x (.slice (some a) l.length l.length) l) ∧ Below w.heap.size w w' := by
  obtain ⟨hl, a, cap, rfl, _, hc⟩ := hv
  by_cases hne : l = []
  · subst hne
    exact (toPastS_none a cap w).mono fun e w' ⟨he, hb⟩ => ⟨_, he, fun x _ => ⟨by simp, _, _, rfl, fun h => by simp at h, fun h => absurd rfl h⟩, hb⟩
  · obtain ⟨b, off, rfl, hbw, hk⟩ := hc hne
    refine (toPastS_some b off cap l w (List.length_pos_iff.2 hne) hlim hbw hk).mono fun e w' ⟨he, hs, hd, hb⟩ => ⟨_, he, fun x hx => ?_, hb⟩
    refine ⟨hl, _, _, rfl, fun h => by simp at h, fun _ => ⟨_, _, rfl, Nat.lt_of_lt_of_le hs hx.size, fun j hj => ?_⟩⟩
    obtain ⟨vo, h1, h2⟩ := hd j hj hj
    exact ⟨Nat.lt_of_lt_of_le hs hx.size, vo, fun i v hv => (hx.cell _ _ (Nat.le_refl _) hs).trans (h1 i v hv), h2 x (hx.mono (by omega))⟩

end Go.Proofs.Ytfmgohoddaobmaa.Fw

/-
  The contracts of laws.toView and toViewS: copies in new memory.
-/
namespace Go.Proofs.Ytfmgohoddaobmaa.Fw
set_option maxRecDepth 100000
open Go.RowKit
set_option linter.unusedVariables false
set_option linter.unusedSimpArgs false
variable {D : Nat}

variable {n : Nat}
set_option maxHeartbeats 4000000 in
theorem toView_any (x : Vw D n) (vc vk vd vl vr vf vb vp : Value) (w : World) (h : VwV false w x vc vk vd vl vr vf vb vp) (hl : x.sz ≤ 1048576) :
    Calls Try.prog 61 #[.agg #[.int .i64 x.f.nd.p.nd.k, .int .i64 x.f.nd.p.nd.n, .int .i64 x.f.nd.p.nd.t.k, .bool x.f.nd.p.nd.t.no, .int .i64 x.f.nd.p.nd.t.l.k, .int .i64 x.f.nd.p.nd.t.l.a, .int .i64 x.f.nd.p.nd.t.l.b, .int .i64 x.f.nd.p.nd.t.l.n, .int .i64 x.f.nd.p.nd.t.r.k, .int .i64 x.f.nd.p.nd.t.r.a, .int .i64 x.f.nd.p.nd.t.r.b, .int .i64 x.f.nd.p.nd.t.r.n, vc, .int .i64 x.f.nd.p.nd.a, .int .i64 x.f.nd.p.nd.b, vk, .int .i64 x.f.nd.p.nd.g, .int .i64 x.f.nd.p.nd.c, vd, vl, vr, vf, .int .i64 x.since, vb, vp]] w fun e w' => ∃ vc' vk' vd' vl' vr' vf' vb' vp', e = .returned (.agg #[.int .i64 x.f.nd.p.nd.k, .int .i64 x.f.nd.p.nd.n, .int .i64 x.f.nd.p.nd.t.k, .bool x.f.nd.p.nd.t.no, .int .i64 x.f.nd.p.nd.t.l.k, .int .i64 x.f.nd.p.nd.t.l.a, .int .i64 x.f.nd.p.nd.t.l.b, .int .i64 x.f.nd.p.nd.t.l.n, .int .i64 x.f.nd.p.nd.t.r.k, .int .i64 x.f.nd.p.nd.t.r.a, .int .i64 x.f.nd.p.nd.t.r.b, .int .i64 x.f.nd.p.nd.t.r.n, vc', .int .i64 x.f.nd.p.nd.a, .int .i64 x.f.nd.p.nd.b, vk', .int .i64 x.f.nd.p.nd.g, .int .i64 x.f.nd.p.nd.c, vd', vl', vr', vf', .int .i64 x.since, vb', vp']) ∧ ((∃ a n c, vc' = Value.slice a n c) ∧ (∃ a n c, vk' = Value.slice a n c) ∧ (∃ a n c, vd' = Value.slice a n c) ∧ (∃ a n c, vl' = Value.slice a n c) ∧ (∃ a n c, vr' = Value.slice a n c) ∧ (∃ a n c, vf' = Value.slice a n c) ∧ (∃ a n c, vb' = Value.slice a n c) ∧ (∃ a n c, vp' = Value.slice a n c)) ∧ Up w.heap.size w' (fun y => VwV true y x vc' vk' vd' vl' vr' vf' vb' vp') ∧ Below w.heap.size w w' := by
  obtain ⟨⟨ca, nc, cc, rfl⟩, ⟨ka, nk, kc, rfl⟩, ⟨da, nd, dc, rfl⟩⟩ := planV_shapes h.1.1.1
  obtain ⟨la, nl, lc, rfl⟩ := h.1.1.2.1.shapeN
  obtain ⟨ra, nr, rc, rfl⟩ := h.1.1.2.2.1.shapeN
  obtain ⟨fa, nf, fc, rfl⟩ := h.1.1.2.2.2.shapeN
  obtain ⟨ba, nb, bc, rfl⟩ := RawItems.shapeN' h.2.1
  obtain ⟨pa, np, pc, rfl⟩ := h.2.2.shapeN
  have HF : Hid (FlowV (n + 1) w x.f (.slice ca nc cc) (.slice ka nk kc) (.slice da nd dc) (.slice la nl lc) (.slice ra nr rc) (.slice fa nf fc)) := h.1.1
  have HI : Hid (RawItems w (.slice ba nb bc) x.base) := h.2.1
  have HP : Hid (KV 2 PaAt w (.slice pa np pc) x.pasts) := h.2.2
  have HZ : Hid (Fl.sz (n + 1) x.f ≤ 1048576 ∧ x.base.length + rowsLen x.base ≤ 1048576 ∧ x.pasts.length + sumOf Pa.sz x.pasts ≤ 1048576) := by
    have e : x.sz = Fl.sz (n + 1) x.f + (x.base.length + rowsLen x.base) + (x.pasts.length + sumOf Pa.sz x.pasts) := rfl
    show _ ∧ _
    omega
  clear h hl
  obtain ⟨W, hW⟩ : ∃ W, W = ((w.alloc (.cells #[.int .i64 x.f.nd.p.nd.k, .int .i64 x.f.nd.p.nd.n, .int .i64 x.f.nd.p.nd.t.k, .bool x.f.nd.p.nd.t.no, .int .i64 x.f.nd.p.nd.t.l.k, .int .i64 x.f.nd.p.nd.t.l.a, .int .i64 x.f.nd.p.nd.t.l.b, .int .i64 x.f.nd.p.nd.t.l.n, .int .i64 x.f.nd.p.nd.t.r.k, .int .i64 x.f.nd.p.nd.t.r.a, .int .i64 x.f.nd.p.nd.t.r.b, .int .i64 x.f.nd.p.nd.t.r.n, .slice ca nc cc, .int .i64 x.f.nd.p.nd.a, .int .i64 x.f.nd.p.nd.b, .slice ka nk kc, .int .i64 x.f.nd.p.nd.g, .int .i64 x.f.nd.p.nd.c, .slice da nd dc, .slice la nl lc, .slice ra nr rc, .slice fa nf fc, .int .i64 x.since, .slice ba nb bc, .slice pa np pc] 112)).alloc (.cells #[.int .i64 0, .int .i64 0, .int .i64 0, .bool false, .int .i64 0, .int .i64 0, .int .i64 0, .int .i64 0, .int .i64 0, .int .i64 0, .int .i64 0, .int .i64 0, .slice none 0 0, .int .i64 0, .int .i64 0, .slice none 0 0, .int .i64 0, .int .i64 0, .slice none 0 0, .slice none 0 0, .slice none 0 0, .slice none 0 0, .int .i64 0, .slice none 0 0, .slice none 0 0] 85)).alloc (.cells #[.int .i64 0, .int .i64 0, .int .i64 0, .bool false, .int .i64 0, .int .i64 0, .int .i64 0, .int .i64 0, .int .i64 0, .int .i64 0, .int .i64 0, .int .i64 0, .slice none 0 0, .int .i64 0, .int .i64 0, .slice none 0 0, .int .i64 0, .int .i64 0, .slice none 0 0, .slice none 0 0, .slice none 0 0, .slice none 0 0, .int .i64 0, .slice none 0 0, .slice none 0 0] 85) := ⟨_, rfl⟩
  have HA : Hid (W.heap[w.heap.size]? = some (.cells #[.int .i64 x.f.nd.p.nd.k, .int .i64 x.f.nd.p.nd.n, .int .i64 x.f.nd.p.nd.t.k, .bool x.f.nd.p.nd.t.no, .int .i64 x.f.nd.p.nd.t.l.k, .int .i64 x.f.nd.p.nd.t.l.a, .int .i64 x.f.nd.p.nd.t.l.b, .int .i64 x.f.nd.p.nd.t.l.n, .int .i64 x.f.nd.p.nd.t.r.k, .int .i64 x.f.nd.p.nd.t.r.a, .int .i64 x.f.nd.p.nd.t.r.b, .int .i64 x.f.nd.p.nd.t.r.n, .slice ca nc cc, .int .i64 x.f.nd.p.nd.a, .int .i64 x.f.nd.p.nd.b, .slice ka nk kc, .int .i64 x.f.nd.p.nd.g, .int .i64 x.f.nd.p.nd.c, .slice da nd dc, .slice la nl lc, .slice ra nr rc, .slice fa nf fc, .int .i64 x.since, .slice ba nb bc, .slice pa np pc] 112)) := by show _ = _; rw [hW]; exact (threeAt w _ _ _).1
  have HV : Hid (W.heap[w.heap.size + 1]? = some (.cells #[.int .i64 0, .int .i64 0, .int .i64 0, .bool false, .int .i64 0, .int .i64 0, .int .i64 0, .int .i64 0, .int .i64 0, .int .i64 0, .int .i64 0, .int .i64 0, .slice none 0 0, .int .i64 0, .int .i64 0, .slice none 0 0, .int .i64 0, .int .i64 0, .slice none 0 0, .slice none 0 0, .slice none 0 0, .slice none 0 0, .int .i64 0, .slice none 0 0, .slice none 0 0] 85)) := by show _ = _; rw [hW]; exact (threeAt w _ _ _).2.1
  have HO : Hid (W.heap[w.heap.size + 1 + 1]? = some (.cells #[.int .i64 0, .int .i64 0, .int .i64 0, .bool false, .int .i64 0, .int .i64 0, .int .i64 0, .int .i64 0, .int .i64 0, .int .i64 0, .int .i64 0, .int .i64 0, .slice none 0 0, .int .i64 0, .int .i64 0, .slice none 0 0, .int .i64 0, .int .i64 0, .slice none 0 0, .slice none 0 0, .slice none 0 0, .slice none 0 0, .int .i64 0, .slice none 0 0, .slice none 0 0] 85)) := by show _ = _; rw [hW]; exact (threeAt w _ _ _).2.2.1
  have HB : Hid (Below w.heap.size w W) := by show Below _ _ _; rw [hW]; exact (threeAt w _ _ _).2.2.2.1
  have HS : Hid (w.heap.size + 1 + 1 < W.heap.size) := by show _ < _; rw [hW, (threeAt w _ _ _).2.2.2.2]; omega
  have HR0 : Hid (W.rangeAt w.heap.size 0 [.int .i64 x.f.nd.p.nd.k, .int .i64 x.f.nd.p.nd.n, .int .i64 x.f.nd.p.nd.t.k, .bool x.f.nd.p.nd.t.no, .int .i64 x.f.nd.p.nd.t.l.k, .int .i64 x.f.nd.p.nd.t.l.a, .int .i64 x.f.nd.p.nd.t.l.b, .int .i64 x.f.nd.p.nd.t.l.n, .int .i64 x.f.nd.p.nd.t.r.k, .int .i64 x.f.nd.p.nd.t.r.a, .int .i64 x.f.nd.p.nd.t.r.b, .int .i64 x.f.nd.p.nd.t.r.n, .slice ca nc cc, .int .i64 x.f.nd.p.nd.a, .int .i64 x.f.nd.p.nd.b, .slice ka nk kc, .int .i64 x.f.nd.p.nd.g, .int .i64 x.f.nd.p.nd.c, .slice da nd dc, .slice la nl lc, .slice ra nr rc, .slice fa nf fc]) := flow_range HA.out
  have hil : (Try.prog.info? 36).map (·.size) = some ([.int .i64 x.f.nd.p.nd.k, .int .i64 x.f.nd.p.nd.n, .int .i64 x.f.nd.p.nd.t.k, .bool x.f.nd.p.nd.t.no, .int .i64 x.f.nd.p.nd.t.l.k, .int .i64 x.f.nd.p.nd.t.l.a, .int .i64 x.f.nd.p.nd.t.l.b, .int .i64 x.f.nd.p.nd.t.l.n, .int .i64 x.f.nd.p.nd.t.r.k, .int .i64 x.f.nd.p.nd.t.r.a, .int .i64 x.f.nd.p.nd.t.r.b, .int .i64 x.f.nd.p.nd.t.r.n, .slice ca nc cc, .int .i64 x.f.nd.p.nd.a, .int .i64 x.f.nd.p.nd.b, .slice ka nk kc, .int .i64 x.f.nd.p.nd.g, .int .i64 x.f.nd.p.nd.c, .slice da nd dc, .slice la nl lc, .slice ra nr rc, .slice fa nf fc] : List Value).length := by kernel_rfl
  have hW' := hW.symm
  clear hW
  go_enter Try.func61, Try.ntmps61
  go_wp2_with (refine wpList_load_mid rfl 36 _ rfl (w.heap.size) 0 rfl [.int .i64 x.f.nd.p.nd.k, .int .i64 x.f.nd.p.nd.n, .int .i64 x.f.nd.p.nd.t.k, .bool x.f.nd.p.nd.t.no, .int .i64 x.f.nd.p.nd.t.l.k, .int .i64 x.f.nd.p.nd.t.l.a, .int .i64 x.f.nd.p.nd.t.l.b, .int .i64 x.f.nd.p.nd.t.l.n, .int .i64 x.f.nd.p.nd.t.r.k, .int .i64 x.f.nd.p.nd.t.r.a, .int .i64 x.f.nd.p.nd.t.r.b, .int .i64 x.f.nd.p.nd.t.r.n, .slice ca nc cc, .int .i64 x.f.nd.p.nd.a, .int .i64 x.f.nd.p.nd.b, .slice ka nk kc, .int .i64 x.f.nd.p.nd.g, .int .i64 x.f.nd.p.nd.c, .slice da nd dc, .slice la nl lc, .slice ra nr rc, .slice fa nf fc] _ HR0.out Try.underlying36 rfl hil ?_)
  clear hW' HR0 hil
  refine (toFlow_any n x.f _ _ _ _ _ _ _ (FlowV.below HF.out HB.out) HZ.out.1).mono ?_
  rintro e w1 ⟨vc', vk', vd', vl', vr', vf', rfl, ⟨⟨ca', nc', cc', rfl⟩, ⟨ka', nk', kc', rfl⟩, ⟨da', nd', dc', rfl⟩, ⟨la', nl', lc', rfl⟩, ⟨ra', nr', rc', rfl⟩, ⟨fa', nf', fc', rfl⟩⟩, hup, hb⟩
  have HUF : Hid (Up (w.heap.size + 1 + 1 + 1) w1 (fun y => FlowU n y x.f (.slice ca' nc' cc') (.slice ka' nk' kc') (.slice da' nd' dc') (.slice la' nl' lc') (.slice ra' nr' rc') (.slice fa' nf' fc'))) := hup.mono HS.out
  replace HA : Hid (w1.heap[w.heap.size]? = some (.cells #[.int .i64 x.f.nd.p.nd.k, .int .i64 x.f.nd.p.nd.n, .int .i64 x.f.nd.p.nd.t.k, .bool x.f.nd.p.nd.t.no, .int .i64 x.f.nd.p.nd.t.l.k, .int .i64 x.f.nd.p.nd.t.l.a, .int .i64 x.f.nd.p.nd.t.l.b, .int .i64 x.f.nd.p.nd.t.l.n, .int .i64 x.f.nd.p.nd.t.r.k, .int .i64 x.f.nd.p.nd.t.r.a, .int .i64 x.f.nd.p.nd.t.r.b, .int .i64 x.f.nd.p.nd.t.r.n, .slice ca nc cc, .int .i64 x.f.nd.p.nd.a, .int .i64 x.f.nd.p.nd.b, .slice ka nk kc, .int .i64 x.f.nd.p.nd.g, .int .i64 x.f.nd.p.nd.c, .slice da nd dc, .slice la nl lc, .slice ra nr rc, .slice fa nf fc, .int .i64 x.since, .slice ba nb bc, .slice pa np pc] 112)) := at_below (HA.out) hb
  replace HV : Hid (w1.heap[w.heap.size + 1]? = some (.cells #[.int .i64 0, .int .i64 0, .int .i64 0, .bool false, .int .i64 0, .int .i64 0, .int .i64 0, .int .i64 0, .int .i64 0, .int .i64 0, .int .i64 0, .int .i64 0, .slice none 0 0, .int .i64 0, .int .i64 0, .slice none 0 0, .int .i64 0, .int .i64 0, .slice none 0 0, .slice none 0 0, .slice none 0 0, .slice none 0 0, .int .i64 0, .slice none 0 0, .slice none 0 0] 85)) := at_below (HV.out) hb
  replace HO : Hid (w1.heap[w.heap.size + 1 + 1]? = some (.cells #[.int .i64 0, .int .i64 0, .int .i64 0, .bool false, .int .i64 0, .int .i64 0, .int .i64 0, .int .i64 0, .int .i64 0, .int .i64 0, .int .i64 0, .int .i64 0, .slice none 0 0, .int .i64 0, .int .i64 0, .slice none 0 0, .int .i64 0, .int .i64 0, .slice none 0 0, .slice none 0 0, .slice none 0 0, .slice none 0 0, .int .i64 0, .slice none 0 0, .slice none 0 0] 85)) := at_below (HO.out) hb
  replace HB : Hid (Below w.heap.size w w1) := bel_then HB.out hb
  replace HS : Hid (w.heap.size + 1 + 1 < w1.heap.size) := Nat.lt_of_lt_of_le HS.out hb.size
  clear hup hb
  have HT1 : Hid (w1.there (w.heap.size + 1 + 1) 0 (#[.int .i64 x.f.nd.p.nd.k, .int .i64 x.f.nd.p.nd.n, .int .i64 x.f.nd.p.nd.t.k, .bool x.f.nd.p.nd.t.no, .int .i64 x.f.nd.p.nd.t.l.k, .int .i64 x.f.nd.p.nd.t.l.a, .int .i64 x.f.nd.p.nd.t.l.b, .int .i64 x.f.nd.p.nd.t.l.n, .int .i64 x.f.nd.p.nd.t.r.k, .int .i64 x.f.nd.p.nd.t.r.a, .int .i64 x.f.nd.p.nd.t.r.b, .int .i64 x.f.nd.p.nd.t.r.n, .slice ca' nc' cc', .int .i64 x.f.nd.p.nd.a, .int .i64 x.f.nd.p.nd.b, .slice ka' nk' kc', .int .i64 x.f.nd.p.nd.g, .int .i64 x.f.nd.p.nd.c, .slice da' nd' dc', .slice la' nl' lc', .slice ra' nr' rc', .slice fa' nf' fc'] : Array Value).size) := there_at HO.out 0 22 (by show _ ≤ 25; omega)
  have hi1 : (Try.prog.info? 51).map (·.size) = some (#[.int .i64 x.f.nd.p.nd.k, .int .i64 x.f.nd.p.nd.n, .int .i64 x.f.nd.p.nd.t.k, .bool x.f.nd.p.nd.t.no, .int .i64 x.f.nd.p.nd.t.l.k, .int .i64 x.f.nd.p.nd.t.l.a, .int .i64 x.f.nd.p.nd.t.l.b, .int .i64 x.f.nd.p.nd.t.l.n, .int .i64 x.f.nd.p.nd.t.r.k, .int .i64 x.f.nd.p.nd.t.r.a, .int .i64 x.f.nd.p.nd.t.r.b, .int .i64 x.f.nd.p.nd.t.r.n, .slice ca' nc' cc', .int .i64 x.f.nd.p.nd.a, .int .i64 x.f.nd.p.nd.b, .slice ka' nk' kc', .int .i64 x.f.nd.p.nd.g, .int .i64 x.f.nd.p.nd.c, .slice da' nd' dc', .slice la' nl' lc', .slice ra' nr' rc', .slice fa' nf' fc'] : Array Value).size := by kernel_rfl
  have HO1 : Hid ((#[.int .i64 x.f.nd.p.nd.k, .int .i64 x.f.nd.p.nd.n, .int .i64 x.f.nd.p.nd.t.k, .bool x.f.nd.p.nd.t.no, .int .i64 x.f.nd.p.nd.t.l.k, .int .i64 x.f.nd.p.nd.t.l.a, .int .i64 x.f.nd.p.nd.t.l.b, .int .i64 x.f.nd.p.nd.t.l.n, .int .i64 x.f.nd.p.nd.t.r.k, .int .i64 x.f.nd.p.nd.t.r.a, .int .i64 x.f.nd.p.nd.t.r.b, .int .i64 x.f.nd.p.nd.t.r.n, .slice ca' nc' cc', .int .i64 x.f.nd.p.nd.a, .int .i64 x.f.nd.p.nd.b, .slice ka' nk' kc', .int .i64 x.f.nd.p.nd.g, .int .i64 x.f.nd.p.nd.c, .slice da' nd' dc', .slice la' nl' lc', .slice ra' nr' rc', .slice fa' nf' fc'] : Array Value).all (·.oneCell') = true) := one22 x.f.nd _ _ _ _ _ _ rfl rfl rfl rfl rfl rfl
  have HAS := hidden (blk_others (by omega) [.int .i64 x.f.nd.p.nd.k, .int .i64 x.f.nd.p.nd.n, .int .i64 x.f.nd.p.nd.t.k, .bool x.f.nd.p.nd.t.no, .int .i64 x.f.nd.p.nd.t.l.k, .int .i64 x.f.nd.p.nd.t.l.a, .int .i64 x.f.nd.p.nd.t.l.b, .int .i64 x.f.nd.p.nd.t.l.n, .int .i64 x.f.nd.p.nd.t.r.k, .int .i64 x.f.nd.p.nd.t.r.a, .int .i64 x.f.nd.p.nd.t.r.b, .int .i64 x.f.nd.p.nd.t.r.n, .slice ca' nc' cc', .int .i64 x.f.nd.p.nd.a, .int .i64 x.f.nd.p.nd.b, .slice ka' nk' kc', .int .i64 x.f.nd.p.nd.g, .int .i64 x.f.nd.p.nd.c, .slice da' nd' dc', .slice la' nl' lc', .slice ra' nr' rc', .slice fa' nf' fc'] 0 HA.out : (w1.setCells (w.heap.size + 1 + 1) 0 [.int .i64 x.f.nd.p.nd.k, .int .i64 x.f.nd.p.nd.n, .int .i64 x.f.nd.p.nd.t.k, .bool x.f.nd.p.nd.t.no, .int .i64 x.f.nd.p.nd.t.l.k, .int .i64 x.f.nd.p.nd.t.l.a, .int .i64 x.f.nd.p.nd.t.l.b, .int .i64 x.f.nd.p.nd.t.l.n, .int .i64 x.f.nd.p.nd.t.r.k, .int .i64 x.f.nd.p.nd.t.r.a, .int .i64 x.f.nd.p.nd.t.r.b, .int .i64 x.f.nd.p.nd.t.r.n, .slice ca' nc' cc', .int .i64 x.f.nd.p.nd.a, .int .i64 x.f.nd.p.nd.b, .slice ka' nk' kc', .int .i64 x.f.nd.p.nd.g, .int .i64 x.f.nd.p.nd.c, .slice da' nd' dc', .slice la' nl' lc', .slice ra' nr' rc', .slice fa' nf' fc']).heap[w.heap.size]? = some (.cells #[.int .i64 x.f.nd.p.nd.k, .int .i64 x.f.nd.p.nd.n, .int .i64 x.f.nd.p.nd.t.k, .bool x.f.nd.p.nd.t.no, .int .i64 x.f.nd.p.nd.t.l.k, .int .i64 x.f.nd.p.nd.t.l.a, .int .i64 x.f.nd.p.nd.t.l.b, .int .i64 x.f.nd.p.nd.t.l.n, .int .i64 x.f.nd.p.nd.t.r.k, .int .i64 x.f.nd.p.nd.t.r.a, .int .i64 x.f.nd.p.nd.t.r.b, .int .i64 x.f.nd.p.nd.t.r.n, .slice ca nc cc, .int .i64 x.f.nd.p.nd.a, .int .i64 x.f.nd.p.nd.b, .slice ka nk kc, .int .i64 x.f.nd.p.nd.g, .int .i64 x.f.nd.p.nd.c, .slice da nd dc, .slice la nl lc, .slice ra nr rc, .slice fa nf fc, .int .i64 x.since, .slice ba nb bc, .slice pa np pc] 112))
  have HOS : Hid ((w1.setCells (w.heap.size + 1 + 1) 0 [.int .i64 x.f.nd.p.nd.k, .int .i64 x.f.nd.p.nd.n, .int .i64 x.f.nd.p.nd.t.k, .bool x.f.nd.p.nd.t.no, .int .i64 x.f.nd.p.nd.t.l.k, .int .i64 x.f.nd.p.nd.t.l.a, .int .i64 x.f.nd.p.nd.t.l.b, .int .i64 x.f.nd.p.nd.t.l.n, .int .i64 x.f.nd.p.nd.t.r.k, .int .i64 x.f.nd.p.nd.t.r.a, .int .i64 x.f.nd.p.nd.t.r.b, .int .i64 x.f.nd.p.nd.t.r.n, .slice ca' nc' cc', .int .i64 x.f.nd.p.nd.a, .int .i64 x.f.nd.p.nd.b, .slice ka' nk' kc', .int .i64 x.f.nd.p.nd.g, .int .i64 x.f.nd.p.nd.c, .slice da' nd' dc', .slice la' nl' lc', .slice ra' nr' rc', .slice fa' nf' fc']).heap[w.heap.size + 1 + 1]? = some (.cells #[.int .i64 x.f.nd.p.nd.k, .int .i64 x.f.nd.p.nd.n, .int .i64 x.f.nd.p.nd.t.k, .bool x.f.nd.p.nd.t.no, .int .i64 x.f.nd.p.nd.t.l.k, .int .i64 x.f.nd.p.nd.t.l.a, .int .i64 x.f.nd.p.nd.t.l.b, .int .i64 x.f.nd.p.nd.t.l.n, .int .i64 x.f.nd.p.nd.t.r.k, .int .i64 x.f.nd.p.nd.t.r.a, .int .i64 x.f.nd.p.nd.t.r.b, .int .i64 x.f.nd.p.nd.t.r.n, .slice ca' nc' cc', .int .i64 x.f.nd.p.nd.a, .int .i64 x.f.nd.p.nd.b, .slice ka' nk' kc', .int .i64 x.f.nd.p.nd.g, .int .i64 x.f.nd.p.nd.c, .slice da' nd' dc', .slice la' nl' lc', .slice ra' nr' rc', .slice fa' nf' fc', .int .i64 0, .slice none 0 0, .slice none 0 0] 85)) := blk_sets0 (b := [.int .i64 0, .slice none 0 0, .slice none 0 0]) [.int .i64 x.f.nd.p.nd.k, .int .i64 x.f.nd.p.nd.n, .int .i64 x.f.nd.p.nd.t.k, .bool x.f.nd.p.nd.t.no, .int .i64 x.f.nd.p.nd.t.l.k, .int .i64 x.f.nd.p.nd.t.l.a, .int .i64 x.f.nd.p.nd.t.l.b, .int .i64 x.f.nd.p.nd.t.l.n, .int .i64 x.f.nd.p.nd.t.r.k, .int .i64 x.f.nd.p.nd.t.r.a, .int .i64 x.f.nd.p.nd.t.r.b, .int .i64 x.f.nd.p.nd.t.r.n, .slice ca' nc' cc', .int .i64 x.f.nd.p.nd.a, .int .i64 x.f.nd.p.nd.b, .slice ka' nk' kc', .int .i64 x.f.nd.p.nd.g, .int .i64 x.f.nd.p.nd.c, .slice da' nd' dc', .slice la' nl' lc', .slice ra' nr' rc', .slice fa' nf' fc'] [.int .i64 0, .int .i64 0, .int .i64 0, .bool false, .int .i64 0, .int .i64 0, .int .i64 0, .int .i64 0, .int .i64 0, .int .i64 0, .int .i64 0, .int .i64 0, .slice none 0 0, .int .i64 0, .int .i64 0, .slice none 0 0, .int .i64 0, .int .i64 0, .slice none 0 0, .slice none 0 0, .slice none 0 0, .slice none 0 0] rfl HO.out
  have p22 : (w1.setCells (w.heap.size + 1 + 1) 0 [.int .i64 x.f.nd.p.nd.k, .int .i64 x.f.nd.p.nd.n, .int .i64 x.f.nd.p.nd.t.k, .bool x.f.nd.p.nd.t.no, .int .i64 x.f.nd.p.nd.t.l.k, .int .i64 x.f.nd.p.nd.t.l.a, .int .i64 x.f.nd.p.nd.t.l.b, .int .i64 x.f.nd.p.nd.t.l.n, .int .i64 x.f.nd.p.nd.t.r.k, .int .i64 x.f.nd.p.nd.t.r.a, .int .i64 x.f.nd.p.nd.t.r.b, .int .i64 x.f.nd.p.nd.t.r.n, .slice ca' nc' cc', .int .i64 x.f.nd.p.nd.a, .int .i64 x.f.nd.p.nd.b, .slice ka' nk' kc', .int .i64 x.f.nd.p.nd.g, .int .i64 x.f.nd.p.nd.c, .slice da' nd' dc', .slice la' nl' lc', .slice ra' nr' rc', .slice fa' nf' fc']).cell? ⟨w.heap.size, 22, none⟩ = some (.int .i64 x.since) := cell_at HAS.out rfl
  have p23 : (w1.setCells (w.heap.size + 1 + 1) 0 [.int .i64 x.f.nd.p.nd.k, .int .i64 x.f.nd.p.nd.n, .int .i64 x.f.nd.p.nd.t.k, .bool x.f.nd.p.nd.t.no, .int .i64 x.f.nd.p.nd.t.l.k, .int .i64 x.f.nd.p.nd.t.l.a, .int .i64 x.f.nd.p.nd.t.l.b, .int .i64 x.f.nd.p.nd.t.l.n, .int .i64 x.f.nd.p.nd.t.r.k, .int .i64 x.f.nd.p.nd.t.r.a, .int .i64 x.f.nd.p.nd.t.r.b, .int .i64 x.f.nd.p.nd.t.r.n, .slice ca' nc' cc', .int .i64 x.f.nd.p.nd.a, .int .i64 x.f.nd.p.nd.b, .slice ka' nk' kc', .int .i64 x.f.nd.p.nd.g, .int .i64 x.f.nd.p.nd.c, .slice da' nd' dc', .slice la' nl' lc', .slice ra' nr' rc', .slice fa' nf' fc']).cell? ⟨w.heap.size, 23, none⟩ = some (.slice ba nb bc) := cell_at HAS.out rfl
  have o22 : (w1.setCells (w.heap.size + 1 + 1) 0 [.int .i64 x.f.nd.p.nd.k, .int .i64 x.f.nd.p.nd.n, .int .i64 x.f.nd.p.nd.t.k, .bool x.f.nd.p.nd.t.no, .int .i64 x.f.nd.p.nd.t.l.k, .int .i64 x.f.nd.p.nd.t.l.a, .int .i64 x.f.nd.p.nd.t.l.b, .int .i64 x.f.nd.p.nd.t.l.n, .int .i64 x.f.nd.p.nd.t.r.k, .int .i64 x.f.nd.p.nd.t.r.a, .int .i64 x.f.nd.p.nd.t.r.b, .int .i64 x.f.nd.p.nd.t.r.n, .slice ca' nc' cc', .int .i64 x.f.nd.p.nd.a, .int .i64 x.f.nd.p.nd.b, .slice ka' nk' kc', .int .i64 x.f.nd.p.nd.g, .int .i64 x.f.nd.p.nd.c, .slice da' nd' dc', .slice la' nl' lc', .slice ra' nr' rc', .slice fa' nf' fc']).cell? ⟨w.heap.size + 1 + 1, 22, none⟩ = some (.int .i64 0) := cell_at HOS.out rfl
  have fz : ∀ j, (w1.setCells (w.heap.size + 1 + 1) 0 [.int .i64 x.f.nd.p.nd.k, .int .i64 x.f.nd.p.nd.n, .int .i64 x.f.nd.p.nd.t.k, .bool x.f.nd.p.nd.t.no, .int .i64 x.f.nd.p.nd.t.l.k, .int .i64 x.f.nd.p.nd.t.l.a, .int .i64 x.f.nd.p.nd.t.l.b, .int .i64 x.f.nd.p.nd.t.l.n, .int .i64 x.f.nd.p.nd.t.r.k, .int .i64 x.f.nd.p.nd.t.r.a, .int .i64 x.f.nd.p.nd.t.r.b, .int .i64 x.f.nd.p.nd.t.r.n, .slice ca' nc' cc', .int .i64 x.f.nd.p.nd.a, .int .i64 x.f.nd.p.nd.b, .slice ka' nk' kc', .int .i64 x.f.nd.p.nd.g, .int .i64 x.f.nd.p.nd.c, .slice da' nd' dc', .slice la' nl' lc', .slice ra' nr' rc', .slice fa' nf' fc']).frozen? ⟨w.heap.size + 1 + 1, j, none⟩ = false := fun j => frozen_at HOS.out j
  have HBS : Hid (Below w.heap.size w ((w1.setCells (w.heap.size + 1 + 1) 0 [.int .i64 x.f.nd.p.nd.k, .int .i64 x.f.nd.p.nd.n, .int .i64 x.f.nd.p.nd.t.k, .bool x.f.nd.p.nd.t.no, .int .i64 x.f.nd.p.nd.t.l.k, .int .i64 x.f.nd.p.nd.t.l.a, .int .i64 x.f.nd.p.nd.t.l.b, .int .i64 x.f.nd.p.nd.t.l.n, .int .i64 x.f.nd.p.nd.t.r.k, .int .i64 x.f.nd.p.nd.t.r.a, .int .i64 x.f.nd.p.nd.t.r.b, .int .i64 x.f.nd.p.nd.t.r.n, .slice ca' nc' cc', .int .i64 x.f.nd.p.nd.a, .int .i64 x.f.nd.p.nd.b, .slice ka' nk' kc', .int .i64 x.f.nd.p.nd.g, .int .i64 x.f.nd.p.nd.c, .slice da' nd' dc', .slice la' nl' lc', .slice ra' nr' rc', .slice fa' nf' fc']).setCell ⟨w.heap.size + 1 + 1, 22, none⟩ (.int .i64 x.since))) := (bel_setCells _ _ _ _ HB.out (by omega)).setCell (Nat.le_succ_of_le (Nat.le_succ _)) _
  go_wp2_with (refine wpList_store_mid rfl 51 _ _ rfl (w.heap.size + 1 + 1) 0 #[.int .i64 x.f.nd.p.nd.k, .int .i64 x.f.nd.p.nd.n, .int .i64 x.f.nd.p.nd.t.k, .bool x.f.nd.p.nd.t.no, .int .i64 x.f.nd.p.nd.t.l.k, .int .i64 x.f.nd.p.nd.t.l.a, .int .i64 x.f.nd.p.nd.t.l.b, .int .i64 x.f.nd.p.nd.t.l.n, .int .i64 x.f.nd.p.nd.t.r.k, .int .i64 x.f.nd.p.nd.t.r.a, .int .i64 x.f.nd.p.nd.t.r.b, .int .i64 x.f.nd.p.nd.t.r.n, .slice ca' nc' cc', .int .i64 x.f.nd.p.nd.a, .int .i64 x.f.nd.p.nd.b, .slice ka' nk' kc', .int .i64 x.f.nd.p.nd.g, .int .i64 x.f.nd.p.nd.c, .slice da' nd' dc', .slice la' nl' lc', .slice ra' nr' rc', .slice fa' nf' fc'] rfl rfl ?_ hi1 HO1.out ?_)
  · exact HT1.out
  refine (toItemS_any _ x.base _ ((HI.out.below HBS.out).items HZ.out.2.1) HZ.out.2.1).mono ?_
  rintro e w2 ⟨vb', rfl, O2, hb⟩
  obtain ⟨ba', nb', bc', rfl⟩ : ∃ a n c, vb' = Value.slice a n c := by obtain ⟨a, c, h⟩ := O2.shape; exact ⟨a, _, c, h⟩
  have hsz : w1.heap.size ≤ w2.heap.size := by have := hb.size; rw [setCell_sz, size_setCells] at this; exact this
  have HUI : Hid (Up (w.heap.size + 1 + 1 + 1) w2 (fun y => RawItems y (.slice ba' nb' bc') x.base)) := fun y hy => O2.up (hy.mono (by rw [setCell_sz, size_setCells]; exact HS.out))
  replace HUF : Hid (Up (w.heap.size + 1 + 1 + 1) w2 (fun y => FlowU n y x.f (.slice ca' nc' cc') (.slice ka' nk' kc') (.slice da' nd' dc') (.slice la' nl' lc') (.slice ra' nr' rc') (.slice fa' nf' fc'))) := Up.bel (Up.next HUF.out (ab_setCell (ab_setCells _ _ _ _ (Nat.lt_succ_self _)) (Nat.lt_succ_self _))) hb
  replace HA : Hid (w2.heap[w.heap.size]? = some (.cells #[.int .i64 x.f.nd.p.nd.k, .int .i64 x.f.nd.p.nd.n, .int .i64 x.f.nd.p.nd.t.k, .bool x.f.nd.p.nd.t.no, .int .i64 x.f.nd.p.nd.t.l.k, .int .i64 x.f.nd.p.nd.t.l.a, .int .i64 x.f.nd.p.nd.t.l.b, .int .i64 x.f.nd.p.nd.t.l.n, .int .i64 x.f.nd.p.nd.t.r.k, .int .i64 x.f.nd.p.nd.t.r.a, .int .i64 x.f.nd.p.nd.t.r.b, .int .i64 x.f.nd.p.nd.t.r.n, .slice ca nc cc, .int .i64 x.f.nd.p.nd.a, .int .i64 x.f.nd.p.nd.b, .slice ka nk kc, .int .i64 x.f.nd.p.nd.g, .int .i64 x.f.nd.p.nd.c, .slice da nd dc, .slice la nl lc, .slice ra nr rc, .slice fa nf fc, .int .i64 x.since, .slice ba nb bc, .slice pa np pc] 112)) := at_below (blk_other HAS.out (by omega)) hb
  replace HV : Hid (w2.heap[w.heap.size + 1]? = some (.cells #[.int .i64 0, .int .i64 0, .int .i64 0, .bool false, .int .i64 0, .int .i64 0, .int .i64 0, .int .i64 0, .int .i64 0, .int .i64 0, .int .i64 0, .int .i64 0, .slice none 0 0, .int .i64 0, .int .i64 0, .slice none 0 0, .int .i64 0, .int .i64 0, .slice none 0 0, .slice none 0 0, .slice none 0 0, .slice none 0 0, .int .i64 0, .slice none 0 0, .slice none 0 0] 85)) := at_below (blk_other (blk_others (by omega) [.int .i64 x.f.nd.p.nd.k, .int .i64 x.f.nd.p.nd.n, .int .i64 x.f.nd.p.nd.t.k, .bool x.f.nd.p.nd.t.no, .int .i64 x.f.nd.p.nd.t.l.k, .int .i64 x.f.nd.p.nd.t.l.a, .int .i64 x.f.nd.p.nd.t.l.b, .int .i64 x.f.nd.p.nd.t.l.n, .int .i64 x.f.nd.p.nd.t.r.k, .int .i64 x.f.nd.p.nd.t.r.a, .int .i64 x.f.nd.p.nd.t.r.b, .int .i64 x.f.nd.p.nd.t.r.n, .slice ca' nc' cc', .int .i64 x.f.nd.p.nd.a, .int .i64 x.f.nd.p.nd.b, .slice ka' nk' kc', .int .i64 x.f.nd.p.nd.g, .int .i64 x.f.nd.p.nd.c, .slice da' nd' dc', .slice la' nl' lc', .slice ra' nr' rc', .slice fa' nf' fc'] 0 HV.out) (by omega)) hb
  replace HO : Hid (w2.heap[w.heap.size + 1 + 1]? = some (.cells #[.int .i64 x.f.nd.p.nd.k, .int .i64 x.f.nd.p.nd.n, .int .i64 x.f.nd.p.nd.t.k, .bool x.f.nd.p.nd.t.no, .int .i64 x.f.nd.p.nd.t.l.k, .int .i64 x.f.nd.p.nd.t.l.a, .int .i64 x.f.nd.p.nd.t.l.b, .int .i64 x.f.nd.p.nd.t.l.n, .int .i64 x.f.nd.p.nd.t.r.k, .int .i64 x.f.nd.p.nd.t.r.a, .int .i64 x.f.nd.p.nd.t.r.b, .int .i64 x.f.nd.p.nd.t.r.n, .slice ca' nc' cc', .int .i64 x.f.nd.p.nd.a, .int .i64 x.f.nd.p.nd.b, .slice ka' nk' kc', .int .i64 x.f.nd.p.nd.g, .int .i64 x.f.nd.p.nd.c, .slice da' nd' dc', .slice la' nl' lc', .slice ra' nr' rc', .slice fa' nf' fc', .int .i64 x.since, .slice none 0 0, .slice none 0 0] 85)) := at_below (blk_same HOS.out) hb
  replace HB : Hid (Below w.heap.size w w2) := bel_then HBS.out hb
  replace HS : Hid (w.heap.size + 1 + 1 < w2.heap.size) := Nat.lt_of_lt_of_le HS.out hsz
  clear O2 hb hsz p22 p23 o22 fz HBS HAS HOS HT1 HO1 hi1
  have p24 : w2.cell? ⟨w.heap.size, 24, none⟩ = some (.slice pa np pc) := cell_at HA.out rfl
  have o23 : w2.cell? ⟨w.heap.size + 1 + 1, 23, none⟩ = some (.slice none 0 0) := cell_at HO.out rfl
  have fz : ∀ j, w2.frozen? ⟨w.heap.size + 1 + 1, j, none⟩ = false := fun j => frozen_at HO.out j
  have HBS : Hid (Below w.heap.size w (w2.setCell ⟨w.heap.size + 1 + 1, 23, none⟩ (.slice ba' nb' bc'))) := HB.out.setCell (Nat.le_succ_of_le (Nat.le_succ _)) _
  go_wp2_with fail
  refine (toPastS_any x.pasts _ _ (HP.out.below HBS.out fun b o p hp => hp.below HBS.out) HZ.out.2.2).mono ?_
  rintro e w3 ⟨xpa, rfl, hup, hb⟩
  obtain ⟨pa', hpa⟩ : ∃ a, a = some xpa := ⟨_, rfl⟩
  obtain ⟨np', hnp⟩ : ∃ a, a = x.pasts.length := ⟨_, rfl⟩
  rw [← hpa, ← hnp] at hup ⊢
  have hsz : w2.heap.size ≤ w3.heap.size := by have := hb.size; rw [setCell_sz] at this; exact this
  have HUK : Hid (Up (w.heap.size + 1 + 1 + 1) w3 (fun y => KV 2 PaAt y (.slice pa' np' np') x.pasts)) := hup.mono (by rw [setCell_sz]; exact HS.out)
  replace HUF : Hid (Up (w.heap.size + 1 + 1 + 1) w3 (fun y => FlowU n y x.f (.slice ca' nc' cc') (.slice ka' nk' kc') (.slice da' nd' dc') (.slice la' nl' lc') (.slice ra' nr' rc') (.slice fa' nf' fc'))) := Up.bel (Up.next HUF.out (ab_setCell (Ab.refl _ _) (Nat.lt_succ_self _))) hb
  replace HUI : Hid (Up (w.heap.size + 1 + 1 + 1) w3 (fun y => RawItems y (.slice ba' nb' bc') x.base)) := Up.bel (Up.next HUI.out (ab_setCell (Ab.refl _ _) (Nat.lt_succ_self _))) hb
  replace HA : Hid (w3.heap[w.heap.size]? = some (.cells #[.int .i64 x.f.nd.p.nd.k, .int .i64 x.f.nd.p.nd.n, .int .i64 x.f.nd.p.nd.t.k, .bool x.f.nd.p.nd.t.no, .int .i64 x.f.nd.p.nd.t.l.k, .int .i64 x.f.nd.p.nd.t.l.a, .int .i64 x.f.nd.p.nd.t.l.b, .int .i64 x.f.nd.p.nd.t.l.n, .int .i64 x.f.nd.p.nd.t.r.k, .int .i64 x.f.nd.p.nd.t.r.a, .int .i64 x.f.nd.p.nd.t.r.b, .int .i64 x.f.nd.p.nd.t.r.n, .slice ca nc cc, .int .i64 x.f.nd.p.nd.a, .int .i64 x.f.nd.p.nd.b, .slice ka nk kc, .int .i64 x.f.nd.p.nd.g, .int .i64 x.f.nd.p.nd.c, .slice da nd dc, .slice la nl lc, .slice ra nr rc, .slice fa nf fc, .int .i64 x.since, .slice ba nb bc, .slice pa np pc] 112)) := at_below (blk_other HA.out (by omega)) hb
  replace HV : Hid (w3.heap[w.heap.size + 1]? = some (.cells #[.int .i64 0, .int .i64 0, .int .i64 0, .bool false, .int .i64 0, .int .i64 0, .int .i64 0, .int .i64 0, .int .i64 0, .int .i64 0, .int .i64 0, .int .i64 0, .slice none 0 0, .int .i64 0, .int .i64 0, .slice none 0 0, .int .i64 0, .int .i64 0, .slice none 0 0, .slice none 0 0, .slice none 0 0, .slice none 0 0, .int .i64 0, .slice none 0 0, .slice none 0 0] 85)) := at_below (blk_other HV.out (by omega)) hb
  replace HO : Hid (w3.heap[w.heap.size + 1 + 1]? = some (.cells #[.int .i64 x.f.nd.p.nd.k, .int .i64 x.f.nd.p.nd.n, .int .i64 x.f.nd.p.nd.t.k, .bool x.f.nd.p.nd.t.no, .int .i64 x.f.nd.p.nd.t.l.k, .int .i64 x.f.nd.p.nd.t.l.a, .int .i64 x.f.nd.p.nd.t.l.b, .int .i64 x.f.nd.p.nd.t.l.n, .int .i64 x.f.nd.p.nd.t.r.k, .int .i64 x.f.nd.p.nd.t.r.a, .int .i64 x.f.nd.p.nd.t.r.b, .int .i64 x.f.nd.p.nd.t.r.n, .slice ca' nc' cc', .int .i64 x.f.nd.p.nd.a, .int .i64 x.f.nd.p.nd.b, .slice ka' nk' kc', .int .i64 x.f.nd.p.nd.g, .int .i64 x.f.nd.p.nd.c, .slice da' nd' dc', .slice la' nl' lc', .slice ra' nr' rc', .slice fa' nf' fc', .int .i64 x.since, .slice ba' nb' bc', .slice none 0 0] 85)) := at_below (blk_same HO.out) hb
  replace HB : Hid (Below w.heap.size w w3) := bel_then HBS.out hb
  clear hup hb hsz p24 o23 fz HBS hpa hnp
  have fz : ∀ j, w3.frozen? ⟨w.heap.size + 1 + 1, j, none⟩ = false := fun j => frozen_at HO.out j
  have o24 : w3.cell? ⟨w.heap.size + 1 + 1, 24, none⟩ = some (.slice none 0 0) := cell_at HO.out rfl
  have HR5 : Hid ((w3.setCell ⟨w.heap.size + 1 + 1, 24, none⟩ (.slice pa' np' np')).rangeAt (w.heap.size + 1 + 1) 0 ([.int .i64 x.f.nd.p.nd.k, .int .i64 x.f.nd.p.nd.n, .int .i64 x.f.nd.p.nd.t.k, .bool x.f.nd.p.nd.t.no, .int .i64 x.f.nd.p.nd.t.l.k, .int .i64 x.f.nd.p.nd.t.l.a, .int .i64 x.f.nd.p.nd.t.l.b, .int .i64 x.f.nd.p.nd.t.l.n, .int .i64 x.f.nd.p.nd.t.r.k, .int .i64 x.f.nd.p.nd.t.r.a, .int .i64 x.f.nd.p.nd.t.r.b, .int .i64 x.f.nd.p.nd.t.r.n, .slice ca' nc' cc', .int .i64 x.f.nd.p.nd.a, .int .i64 x.f.nd.p.nd.b, .slice ka' nk' kc', .int .i64 x.f.nd.p.nd.g, .int .i64 x.f.nd.p.nd.c, .slice da' nd' dc', .slice la' nl' lc', .slice ra' nr' rc', .slice fa' nf' fc', .int .i64 x.since, .slice ba' nb' bc', .slice pa' np' np'] : List Value)) := range_blk (vs := #[.int .i64 x.f.nd.p.nd.k, .int .i64 x.f.nd.p.nd.n, .int .i64 x.f.nd.p.nd.t.k, .bool x.f.nd.p.nd.t.no, .int .i64 x.f.nd.p.nd.t.l.k, .int .i64 x.f.nd.p.nd.t.l.a, .int .i64 x.f.nd.p.nd.t.l.b, .int .i64 x.f.nd.p.nd.t.l.n, .int .i64 x.f.nd.p.nd.t.r.k, .int .i64 x.f.nd.p.nd.t.r.a, .int .i64 x.f.nd.p.nd.t.r.b, .int .i64 x.f.nd.p.nd.t.r.n, .slice ca' nc' cc', .int .i64 x.f.nd.p.nd.a, .int .i64 x.f.nd.p.nd.b, .slice ka' nk' kc', .int .i64 x.f.nd.p.nd.g, .int .i64 x.f.nd.p.nd.c, .slice da' nd' dc', .slice la' nl' lc', .slice ra' nr' rc', .slice fa' nf' fc', .int .i64 x.since, .slice ba' nb' bc', .slice pa' np' np']) (blk_same (HO.out))
  have HT5 : Hid ((w3.setCell ⟨w.heap.size + 1 + 1, 24, none⟩ (.slice pa' np' np')).there (w.heap.size + 1) 0 (#[.int .i64 x.f.nd.p.nd.k, .int .i64 x.f.nd.p.nd.n, .int .i64 x.f.nd.p.nd.t.k, .bool x.f.nd.p.nd.t.no, .int .i64 x.f.nd.p.nd.t.l.k, .int .i64 x.f.nd.p.nd.t.l.a, .int .i64 x.f.nd.p.nd.t.l.b, .int .i64 x.f.nd.p.nd.t.l.n, .int .i64 x.f.nd.p.nd.t.r.k, .int .i64 x.f.nd.p.nd.t.r.a, .int .i64 x.f.nd.p.nd.t.r.b, .int .i64 x.f.nd.p.nd.t.r.n, .slice ca' nc' cc', .int .i64 x.f.nd.p.nd.a, .int .i64 x.f.nd.p.nd.b, .slice ka' nk' kc', .int .i64 x.f.nd.p.nd.g, .int .i64 x.f.nd.p.nd.c, .slice da' nd' dc', .slice la' nl' lc', .slice ra' nr' rc', .slice fa' nf' fc', .int .i64 x.since, .slice ba' nb' bc', .slice pa' np' np'] : Array Value).size) := there_blk (vs := #[.int .i64 0, .int .i64 0, .int .i64 0, .bool false, .int .i64 0, .int .i64 0, .int .i64 0, .int .i64 0, .int .i64 0, .int .i64 0, .int .i64 0, .int .i64 0, .slice none 0 0, .int .i64 0, .int .i64 0, .slice none 0 0, .int .i64 0, .int .i64 0, .slice none 0 0, .slice none 0 0, .slice none 0 0, .slice none 0 0, .int .i64 0, .slice none 0 0, .slice none 0 0]) (blk_other (HV.out) (by omega))
  have hio : (Try.prog.info? 85).map (·.size) = some ([.int .i64 x.f.nd.p.nd.k, .int .i64 x.f.nd.p.nd.n, .int .i64 x.f.nd.p.nd.t.k, .bool x.f.nd.p.nd.t.no, .int .i64 x.f.nd.p.nd.t.l.k, .int .i64 x.f.nd.p.nd.t.l.a, .int .i64 x.f.nd.p.nd.t.l.b, .int .i64 x.f.nd.p.nd.t.l.n, .int .i64 x.f.nd.p.nd.t.r.k, .int .i64 x.f.nd.p.nd.t.r.a, .int .i64 x.f.nd.p.nd.t.r.b, .int .i64 x.f.nd.p.nd.t.r.n, .slice ca' nc' cc', .int .i64 x.f.nd.p.nd.a, .int .i64 x.f.nd.p.nd.b, .slice ka' nk' kc', .int .i64 x.f.nd.p.nd.g, .int .i64 x.f.nd.p.nd.c, .slice da' nd' dc', .slice la' nl' lc', .slice ra' nr' rc', .slice fa' nf' fc', .int .i64 x.since, .slice ba' nb' bc', .slice pa' np' np'] : List Value).length := by kernel_rfl
  have hia : (Try.prog.info? 85).map (·.size) = some (#[.int .i64 x.f.nd.p.nd.k, .int .i64 x.f.nd.p.nd.n, .int .i64 x.f.nd.p.nd.t.k, .bool x.f.nd.p.nd.t.no, .int .i64 x.f.nd.p.nd.t.l.k, .int .i64 x.f.nd.p.nd.t.l.a, .int .i64 x.f.nd.p.nd.t.l.b, .int .i64 x.f.nd.p.nd.t.l.n, .int .i64 x.f.nd.p.nd.t.r.k, .int .i64 x.f.nd.p.nd.t.r.a, .int .i64 x.f.nd.p.nd.t.r.b, .int .i64 x.f.nd.p.nd.t.r.n, .slice ca' nc' cc', .int .i64 x.f.nd.p.nd.a, .int .i64 x.f.nd.p.nd.b, .slice ka' nk' kc', .int .i64 x.f.nd.p.nd.g, .int .i64 x.f.nd.p.nd.c, .slice da' nd' dc', .slice la' nl' lc', .slice ra' nr' rc', .slice fa' nf' fc', .int .i64 x.since, .slice ba' nb' bc', .slice pa' np' np'] : Array Value).size := by kernel_rfl
  have H1 : Hid ((#[.int .i64 x.f.nd.p.nd.k, .int .i64 x.f.nd.p.nd.n, .int .i64 x.f.nd.p.nd.t.k, .bool x.f.nd.p.nd.t.no, .int .i64 x.f.nd.p.nd.t.l.k, .int .i64 x.f.nd.p.nd.t.l.a, .int .i64 x.f.nd.p.nd.t.l.b, .int .i64 x.f.nd.p.nd.t.l.n, .int .i64 x.f.nd.p.nd.t.r.k, .int .i64 x.f.nd.p.nd.t.r.a, .int .i64 x.f.nd.p.nd.t.r.b, .int .i64 x.f.nd.p.nd.t.r.n, .slice ca' nc' cc', .int .i64 x.f.nd.p.nd.a, .int .i64 x.f.nd.p.nd.b, .slice ka' nk' kc', .int .i64 x.f.nd.p.nd.g, .int .i64 x.f.nd.p.nd.c, .slice da' nd' dc', .slice la' nl' lc', .slice ra' nr' rc', .slice fa' nf' fc', .int .i64 x.since, .slice ba' nb' bc', .slice pa' np' np'] : Array Value).all (·.oneCell') = true) := one25 x _ _ _ _ _ _ _ _ rfl rfl rfl rfl rfl rfl rfl rfl
  go_wp2_with (first | (refine wpList_load_mid rfl 85 _ rfl (w.heap.size + 1 + 1) 0 rfl _ _ HR5.out Try.underlying85 rfl hio ?_) | (refine wpList_store_mid rfl 85 _ _ rfl (w.heap.size + 1) 0 #[.int .i64 x.f.nd.p.nd.k, .int .i64 x.f.nd.p.nd.n, .int .i64 x.f.nd.p.nd.t.k, .bool x.f.nd.p.nd.t.no, .int .i64 x.f.nd.p.nd.t.l.k, .int .i64 x.f.nd.p.nd.t.l.a, .int .i64 x.f.nd.p.nd.t.l.b, .int .i64 x.f.nd.p.nd.t.l.n, .int .i64 x.f.nd.p.nd.t.r.k, .int .i64 x.f.nd.p.nd.t.r.a, .int .i64 x.f.nd.p.nd.t.r.b, .int .i64 x.f.nd.p.nd.t.r.n, .slice ca' nc' cc', .int .i64 x.f.nd.p.nd.a, .int .i64 x.f.nd.p.nd.b, .slice ka' nk' kc', .int .i64 x.f.nd.p.nd.g, .int .i64 x.f.nd.p.nd.c, .slice da' nd' dc', .slice la' nl' lc', .slice ra' nr' rc', .slice fa' nf' fc', .int .i64 x.since, .slice ba' nb' bc', .slice pa' np' np'] rfl rfl ?_ hia H1.out ?_))
  · exact HT5.out
  refine bodyPost_ret (v := .agg #[.int .i64 x.f.nd.p.nd.k, .int .i64 x.f.nd.p.nd.n, .int .i64 x.f.nd.p.nd.t.k, .bool x.f.nd.p.nd.t.no, .int .i64 x.f.nd.p.nd.t.l.k, .int .i64 x.f.nd.p.nd.t.l.a, .int .i64 x.f.nd.p.nd.t.l.b, .int .i64 x.f.nd.p.nd.t.l.n, .int .i64 x.f.nd.p.nd.t.r.k, .int .i64 x.f.nd.p.nd.t.r.a, .int .i64 x.f.nd.p.nd.t.r.b, .int .i64 x.f.nd.p.nd.t.r.n, .slice ca' nc' cc', .int .i64 x.f.nd.p.nd.a, .int .i64 x.f.nd.p.nd.b, .slice ka' nk' kc', .int .i64 x.f.nd.p.nd.g, .int .i64 x.f.nd.p.nd.c, .slice da' nd' dc', .slice la' nl' lc', .slice ra' nr' rc', .slice fa' nf' fc', .int .i64 x.since, .slice ba' nb' bc', .slice pa' np' np']) (results_cell (a := 2) (t := 85) (ad := ⟨w.heap.size + 1, 0, none⟩) Try.results61 (by simp [Act.put]) ?hload) (by simp [Act.put]) ⟨_, _, _, _, _, _, _, _, rfl, ⟨⟨_, _, _, rfl⟩, ⟨_, _, _, rfl⟩, ⟨_, _, _, rfl⟩, ⟨_, _, _, rfl⟩, ⟨_, _, _, rfl⟩, ⟨_, _, _, rfl⟩, ⟨_, _, _, rfl⟩, ⟨_, _, _, rfl⟩⟩, ?hup, ?hbelow⟩
  case hload => exact run_loadVar_mid (P := Try.prog) _ (w.heap.size + 1) 0 85 [.int .i64 x.f.nd.p.nd.k, .int .i64 x.f.nd.p.nd.n, .int .i64 x.f.nd.p.nd.t.k, .bool x.f.nd.p.nd.t.no, .int .i64 x.f.nd.p.nd.t.l.k, .int .i64 x.f.nd.p.nd.t.l.a, .int .i64 x.f.nd.p.nd.t.l.b, .int .i64 x.f.nd.p.nd.t.l.n, .int .i64 x.f.nd.p.nd.t.r.k, .int .i64 x.f.nd.p.nd.t.r.a, .int .i64 x.f.nd.p.nd.t.r.b, .int .i64 x.f.nd.p.nd.t.r.n, .slice ca' nc' cc', .int .i64 x.f.nd.p.nd.a, .int .i64 x.f.nd.p.nd.b, .slice ka' nk' kc', .int .i64 x.f.nd.p.nd.g, .int .i64 x.f.nd.p.nd.c, .slice da' nd' dc', .slice la' nl' lc', .slice ra' nr' rc', .slice fa' nf' fc', .int .i64 x.since, .slice ba' nb' bc', .slice pa' np' np'] _ (World.rangeAt_setCells_same _ _ _ _ HT5.out) Try.underlying85 rfl hio
  case hup =>
    intro yy hx
    have hx2 : Ab (w.heap.size + 1 + 1 + 1) w3 yy := Ab.trans (Ab.trans (ab_setCell (Ab.refl _ _) (Nat.lt_succ_self _)) (ab_setCells _ _ _ _ (by omega))) (hx.mono (by omega))
    exact ⟨⟨(HUF.out yy hx2).1, fun _ => (HUF.out yy hx2).2⟩, HUI.out yy hx2, HUK.out yy hx2⟩
  case hbelow => exact bel_setCells _ _ _ _ ((HB.out).setCell (Nat.le_succ_of_le (Nat.le_succ _)) _) (Nat.le_succ _)

set_option maxHeartbeats 1000000 in
theorem toViewS_none (a : Option Addr) (cap : Nat) (w : World) :
    Calls Try.prog 37 #[.slice a 0 cap] w fun e w' => e = .returned (.slice (some ⟨w.heap.size, 0, none⟩) 0 0) ∧ Below w.heap.size w w' := by
  obtain ⟨i0, hi, hz0, hz1, hz2⟩ := info_parts infoVw25
  go_enter Try.func37, Try.ntmps37
  go_wp2_with (at_make; refine wpList_make_full _ rfl _ _ 59 rfl w.heap.size 85 i0 (.agg #[.int .i64 0, .int .i64 0, .int .i64 0, .bool false, .int .i64 0, .int .i64 0, .int .i64 0, .int .i64 0, .int .i64 0, .int .i64 0, .int .i64 0, .int .i64 0, .slice none 0 0, .int .i64 0, .int .i64 0, .slice none 0 0, .int .i64 0, .int .i64 0, .slice none 0 0, .slice none 0 0, .slice none 0 0, .slice none 0 0, .int .i64 0, .slice none 0 0, .slice none 0 0]) 25 Try.underlying59 hi hz0 hz1 _ _ _ _ 0 rfl rfl rfl rfl (by rw [hz2]; omega) (by unfold maxLen; omega) (Nat.le_refl _) ?_; intro w1 hown1 hgrow1)
  have hb1 : Below w.heap.size w w1 := (Below.refl _ _).grown hgrow1 (Nat.le_refl _) (by simp)
  clear hown1 hgrow1 hi hz0 hz1 hz2
  refine wp_loop_rounds 1 ?_
  rw [rounds_succ]
  go_wp2
  go_ret
  exact ⟨rfl, hb1⟩
/-- The first k are copied. -/
def toViewSDone (l : List (Vw D n)) (g k : Nat) (w : World) : Prop := ∀ j (hj : j < l.length), j < k → ∃ vc vk vd vl vr vf vb vp, w.rangeAt g (0 + j * 25) [.int .i64 l[j].f.nd.p.nd.k, .int .i64 l[j].f.nd.p.nd.n, .int .i64 l[j].f.nd.p.nd.t.k, .bool l[j].f.nd.p.nd.t.no, .int .i64 l[j].f.nd.p.nd.t.l.k, .int .i64 l[j].f.nd.p.nd.t.l.a, .int .i64 l[j].f.nd.p.nd.t.l.b, .int .i64 l[j].f.nd.p.nd.t.l.n, .int .i64 l[j].f.nd.p.nd.t.r.k, .int .i64 l[j].f.nd.p.nd.t.r.a, .int .i64 l[j].f.nd.p.nd.t.r.b, .int .i64 l[j].f.nd.p.nd.t.r.n, vc, .int .i64 l[j].f.nd.p.nd.a, .int .i64 l[j].f.nd.p.nd.b, vk, .int .i64 l[j].f.nd.p.nd.g, .int .i64 l[j].f.nd.p.nd.c, vd, vl, vr, vf, .int .i64 l[j].since, vb, vp] ∧ Up (g + 1) w (fun x => VwV true x l[j] vc vk vd vl vr vf vb vp)
set_option maxHeartbeats 4000000 in
theorem toViewS_some (b off cap : Nat) (l : List (Vw D n)) (w : World) (hpos : 0 < l.length) (hlim : l.length + sumOf Vw.sz l ≤ 1048576) (hbw : b < w.heap.size)
    (hk : ∀ j (hj : j < l.length), (VwAt false) w b (off + j * 25) l[j]) :
    Calls Try.prog 37 #[.slice (some ⟨b, off, none⟩) l.length cap] w fun e w' =>
      e = .returned (.slice (some ⟨w.heap.size, 0, none⟩) l.length l.length) ∧ w.heap.size < w'.heap.size ∧ toViewSDone l w.heap.size l.length w' ∧ Below w.heap.size w w' := by
  have HK : Hid (∀ j (hj : j < l.length), (VwAt false) w b (off + j * 25) l[j]) := hk
  have HSZ : Hid (∀ j (hj : j < l.length), Vw.sz l[j] ≤ 1048576) := fun j hj => by have := sumOf_at (g := Vw.sz) hj; omega
  have hlim2 : l.length ≤ 1048576 := by omega
  obtain ⟨i0, hi, hz0, hz1, hz2⟩ := info_parts infoVw25
  obtain ⟨m, hm⟩ : ∃ m, m = l.length := ⟨_, rfl⟩
  have HM : Hid (m = l.length) := hm
  rw [← hm] at hpos hlim2 ⊢
  clear hm hk hlim
  go_enter Try.func37, Try.ntmps37
  go_wp2_with (at_make; refine wpList_make_full _ rfl _ _ 59 rfl w.heap.size 85 i0 (.agg #[.int .i64 0, .int .i64 0, .int .i64 0, .bool false, .int .i64 0, .int .i64 0, .int .i64 0, .int .i64 0, .int .i64 0, .int .i64 0, .int .i64 0, .int .i64 0, .slice none 0 0, .int .i64 0, .int .i64 0, .slice none 0 0, .int .i64 0, .int .i64 0, .slice none 0 0, .slice none 0 0, .slice none 0 0, .slice none 0 0, .int .i64 0, .slice none 0 0, .slice none 0 0]) 25 Try.underlying59 hi hz0 hz1 _ _ _ _ m rfl rfl rfl rfl (by rw [hz2]; omega) (by unfold maxLen; omega) (Nat.le_refl _) ?_; intro w1 hown1 hgrow1)
  have HB1 : Hid (Below w.heap.size w w1) := (Below.refl _ _).grown hgrow1 (Nat.le_refl _) (by simp)
  have HT1 : Hid (w1.there w.heap.size 0 (m * 25)) := there_own hown1
  have hl1 : w.heap.size < w1.heap.size := own_lt hown1
  clear hown1 hgrow1 hi hz0 hz1 hz2
  go_loopw [4] (fun i wr => ∃ k : Nat, k ≤ m ∧ i = .int .i64 k ∧ Hid (w.heap.size < wr.heap.size) ∧ Hid (wr.there w.heap.size 0 (m * 25)) ∧ Hid (toViewSDone l w.heap.size k wr) ∧ Hid (Below w.heap.size w wr))
    (fun i _ => m - (intOf i).toNat)
  case atStart => exact ⟨0, Nat.zero_le _, rfl, hl1, HT1.out, fun j _ hj => by omega, HB1.out⟩
  case round =>
    obtain ⟨k, hk, rfl, HL, HT, HD, HB⟩ := hrel
    clear HB1 HT1 hl1
    by_cases hlt : k < m
    · have hkl : k < l.length := by rw [← HM.out]; exact hlt
      obtain ⟨-, vc, vk, vd, vl, vr, vf, vb, vp, hf, hp⟩ := (HK.out k hkl).below HB.out
      obtain ⟨q, hq⟩ : ∃ q, k * 25 = q := ⟨_, rfl⟩
      rw [hq] at hf
      have HQ : Hid (k * 25 = q) := hq
      have HR : Hid (wr.rangeAt b (off + q) ([.int .i64 l[k].f.nd.p.nd.k, .int .i64 l[k].f.nd.p.nd.n, .int .i64 l[k].f.nd.p.nd.t.k, .bool l[k].f.nd.p.nd.t.no, .int .i64 l[k].f.nd.p.nd.t.l.k, .int .i64 l[k].f.nd.p.nd.t.l.a, .int .i64 l[k].f.nd.p.nd.t.l.b, .int .i64 l[k].f.nd.p.nd.t.l.n, .int .i64 l[k].f.nd.p.nd.t.r.k, .int .i64 l[k].f.nd.p.nd.t.r.a, .int .i64 l[k].f.nd.p.nd.t.r.b, .int .i64 l[k].f.nd.p.nd.t.r.n, vc, .int .i64 l[k].f.nd.p.nd.a, .int .i64 l[k].f.nd.p.nd.b, vk, .int .i64 l[k].f.nd.p.nd.g, .int .i64 l[k].f.nd.p.nd.c, vd, vl, vr, vf, .int .i64 l[k].since, vb, vp] : List Value)) := hf
      have hil : (Try.prog.info? 112).map (·.size) = some ([.int .i64 l[k].f.nd.p.nd.k, .int .i64 l[k].f.nd.p.nd.n, .int .i64 l[k].f.nd.p.nd.t.k, .bool l[k].f.nd.p.nd.t.no, .int .i64 l[k].f.nd.p.nd.t.l.k, .int .i64 l[k].f.nd.p.nd.t.l.a, .int .i64 l[k].f.nd.p.nd.t.l.b, .int .i64 l[k].f.nd.p.nd.t.l.n, .int .i64 l[k].f.nd.p.nd.t.r.k, .int .i64 l[k].f.nd.p.nd.t.r.a, .int .i64 l[k].f.nd.p.nd.t.r.b, .int .i64 l[k].f.nd.p.nd.t.r.n, vc, .int .i64 l[k].f.nd.p.nd.a, .int .i64 l[k].f.nd.p.nd.b, vk, .int .i64 l[k].f.nd.p.nd.g, .int .i64 l[k].f.nd.p.nd.c, vd, vl, vr, vf, .int .i64 l[k].since, vb, vp] : List Value).length := by kernel_rfl
      have HPV := hidden hp
      clear hp hf
      go_wp2_with (refine wpList_load_mid rfl 112 _ rfl b (off + q) rfl _ _ HR.out Try.underlying112 rfl hil ?_)
      refine (toView_any l[k] vc vk vd vl vr vf vb vp _ HPV.out (HSZ.out k hkl)).mono ?_
      rintro e w2 ⟨vc', vk', vd', vl', vr', vf', vb', vp', rfl, ⟨⟨ca', nc', cc', rfl⟩, ⟨ka', nk', kc', rfl⟩, ⟨da', nd', dc', rfl⟩, ⟨la', nl', lc', rfl⟩, ⟨ra', nr', rc', rfl⟩, ⟨fa', nf', fc', rfl⟩, ⟨ba', nb', bc', rfl⟩, ⟨pa', np', pc', rfl⟩⟩, hup, hb⟩
      have HT2 : Hid (w2.there w.heap.size 0 (m * 25)) := there_below HT.out hb HL.out
      have HT3 : Hid (w2.there w.heap.size q (#[.int .i64 l[k].f.nd.p.nd.k, .int .i64 l[k].f.nd.p.nd.n, .int .i64 l[k].f.nd.p.nd.t.k, .bool l[k].f.nd.p.nd.t.no, .int .i64 l[k].f.nd.p.nd.t.l.k, .int .i64 l[k].f.nd.p.nd.t.l.a, .int .i64 l[k].f.nd.p.nd.t.l.b, .int .i64 l[k].f.nd.p.nd.t.l.n, .int .i64 l[k].f.nd.p.nd.t.r.k, .int .i64 l[k].f.nd.p.nd.t.r.a, .int .i64 l[k].f.nd.p.nd.t.r.b, .int .i64 l[k].f.nd.p.nd.t.r.n, .slice ca' nc' cc', .int .i64 l[k].f.nd.p.nd.a, .int .i64 l[k].f.nd.p.nd.b, .slice ka' nk' kc', .int .i64 l[k].f.nd.p.nd.g, .int .i64 l[k].f.nd.p.nd.c, .slice da' nd' dc', .slice la' nl' lc', .slice ra' nr' rc', .slice fa' nf' fc', .int .i64 l[k].since, .slice ba' nb' bc', .slice pa' np' pc'] : Array Value).size) := there_part HT2.out (by have := HQ.out; show q + 25 ≤ _; omega)
      have HL2 : Hid (w.heap.size < w2.heap.size) := Nat.lt_of_lt_of_le HL.out hb.size
      have HB2 : Hid (Below w.heap.size w w2) := bel_then HB.out hb
      have HU : Hid (Up (w.heap.size + 1) w2 (fun x => VwV true x l[k] (.slice ca' nc' cc') (.slice ka' nk' kc') (.slice da' nd' dc') (.slice la' nl' lc') (.slice ra' nr' rc') (.slice fa' nf' fc') (.slice ba' nb' bc') (.slice pa' np' pc'))) := fun x hx => hup x (hx.mono HL.out)
      have HD2 : Hid (toViewSDone l w.heap.size k w2) := fun j hj hjk => by
        obtain ⟨vc, vk, vd, vl, vr, vf, vb, vp, h1, h2⟩ := HD.out j hj hjk
        exact ⟨vc, vk, vd, vl, vr, vf, vb, vp, range_below h1 hb HL.out, h2.bel hb⟩
      have hii : (Try.prog.info? 85).map (·.size) = some (#[.int .i64 l[k].f.nd.p.nd.k, .int .i64 l[k].f.nd.p.nd.n, .int .i64 l[k].f.nd.p.nd.t.k, .bool l[k].f.nd.p.nd.t.no, .int .i64 l[k].f.nd.p.nd.t.l.k, .int .i64 l[k].f.nd.p.nd.t.l.a, .int .i64 l[k].f.nd.p.nd.t.l.b, .int .i64 l[k].f.nd.p.nd.t.l.n, .int .i64 l[k].f.nd.p.nd.t.r.k, .int .i64 l[k].f.nd.p.nd.t.r.a, .int .i64 l[k].f.nd.p.nd.t.r.b, .int .i64 l[k].f.nd.p.nd.t.r.n, .slice ca' nc' cc', .int .i64 l[k].f.nd.p.nd.a, .int .i64 l[k].f.nd.p.nd.b, .slice ka' nk' kc', .int .i64 l[k].f.nd.p.nd.g, .int .i64 l[k].f.nd.p.nd.c, .slice da' nd' dc', .slice la' nl' lc', .slice ra' nr' rc', .slice fa' nf' fc', .int .i64 l[k].since, .slice ba' nb' bc', .slice pa' np' pc'] : Array Value).size := by kernel_rfl
      have H1 : Hid ((#[.int .i64 l[k].f.nd.p.nd.k, .int .i64 l[k].f.nd.p.nd.n, .int .i64 l[k].f.nd.p.nd.t.k, .bool l[k].f.nd.p.nd.t.no, .int .i64 l[k].f.nd.p.nd.t.l.k, .int .i64 l[k].f.nd.p.nd.t.l.a, .int .i64 l[k].f.nd.p.nd.t.l.b, .int .i64 l[k].f.nd.p.nd.t.l.n, .int .i64 l[k].f.nd.p.nd.t.r.k, .int .i64 l[k].f.nd.p.nd.t.r.a, .int .i64 l[k].f.nd.p.nd.t.r.b, .int .i64 l[k].f.nd.p.nd.t.r.n, .slice ca' nc' cc', .int .i64 l[k].f.nd.p.nd.a, .int .i64 l[k].f.nd.p.nd.b, .slice ka' nk' kc', .int .i64 l[k].f.nd.p.nd.g, .int .i64 l[k].f.nd.p.nd.c, .slice da' nd' dc', .slice la' nl' lc', .slice ra' nr' rc', .slice fa' nf' fc', .int .i64 l[k].since, .slice ba' nb' bc', .slice pa' np' pc'] : Array Value).all (·.oneCell') = true) := one25 l[k] _ _ _ _ _ _ _ _ rfl rfl rfl rfl rfl rfl rfl rfl
      clear hb hup HR hil HT HL HB HD HPV
      go_wp2_with (refine wpList_store_mid rfl 85 _ _ rfl w.heap.size q #[.int .i64 l[k].f.nd.p.nd.k, .int .i64 l[k].f.nd.p.nd.n, .int .i64 l[k].f.nd.p.nd.t.k, .bool l[k].f.nd.p.nd.t.no, .int .i64 l[k].f.nd.p.nd.t.l.k, .int .i64 l[k].f.nd.p.nd.t.l.a, .int .i64 l[k].f.nd.p.nd.t.l.b, .int .i64 l[k].f.nd.p.nd.t.l.n, .int .i64 l[k].f.nd.p.nd.t.r.k, .int .i64 l[k].f.nd.p.nd.t.r.a, .int .i64 l[k].f.nd.p.nd.t.r.b, .int .i64 l[k].f.nd.p.nd.t.r.n, .slice ca' nc' cc', .int .i64 l[k].f.nd.p.nd.a, .int .i64 l[k].f.nd.p.nd.b, .slice ka' nk' kc', .int .i64 l[k].f.nd.p.nd.g, .int .i64 l[k].f.nd.p.nd.c, .slice da' nd' dc', .slice la' nl' lc', .slice ra' nr' rc', .slice fa' nf' fc', .int .i64 l[k].since, .slice ba' nb' bc', .slice pa' np' pc'] rfl rfl ?_ hii H1.out ?_)
      · exact HT3.out
      go_roundw
      case rel =>
        refine ⟨k + 1, by omega, by go_num, ?_, ?_, ?_, ?_⟩
        · show _ < _
          rw [size_setCells]; exact HL2.out
        · exact World.there_setCells HT2.out _ _ _
        · intro j hj hjk1
          by_cases hjk : j = k
          · subst hjk
            refine ⟨_, _, _, _, _, _, _, _, ?_, HU.out.next (ab_setCells _ _ _ _ (by omega))⟩
            rw [Nat.zero_add, HQ.out]
            exact World.rangeAt_setCells_same _ _ _ _ HT3.out
          · have hlt2 : j < k := by omega
            obtain ⟨vc, vk, vd, vl, vr, vf, vb, vp, h1, h2⟩ := HD2.out j hj hlt2
            refine ⟨vc, vk, vd, vl, vr, vf, vb, vp, World.rangeAt_setCells_apart h1 _ _ _ (Or.inr (Or.inl ?_)), h2.next (ab_setCells _ _ _ _ (by omega))⟩
            have := HQ.out
            simp
            omega
        · exact bel_setCells _ _ _ _ HB2.out (Nat.le_refl _)
      case measure => simp [intOf]; omega
    · have e : k = m := by omega
      subst e
      go_wp2
      go_ret
      exact ⟨rfl, HL.out, HD.out, HB.out⟩
theorem toViewS_any (l : List (Vw D n)) (v : Value) (w : World) (hv : KV 25 (VwAt false) w v l) (hlim : l.length + sumOf Vw.sz l ≤ 1048576) :
    Calls Try.prog 37 #[v] w fun e w' => ∃ a, e = .returned (.slice (some a) l.length l.length) ∧ Up w.heap.size w' (fun x => KV 25 (VwAt true) x (.slice (some a) l.length l.length) l) ∧ Below w.heap.size w w' := by
  obtain ⟨hl, a, cap, rfl, _, hc⟩ := hv
  by_cases hne : l = []
  · subst hne
    exact (toViewS_none a cap w).mono fun e w' ⟨he, hb⟩ => ⟨_, he, fun x _ => ⟨by simp, _, _, rfl, fun h => by simp at h, fun h => absurd rfl h⟩, hb⟩
  · obtain ⟨b, off, rfl, hbw, hk⟩ := hc hne
    refine (toViewS_some b off cap l w (List.length_pos_iff.2 hne) hlim hbw hk).mono fun e w' ⟨he, hs, hd, hb⟩ => ⟨_, he, fun x hx => ?_, hb⟩
    refine ⟨hl, _, _, rfl, fun h => by simp at h, fun _ => ⟨_, _, rfl, Nat.lt_of_lt_of_le hs hx.size, fun j hj => ?_⟩⟩
    obtain ⟨vc, vk, vd, vl, vr, vf, vb, vp, h1, h2⟩ := hd j hj hj
    exact ⟨Nat.lt_of_lt_of_le hs hx.size, vc, vk, vd, vl, vr, vf, vb, vp, fun i v hv => (hx.cell _ _ (Nat.le_refl _) hs).trans (h1 i v hv), h2 x (hx.mono (by omega))⟩

end Go.Proofs.Ytfmgohoddaobmaa.Fw

/-
  The contract of laws.toStore: a copy in new memory.
-/
namespace Go.Proofs.Ytfmgohoddaobmaa.Fw
set_option maxRecDepth 100000
open Go.RowKit
set_option linter.unusedVariables false
set_option linter.unusedSimpArgs false
variable {D : Nat}

variable {n : Nat}
set_option maxHeartbeats 4000000 in
theorem toStore_any (s : St D n) (vw vt vv : Value) (w : World) (h : StV false w s vw vt vv) (hl : s.sz ≤ 1048576) :
    Calls Try.prog 12 #[.agg #[vw, vt, vv, .int .i64 s.now, .int .i64 s.keep]] w fun e w' => ∃ vw' vt' vv', e = .returned (.agg #[vw', vt', vv', .int .i64 s.now, .int .i64 s.keep]) ∧ ((∃ a n c, vw' = Value.slice a n c) ∧ (∃ a n c, vt' = Value.slice a n c) ∧ (∃ a n c, vv' = Value.slice a n c)) ∧ Up w.heap.size w' (fun y => StV true y s vw' vt' vv') ∧ Below w.heap.size w w' := by
  obtain ⟨wa, nw, wc, rfl⟩ := RawInts.shapeN' h.1
  obtain ⟨ta, nt, tc, rfl⟩ := h.2.1.shapeN
  obtain ⟨va, nv, vc, rfl⟩ := h.2.2.shapeN
  have HI : Hid (RawInts w (.slice wa nw wc) s.wides) := h.1
  have HT : Hid (RawRuns w (.slice ta nt tc) s.tables) := h.2.1
  have HW : Hid (KV 25 (VwAt false) w (.slice va nv vc) s.views) := h.2.2
  have HZ : Hid (s.wides.length ≤ 1048576 ∧ s.tables.length + runsLen s.tables ≤ 1048576 ∧ s.views.length + sumOf Vw.sz s.views ≤ 1048576) := by
    have e : s.sz = s.wides.length + (s.tables.length + runsLen s.tables) + (s.views.length + sumOf Vw.sz s.views) := rfl
    show _ ∧ _
    omega
  clear h hl
  go_enter Try.func12, Try.ntmps12
  go_wp2_with fail
  refine (toIntS_up _ s.wides _ (HI.out.below (threeAt w _ _ _).2.2.2.1) HZ.out.1).mono ?_
  rintro e w1 ⟨xwa, rfl, hup, hb⟩
  obtain ⟨wa', hwa⟩ : ∃ a, a = some xwa := ⟨_, rfl⟩
  obtain ⟨nw', hnw⟩ : ∃ a, a = s.wides.length := ⟨_, rfl⟩
  rw [← hwa, ← hnw] at hup ⊢
  have HUI : Hid (Up (w.heap.size + 1 + 1 + 1) w1 (fun y => RawInts y (.slice wa' nw' nw') s.wides)) := hup.mono (by rw [(threeAt w _ _ _).2.2.2.2]; exact Nat.le_refl _)
  have HA : Hid (w1.heap[w.heap.size]? = some (.cells #[.slice wa nw wc, .slice ta nt tc, .slice va nv vc, .int .i64 s.now, .int .i64 s.keep] 56)) := at_below (threeAt w _ _ _).1 hb
  have HV : Hid (w1.heap[w.heap.size + 1]? = some (.cells #[.slice none 0 0, .slice none 0 0, .slice none 0 0, .int .i64 0, .int .i64 0] 61)) := at_below (threeAt w _ _ _).2.1 hb
  have HO : Hid (w1.heap[w.heap.size + 1 + 1]? = some (.cells #[.slice none 0 0, .slice none 0 0, .slice none 0 0, .int .i64 0, .int .i64 0] 61)) := at_below (threeAt w _ _ _).2.2.1 hb
  have HB : Hid (Below w.heap.size w w1) := bel_then (threeAt w _ _ _).2.2.2.1 hb
  have HS : Hid (w.heap.size + 1 + 1 < w1.heap.size) := by have h1 := hb.size; rw [(threeAt w _ _ _).2.2.2.2] at h1; show _ < _; omega
  clear hup hb hwa hnw
  have p1 : w1.cell? ⟨w.heap.size, 1, none⟩ = some (.slice ta nt tc) := cell_at HA.out rfl
  have o0 : w1.cell? ⟨w.heap.size + 1 + 1, 0, none⟩ = some (.slice none 0 0) := cell_at HO.out rfl
  have fz : ∀ j, w1.frozen? ⟨w.heap.size + 1 + 1, j, none⟩ = false := fun j => frozen_at HO.out j
  have HBS : Hid (Below w.heap.size w (w1.setCell ⟨w.heap.size + 1 + 1, 0, none⟩ (.slice wa' nw' nw'))) := HB.out.setCell (Nat.le_succ_of_le (Nat.le_succ _)) _
  go_wp2_with fail
  refine (toItemSS_any _ s.tables _ (HT.out.below HBS.out) HZ.out.2.1).mono ?_
  rintro e w2 ⟨vt', rfl, O2, hb⟩
  obtain ⟨ta', nt', tc', rfl⟩ : ∃ a n c, vt' = Value.slice a n c := by obtain ⟨a, c, h⟩ := O2.shape; exact ⟨a, _, c, h⟩
  have HUT : Hid (Up (w.heap.size + 1 + 1 + 1) w2 (fun y => RawRuns y (.slice ta' nt' tc') s.tables)) := fun y hy => O2.up (hy.mono (by rw [setCell_sz]; exact HS.out))
  replace HUI : Hid (Up (w.heap.size + 1 + 1 + 1) w2 (fun y => RawInts y (.slice wa' nw' nw') s.wides)) := Up.bel (Up.next HUI.out (ab_setCell (Ab.refl _ _) (Nat.lt_succ_self _))) hb
  have hsz : w1.heap.size ≤ w2.heap.size := by have := hb.size; rw [setCell_sz] at this; exact this
  replace HA : Hid (w2.heap[w.heap.size]? = some (.cells #[.slice wa nw wc, .slice ta nt tc, .slice va nv vc, .int .i64 s.now, .int .i64 s.keep] 56)) := at_below (blk_other HA.out (by omega)) hb
  replace HV : Hid (w2.heap[w.heap.size + 1]? = some (.cells #[.slice none 0 0, .slice none 0 0, .slice none 0 0, .int .i64 0, .int .i64 0] 61)) := at_below (blk_other HV.out (by omega)) hb
  replace HO : Hid (w2.heap[w.heap.size + 1 + 1]? = some (.cells #[.slice wa' nw' nw', .slice none 0 0, .slice none 0 0, .int .i64 0, .int .i64 0] 61)) := at_below (blk_same HO.out) hb
  replace HB : Hid (Below w.heap.size w w2) := bel_then HBS.out hb
  replace HS : Hid (w.heap.size + 1 + 1 < w2.heap.size) := Nat.lt_of_lt_of_le HS.out hsz
  clear O2 hb hsz p1 o0 fz HBS
  have p2 : w2.cell? ⟨w.heap.size, 2, none⟩ = some (.slice va nv vc) := cell_at HA.out rfl
  have o1 : w2.cell? ⟨w.heap.size + 1 + 1, 1, none⟩ = some (.slice none 0 0) := cell_at HO.out rfl
  have fz : ∀ j, w2.frozen? ⟨w.heap.size + 1 + 1, j, none⟩ = false := fun j => frozen_at HO.out j
  have HBS : Hid (Below w.heap.size w (w2.setCell ⟨w.heap.size + 1 + 1, 1, none⟩ (.slice ta' nt' tc'))) := HB.out.setCell (Nat.le_succ_of_le (Nat.le_succ _)) _
  go_wp2_with fail
  refine (toViewS_any s.views _ _ (HW.out.below HBS.out fun b o p hp => hp.below HBS.out) HZ.out.2.2).mono ?_
  rintro e w3 ⟨xva, rfl, hup, hb⟩
  obtain ⟨va', hva⟩ : ∃ a, a = some xva := ⟨_, rfl⟩
  obtain ⟨nv', hnv⟩ : ∃ a, a = s.views.length := ⟨_, rfl⟩
  rw [← hva, ← hnv] at hup ⊢
  have HUW : Hid (Up (w.heap.size + 1 + 1 + 1) w3 (fun y => KV 25 (VwAt true) y (.slice va' nv' nv') s.views)) := hup.mono (by rw [setCell_sz]; exact HS.out)
  replace HUI : Hid (Up (w.heap.size + 1 + 1 + 1) w3 (fun y => RawInts y (.slice wa' nw' nw') s.wides)) := Up.bel (Up.next HUI.out (ab_setCell (Ab.refl _ _) (Nat.lt_succ_self _))) hb
  replace HUT : Hid (Up (w.heap.size + 1 + 1 + 1) w3 (fun y => RawRuns y (.slice ta' nt' tc') s.tables)) := Up.bel (Up.next HUT.out (ab_setCell (Ab.refl _ _) (Nat.lt_succ_self _))) hb
  replace HA : Hid (w3.heap[w.heap.size]? = some (.cells #[.slice wa nw wc, .slice ta nt tc, .slice va nv vc, .int .i64 s.now, .int .i64 s.keep] 56)) := at_below (blk_other HA.out (by omega)) hb
  replace HV : Hid (w3.heap[w.heap.size + 1]? = some (.cells #[.slice none 0 0, .slice none 0 0, .slice none 0 0, .int .i64 0, .int .i64 0] 61)) := at_below (blk_other HV.out (by omega)) hb
  replace HO : Hid (w3.heap[w.heap.size + 1 + 1]? = some (.cells #[.slice wa' nw' nw', .slice ta' nt' tc', .slice none 0 0, .int .i64 0, .int .i64 0] 61)) := at_below (blk_same HO.out) hb
  replace HB : Hid (Below w.heap.size w w3) := bel_then HBS.out hb
  clear hup hb p2 o1 fz HBS hva hnv
  have p3 : w3.cell? ⟨w.heap.size, 3, none⟩ = some (.int .i64 s.now) := cell_at HA.out rfl
  have p4 : w3.cell? ⟨w.heap.size, 4, none⟩ = some (.int .i64 s.keep) := cell_at HA.out rfl
  have fz : ∀ j, w3.frozen? ⟨w.heap.size + 1 + 1, j, none⟩ = false := fun j => frozen_at HO.out j
  have o2 : w3.cell? ⟨w.heap.size + 1 + 1, 2, none⟩ = some (.slice none 0 0) := cell_at HO.out rfl
  have o3 : w3.cell? ⟨w.heap.size + 1 + 1, 3, none⟩ = some (.int .i64 0) := cell_at HO.out rfl
  have o4 : w3.cell? ⟨w.heap.size + 1 + 1, 4, none⟩ = some (.int .i64 0) := cell_at HO.out rfl
  have HR5 : Hid ((((w3.setCell ⟨w.heap.size + 1 + 1, 2, none⟩ (.slice va' nv' nv')).setCell ⟨w.heap.size + 1 + 1, 3, none⟩ (.int .i64 s.now)).setCell ⟨w.heap.size + 1 + 1, 4, none⟩ (.int .i64 s.keep)).rangeAt (w.heap.size + 1 + 1) 0 ([.slice wa' nw' nw', .slice ta' nt' tc', .slice va' nv' nv', .int .i64 s.now, .int .i64 s.keep] : List Value)) := range_blk (vs := #[.slice wa' nw' nw', .slice ta' nt' tc', .slice va' nv' nv', .int .i64 s.now, .int .i64 s.keep]) (blk_same (blk_same (blk_same (HO.out))))
  have HT5 : Hid ((((w3.setCell ⟨w.heap.size + 1 + 1, 2, none⟩ (.slice va' nv' nv')).setCell ⟨w.heap.size + 1 + 1, 3, none⟩ (.int .i64 s.now)).setCell ⟨w.heap.size + 1 + 1, 4, none⟩ (.int .i64 s.keep)).there (w.heap.size + 1) 0 (#[.slice wa' nw' nw', .slice ta' nt' tc', .slice va' nv' nv', .int .i64 s.now, .int .i64 s.keep] : Array Value).size) := there_blk (vs := #[.slice none 0 0, .slice none 0 0, .slice none 0 0, .int .i64 0, .int .i64 0]) (blk_other (blk_other (blk_other (HV.out) (by omega)) (by omega)) (by omega))
  have hio : (Try.prog.info? 61).map (·.size) = some ([.slice wa' nw' nw', .slice ta' nt' tc', .slice va' nv' nv', .int .i64 s.now, .int .i64 s.keep] : List Value).length := by kernel_rfl
  have hia : (Try.prog.info? 61).map (·.size) = some (#[.slice wa' nw' nw', .slice ta' nt' tc', .slice va' nv' nv', .int .i64 s.now, .int .i64 s.keep] : Array Value).size := by kernel_rfl
  have H1 : Hid ((#[.slice wa' nw' nw', .slice ta' nt' tc', .slice va' nv' nv', .int .i64 s.now, .int .i64 s.keep] : Array Value).all (·.oneCell') = true) := by show _ = _; simp [Value.oneCell']
  go_wp2_with (first | (refine wpList_load_mid rfl 61 _ rfl (w.heap.size + 1 + 1) 0 rfl _ _ HR5.out Try.underlying61 rfl hio ?_) | (refine wpList_store_mid rfl 61 _ _ rfl (w.heap.size + 1) 0 #[.slice wa' nw' nw', .slice ta' nt' tc', .slice va' nv' nv', .int .i64 s.now, .int .i64 s.keep] rfl rfl ?_ hia H1.out ?_))
  · exact HT5.out
  refine bodyPost_ret (v := .agg #[.slice wa' nw' nw', .slice ta' nt' tc', .slice va' nv' nv', .int .i64 s.now, .int .i64 s.keep]) (results_cell (a := 2) (t := 61) (ad := ⟨w.heap.size + 1, 0, none⟩) Try.results12 (by simp [Act.put]) ?hload) (by simp [Act.put]) ⟨_, _, _, rfl, ⟨⟨_, _, _, rfl⟩, ⟨_, _, _, rfl⟩, ⟨_, _, _, rfl⟩⟩, ?hup, ?hbelow⟩
  case hload => exact run_loadVar_mid (P := Try.prog) _ (w.heap.size + 1) 0 61 [.slice wa' nw' nw', .slice ta' nt' tc', .slice va' nv' nv', .int .i64 s.now, .int .i64 s.keep] _ (World.rangeAt_setCells_same _ _ _ _ HT5.out) Try.underlying61 rfl hio
  case hup =>
    intro x hx
    have hx2 : Ab (w.heap.size + 1 + 1 + 1) w3 x := Ab.trans (Ab.trans (ab_setCell (ab_setCell (ab_setCell (Ab.refl _ _) (Nat.lt_succ_self _)) (Nat.lt_succ_self _)) (Nat.lt_succ_self _)) (ab_setCells _ _ _ _ (by omega))) (hx.mono (by omega))
    exact ⟨HUI.out x hx2, HUT.out x hx2, HUW.out x hx2⟩
  case hbelow => exact bel_setCells _ _ _ _ ((((HB.out).setCell (Nat.le_succ_of_le (Nat.le_succ _)) _).setCell (Nat.le_succ_of_le (Nat.le_succ _)) _).setCell (Nat.le_succ_of_le (Nat.le_succ _)) _) (Nat.le_succ _)

end Go.Proofs.Ytfmgohoddaobmaa.Fw
