/-
  impl.sameTree[Plan]: the stack of pairs, the pairs that were met, and the answer.
-/
import Derived.Test.YtkmihnagmbdbgaaPairTree
import Derived.Test.YtkmihnagmbdbgaaPlanBesides2
import Derived.Deep.LoopGhost
import Derived.WalkSmall
namespace Go.Proofs.Ytkmihnagmbdbgaa
set_option maxRecDepth 100000
open Go.RowKit
set_option linter.unusedVariables false
set_option linter.unusedSimpArgs false

/-- The cells of a stack of pairs, the next one last. -/
def flatP : List Pr → List Value
  | [] => []
  | k :: S => flatP S ++ [.pointer (some k.1), .pointer (some k.2)]
theorem flatP_length : ∀ S : List Pr, (flatP S).length = S.length * 2
  | [] => rfl
  | k :: S => by simp [flatP, flatP_length S]; omega
theorem flatP_top0 (k : Pr) (S : List Pr) : (flatP (k :: S))[S.length * 2]? = some (.pointer (some k.1)) := by
  rw [← flatP_length S]
  simp [flatP]
theorem flatP_top1 (k : Pr) (S : List Pr) : (flatP (k :: S))[S.length * 2 + 1]? = some (.pointer (some k.2)) := by
  rw [← flatP_length S]
  simp [flatP]
theorem infoTP : (Try.prog.info? 59).map (fun i => (i.zero, i.size, i.bytes)) = some (some (.agg #[.pointer none, .pointer none]), 2, 16) := by kernel_rfl

theorem kidsOf_any (b o : Nat) (vd : Value) (w : World) (h : w.cell? ⟨b, o + 18, none⟩ = some vd) :
    Calls Try.prog 19 #[.pointer (some ⟨b, o, none⟩)] w fun e w' => e = .returned vd ∧ w' = w := by
  go_enter Try.func19, Try.ntmps19
  go_wp2
  go_ret
  exact ⟨rfl, rfl⟩

/-- Where the walk stands ahead of a round. -/
def Round (w : World) (r : Prop) (k0 : Pr) (M : Nat) (v : Value) (wr : World) : Prop := ∃ S L, Stk w r S M ∧ wr.ownsRow w.heap.size 59 2 v S.length (flatP S) ∧ PMap wr (w.heap.size + 1) L ∧ Shut w L S ∧ (k0 ∈ L ∨ k0 ∈ S) ∧ (∀ k ∈ L, UnfP w k) ∧ Below w.heap.size w wr ∧ M ≤ 1048577

theorem PMap.block {w w' : World} {mb : Nat} {L : List Pr} (h : PMap w mb L) (hb : w'.heap[mb]? = w.heap[mb]?) : PMap w' mb L := by
  obtain ⟨es, c, h1, h2⟩ := h
  exact ⟨es, c, hb.trans h1, h2⟩
theorem PMap.lt {w : World} {mb : Nat} {L : List Pr} (h : PMap w mb L) : mb < w.heap.size := by
  obtain ⟨es, c, h1, h2⟩ := h
  exact (Array.getElem?_eq_some_iff.1 h1).1
theorem PMap.alloc {w : World} {mb : Nat} {L : List Pr} (h : PMap w mb L) (o : Obj) : PMap (w.alloc o) mb L := h.block ((bel_alloc o).block mb h.lt)
theorem UnfP.below {w w' : World} {k : Pr} (h : UnfP w k) (hb : Below w.heap.size w w') : UnfP w' k := ⟨h.1.below hb, h.2.below hb⟩
theorem alloc_at2 (w : World) (o1 o2 : Obj) : ((w.alloc o1).alloc o2).heap[w.heap.size + 1]? = some o2 := by
  rw [← alloc_sz w o1]
  exact alloc_at _ _
theorem start_round {w : World} {r : Prop} (a b : Addr) {m : Nat} (h : Waits w r (a, b) m) (hm : m ≤ 1048577) : Round w r (a, b) m (.slice (some ⟨w.heap.size, 0, none⟩) 1 1) ((w.alloc (.cells #[.pointer (some a), .pointer (some b)] 59)).alloc (.map #[] 0)) := by
  refine ⟨[(a, b)], [], by simpa using Stk.cons h Stk.nil, ?_, ⟨#[], 0, alloc_at2 _ _ _, rfl, by simp⟩, fun k hk => by simp at hk, Or.inr (by simp), fun k hk => by simp at hk, bel_then (bel_alloc _) (bel_alloc _), hm⟩
  exact (World.ownsRow_lit w #[.pointer (some a), .pointer (some b)] 1 (Nat.le_refl _) (by unfold maxLen; omega) rfl).alloc _
theorem top_range {w : World} {base g cap : Nat} {k : Pr} {S : List Pr} (h : w.ownsRow base 59 2 (.slice (some ⟨g, 0, none⟩) (k :: S).length cap) (k :: S).length (flatP (k :: S))) : w.rangeAt g (S.length * 2) [.pointer (some k.1), .pointer (some k.2)] := by
  intro j v hv
  match j, hv with
  | 0, hv => simp at hv; subst hv; exact (h.cellAt (S.length * 2) (by rw [List.length_cons]; omega)).trans (flatP_top0 k S)
  | 1, hv => simp at hv; subst hv; exact (h.cellAt (S.length * 2 + 1) (by rw [List.length_cons]; omega)).trans (flatP_top1 k S)
  | n + 2, hv => simp at hv

/-- The memory behind the map's new pair. -/
def Mid (w : World) (k : Pr) (lb : Nat) (L : List Pr) (v : Value) (S : List Pr) (x : World) : Prop := x.heap[lb]? = some (.cells #[.pointer (some k.1), .pointer (some k.2)] 59) ∧ PMap x (w.heap.size + 1) L ∧ x.ownsRow w.heap.size 59 2 v S.length (flatP S) ∧ Below w.heap.size w x
theorem own_below {x x' : World} {base : Nat} {e : TypeId} {s n : Nat} {v : Value} {xs : List Value} (h : x.ownsRow base e s v n xs) (hb : Below x.heap.size x x') : x'.ownsRow base e s v n xs := by
  obtain ⟨h1, h2⟩ := h
  refine ⟨h1, ?_⟩
  rcases h2 with h2 | ⟨g, cap, cur, a, b, c, d⟩
  · exact .inl h2
  · exact .inr ⟨g, cap, cur, a, b, (hb.block g (Array.getElem?_eq_some_iff.1 c).1).trans c, d⟩
theorem Mid.below {w : World} {k : Pr} {lb : Nat} {L : List Pr} {v : Value} {S : List Pr} {x x' : World} (h : Mid w k lb L v S x) (hb : Below x.heap.size x x') : Mid w k lb L v S x' :=
  ⟨(hb.block lb (Array.getElem?_eq_some_iff.1 h.1).1).trans h.1, h.2.1.block (hb.block _ h.2.1.lt), own_below h.2.2.1 hb, h.2.2.2.trans (hb.mono h.2.2.2.size)⟩
theorem Mid.held {w : World} {k : Pr} {lb : Nat} {L : List Pr} {v : Value} {S : List Pr} {x : World} (h : Mid w k lb L v S x) : x.cell? ⟨lb, 0, none⟩ = some (.pointer (some k.1)) ∧ x.cell? ⟨lb, 1, none⟩ = some (.pointer (some k.2)) ∧ Hid (Mid w k lb L v S x) := ⟨cell_at h.1 rfl, cell_at h.1 rfl, h⟩
theorem Mid.held2 {w : World} {k : Pr} {lb : Nat} {L : List Pr} {v : Value} {S : List Pr} {x : World} (h : Mid w k lb L v S x) : (x.cell? ⟨lb, 0, none⟩ = some (.pointer (some k.1)) ∧ x.cell? ⟨lb, 1, none⟩ = some (.pointer (some k.2))) ∧ Hid (Mid w k lb L v S x) := ⟨⟨h.held.1, h.held.2.1⟩, h⟩
theorem Fields.range' {w z : World} {b o : Nat} {d : Nd} {vc vk vd : Value} (h : Fields w b o d vc vk vd) (hb : Below w.heap.size w z) (hl : b < w.heap.size) : z.rangeAt b o [.int .i64 d.k, .int .i64 d.n, .int .i64 d.t.k, .bool d.t.no, .int .i64 d.t.l.k, .int .i64 d.t.l.a, .int .i64 d.t.l.b, .int .i64 d.t.l.n, .int .i64 d.t.r.k, .int .i64 d.t.r.a, .int .i64 d.t.r.b, .int .i64 d.t.r.n, vc, .int .i64 d.a, .int .i64 d.b, vk, .int .i64 d.g, .int .i64 d.c, vd] := (h.below hb hl).range
theorem mid_put {w wr : World} {k : Pr} {L S : List Pr} {g cap : Nat} (hpm : PMap wr (w.heap.size + 1) L) (hu : UnfP w k) (hun : ∀ l ∈ L, UnfP w l) (hn : k ∉ L) (hb : Below w.heap.size w wr) (ho : wr.ownsRow w.heap.size 59 2 (.slice (some ⟨g, 0, none⟩) S.length cap) S.length (flatP S)) :
    ∃ W3, (Instr.mapUpdate 61 (.map (some (w.heap.size + 1))) (.agg #[.pointer (some k.1), .pointer (some k.2)]) (.agg #[])).run Try.prog ((wr.alloc (.cells #[.pointer (some k.1), .pointer (some k.2)] 59)).alloc (.cells #[] 62)) = .ok () W3 ∧ Hid (Mid w k wr.heap.size (L ++ [k]) (.slice (some ⟨g, 0, none⟩) S.length cap) S W3) := by
  have hb2 : Below w.heap.size w ((wr.alloc (.cells #[.pointer (some k.1), .pointer (some k.2)] 59)).alloc (.cells #[] 62)) := bel_then (bel_then hb (bel_alloc _)) (bel_alloc _)
  have hp2 := (hpm.alloc (.cells #[.pointer (some k.1), .pointer (some k.2)] 59)).alloc (.cells #[] 62)
  obtain ⟨W3, h1, h2, h3⟩ := hp2.put (hu.below hb2) (fun l hl => (hun l hl).below hb2) hn
  have hlt := hpm.lt
  have ho2 := (ho.alloc (.cells #[.pointer (some k.1), .pointer (some k.2)] 59)).alloc (.cells #[] 62)
  refine ⟨W3, h1, ?_, h2, ho2.kept h3 (Or.inr fun e => ?_), hb2.grown h3 (by rw [alloc_sz, alloc_sz]; have := hb.size; omega) (fun j hj => by injection hj with hj; omega)⟩
  · rw [h3.block wr.heap.size (by rw [alloc_sz, alloc_sz]; omega) (fun e => by injection e with e; omega)]
    exact at_below (alloc_at _ _) (bel_alloc _)
  · obtain ⟨es, c, hm, -⟩ := hpm
    rcases ho.2 with ⟨h, -⟩ | ⟨g', cap', cur, hv, -, hg, -⟩
    · cases h
    · cases hv
      simp only [Value.ownBlock, Option.some.injEq] at e
      rw [e, hm] at hg
      cases hg

/-- The memory ahead of a round of the inner loop. -/
def InR (w : World) (L : List Pr) (v : Value) (S : List Pr) (z : World) : Prop := PMap z (w.heap.size + 1) L ∧ z.ownsRow w.heap.size 59 2 v S.length (flatP S) ∧ w.heap.size ≤ z.heap.size ∧ Below w.heap.size w z
theorem Mid.inR {w : World} {k : Pr} {lb : Nat} {L : List Pr} {v : Value} {S : List Pr} {x : World} (h : Mid w k lb L v S x) : InR w L v S x := ⟨h.2.1, h.2.2.1, h.2.2.2.size, h.2.2.2⟩
theorem InR.below {w z z' : World} {L : List Pr} {v : Value} {S : List Pr} (h : InR w L v S z) (hb : Below z.heap.size z z') : InR w L v S z' :=
  ⟨h.1.block (hb.block _ h.1.lt), own_below h.2.1 hb, Nat.le_trans h.2.2.1 hb.size, h.2.2.2.trans (hb.mono h.2.2.1)⟩
theorem InR.alloc {w z : World} {L : List Pr} {v : Value} {S : List Pr} (h : InR w L v S z) (o : Obj) : InR w L v S (z.alloc o) := h.below (bel_alloc o)
theorem InR.push {w z z' : World} {L : List Pr} {v v' : Value} {S : List Pr} {k l : Pr} (h : InR w L v S z) (hk : k = l) (ho : z'.ownsRow w.heap.size 59 2 v' (S.length + 1) (flatP S ++ [.pointer (some k.1), .pointer (some k.2)])) (hg : z.grownBy z' v.ownBlock) : InR w L v' (l :: S) z' := by
  subst hk
  refine ⟨h.1.block (hg.block _ h.1.lt fun e => ?_), ho, Nat.le_trans h.2.2.1 hg.size, h.2.2.2.grown hg h.2.2.1 (fun j hj => (h.2.1.lt j hj).1)⟩
  obtain ⟨es, c, hm, -⟩ := h.1
  rcases h.2.1.2 with ⟨rfl, -⟩ | ⟨g', cap', cur, rfl, -, hg, -⟩
  · cases e
  · simp only [Value.ownBlock, Option.some.injEq] at e
    rw [← e, hm] at hg
    cases hg
theorem in_pop {k0 k : Pr} {L S : List Pr} (h : k0 ∈ L ∨ k0 ∈ k :: S) (hk : k ∈ L) : k0 ∈ L ∨ k0 ∈ S := by
  rcases h with h | h
  · exact Or.inl h
  · rcases List.mem_cons.1 h with e | h
    · rw [e]; exact Or.inl hk
    · exact Or.inr h
theorem in_push {k0 k : Pr} {L S T : List Pr} (h : k0 ∈ L ∨ k0 ∈ k :: S) : k0 ∈ L ++ [k] ∨ k0 ∈ T ++ S := by
  rcases h with h | h
  · exact Or.inl (List.mem_append.2 (Or.inl h))
  · rcases List.mem_cons.1 h with e | h
    · rw [e]; exact Or.inl (by simp)
    · exact Or.inr (List.mem_append.2 (Or.inr h))

set_option maxHeartbeats 2000000 in
theorem sameTree_any (n : Nat) (p q : Pl (n + 1)) (a b : Addr) (m : Nat) (w : World) (hw : Waits w (p = q) (a, b) m) (hp : Nod (n + 1) w a p) (hq : Nod (n + 1) w b q) (hm : m ≤ 1048577) :
    Calls Try.prog 17 #[.pointer (some a), .pointer (some b), .func (.func 18) #[] #[], .func (.func 19) #[] #[]] w fun e w' => e = .returned (.bool (Pl.same (n + 1) p q)) ∧ Below w.heap.size w w' := by
  obtain ⟨s, hs⟩ : ∃ s, Pl.same (n + 1) p q = s := ⟨_, rfl⟩
  have HSM : Hid (Pl.same (n + 1) p q = s) := hs
  have HW : Hid (Waits w (p = q) (a, b) m) := hw
  have HP : Hid (Nod (n + 1) w a p) := hp
  have HQ : Hid (Nod (n + 1) w b q) := hq
  rw [hs]
  clear hs hw hp hq
  obtain ⟨i0, hi, hz0, hz1, hz2⟩ := info_parts infoTP
  go_enter Try.func17, Try.ntmps17
  have hmk := @run_makeMap Try.prog
  go_wp2_with fail
  have HS0 := start_round a b HW.out hm
  clear hmk hm
  go_loopg [9] m (fun M v wr => Hid (Round w (p = q) (a, b) M v wr))
  case atStart => exact HS0
  case round =>
    clear HS0
    obtain ⟨S, L, hst, hown, hpm, hsh, hin, hun, hb, hM⟩ := hrel.out
    clear hrel
    have HST : Hid (Stk w (p = q) S gk) := hst
    have HPM : Hid (PMap wr (w.heap.size + 1) L) := hpm
    have HSH : Hid (Shut w L S) := hsh
    have HIN : Hid ((a, b) ∈ L ∨ (a, b) ∈ S) := hin
    have HUN : Hid (∀ k ∈ L, UnfP w k) := hun
    have HB : Hid (Below w.heap.size w wr) := hb
    have HM : Hid (gk ≤ 1048577) := hM
    clear hst hpm hsh hin hun hb hM
    cases S with
    | nil =>
      have hs : s = true := by
        rw [← HSM.out, Pl.same_iff]
        exact HSH.out.one (n + 1) p q (a, b) (by simpa using HIN.out) HP.out HQ.out
      subst hs
      rcases hown.2 with ⟨rfl, _⟩ | ⟨g, cap, cur, rfl, _⟩
      · go_wp2
        go_ret
        exact ⟨rfl, HB.out⟩
      · simp only [List.length_nil]
        go_wp2
        go_ret
        exact ⟨rfl, HB.out⟩
    | cons k S =>
      rcases hown.2 with ⟨_, hn0⟩ | ⟨g, cap, cur, rfl, hgB, hgc, hncap, hcapm, _, _⟩
      · simp at hn0
      have HOWN : Hid (wr.ownsRow w.heap.size 59 2 (.slice (some ⟨g, 0, none⟩) (S.length + 1) cap) (S.length + 1) (flatP (k :: S))) := hown
      have HGB : Hid (w.heap.size ≤ g) := hgB
      have HR : Hid (wr.rangeAt g (S.length * 2) [.pointer (some k.1), .pointer (some k.2)]) := top_range hown
      have hlen : S.length + 1 ≤ 1048577 := Nat.le_trans HST.out.len HM.out
      simp only [List.length_cons] at hncap ⊢
      unfold maxLen at hcapm
      clear hown hgB hgc
      have hgt : (0 : Int) < (S.length : Int) + 1 := by omega
      have hwr : IntKind.i64.wrap (S.length : Int) = (S.length : Int) := by rw [IntKind.wrap_i64]; omega
      have c59 : Try.prog.cellsOf 59 = 2 := by kernel_rfl
      have hlt2 : (Try.prog.info? 59).map (·.size) = some ([.pointer (some k.1), .pointer (some k.2)] : List Value).length := by kernel_rfl
      have hix1 : (S.length : Int) < (S.length : Int) + 1 := by omega
      have hix2 : (S.length : Int) < ((S.length + 1 : Nat) : Int) := by omega
      have hix3 : S.length < S.length + 1 := by omega
      have hix0 : (0 : Int) ≤ (S.length : Int) := by omega
      have HU : Hid (UnfP w k) := HST.out.unf k (by simp)
      have hlook : (Instr.lookup 61 (.map (some (w.heap.size + 1))) (.agg #[.pointer (some k.1), .pointer (some k.2)]) true).run Try.prog (wr.alloc (.cells #[.pointer (some k.1), .pointer (some k.2)] 59)) = .ok (.tuple #[.agg #[], .bool (decide (k ∈ L))]) (wr.alloc (.cells #[.pointer (some k.1), .pointer (some k.2)] 59)) := (HPM.out.alloc _).look (HU.out.below (bel_then HB.out (bel_alloc _))) (fun l hl => (HUN.out l hl).below (bel_then HB.out (bel_alloc _)))
      by_cases hkl : k ∈ L
      case pos =>
        have HKL : Hid (k ∈ L) := hkl
        simp only [hkl, decide_true] at hlook
        clear hkl
        obtain ⟨M', m', HMM, HW2, HST2⟩ : ∃ M' m', Hid (gk = M' + m') ∧ Hid (Waits w (p = q) k m') ∧ Hid (Stk w (p = q) S M') := HST.out.pop
        go_wp2_with (refine wpList_load_mid rfl 59 _ rfl g (S.length * 2) rfl _ _ HR.out Try.underlying59 rfl hlt2 ?_)
        go_roundg M'
        case measure => have h1 := HMM.out; have h2 := HW2.out.pos; omega
        case rel => exact ⟨S, L, HST2.out, ((ownsRow_pop (flatP_length S) HOWN.out).alloc _).alloc _, (HPM.out.alloc _).alloc _, HSH.out.pop HKL.out, in_pop HIN.out HKL.out, HUN.out, bel_then (bel_then HB.out (bel_alloc _)) (bel_alloc _), by have h1 := HMM.out; have h2 := HM.out; omega⟩
      case neg =>
        have HKL : Hid (k ∉ L) := hkl
        simp only [hkl, decide_false] at hlook
        clear hkl
        obtain ⟨M', m', HMM, HW2, HST2⟩ : ∃ M' m', Hid (gk = M' + m') ∧ Hid (Waits w (p = q) k m') ∧ Hid (Stk w (p = q) S M') := HST.out.pop
        obtain ⟨W3, hput, HMID⟩ := mid_put (cap := cap) (g := g) HPM.out HU.out HUN.out HKL.out HB.out (ownsRow_pop (flatP_length S) HOWN.out)
        obtain ⟨n', x, y, hx, hy, hxy, -, hsx, hsy, hcnt, hux, huy⟩ := HW2.out
        obtain ⟨⟨b1, o1, t1⟩, ⟨b2, o2, t2⟩⟩ := k
        obtain rfl : t1 = none := by have := hx.1; simp at this; exact this
        obtain rfl : t2 = none := by have := hy.1; simp at this; exact this
        have HX : Hid (Nod (n' + 1) w ⟨b1, o1, none⟩ x) := hx
        have HY : Hid (Nod (n' + 1) w ⟨b2, o2, none⟩ y) := hy
        have HXY : Hid ((p = q) → x = y) := hxy
        have HSX : Hid (Pl.sz (n' + 1) x ≤ 1048576) := hsx
        have HSY : Hid (Pl.sz (n' + 1) y ≤ 1048576) := hsy
        have HCN : Hid (Pl.cnt (n' + 1) x = m') := hcnt
        have HUX : Hid (∀ v, w.cell? ⟨b1, o1 + 18, none⟩ = some v → KidsU n' w v) := hux
        have HUY : Hid (∀ v, w.cell? ⟨b2, o2 + 18, none⟩ = some v → KidsU n' w v) := huy
        obtain ⟨-, hn1, vc, vk, vd, hf1, hcc, hkk, hkd⟩ := hx
        obtain ⟨-, hn2, vc2, vk2, vd2, hf2, hcc2, hkk2, hkd2⟩ := hy
        have HN1 : Hid (b1 < w.heap.size) := hn1
        have HN2 : Hid (b2 < w.heap.size) := hn2
        have HKD : Hid (KidsV (NodeAt n') w vd x.kids) := hkd
        have HKD2 : Hid (KidsV (NodeAt n') w vd2 y.kids) := hkd2
        obtain ⟨-, xa, xc, rfl, -⟩ := hkd
        obtain ⟨-, ya, yc, rfl, -⟩ := hkd2
        have HF1 : Hid (Fields w b1 o1 x.nd vc vk (.slice xa x.kids.length xc)) := hf1
        have HF2 : Hid (Fields w b2 o2 y.nd vc2 vk2 (.slice ya y.kids.length yc)) := hf2
        have HCC : Hid (RawCels w vc x.nd.cs) := hcc
        have HCC2 : Hid (RawCels w vc2 y.nd.cs) := hcc2
        have HKK : Hid (RawInts w vk x.nd.ks) := hkk
        have HKK2 : Hid (RawInts w vk2 y.nd.ks) := hkk2
        have hz3 := Pl.sz_succ x
        have hz4 := Pl.sz_succ y
        have HL1 : Hid (x.nd.cs.length ≤ 140737488355328) := by show _ ≤ _; omega
        have HL2 : Hid (y.nd.cs.length ≤ 140737488355328) := by show _ ≤ _; omega
        have HL3 : Hid (x.nd.ks.length ≤ 140737488355328) := by show _ ≤ _; omega
        have HL4 : Hid (y.nd.ks.length ≤ 140737488355328) := by show _ ≤ _; omega
        have hxl : x.kids.length ≤ 1048576 := by omega
        have HC1 : Hid (∀ z, Below w.heap.size w z → z.cell? ⟨b1, o1 + 18, none⟩ = some (.slice xa x.kids.length xc)) := fun z hz => (hz.cell (p := ⟨b1, o1 + 18, none⟩) hn1).trans hf1.2.2.2.2.2.2.2.2.2.2.2.2.2.2.2.2.2.2
        have HC2 : Hid (∀ z, Below w.heap.size w z → z.cell? ⟨b2, o2 + 18, none⟩ = some (.slice ya y.kids.length yc)) := fun z hz => (hz.cell (p := ⟨b2, o2 + 18, none⟩) hn2).trans hf2.2.2.2.2.2.2.2.2.2.2.2.2.2.2.2.2.2.2
        have hla : (Try.prog.info? 39).map (·.size) = some ([.int .i64 x.nd.k, .int .i64 x.nd.n, .int .i64 x.nd.t.k, .bool x.nd.t.no, .int .i64 x.nd.t.l.k, .int .i64 x.nd.t.l.a, .int .i64 x.nd.t.l.b, .int .i64 x.nd.t.l.n, .int .i64 x.nd.t.r.k, .int .i64 x.nd.t.r.a, .int .i64 x.nd.t.r.b, .int .i64 x.nd.t.r.n, vc, .int .i64 x.nd.a, .int .i64 x.nd.b, vk, .int .i64 x.nd.g, .int .i64 x.nd.c, (.slice xa x.kids.length xc)] : List Value).length := by kernel_rfl
        have hlb : (Try.prog.info? 39).map (·.size) = some ([.int .i64 y.nd.k, .int .i64 y.nd.n, .int .i64 y.nd.t.k, .bool y.nd.t.no, .int .i64 y.nd.t.l.k, .int .i64 y.nd.t.l.a, .int .i64 y.nd.t.l.b, .int .i64 y.nd.t.l.n, .int .i64 y.nd.t.r.k, .int .i64 y.nd.t.r.a, .int .i64 y.nd.t.r.b, .int .i64 y.nd.t.r.n, vc2, .int .i64 y.nd.a, .int .i64 y.nd.b, vk2, .int .i64 y.nd.g, .int .i64 y.nd.c, (.slice ya y.kids.length yc)] : List Value).length := by kernel_rfl
        clear hxy hsx hsy hcnt hux huy hf1 hf2 hcc hcc2 hkk hkk2 hz3 hz4 hn1 hn2
        go_wp2_with (refine wpList_load_mid rfl 59 _ rfl g (S.length * 2) rfl _ _ HR.out Try.underlying59 rfl hlt2 ?_)
        clear hput hlook
        refine wp_region_held_drew (S := (fun z => z.cell? ⟨wr.heap.size, 0, none⟩ = some (.pointer (some ⟨b1, o1, none⟩)) ∧ z.cell? ⟨wr.heap.size, 1, none⟩ = some (.pointer (some ⟨b2, o2, none⟩)) ∧ Hid (Mid w (⟨b1, o1, none⟩, ⟨b2, o2, none⟩) wr.heap.size (L ++ [(⟨b1, o1, none⟩, ⟨b2, o2, none⟩)]) (.slice (some ⟨g, 0, none⟩) S.length cap) S z))) (by kernel_rfl) ?_ (fun hHeld => ?_)
        · (try dsimp only); exact Mid.held (HMID.out.below (by first | exact Below.refl _ _ | exact Below.drew (Below.refl _ _)))
        refine wpAnyH_take (i := 0) (v := ?_) rfl (by kernel_rfl) (by kernel_rfl) (by kernel_rfl) (fun _ _ _ h => h) (Or.inl ⟨by rfl, ?_⟩) (by assumption) ?_
        rotate_left 1
        · intro w hSw; (try dsimp only at hSw); go_simp; try with_reducible rfl
        simp only [Act.put, List.getElem_toArray, List.getElem_cons_zero, List.setIfInBounds_toArray, List.set_cons_zero, List.set_cons_succ]
        refine wpAnyH_take (i := 1) (v := ?_) rfl (by kernel_rfl) (by kernel_rfl) (by kernel_rfl) (fun _ _ _ h => h) (Or.inl ⟨by rfl, ?_⟩) (by assumption) ?_
        rotate_left 1
        · intro w hSw; (try dsimp only at hSw); go_simp; try with_reducible rfl
        simp only [Act.put, List.getElem_toArray, List.getElem_cons_succ, List.getElem_cons_zero, List.setIfInBounds_toArray, List.set_cons_zero, List.set_cons_succ]
        refine wpAnyH_take (i := 2) (v := ?_) rfl (by kernel_rfl) (by kernel_rfl) (by kernel_rfl) (fun _ _ _ h => h) (Or.inl ⟨by rfl, ?_⟩) (by assumption) ?_
        rotate_left 1
        · intro w hSw; (try dsimp only at hSw); go_simp; try with_reducible rfl
        simp only [Act.put, List.getElem_toArray, List.getElem_cons_succ, List.getElem_cons_zero, List.setIfInBounds_toArray, List.set_cons_zero, List.set_cons_succ]
        refine wpAnyH_take (i := 4) (v := ?_) rfl (by kernel_rfl) (by kernel_rfl) (by kernel_rfl) (fun _ _ _ h => h) (Or.inl ⟨by rfl, ?_⟩) (by assumption) ?_
        rotate_left 1
        · intro w hSw; (try dsimp only at hSw); go_simp; try with_reducible rfl
        simp only [Act.put, List.getElem_toArray, List.getElem_cons_succ, List.getElem_cons_zero, List.setIfInBounds_toArray, List.set_cons_zero, List.set_cons_succ]
        refine wpAnyH_take (i := 5) (v := ?_) rfl (by kernel_rfl) (by kernel_rfl) (by kernel_rfl) (fun _ _ _ h => h) (Or.inl ⟨by rfl, ?_⟩) (by assumption) ?_
        rotate_left 1
        · intro w hSw; (try dsimp only at hSw); go_simp; try with_reducible rfl
        simp only [Act.put, List.getElem_toArray, List.getElem_cons_succ, List.getElem_cons_zero, List.setIfInBounds_toArray, List.set_cons_zero, List.set_cons_succ]
        refine wpAnyH_take (i := 6) (v := ?_) rfl (by kernel_rfl) (by kernel_rfl) (by kernel_rfl) (fun _ _ _ h => h) (Or.inl ⟨by rfl, ?_⟩) (by assumption) ?_
        rotate_left 1
        · intro w hSw; (try dsimp only at hSw); go_simp; try with_reducible rfl
        simp only [Act.put, List.getElem_toArray, List.getElem_cons_succ, List.getElem_cons_zero, List.setIfInBounds_toArray, List.set_cons_zero, List.set_cons_succ]
        refine wpAnyH_ready (rs := [3]) (by kernel_rfl) (by simp) ?_
        refine AllReadyH.cons rfl (fun K hK => ?_) AllReadyH.nil
        go_simp
        (go_at_call 19; refine (kidsOf_any b1 o1 _ _ (HC1.out _ hHeld.2.2.out.2.2.2)).mono ?_; rintro e w4 ⟨rfl, rfl⟩)
        refine hK.out _ _ ?_ (fun hHeld => ?_)
        · (try dsimp only); exact hHeld
        clear hK K
        try simp only [Act.put, List.getElem_toArray, List.getElem_cons_succ, List.getElem_cons_zero, List.setIfInBounds_toArray, List.set_cons_zero, List.set_cons_succ]
        refine wpAnyH_ready (rs := [7]) (by kernel_rfl) (by simp) ?_
        refine AllReadyH.cons rfl (fun K hK => ?_) AllReadyH.nil
        go_simp
        (go_at_call 19; refine (kidsOf_any b2 o2 _ _ (HC2.out _ hHeld.2.2.out.2.2.2)).mono ?_; rintro e w4 ⟨rfl, rfl⟩)
        refine hK.out _ _ ?_ (fun hHeld => ?_)
        · (try dsimp only); exact hHeld
        clear hK K
        try simp only [Act.put, List.getElem_toArray, List.getElem_cons_succ, List.getElem_cons_zero, List.setIfInBounds_toArray, List.set_cons_zero, List.set_cons_succ]
        refine wpAnyH_take (i := 8) (v := ?_) rfl (by kernel_rfl) (by kernel_rfl) (by kernel_rfl) (fun _ _ _ h => h) (Or.inl ⟨by rfl, ?_⟩) (by assumption) ?_
        rotate_left 1
        · intro w hSw; (try dsimp only at hSw); go_simp; try with_reducible rfl
        simp only [Act.put, List.getElem_toArray, List.getElem_cons_succ, List.getElem_cons_zero, List.setIfInBounds_toArray, List.set_cons_zero, List.set_cons_succ]
        refine wpAnyH_take (i := 9) (v := ?_) rfl (by kernel_rfl) (by kernel_rfl) (by kernel_rfl) (fun _ _ _ h => h) (Or.inl ⟨by rfl, ?_⟩) (by assumption) ?_
        rotate_left 1
        · intro w hSw; (try dsimp only at hSw); go_simp; try with_reducible rfl
        simp only [Act.put, List.getElem_toArray, List.getElem_cons_succ, List.getElem_cons_zero, List.setIfInBounds_toArray, List.set_cons_zero, List.set_cons_succ]
        refine wpAnyH_done (by kernel_rfl) ?_ _
        have HM4 := hHeld.2.2
        clear hHeld
        go_wp2_with fail
        cases he : x.nd.eqB y.nd with
        | false =>
          have HE : Hid (x.nd.eqB y.nd = false) := he
          clear he
          have hs : s = false := by
            rw [← HSM.out]
            exact same_ne fun h => by
              have h2 := HE.out
              rw [HXY.out h, Nd.eqB_iff.2 rfl] at h2
              cases h2
          subst hs
          refine wp_region_held_drew (S := (fun z => z.rangeAt b1 o1 ([.int .i64 x.nd.k, .int .i64 x.nd.n, .int .i64 x.nd.t.k, .bool x.nd.t.no, .int .i64 x.nd.t.l.k, .int .i64 x.nd.t.l.a, .int .i64 x.nd.t.l.b, .int .i64 x.nd.t.l.n, .int .i64 x.nd.t.r.k, .int .i64 x.nd.t.r.a, .int .i64 x.nd.t.r.b, .int .i64 x.nd.t.r.n, vc, .int .i64 x.nd.a, .int .i64 x.nd.b, vk, .int .i64 x.nd.g, .int .i64 x.nd.c, (.slice xa x.kids.length xc)] : List Value) ∧ z.rangeAt b2 o2 ([.int .i64 y.nd.k, .int .i64 y.nd.n, .int .i64 y.nd.t.k, .bool y.nd.t.no, .int .i64 y.nd.t.l.k, .int .i64 y.nd.t.l.a, .int .i64 y.nd.t.l.b, .int .i64 y.nd.t.l.n, .int .i64 y.nd.t.r.k, .int .i64 y.nd.t.r.a, .int .i64 y.nd.t.r.b, .int .i64 y.nd.t.r.n, vc2, .int .i64 y.nd.a, .int .i64 y.nd.b, vk2, .int .i64 y.nd.g, .int .i64 y.nd.c, (.slice ya y.kids.length yc)] : List Value) ∧ z.cell? ⟨wr.heap.size, 0, none⟩ = some (.pointer (some ⟨b1, o1, none⟩)) ∧ z.cell? ⟨wr.heap.size, 1, none⟩ = some (.pointer (some ⟨b2, o2, none⟩)) ∧ Hid (Mid w (⟨b1, o1, none⟩, ⟨b2, o2, none⟩) wr.heap.size (L ++ [(⟨b1, o1, none⟩, ⟨b2, o2, none⟩)]) (.slice (some ⟨g, 0, none⟩) S.length cap) S z))) (by kernel_rfl) ?_ (fun hHeld => ?_)
          · (try dsimp only); exact ⟨HF1.out.range' (HM4.out.below (by first | exact Below.refl _ _ | exact Below.drew (Below.refl _ _))).2.2.2 HN1.out, HF2.out.range' (HM4.out.below (by first | exact Below.refl _ _ | exact Below.drew (Below.refl _ _))).2.2.2 HN2.out, Mid.held (HM4.out.below (by first | exact Below.refl _ _ | exact Below.drew (Below.refl _ _)))⟩
          refine wpAnyH_take (i := 0) (v := ?_) rfl (by kernel_rfl) (by kernel_rfl) (by kernel_rfl) (fun _ _ _ h => h) (Or.inl ⟨by rfl, ?_⟩) (by assumption) ?_
          rotate_left 1
          · intro w hSw; (try dsimp only at hSw); go_simp; try with_reducible rfl
          simp only [Act.put, List.getElem_toArray, List.getElem_cons_zero, List.setIfInBounds_toArray, List.set_cons_zero, List.set_cons_succ]
          refine wpAnyH_take (i := 1) (v := ?_) rfl (by kernel_rfl) (by kernel_rfl) (by kernel_rfl) (fun _ _ _ h => h) (Or.inl ⟨by rfl, ?_⟩) (by assumption) ?_
          rotate_left 1
          · intro w hSw; (try dsimp only at hSw); go_simp; try with_reducible rfl
          simp only [Act.put, List.getElem_toArray, List.getElem_cons_succ, List.getElem_cons_zero, List.setIfInBounds_toArray, List.set_cons_zero, List.set_cons_succ]
          refine wpAnyH_take (i := 2) (v := ?_) rfl (by kernel_rfl) (by kernel_rfl) (by kernel_rfl) (fun _ _ _ h => h) (Or.inl ⟨by rfl, ?_⟩) (by assumption) ?_
          rotate_left 1
          · intro w hSw; (try dsimp only at hSw); go_simp; try with_reducible rfl
          simp only [Act.put, List.getElem_toArray, List.getElem_cons_succ, List.getElem_cons_zero, List.setIfInBounds_toArray, List.set_cons_zero, List.set_cons_succ]
          refine wpAnyH_take (i := 3) (v := ?_) rfl (by kernel_rfl) (by kernel_rfl) (by kernel_rfl) (fun _ _ _ h => h) (Or.inl ⟨by rfl, ?_⟩) (by assumption) ?_
          rotate_left 1
          · intro w hSw; (try dsimp only at hSw); go_simp; try with_reducible rfl
          simp only [Act.put, List.getElem_toArray, List.getElem_cons_succ, List.getElem_cons_zero, List.setIfInBounds_toArray, List.set_cons_zero, List.set_cons_succ]
          refine wpAnyH_take (i := 4) (v := .agg ([.int .i64 x.nd.k, .int .i64 x.nd.n, .int .i64 x.nd.t.k, .bool x.nd.t.no, .int .i64 x.nd.t.l.k, .int .i64 x.nd.t.l.a, .int .i64 x.nd.t.l.b, .int .i64 x.nd.t.l.n, .int .i64 x.nd.t.r.k, .int .i64 x.nd.t.r.a, .int .i64 x.nd.t.r.b, .int .i64 x.nd.t.r.n, vc, .int .i64 x.nd.a, .int .i64 x.nd.b, vk, .int .i64 x.nd.g, .int .i64 x.nd.c, (.slice xa x.kids.length xc)] : List Value).toArray) rfl (by kernel_rfl) (by kernel_rfl) (by kernel_rfl) (fun _ _ _ h => h) (yieldsIf_load_mid (by rfl) 39 _ rfl b1 o1 rfl [.int .i64 x.nd.k, .int .i64 x.nd.n, .int .i64 x.nd.t.k, .bool x.nd.t.no, .int .i64 x.nd.t.l.k, .int .i64 x.nd.t.l.a, .int .i64 x.nd.t.l.b, .int .i64 x.nd.t.l.n, .int .i64 x.nd.t.r.k, .int .i64 x.nd.t.r.a, .int .i64 x.nd.t.r.b, .int .i64 x.nd.t.r.n, vc, .int .i64 x.nd.a, .int .i64 x.nd.b, vk, .int .i64 x.nd.g, .int .i64 x.nd.c, (.slice xa x.kids.length xc)] _ (fun x h => h.1) Try.underlying39 rfl hla) (by assumption) ?_
          simp only [Act.put, List.getElem_toArray, List.getElem_cons_succ, List.getElem_cons_zero, List.setIfInBounds_toArray, List.set_cons_zero, List.set_cons_succ]
          refine wpAnyH_take (i := 5) (v := ?_) rfl (by kernel_rfl) (by kernel_rfl) (by kernel_rfl) (fun _ _ _ h => h) (Or.inl ⟨by rfl, ?_⟩) (by assumption) ?_
          rotate_left 1
          · intro w hSw; (try dsimp only at hSw); go_simp; try with_reducible rfl
          simp only [Act.put, List.getElem_toArray, List.getElem_cons_succ, List.getElem_cons_zero, List.setIfInBounds_toArray, List.set_cons_zero, List.set_cons_succ]
          refine wpAnyH_take (i := 6) (v := ?_) rfl (by kernel_rfl) (by kernel_rfl) (by kernel_rfl) (fun _ _ _ h => h) (Or.inl ⟨by rfl, ?_⟩) (by assumption) ?_
          rotate_left 1
          · intro w hSw; (try dsimp only at hSw); go_simp; try with_reducible rfl
          simp only [Act.put, List.getElem_toArray, List.getElem_cons_succ, List.getElem_cons_zero, List.setIfInBounds_toArray, List.set_cons_zero, List.set_cons_succ]
          refine wpAnyH_take (i := 7) (v := ?_) rfl (by kernel_rfl) (by kernel_rfl) (by kernel_rfl) (fun _ _ _ h => h) (Or.inl ⟨by rfl, ?_⟩) (by assumption) ?_
          rotate_left 1
          · intro w hSw; (try dsimp only at hSw); go_simp; try with_reducible rfl
          simp only [Act.put, List.getElem_toArray, List.getElem_cons_succ, List.getElem_cons_zero, List.setIfInBounds_toArray, List.set_cons_zero, List.set_cons_succ]
          refine wpAnyH_take (i := 8) (v := .agg ([.int .i64 y.nd.k, .int .i64 y.nd.n, .int .i64 y.nd.t.k, .bool y.nd.t.no, .int .i64 y.nd.t.l.k, .int .i64 y.nd.t.l.a, .int .i64 y.nd.t.l.b, .int .i64 y.nd.t.l.n, .int .i64 y.nd.t.r.k, .int .i64 y.nd.t.r.a, .int .i64 y.nd.t.r.b, .int .i64 y.nd.t.r.n, vc2, .int .i64 y.nd.a, .int .i64 y.nd.b, vk2, .int .i64 y.nd.g, .int .i64 y.nd.c, (.slice ya y.kids.length yc)] : List Value).toArray) rfl (by kernel_rfl) (by kernel_rfl) (by kernel_rfl) (fun _ _ _ h => h) (yieldsIf_load_mid (by rfl) 39 _ rfl b2 o2 rfl [.int .i64 y.nd.k, .int .i64 y.nd.n, .int .i64 y.nd.t.k, .bool y.nd.t.no, .int .i64 y.nd.t.l.k, .int .i64 y.nd.t.l.a, .int .i64 y.nd.t.l.b, .int .i64 y.nd.t.l.n, .int .i64 y.nd.t.r.k, .int .i64 y.nd.t.r.a, .int .i64 y.nd.t.r.b, .int .i64 y.nd.t.r.n, vc2, .int .i64 y.nd.a, .int .i64 y.nd.b, vk2, .int .i64 y.nd.g, .int .i64 y.nd.c, (.slice ya y.kids.length yc)] _ (fun x h => h.2.1) Try.underlying39 rfl hlb) (by assumption) ?_
          simp only [Act.put, List.getElem_toArray, List.getElem_cons_succ, List.getElem_cons_zero, List.setIfInBounds_toArray, List.set_cons_zero, List.set_cons_succ]
          refine wpAnyH_ready (rs := [9]) (by kernel_rfl) (by simp) ?_
          refine AllReadyH.cons rfl (fun K hK => ?_) AllReadyH.nil
          go_simp
          (go_at_call 18; refine (besides_any x.nd y.nd vc vk (.slice xa x.kids.length xc) vc2 vk2 (.slice ya y.kids.length yc) _ (HCC.out.below hHeld.2.2.2.2.out.2.2.2) (HCC2.out.below hHeld.2.2.2.2.out.2.2.2) (HKK.out.below hHeld.2.2.2.2.out.2.2.2) (HKK2.out.below hHeld.2.2.2.2.out.2.2.2) HL1.out HL2.out HL3.out HL4.out).mono ?_; rw [HE.out]; rintro e w5 ⟨rfl, hb5⟩; have HM5 := hHeld.2.2.2.2.out.below hb5; clear hb5)
          refine hK.out _ _ ?_ (fun hHeld => ?_)
          · (try dsimp only); exact ⟨HF1.out.range' HM5.2.2.2 HN1.out, HF2.out.range' HM5.2.2.2 HN2.out, Mid.held HM5⟩
          clear hK K
          try simp only [Act.put, List.getElem_toArray, List.getElem_cons_succ, List.getElem_cons_zero, List.setIfInBounds_toArray, List.set_cons_zero, List.set_cons_succ]
          refine wpAnyH_take (i := 10) (v := ?_) rfl (by kernel_rfl) (by kernel_rfl) (by kernel_rfl) (fun _ _ _ h => h) (Or.inl ⟨by rfl, ?_⟩) (by assumption) ?_
          rotate_left 1
          · intro w hSw; (try dsimp only at hSw); go_simp; try with_reducible rfl
          simp only [Act.put, List.getElem_toArray, List.getElem_cons_succ, List.getElem_cons_zero, List.setIfInBounds_toArray, List.set_cons_zero, List.set_cons_succ]
          refine wpAnyH_take (i := 11) (v := ?_) rfl (by kernel_rfl) (by kernel_rfl) (by kernel_rfl) (fun _ _ _ h => h) (Or.inl ⟨by rfl, ?_⟩) (by assumption) ?_
          rotate_left 1
          · intro w hSw; (try dsimp only at hSw); go_simp; try with_reducible rfl
          simp only [Act.put, List.getElem_toArray, List.getElem_cons_succ, List.getElem_cons_zero, List.setIfInBounds_toArray, List.set_cons_zero, List.set_cons_succ]
          refine wpAnyH_take (i := 12) (v := undef) rfl (by kernel_rfl) (by kernel_rfl) (by kernel_rfl) (fun _ _ _ h => h) (Or.inr ⟨by rfl, rfl⟩) (by assumption) ?_
          simp only [Act.put, List.getElem_toArray, List.getElem_cons_succ, List.getElem_cons_zero, List.setIfInBounds_toArray, List.set_cons_zero, List.set_cons_succ]
          refine wpAnyH_take (i := 13) (v := undef) rfl (by kernel_rfl) (by kernel_rfl) (by kernel_rfl) (fun _ _ _ h => h) (Or.inr ⟨by rfl, rfl⟩) (by assumption) ?_
          simp only [Act.put, List.getElem_toArray, List.getElem_cons_succ, List.getElem_cons_zero, List.setIfInBounds_toArray, List.set_cons_zero, List.set_cons_succ]
          refine wpAnyH_take (i := 14) (v := undef) rfl (by kernel_rfl) (by kernel_rfl) (by kernel_rfl) (fun _ _ _ h => h) (Or.inr ⟨by rfl, rfl⟩) (by assumption) ?_
          simp only [Act.put, List.getElem_toArray, List.getElem_cons_succ, List.getElem_cons_zero, List.setIfInBounds_toArray, List.set_cons_zero, List.set_cons_succ]
          refine wpAnyH_take (i := 15) (v := undef) rfl (by kernel_rfl) (by kernel_rfl) (by kernel_rfl) (fun _ _ _ h => h) (Or.inr ⟨by rfl, rfl⟩) (by assumption) ?_
          simp only [Act.put, List.getElem_toArray, List.getElem_cons_succ, List.getElem_cons_zero, List.setIfInBounds_toArray, List.set_cons_zero, List.set_cons_succ]
          refine wpAnyH_take (i := 16) (v := undef) rfl (by kernel_rfl) (by kernel_rfl) (by kernel_rfl) (fun _ _ _ h => h) (Or.inr ⟨by rfl, rfl⟩) (by assumption) ?_
          simp only [Act.put, List.getElem_toArray, List.getElem_cons_succ, List.getElem_cons_zero, List.setIfInBounds_toArray, List.set_cons_zero, List.set_cons_succ]
          refine wpAnyH_take (i := 17) (v := ?_) rfl (by kernel_rfl) (by kernel_rfl) (by kernel_rfl) (fun _ _ _ h => h) (Or.inl ⟨by rfl, ?_⟩) (by assumption) ?_
          rotate_left 1
          · intro w hSw; (try dsimp only at hSw); go_simp; try with_reducible rfl
          simp only [Act.put, List.getElem_toArray, List.getElem_cons_succ, List.getElem_cons_zero, List.setIfInBounds_toArray, List.set_cons_zero, List.set_cons_succ]
          refine wpAnyH_done (by kernel_rfl) ?_ _
          have HM6 := hHeld.2.2.2.2
          clear hHeld
          go_wp2
          go_ret
          exact ⟨rfl, HM6.out.2.2.2⟩
        | true =>
          have HE : Hid (x.nd.eqB y.nd = true) := he
          clear he
          by_cases hkl2 : x.kids.length = y.kids.length
          case neg =>
            have hs : s = false := by
              rw [← HSM.out]
              exact same_ne fun h => hkl2 (by rw [HXY.out h])
            subst hs
            have hne : ((x.kids.length : Int) != (y.kids.length : Int)) = true := by simp; omega
            clear hkl2
            refine wp_region_held_drew (S := (fun z => z.rangeAt b1 o1 ([.int .i64 x.nd.k, .int .i64 x.nd.n, .int .i64 x.nd.t.k, .bool x.nd.t.no, .int .i64 x.nd.t.l.k, .int .i64 x.nd.t.l.a, .int .i64 x.nd.t.l.b, .int .i64 x.nd.t.l.n, .int .i64 x.nd.t.r.k, .int .i64 x.nd.t.r.a, .int .i64 x.nd.t.r.b, .int .i64 x.nd.t.r.n, vc, .int .i64 x.nd.a, .int .i64 x.nd.b, vk, .int .i64 x.nd.g, .int .i64 x.nd.c, (.slice xa x.kids.length xc)] : List Value) ∧ z.rangeAt b2 o2 ([.int .i64 y.nd.k, .int .i64 y.nd.n, .int .i64 y.nd.t.k, .bool y.nd.t.no, .int .i64 y.nd.t.l.k, .int .i64 y.nd.t.l.a, .int .i64 y.nd.t.l.b, .int .i64 y.nd.t.l.n, .int .i64 y.nd.t.r.k, .int .i64 y.nd.t.r.a, .int .i64 y.nd.t.r.b, .int .i64 y.nd.t.r.n, vc2, .int .i64 y.nd.a, .int .i64 y.nd.b, vk2, .int .i64 y.nd.g, .int .i64 y.nd.c, (.slice ya y.kids.length yc)] : List Value) ∧ z.cell? ⟨wr.heap.size, 0, none⟩ = some (.pointer (some ⟨b1, o1, none⟩)) ∧ z.cell? ⟨wr.heap.size, 1, none⟩ = some (.pointer (some ⟨b2, o2, none⟩)) ∧ Hid (Mid w (⟨b1, o1, none⟩, ⟨b2, o2, none⟩) wr.heap.size (L ++ [(⟨b1, o1, none⟩, ⟨b2, o2, none⟩)]) (.slice (some ⟨g, 0, none⟩) S.length cap) S z))) (by kernel_rfl) ?_ (fun hHeld => ?_)
            · (try dsimp only); exact ⟨HF1.out.range' (HM4.out.below (by first | exact Below.refl _ _ | exact Below.drew (Below.refl _ _))).2.2.2 HN1.out, HF2.out.range' (HM4.out.below (by first | exact Below.refl _ _ | exact Below.drew (Below.refl _ _))).2.2.2 HN2.out, Mid.held (HM4.out.below (by first | exact Below.refl _ _ | exact Below.drew (Below.refl _ _)))⟩
            refine wpAnyH_take (i := 0) (v := ?_) rfl (by kernel_rfl) (by kernel_rfl) (by kernel_rfl) (fun _ _ _ h => h) (Or.inl ⟨by rfl, ?_⟩) (by assumption) ?_
            rotate_left 1
            · intro w hSw; (try dsimp only at hSw); go_simp; try with_reducible rfl
            simp only [Act.put, List.getElem_toArray, List.getElem_cons_zero, List.setIfInBounds_toArray, List.set_cons_zero, List.set_cons_succ]
            refine wpAnyH_take (i := 1) (v := ?_) rfl (by kernel_rfl) (by kernel_rfl) (by kernel_rfl) (fun _ _ _ h => h) (Or.inl ⟨by rfl, ?_⟩) (by assumption) ?_
            rotate_left 1
            · intro w hSw; (try dsimp only at hSw); go_simp; try with_reducible rfl
            simp only [Act.put, List.getElem_toArray, List.getElem_cons_succ, List.getElem_cons_zero, List.setIfInBounds_toArray, List.set_cons_zero, List.set_cons_succ]
            refine wpAnyH_take (i := 2) (v := ?_) rfl (by kernel_rfl) (by kernel_rfl) (by kernel_rfl) (fun _ _ _ h => h) (Or.inl ⟨by rfl, ?_⟩) (by assumption) ?_
            rotate_left 1
            · intro w hSw; (try dsimp only at hSw); go_simp; try with_reducible rfl
            simp only [Act.put, List.getElem_toArray, List.getElem_cons_succ, List.getElem_cons_zero, List.setIfInBounds_toArray, List.set_cons_zero, List.set_cons_succ]
            refine wpAnyH_take (i := 3) (v := ?_) rfl (by kernel_rfl) (by kernel_rfl) (by kernel_rfl) (fun _ _ _ h => h) (Or.inl ⟨by rfl, ?_⟩) (by assumption) ?_
            rotate_left 1
            · intro w hSw; (try dsimp only at hSw); go_simp; try with_reducible rfl
            simp only [Act.put, List.getElem_toArray, List.getElem_cons_succ, List.getElem_cons_zero, List.setIfInBounds_toArray, List.set_cons_zero, List.set_cons_succ]
            refine wpAnyH_take (i := 4) (v := .agg ([.int .i64 x.nd.k, .int .i64 x.nd.n, .int .i64 x.nd.t.k, .bool x.nd.t.no, .int .i64 x.nd.t.l.k, .int .i64 x.nd.t.l.a, .int .i64 x.nd.t.l.b, .int .i64 x.nd.t.l.n, .int .i64 x.nd.t.r.k, .int .i64 x.nd.t.r.a, .int .i64 x.nd.t.r.b, .int .i64 x.nd.t.r.n, vc, .int .i64 x.nd.a, .int .i64 x.nd.b, vk, .int .i64 x.nd.g, .int .i64 x.nd.c, (.slice xa x.kids.length xc)] : List Value).toArray) rfl (by kernel_rfl) (by kernel_rfl) (by kernel_rfl) (fun _ _ _ h => h) (yieldsIf_load_mid (by rfl) 39 _ rfl b1 o1 rfl [.int .i64 x.nd.k, .int .i64 x.nd.n, .int .i64 x.nd.t.k, .bool x.nd.t.no, .int .i64 x.nd.t.l.k, .int .i64 x.nd.t.l.a, .int .i64 x.nd.t.l.b, .int .i64 x.nd.t.l.n, .int .i64 x.nd.t.r.k, .int .i64 x.nd.t.r.a, .int .i64 x.nd.t.r.b, .int .i64 x.nd.t.r.n, vc, .int .i64 x.nd.a, .int .i64 x.nd.b, vk, .int .i64 x.nd.g, .int .i64 x.nd.c, (.slice xa x.kids.length xc)] _ (fun x h => h.1) Try.underlying39 rfl hla) (by assumption) ?_
            simp only [Act.put, List.getElem_toArray, List.getElem_cons_succ, List.getElem_cons_zero, List.setIfInBounds_toArray, List.set_cons_zero, List.set_cons_succ]
            refine wpAnyH_take (i := 5) (v := ?_) rfl (by kernel_rfl) (by kernel_rfl) (by kernel_rfl) (fun _ _ _ h => h) (Or.inl ⟨by rfl, ?_⟩) (by assumption) ?_
            rotate_left 1
            · intro w hSw; (try dsimp only at hSw); go_simp; try with_reducible rfl
            simp only [Act.put, List.getElem_toArray, List.getElem_cons_succ, List.getElem_cons_zero, List.setIfInBounds_toArray, List.set_cons_zero, List.set_cons_succ]
            refine wpAnyH_take (i := 6) (v := ?_) rfl (by kernel_rfl) (by kernel_rfl) (by kernel_rfl) (fun _ _ _ h => h) (Or.inl ⟨by rfl, ?_⟩) (by assumption) ?_
            rotate_left 1
            · intro w hSw; (try dsimp only at hSw); go_simp; try with_reducible rfl
            simp only [Act.put, List.getElem_toArray, List.getElem_cons_succ, List.getElem_cons_zero, List.setIfInBounds_toArray, List.set_cons_zero, List.set_cons_succ]
            refine wpAnyH_take (i := 7) (v := ?_) rfl (by kernel_rfl) (by kernel_rfl) (by kernel_rfl) (fun _ _ _ h => h) (Or.inl ⟨by rfl, ?_⟩) (by assumption) ?_
            rotate_left 1
            · intro w hSw; (try dsimp only at hSw); go_simp; try with_reducible rfl
            simp only [Act.put, List.getElem_toArray, List.getElem_cons_succ, List.getElem_cons_zero, List.setIfInBounds_toArray, List.set_cons_zero, List.set_cons_succ]
            refine wpAnyH_take (i := 8) (v := .agg ([.int .i64 y.nd.k, .int .i64 y.nd.n, .int .i64 y.nd.t.k, .bool y.nd.t.no, .int .i64 y.nd.t.l.k, .int .i64 y.nd.t.l.a, .int .i64 y.nd.t.l.b, .int .i64 y.nd.t.l.n, .int .i64 y.nd.t.r.k, .int .i64 y.nd.t.r.a, .int .i64 y.nd.t.r.b, .int .i64 y.nd.t.r.n, vc2, .int .i64 y.nd.a, .int .i64 y.nd.b, vk2, .int .i64 y.nd.g, .int .i64 y.nd.c, (.slice ya y.kids.length yc)] : List Value).toArray) rfl (by kernel_rfl) (by kernel_rfl) (by kernel_rfl) (fun _ _ _ h => h) (yieldsIf_load_mid (by rfl) 39 _ rfl b2 o2 rfl [.int .i64 y.nd.k, .int .i64 y.nd.n, .int .i64 y.nd.t.k, .bool y.nd.t.no, .int .i64 y.nd.t.l.k, .int .i64 y.nd.t.l.a, .int .i64 y.nd.t.l.b, .int .i64 y.nd.t.l.n, .int .i64 y.nd.t.r.k, .int .i64 y.nd.t.r.a, .int .i64 y.nd.t.r.b, .int .i64 y.nd.t.r.n, vc2, .int .i64 y.nd.a, .int .i64 y.nd.b, vk2, .int .i64 y.nd.g, .int .i64 y.nd.c, (.slice ya y.kids.length yc)] _ (fun x h => h.2.1) Try.underlying39 rfl hlb) (by assumption) ?_
            simp only [Act.put, List.getElem_toArray, List.getElem_cons_succ, List.getElem_cons_zero, List.setIfInBounds_toArray, List.set_cons_zero, List.set_cons_succ]
            refine wpAnyH_ready (rs := [9]) (by kernel_rfl) (by simp) ?_
            refine AllReadyH.cons rfl (fun K hK => ?_) AllReadyH.nil
            go_simp
            (go_at_call 18; refine (besides_any x.nd y.nd vc vk (.slice xa x.kids.length xc) vc2 vk2 (.slice ya y.kids.length yc) _ (HCC.out.below hHeld.2.2.2.2.out.2.2.2) (HCC2.out.below hHeld.2.2.2.2.out.2.2.2) (HKK.out.below hHeld.2.2.2.2.out.2.2.2) (HKK2.out.below hHeld.2.2.2.2.out.2.2.2) HL1.out HL2.out HL3.out HL4.out).mono ?_; rw [HE.out]; rintro e w5 ⟨rfl, hb5⟩; have HM5 := hHeld.2.2.2.2.out.below hb5; clear hb5)
            refine hK.out _ _ ?_ (fun hHeld => ?_)
            · (try dsimp only); exact ⟨HF1.out.range' HM5.2.2.2 HN1.out, HF2.out.range' HM5.2.2.2 HN2.out, Mid.held HM5⟩
            clear hK K
            try simp only [Act.put, List.getElem_toArray, List.getElem_cons_succ, List.getElem_cons_zero, List.setIfInBounds_toArray, List.set_cons_zero, List.set_cons_succ]
            refine wpAnyH_take (i := 10) (v := ?_) rfl (by kernel_rfl) (by kernel_rfl) (by kernel_rfl) (fun _ _ _ h => h) (Or.inl ⟨by rfl, ?_⟩) (by assumption) ?_
            rotate_left 1
            · intro w hSw; (try dsimp only at hSw); go_simp; try with_reducible rfl
            simp only [Act.put, List.getElem_toArray, List.getElem_cons_succ, List.getElem_cons_zero, List.setIfInBounds_toArray, List.set_cons_zero, List.set_cons_succ]
            refine wpAnyH_take (i := 11) (v := ?_) rfl (by kernel_rfl) (by kernel_rfl) (by kernel_rfl) (fun _ _ _ h => h) (Or.inl ⟨by rfl, ?_⟩) (by assumption) ?_
            rotate_left 1
            · intro w hSw; (try dsimp only at hSw); go_simp; try with_reducible rfl
            simp only [Act.put, List.getElem_toArray, List.getElem_cons_succ, List.getElem_cons_zero, List.setIfInBounds_toArray, List.set_cons_zero, List.set_cons_succ]
            refine wpAnyH_take (i := 12) (v := ?_) rfl (by kernel_rfl) (by kernel_rfl) (by kernel_rfl) (fun _ _ _ h => h) (Or.inl ⟨by rfl, ?_⟩) (by assumption) ?_
            rotate_left 1
            · intro w hSw; (try dsimp only at hSw); go_simp; try with_reducible rfl
            simp only [Act.put, List.getElem_toArray, List.getElem_cons_succ, List.getElem_cons_zero, List.setIfInBounds_toArray, List.set_cons_zero, List.set_cons_succ]
            refine wpAnyH_take (i := 13) (v := ?_) rfl (by kernel_rfl) (by kernel_rfl) (by kernel_rfl) (fun _ _ _ h => h) (Or.inl ⟨by rfl, ?_⟩) (by assumption) ?_
            rotate_left 1
            · intro w hSw; (try dsimp only at hSw); go_simp; try with_reducible rfl
            simp only [Act.put, List.getElem_toArray, List.getElem_cons_succ, List.getElem_cons_zero, List.setIfInBounds_toArray, List.set_cons_zero, List.set_cons_succ]
            refine wpAnyH_take (i := 14) (v := ?_) rfl (by kernel_rfl) (by kernel_rfl) (by kernel_rfl) (fun _ _ _ h => h) (Or.inl ⟨by rfl, ?_⟩) (by assumption) ?_
            rotate_left 1
            · intro w hSw; (try dsimp only at hSw); go_simp; try with_reducible rfl
            simp only [Act.put, List.getElem_toArray, List.getElem_cons_succ, List.getElem_cons_zero, List.setIfInBounds_toArray, List.set_cons_zero, List.set_cons_succ]
            refine wpAnyH_take (i := 15) (v := ?_) rfl (by kernel_rfl) (by kernel_rfl) (by kernel_rfl) (fun _ _ _ h => h) (Or.inl ⟨by rfl, ?_⟩) (by assumption) ?_
            rotate_left 1
            · intro w hSw; (try dsimp only at hSw); go_simp; try with_reducible rfl
            simp only [Act.put, List.getElem_toArray, List.getElem_cons_succ, List.getElem_cons_zero, List.setIfInBounds_toArray, List.set_cons_zero, List.set_cons_succ]
            refine wpAnyH_take (i := 16) (v := ?_) rfl (by kernel_rfl) (by kernel_rfl) (by kernel_rfl) (fun _ _ _ h => h) (Or.inl ⟨by rfl, ?_⟩) (by assumption) ?_
            rotate_left 1
            · intro w hSw; (try dsimp only at hSw); go_simp; try with_reducible rfl
            simp only [Act.put, List.getElem_toArray, List.getElem_cons_succ, List.getElem_cons_zero, List.setIfInBounds_toArray, List.set_cons_zero, List.set_cons_succ]
            refine wpAnyH_take (i := 17) (v := ?_) rfl (by kernel_rfl) (by kernel_rfl) (by kernel_rfl) (fun _ _ _ h => h) (Or.inl ⟨by rfl, ?_⟩) (by assumption) ?_
            rotate_left 1
            · intro w hSw; (try dsimp only at hSw); go_simp; try with_reducible rfl
            simp only [Act.put, List.getElem_toArray, List.getElem_cons_succ, List.getElem_cons_zero, List.setIfInBounds_toArray, List.set_cons_zero, List.set_cons_succ]
            refine wpAnyH_done (by kernel_rfl) ?_ _
            have HM6 := hHeld.2.2.2.2
            clear hHeld
            go_wp2
            go_ret
            exact ⟨rfl, HM6.out.2.2.2⟩
          case pos =>
            have HKL2 : Hid (x.kids.length = y.kids.length) := hkl2
            have hne : ((x.kids.length : Int) != (y.kids.length : Int)) = false := by simp; omega
            clear hkl2
            refine wp_region_held_drew (S := (fun z => z.rangeAt b1 o1 ([.int .i64 x.nd.k, .int .i64 x.nd.n, .int .i64 x.nd.t.k, .bool x.nd.t.no, .int .i64 x.nd.t.l.k, .int .i64 x.nd.t.l.a, .int .i64 x.nd.t.l.b, .int .i64 x.nd.t.l.n, .int .i64 x.nd.t.r.k, .int .i64 x.nd.t.r.a, .int .i64 x.nd.t.r.b, .int .i64 x.nd.t.r.n, vc, .int .i64 x.nd.a, .int .i64 x.nd.b, vk, .int .i64 x.nd.g, .int .i64 x.nd.c, (.slice xa x.kids.length xc)] : List Value) ∧ z.rangeAt b2 o2 ([.int .i64 y.nd.k, .int .i64 y.nd.n, .int .i64 y.nd.t.k, .bool y.nd.t.no, .int .i64 y.nd.t.l.k, .int .i64 y.nd.t.l.a, .int .i64 y.nd.t.l.b, .int .i64 y.nd.t.l.n, .int .i64 y.nd.t.r.k, .int .i64 y.nd.t.r.a, .int .i64 y.nd.t.r.b, .int .i64 y.nd.t.r.n, vc2, .int .i64 y.nd.a, .int .i64 y.nd.b, vk2, .int .i64 y.nd.g, .int .i64 y.nd.c, (.slice ya y.kids.length yc)] : List Value) ∧ z.cell? ⟨wr.heap.size, 0, none⟩ = some (.pointer (some ⟨b1, o1, none⟩)) ∧ z.cell? ⟨wr.heap.size, 1, none⟩ = some (.pointer (some ⟨b2, o2, none⟩)) ∧ Hid (Mid w (⟨b1, o1, none⟩, ⟨b2, o2, none⟩) wr.heap.size (L ++ [(⟨b1, o1, none⟩, ⟨b2, o2, none⟩)]) (.slice (some ⟨g, 0, none⟩) S.length cap) S z))) (by kernel_rfl) ?_ (fun hHeld => ?_)
            · (try dsimp only); exact ⟨HF1.out.range' (HM4.out.below (by first | exact Below.refl _ _ | exact Below.drew (Below.refl _ _))).2.2.2 HN1.out, HF2.out.range' (HM4.out.below (by first | exact Below.refl _ _ | exact Below.drew (Below.refl _ _))).2.2.2 HN2.out, Mid.held (HM4.out.below (by first | exact Below.refl _ _ | exact Below.drew (Below.refl _ _)))⟩
            refine wpAnyH_take (i := 0) (v := ?_) rfl (by kernel_rfl) (by kernel_rfl) (by kernel_rfl) (fun _ _ _ h => h) (Or.inl ⟨by rfl, ?_⟩) (by assumption) ?_
            rotate_left 1
            · intro w hSw; (try dsimp only at hSw); go_simp; try with_reducible rfl
            simp only [Act.put, List.getElem_toArray, List.getElem_cons_zero, List.setIfInBounds_toArray, List.set_cons_zero, List.set_cons_succ]
            refine wpAnyH_take (i := 1) (v := ?_) rfl (by kernel_rfl) (by kernel_rfl) (by kernel_rfl) (fun _ _ _ h => h) (Or.inl ⟨by rfl, ?_⟩) (by assumption) ?_
            rotate_left 1
            · intro w hSw; (try dsimp only at hSw); go_simp; try with_reducible rfl
            simp only [Act.put, List.getElem_toArray, List.getElem_cons_succ, List.getElem_cons_zero, List.setIfInBounds_toArray, List.set_cons_zero, List.set_cons_succ]
            refine wpAnyH_take (i := 2) (v := ?_) rfl (by kernel_rfl) (by kernel_rfl) (by kernel_rfl) (fun _ _ _ h => h) (Or.inl ⟨by rfl, ?_⟩) (by assumption) ?_
            rotate_left 1
            · intro w hSw; (try dsimp only at hSw); go_simp; try with_reducible rfl
            simp only [Act.put, List.getElem_toArray, List.getElem_cons_succ, List.getElem_cons_zero, List.setIfInBounds_toArray, List.set_cons_zero, List.set_cons_succ]
            refine wpAnyH_take (i := 3) (v := ?_) rfl (by kernel_rfl) (by kernel_rfl) (by kernel_rfl) (fun _ _ _ h => h) (Or.inl ⟨by rfl, ?_⟩) (by assumption) ?_
            rotate_left 1
            · intro w hSw; (try dsimp only at hSw); go_simp; try with_reducible rfl
            simp only [Act.put, List.getElem_toArray, List.getElem_cons_succ, List.getElem_cons_zero, List.setIfInBounds_toArray, List.set_cons_zero, List.set_cons_succ]
            refine wpAnyH_take (i := 4) (v := .agg ([.int .i64 x.nd.k, .int .i64 x.nd.n, .int .i64 x.nd.t.k, .bool x.nd.t.no, .int .i64 x.nd.t.l.k, .int .i64 x.nd.t.l.a, .int .i64 x.nd.t.l.b, .int .i64 x.nd.t.l.n, .int .i64 x.nd.t.r.k, .int .i64 x.nd.t.r.a, .int .i64 x.nd.t.r.b, .int .i64 x.nd.t.r.n, vc, .int .i64 x.nd.a, .int .i64 x.nd.b, vk, .int .i64 x.nd.g, .int .i64 x.nd.c, (.slice xa x.kids.length xc)] : List Value).toArray) rfl (by kernel_rfl) (by kernel_rfl) (by kernel_rfl) (fun _ _ _ h => h) (yieldsIf_load_mid (by rfl) 39 _ rfl b1 o1 rfl [.int .i64 x.nd.k, .int .i64 x.nd.n, .int .i64 x.nd.t.k, .bool x.nd.t.no, .int .i64 x.nd.t.l.k, .int .i64 x.nd.t.l.a, .int .i64 x.nd.t.l.b, .int .i64 x.nd.t.l.n, .int .i64 x.nd.t.r.k, .int .i64 x.nd.t.r.a, .int .i64 x.nd.t.r.b, .int .i64 x.nd.t.r.n, vc, .int .i64 x.nd.a, .int .i64 x.nd.b, vk, .int .i64 x.nd.g, .int .i64 x.nd.c, (.slice xa x.kids.length xc)] _ (fun x h => h.1) Try.underlying39 rfl hla) (by assumption) ?_
            simp only [Act.put, List.getElem_toArray, List.getElem_cons_succ, List.getElem_cons_zero, List.setIfInBounds_toArray, List.set_cons_zero, List.set_cons_succ]
            refine wpAnyH_take (i := 5) (v := ?_) rfl (by kernel_rfl) (by kernel_rfl) (by kernel_rfl) (fun _ _ _ h => h) (Or.inl ⟨by rfl, ?_⟩) (by assumption) ?_
            rotate_left 1
            · intro w hSw; (try dsimp only at hSw); go_simp; try with_reducible rfl
            simp only [Act.put, List.getElem_toArray, List.getElem_cons_succ, List.getElem_cons_zero, List.setIfInBounds_toArray, List.set_cons_zero, List.set_cons_succ]
            refine wpAnyH_take (i := 6) (v := ?_) rfl (by kernel_rfl) (by kernel_rfl) (by kernel_rfl) (fun _ _ _ h => h) (Or.inl ⟨by rfl, ?_⟩) (by assumption) ?_
            rotate_left 1
            · intro w hSw; (try dsimp only at hSw); go_simp; try with_reducible rfl
            simp only [Act.put, List.getElem_toArray, List.getElem_cons_succ, List.getElem_cons_zero, List.setIfInBounds_toArray, List.set_cons_zero, List.set_cons_succ]
            refine wpAnyH_take (i := 7) (v := ?_) rfl (by kernel_rfl) (by kernel_rfl) (by kernel_rfl) (fun _ _ _ h => h) (Or.inl ⟨by rfl, ?_⟩) (by assumption) ?_
            rotate_left 1
            · intro w hSw; (try dsimp only at hSw); go_simp; try with_reducible rfl
            simp only [Act.put, List.getElem_toArray, List.getElem_cons_succ, List.getElem_cons_zero, List.setIfInBounds_toArray, List.set_cons_zero, List.set_cons_succ]
            refine wpAnyH_take (i := 8) (v := .agg ([.int .i64 y.nd.k, .int .i64 y.nd.n, .int .i64 y.nd.t.k, .bool y.nd.t.no, .int .i64 y.nd.t.l.k, .int .i64 y.nd.t.l.a, .int .i64 y.nd.t.l.b, .int .i64 y.nd.t.l.n, .int .i64 y.nd.t.r.k, .int .i64 y.nd.t.r.a, .int .i64 y.nd.t.r.b, .int .i64 y.nd.t.r.n, vc2, .int .i64 y.nd.a, .int .i64 y.nd.b, vk2, .int .i64 y.nd.g, .int .i64 y.nd.c, (.slice ya y.kids.length yc)] : List Value).toArray) rfl (by kernel_rfl) (by kernel_rfl) (by kernel_rfl) (fun _ _ _ h => h) (yieldsIf_load_mid (by rfl) 39 _ rfl b2 o2 rfl [.int .i64 y.nd.k, .int .i64 y.nd.n, .int .i64 y.nd.t.k, .bool y.nd.t.no, .int .i64 y.nd.t.l.k, .int .i64 y.nd.t.l.a, .int .i64 y.nd.t.l.b, .int .i64 y.nd.t.l.n, .int .i64 y.nd.t.r.k, .int .i64 y.nd.t.r.a, .int .i64 y.nd.t.r.b, .int .i64 y.nd.t.r.n, vc2, .int .i64 y.nd.a, .int .i64 y.nd.b, vk2, .int .i64 y.nd.g, .int .i64 y.nd.c, (.slice ya y.kids.length yc)] _ (fun x h => h.2.1) Try.underlying39 rfl hlb) (by assumption) ?_
            simp only [Act.put, List.getElem_toArray, List.getElem_cons_succ, List.getElem_cons_zero, List.setIfInBounds_toArray, List.set_cons_zero, List.set_cons_succ]
            refine wpAnyH_ready (rs := [9]) (by kernel_rfl) (by simp) ?_
            refine AllReadyH.cons rfl (fun K hK => ?_) AllReadyH.nil
            go_simp
            (go_at_call 18; refine (besides_any x.nd y.nd vc vk (.slice xa x.kids.length xc) vc2 vk2 (.slice ya y.kids.length yc) _ (HCC.out.below hHeld.2.2.2.2.out.2.2.2) (HCC2.out.below hHeld.2.2.2.2.out.2.2.2) (HKK.out.below hHeld.2.2.2.2.out.2.2.2) (HKK2.out.below hHeld.2.2.2.2.out.2.2.2) HL1.out HL2.out HL3.out HL4.out).mono ?_; rw [HE.out]; rintro e w5 ⟨rfl, hb5⟩; have HM5 := hHeld.2.2.2.2.out.below hb5; clear hb5)
            refine hK.out _ _ ?_ (fun hHeld => ?_)
            · (try dsimp only); exact ⟨HF1.out.range' HM5.2.2.2 HN1.out, HF2.out.range' HM5.2.2.2 HN2.out, Mid.held HM5⟩
            clear hK K
            try simp only [Act.put, List.getElem_toArray, List.getElem_cons_succ, List.getElem_cons_zero, List.setIfInBounds_toArray, List.set_cons_zero, List.set_cons_succ]
            refine wpAnyH_take (i := 10) (v := ?_) rfl (by kernel_rfl) (by kernel_rfl) (by kernel_rfl) (fun _ _ _ h => h) (Or.inl ⟨by rfl, ?_⟩) (by assumption) ?_
            rotate_left 1
            · intro w hSw; (try dsimp only at hSw); go_simp; try with_reducible rfl
            simp only [Act.put, List.getElem_toArray, List.getElem_cons_succ, List.getElem_cons_zero, List.setIfInBounds_toArray, List.set_cons_zero, List.set_cons_succ]
            refine wpAnyH_take (i := 11) (v := ?_) rfl (by kernel_rfl) (by kernel_rfl) (by kernel_rfl) (fun _ _ _ h => h) (Or.inl ⟨by rfl, ?_⟩) (by assumption) ?_
            rotate_left 1
            · intro w hSw; (try dsimp only at hSw); go_simp; try with_reducible rfl
            simp only [Act.put, List.getElem_toArray, List.getElem_cons_succ, List.getElem_cons_zero, List.setIfInBounds_toArray, List.set_cons_zero, List.set_cons_succ]
            refine wpAnyH_take (i := 12) (v := ?_) rfl (by kernel_rfl) (by kernel_rfl) (by kernel_rfl) (fun _ _ _ h => h) (Or.inl ⟨by rfl, ?_⟩) (by assumption) ?_
            rotate_left 1
            · intro w hSw; (try dsimp only at hSw); go_simp; try with_reducible rfl
            simp only [Act.put, List.getElem_toArray, List.getElem_cons_succ, List.getElem_cons_zero, List.setIfInBounds_toArray, List.set_cons_zero, List.set_cons_succ]
            refine wpAnyH_take (i := 13) (v := ?_) rfl (by kernel_rfl) (by kernel_rfl) (by kernel_rfl) (fun _ _ _ h => h) (Or.inl ⟨by rfl, ?_⟩) (by assumption) ?_
            rotate_left 1
            · intro w hSw; (try dsimp only at hSw); go_simp; try with_reducible rfl
            simp only [Act.put, List.getElem_toArray, List.getElem_cons_succ, List.getElem_cons_zero, List.setIfInBounds_toArray, List.set_cons_zero, List.set_cons_succ]
            refine wpAnyH_take (i := 14) (v := ?_) rfl (by kernel_rfl) (by kernel_rfl) (by kernel_rfl) (fun _ _ _ h => h) (Or.inl ⟨by rfl, ?_⟩) (by assumption) ?_
            rotate_left 1
            · intro w hSw; (try dsimp only at hSw); go_simp; try with_reducible rfl
            simp only [Act.put, List.getElem_toArray, List.getElem_cons_succ, List.getElem_cons_zero, List.setIfInBounds_toArray, List.set_cons_zero, List.set_cons_succ]
            refine wpAnyH_take (i := 15) (v := ?_) rfl (by kernel_rfl) (by kernel_rfl) (by kernel_rfl) (fun _ _ _ h => h) (Or.inl ⟨by rfl, ?_⟩) (by assumption) ?_
            rotate_left 1
            · intro w hSw; (try dsimp only at hSw); go_simp; try with_reducible rfl
            simp only [Act.put, List.getElem_toArray, List.getElem_cons_succ, List.getElem_cons_zero, List.setIfInBounds_toArray, List.set_cons_zero, List.set_cons_succ]
            refine wpAnyH_take (i := 16) (v := ?_) rfl (by kernel_rfl) (by kernel_rfl) (by kernel_rfl) (fun _ _ _ h => h) (Or.inl ⟨by rfl, ?_⟩) (by assumption) ?_
            rotate_left 1
            · intro w hSw; (try dsimp only at hSw); go_simp; try with_reducible rfl
            simp only [Act.put, List.getElem_toArray, List.getElem_cons_succ, List.getElem_cons_zero, List.setIfInBounds_toArray, List.set_cons_zero, List.set_cons_succ]
            refine wpAnyH_take (i := 17) (v := ?_) rfl (by kernel_rfl) (by kernel_rfl) (by kernel_rfl) (fun _ _ _ h => h) (Or.inl ⟨by rfl, ?_⟩) (by assumption) ?_
            rotate_left 1
            · intro w hSw; (try dsimp only at hSw); go_simp; try with_reducible rfl
            simp only [Act.put, List.getElem_toArray, List.getElem_cons_succ, List.getElem_cons_zero, List.setIfInBounds_toArray, List.set_cons_zero, List.set_cons_succ]
            refine wpAnyH_done (by kernel_rfl) ?_ _
            have HM6 := hHeld.2.2.2.2
            clear hHeld
            go_wp2_with fail
            have HI0 : Hid (InR w (L ++ [(⟨b1, o1, none⟩, ⟨b2, o2, none⟩)]) (.slice (some ⟨g, 0, none⟩) S.length cap) (kidsS w (⟨b1, o1, none⟩, ⟨b2, o2, none⟩) 0 ++ S) _) := HM6.out.inR
            clear HM6
            go_loopw [9, 74] (fun v i z => ∃ j : Nat, j ≤ x.kids.length ∧ i = .int .i64 j ∧ Hid (InR w (L ++ [(⟨b1, o1, none⟩, ⟨b2, o2, none⟩)]) v (kidsS w (⟨b1, o1, none⟩, ⟨b2, o2, none⟩) j ++ S) z)) (fun _ i _ => x.kids.length - (intOf i).toNat)
            case atStart => exact ⟨0, Nat.zero_le _, rfl, HI0⟩
            case round =>
              clear HI0
              obtain ⟨j, hj, rfl, HI⟩ := hrel
              by_cases hjl : j < x.kids.length
              · obtain ⟨kb, ko, rfl, -, -⟩ := HKD.out.at.2 (by omega)
                obtain ⟨kb2, ko2, rfl, -, -⟩ := HKD2.out.at.2 (by have := HKL2.out; omega)
                have HKA : Hid ((⟨kb, ko + j * 19, none⟩, ⟨kb2, ko2 + j * 19, none⟩) = kidP w (⟨b1, o1, none⟩, ⟨b2, o2, none⟩) j) := by
                  show _ = _
                  simp [kidP, kidA, HC1.out w (Below.refl _ _), HC2.out w (Below.refl _ _)]
                have cPL : Try.prog.cellsOf 39 = 19 := by kernel_rfl
                have hj1 : (j : Int) < (x.kids.length : Int) := by omega
                have hj2 : (j : Int) < (y.kids.length : Int) := by have := HKL2.out; omega
                have hj3 : j < y.kids.length := by omega
                have hj0 : (0 : Int) ≤ (j : Int) := by omega
                go_wp2_with fail
                refine wp_region_held_drew (S := (fun z => Hid (w.heap.size ≤ z.heap.size))) (by kernel_rfl) ?_ (fun hHeld => ?_)
                · (try dsimp only); exact HI.out.2.2.1
                refine wpAnyH_take (i := 0) (v := ?_) rfl (by kernel_rfl) (by kernel_rfl) (by kernel_rfl) (fun _ _ _ h => h) (Or.inl ⟨by rfl, ?_⟩) (by assumption) ?_
                rotate_left 1
                · intro w hSw; (try dsimp only at hSw); go_simp; try with_reducible rfl
                simp only [Act.put, List.getElem_toArray, List.getElem_cons_zero, List.setIfInBounds_toArray, List.set_cons_zero, List.set_cons_succ]
                refine wpAnyH_take (i := 1) (v := ?_) rfl (by kernel_rfl) (by kernel_rfl) (by kernel_rfl) (fun _ _ _ h => h) (Or.inl ⟨by rfl, ?_⟩) (by assumption) ?_
                rotate_left 1
                · intro w hSw; (try dsimp only at hSw); go_simp; try with_reducible rfl
                simp only [Act.put, List.getElem_toArray, List.getElem_cons_succ, List.getElem_cons_zero, List.setIfInBounds_toArray, List.set_cons_zero, List.set_cons_succ]
                refine wpAnyH_take (i := 2) (v := ?_) rfl (by kernel_rfl) (by kernel_rfl) (by kernel_rfl) (fun _ _ _ h => h) (Or.inl ⟨by rfl, ?_⟩) (by assumption) ?_
                rotate_left 1
                · intro w hSw; (try dsimp only at hSw); go_simp; try with_reducible rfl
                simp only [Act.put, List.getElem_toArray, List.getElem_cons_succ, List.getElem_cons_zero, List.setIfInBounds_toArray, List.set_cons_zero, List.set_cons_succ]
                refine wpAnyH_take (i := 3) (v := ?_) rfl (by kernel_rfl) (by kernel_rfl) (by kernel_rfl) (fun _ _ _ h => h) (Or.inl ⟨by rfl, ?_⟩) (by assumption) ?_
                rotate_left 1
                · intro w hSw; (try dsimp only at hSw); go_simp; try with_reducible rfl
                simp only [Act.put, List.getElem_toArray, List.getElem_cons_succ, List.getElem_cons_zero, List.setIfInBounds_toArray, List.set_cons_zero, List.set_cons_succ]
                refine wpAnyH_take (i := 4) (v := ?_) rfl (by kernel_rfl) (by kernel_rfl) (by kernel_rfl) (fun _ _ _ h => h) (Or.inl ⟨by rfl, ?_⟩) (by assumption) ?_
                rotate_left 1
                · intro w hSw; (try dsimp only at hSw); go_simp; try with_reducible rfl
                simp only [Act.put, List.getElem_toArray, List.getElem_cons_succ, List.getElem_cons_zero, List.setIfInBounds_toArray, List.set_cons_zero, List.set_cons_succ]
                refine wpAnyH_take (i := 5) (v := ?_) rfl (by kernel_rfl) (by kernel_rfl) (by kernel_rfl) (fun _ _ _ h => h) (Or.inl ⟨by rfl, ?_⟩) (by assumption) ?_
                rotate_left 1
                · intro w hSw; (try dsimp only at hSw); go_simp; try with_reducible rfl
                simp only [Act.put, List.getElem_toArray, List.getElem_cons_succ, List.getElem_cons_zero, List.setIfInBounds_toArray, List.set_cons_zero, List.set_cons_succ]
                refine wpAnyH_take (i := 6) (v := ?_) rfl (by kernel_rfl) (by kernel_rfl) (by kernel_rfl) (fun _ _ _ h => h) (Or.inl ⟨by rfl, ?_⟩) (by assumption) ?_
                rotate_left 1
                · intro w hSw; (try dsimp only at hSw); go_simp; try with_reducible rfl
                simp only [Act.put, List.getElem_toArray, List.getElem_cons_succ, List.getElem_cons_zero, List.setIfInBounds_toArray, List.set_cons_zero, List.set_cons_succ]
                refine wpAnyH_take (i := 7) (v := ?_) rfl (by kernel_rfl) (by kernel_rfl) (by kernel_rfl) (fun _ _ _ h => h) (Or.inl ⟨by rfl, ?_⟩) (by assumption) ?_
                rotate_left 1
                · intro w hSw; (try dsimp only at hSw); go_simp; try with_reducible rfl
                simp only [Act.put, List.getElem_toArray, List.getElem_cons_succ, List.getElem_cons_zero, List.setIfInBounds_toArray, List.set_cons_zero, List.set_cons_succ]
                refine wpAnyH_ready (rs := [8]) (by kernel_rfl) (by simp) ?_
                refine AllReadyH.cons rfl (fun K hK => ?_) AllReadyH.nil
                go_simp
                have HA8 := (HI.out.below (Below.drew (Below.refl _ _))).alloc (.cells #[.pointer (some ⟨kb, ko + j * 19, none⟩), .pointer (some ⟨kb2, ko2 + j * 19, none⟩)] 59)
                refine hK.out _ _ ?_ (fun hHeld => ?_)
                · (try dsimp only); exact HA8.2.2.1
                clear hK K
                try simp only [Act.put, List.getElem_toArray, List.getElem_cons_succ, List.getElem_cons_zero, List.setIfInBounds_toArray, List.set_cons_zero, List.set_cons_succ]
                refine wpAnyH_ready (rs := [9]) (by kernel_rfl) (by simp) ?_
                refine AllReadyH.cons rfl (fun K hK => ?_) AllReadyH.nil
                refine wp_append_own _ (.tmp 77) (.tmp 85) 60 rfl w.heap.size 59 i0 (.agg #[.pointer none, .pointer none]) 2 16 Try.underlying60 hi hz0 hz1 hz2 rfl (by decide) u9 _ _ (by simp [Act.eval]) HA8.2.1 ⟨wr.heap.size, 0, none⟩ 1 1 [.pointer (some ⟨kb, ko + j * 19, none⟩), .pointer (some ⟨kb2, ko2 + j * 19, none⟩)] (by simp [Act.eval]) rfl (cell_two_new _ _ _ _) (fun u hu => by simp at hu; rcases hu with rfl | rfl <;> rfl) (by unfold maxLen; rw [List.length_append, kidsS_length]; omega) (by rw [List.length_append, kidsS_length]; omega) HA8.2.2.1 ?_
                intro v' w8 hown8 hgrow8 _
                have H8 := HA8.push HKA.out hown8 hgrow8
                clear hown8 hgrow8 HA8
                refine hK.out _ _ ?_ (fun hHeld => ?_)
                · (try dsimp only); exact H8.2.2.1
                clear hK K
                try simp only [Act.put, List.getElem_toArray, List.getElem_cons_succ, List.getElem_cons_zero, List.setIfInBounds_toArray, List.set_cons_zero, List.set_cons_succ]
                refine wpAnyH_take (i := 10) (v := ?_) rfl (by kernel_rfl) (by kernel_rfl) (by kernel_rfl) (fun _ _ _ h => h) (Or.inl ⟨by rfl, ?_⟩) (by assumption) ?_
                rotate_left 1
                · intro w hSw; (try dsimp only at hSw); go_simp; try with_reducible rfl
                simp only [Act.put, List.getElem_toArray, List.getElem_cons_succ, List.getElem_cons_zero, List.setIfInBounds_toArray, List.set_cons_zero, List.set_cons_succ]
                refine wpAnyH_done (by kernel_rfl) ?_ _
                clear hHeld
                go_wp2
                go_roundw
                case rel => exact ⟨j + 1, by omega, by go_num, H8⟩
                case measure => simp [intOf]; omega
              · have hje : j = x.kids.length := by omega
                subst hje
                go_wp2
                go_roundg (M' + ((x.kids.take x.kids.length).map (Pl.cnt n')).sum)
                case measure =>
                  have h1 := HMM.out
                  have h2 := HCN.out
                  rw [Pl.cnt_succ] at h2
                  rw [List.take_length]
                  omega
                case rel =>
                  refine ⟨kidsS w (⟨b1, o1, none⟩, ⟨b2, o2, none⟩) x.kids.length ++ S, L ++ [(⟨b1, o1, none⟩, ⟨b2, o2, none⟩)], HST2.out.kids HX.out HY.out HXY.out HSX.out HSY.out HUX.out HUY.out HKL2.out x.kids.length (Nat.le_refl _), HI.out.2.1, HI.out.1, ?_, in_push HIN.out, ?_, HI.out.2.2.2, ?_⟩
                  · have := HSH.out.push (even_of HX.out HY.out (Nd.eqB_iff.1 HE.out) HKL2.out)
                    rwa [show kidN w ((⟨b1, o1, none⟩, ⟨b2, o2, none⟩) : Pr).1 = x.kids.length from HX.out.kidN] at this
                  · intro l hl
                    rcases List.mem_append.1 hl with hl | hl
                    · exact HUN.out l hl
                    · obtain rfl : l = (⟨b1, o1, none⟩, ⟨b2, o2, none⟩) := by simpa using hl
                      exact HU.out
                  · have h1 := HMM.out
                    have h2 := HCN.out
                    have h3 := HM.out
                    rw [Pl.cnt_succ] at h2
                    rw [List.take_length]
                    omega

end Go.Proofs.Ytkmihnagmbdbgaa
