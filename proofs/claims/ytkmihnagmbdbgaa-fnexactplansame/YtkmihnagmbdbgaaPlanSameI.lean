/-
  impl.PlanSame: two plans whose kids lie in blocks that are not frozen.
-/
import Derived.Test.YtkmihnagmbdbgaaSameTree
namespace Go.Proofs.Ytkmihnagmbdbgaa
set_option maxRecDepth 100000
open Go.RowKit
set_option linter.unusedVariables false
set_option linter.unusedSimpArgs false

/-- The contract of impl.PlanSame. -/
def ImOk : Prop := ∀ (n : Nat) (p q : Pl (n + 1)) (vc vk vd vc2 vk2 vd2 : Value) (w : World), PlanV (n + 1) w p vc vk vd → PlanV (n + 1) w q vc2 vk2 vd2 → KidsU n w vd → KidsU n w vd2 → Pl.sz (n + 1) p ≤ 1048576 → Pl.sz (n + 1) q ≤ 1048576 →
  Calls Try.prog 7 #[.agg #[.int .i64 p.nd.k, .int .i64 p.nd.n, .int .i64 p.nd.t.k, .bool p.nd.t.no, .int .i64 p.nd.t.l.k, .int .i64 p.nd.t.l.a, .int .i64 p.nd.t.l.b, .int .i64 p.nd.t.l.n, .int .i64 p.nd.t.r.k, .int .i64 p.nd.t.r.a, .int .i64 p.nd.t.r.b, .int .i64 p.nd.t.r.n, vc, .int .i64 p.nd.a, .int .i64 p.nd.b, vk, .int .i64 p.nd.g, .int .i64 p.nd.c, vd], .agg #[.int .i64 q.nd.k, .int .i64 q.nd.n, .int .i64 q.nd.t.k, .bool q.nd.t.no, .int .i64 q.nd.t.l.k, .int .i64 q.nd.t.l.a, .int .i64 q.nd.t.l.b, .int .i64 q.nd.t.l.n, .int .i64 q.nd.t.r.k, .int .i64 q.nd.t.r.a, .int .i64 q.nd.t.r.b, .int .i64 q.nd.t.r.n, vc2, .int .i64 q.nd.a, .int .i64 q.nd.b, vk2, .int .i64 q.nd.g, .int .i64 q.nd.c, vd2]] w fun e w' => e = .returned (.bool (Pl.same (n + 1) p q)) ∧ Below w.heap.size w w'

theorem KidsU.below : ∀ {n : Nat} {w w' : World} {v : Value}, KidsU n w v → Below w.heap.size w w' → KidsU n w' v
  | 0, w, w', v, h, hb => fun b off k c e hk => (h b off k c e hk).below hb
  | n + 1, w, w', v, h, hb => fun b off k c e hk => by
    obtain ⟨h1, h2⟩ := h b off k c e hk
    exact ⟨h1.below hb, fun j hj vd hv => KidsU.below (h2 j hj vd ((hb.cell (p := ⟨b, off + j * 19 + 18, none⟩) h1.lt).symm.trans hv)) hb⟩
theorem hidden {P : Prop} (h : P) : Hid P := h
theorem fields_blk {w : World} {b : Nat} {p : Nd} {vc vk vd : Value} {t : TypeId} (h : w.heap[b]? = some (.cells #[.int .i64 p.k, .int .i64 p.n, .int .i64 p.t.k, .bool p.t.no, .int .i64 p.t.l.k, .int .i64 p.t.l.a, .int .i64 p.t.l.b, .int .i64 p.t.l.n, .int .i64 p.t.r.k, .int .i64 p.t.r.a, .int .i64 p.t.r.b, .int .i64 p.t.r.n, vc, .int .i64 p.a, .int .i64 p.b, vk, .int .i64 p.g, .int .i64 p.c, vd] t)) : Fields w b 0 p vc vk vd :=
  ⟨cell_at h rfl, cell_at h rfl, cell_at h rfl, cell_at h rfl, cell_at h rfl, cell_at h rfl, cell_at h rfl, cell_at h rfl, cell_at h rfl, cell_at h rfl, cell_at h rfl, cell_at h rfl, cell_at h rfl, cell_at h rfl, cell_at h rfl, cell_at h rfl, cell_at h rfl, cell_at h rfl, cell_at h rfl⟩
theorem nod_blk {n : Nat} {w : World} {b : Nat} {p : Pl (n + 1)} {vc vk vd : Value} {t : TypeId} (h : w.heap[b]? = some (.cells #[.int .i64 p.nd.k, .int .i64 p.nd.n, .int .i64 p.nd.t.k, .bool p.nd.t.no, .int .i64 p.nd.t.l.k, .int .i64 p.nd.t.l.a, .int .i64 p.nd.t.l.b, .int .i64 p.nd.t.l.n, .int .i64 p.nd.t.r.k, .int .i64 p.nd.t.r.a, .int .i64 p.nd.t.r.b, .int .i64 p.nd.t.r.n, vc, .int .i64 p.nd.a, .int .i64 p.nd.b, vk, .int .i64 p.nd.g, .int .i64 p.nd.c, vd] t)) (hp : PlanV (n + 1) w p vc vk vd) : Nod (n + 1) w ⟨b, 0, none⟩ p :=
  ⟨rfl, (Array.getElem?_eq_some_iff.1 h).1, vc, vk, vd, fields_blk h, hp⟩
theorem waits_two {n : Nat} {w : World} {p q : Pl (n + 1)} {vc vk vd vc2 vk2 vd2 : Value} (hp : PlanV (n + 1) w p vc vk vd) (hq : PlanV (n + 1) w q vc2 vk2 vd2) (hu : KidsU n w vd) (hu2 : KidsU n w vd2) (hs : Pl.sz (n + 1) p ≤ 1048576) (hs2 : Pl.sz (n + 1) q ≤ 1048576) :
    Nod (n + 1) ((w.alloc (.cells #[.int .i64 p.nd.k, .int .i64 p.nd.n, .int .i64 p.nd.t.k, .bool p.nd.t.no, .int .i64 p.nd.t.l.k, .int .i64 p.nd.t.l.a, .int .i64 p.nd.t.l.b, .int .i64 p.nd.t.l.n, .int .i64 p.nd.t.r.k, .int .i64 p.nd.t.r.a, .int .i64 p.nd.t.r.b, .int .i64 p.nd.t.r.n, vc, .int .i64 p.nd.a, .int .i64 p.nd.b, vk, .int .i64 p.nd.g, .int .i64 p.nd.c, vd] 39)).alloc (.cells #[.int .i64 q.nd.k, .int .i64 q.nd.n, .int .i64 q.nd.t.k, .bool q.nd.t.no, .int .i64 q.nd.t.l.k, .int .i64 q.nd.t.l.a, .int .i64 q.nd.t.l.b, .int .i64 q.nd.t.l.n, .int .i64 q.nd.t.r.k, .int .i64 q.nd.t.r.a, .int .i64 q.nd.t.r.b, .int .i64 q.nd.t.r.n, vc2, .int .i64 q.nd.a, .int .i64 q.nd.b, vk2, .int .i64 q.nd.g, .int .i64 q.nd.c, vd2] 39)) ⟨w.heap.size, 0, none⟩ p ∧ Nod (n + 1) ((w.alloc (.cells #[.int .i64 p.nd.k, .int .i64 p.nd.n, .int .i64 p.nd.t.k, .bool p.nd.t.no, .int .i64 p.nd.t.l.k, .int .i64 p.nd.t.l.a, .int .i64 p.nd.t.l.b, .int .i64 p.nd.t.l.n, .int .i64 p.nd.t.r.k, .int .i64 p.nd.t.r.a, .int .i64 p.nd.t.r.b, .int .i64 p.nd.t.r.n, vc, .int .i64 p.nd.a, .int .i64 p.nd.b, vk, .int .i64 p.nd.g, .int .i64 p.nd.c, vd] 39)).alloc (.cells #[.int .i64 q.nd.k, .int .i64 q.nd.n, .int .i64 q.nd.t.k, .bool q.nd.t.no, .int .i64 q.nd.t.l.k, .int .i64 q.nd.t.l.a, .int .i64 q.nd.t.l.b, .int .i64 q.nd.t.l.n, .int .i64 q.nd.t.r.k, .int .i64 q.nd.t.r.a, .int .i64 q.nd.t.r.b, .int .i64 q.nd.t.r.n, vc2, .int .i64 q.nd.a, .int .i64 q.nd.b, vk2, .int .i64 q.nd.g, .int .i64 q.nd.c, vd2] 39)) ⟨w.heap.size + 1, 0, none⟩ q ∧ Waits ((w.alloc (.cells #[.int .i64 p.nd.k, .int .i64 p.nd.n, .int .i64 p.nd.t.k, .bool p.nd.t.no, .int .i64 p.nd.t.l.k, .int .i64 p.nd.t.l.a, .int .i64 p.nd.t.l.b, .int .i64 p.nd.t.l.n, .int .i64 p.nd.t.r.k, .int .i64 p.nd.t.r.a, .int .i64 p.nd.t.r.b, .int .i64 p.nd.t.r.n, vc, .int .i64 p.nd.a, .int .i64 p.nd.b, vk, .int .i64 p.nd.g, .int .i64 p.nd.c, vd] 39)).alloc (.cells #[.int .i64 q.nd.k, .int .i64 q.nd.n, .int .i64 q.nd.t.k, .bool q.nd.t.no, .int .i64 q.nd.t.l.k, .int .i64 q.nd.t.l.a, .int .i64 q.nd.t.l.b, .int .i64 q.nd.t.l.n, .int .i64 q.nd.t.r.k, .int .i64 q.nd.t.r.a, .int .i64 q.nd.t.r.b, .int .i64 q.nd.t.r.n, vc2, .int .i64 q.nd.a, .int .i64 q.nd.b, vk2, .int .i64 q.nd.g, .int .i64 q.nd.c, vd2] 39)) (p = q) (⟨w.heap.size, 0, none⟩, ⟨w.heap.size + 1, 0, none⟩) (Pl.cnt (n + 1) p) ∧ Below w.heap.size w ((w.alloc (.cells #[.int .i64 p.nd.k, .int .i64 p.nd.n, .int .i64 p.nd.t.k, .bool p.nd.t.no, .int .i64 p.nd.t.l.k, .int .i64 p.nd.t.l.a, .int .i64 p.nd.t.l.b, .int .i64 p.nd.t.l.n, .int .i64 p.nd.t.r.k, .int .i64 p.nd.t.r.a, .int .i64 p.nd.t.r.b, .int .i64 p.nd.t.r.n, vc, .int .i64 p.nd.a, .int .i64 p.nd.b, vk, .int .i64 p.nd.g, .int .i64 p.nd.c, vd] 39)).alloc (.cells #[.int .i64 q.nd.k, .int .i64 q.nd.n, .int .i64 q.nd.t.k, .bool q.nd.t.no, .int .i64 q.nd.t.l.k, .int .i64 q.nd.t.l.a, .int .i64 q.nd.t.l.b, .int .i64 q.nd.t.l.n, .int .i64 q.nd.t.r.k, .int .i64 q.nd.t.r.a, .int .i64 q.nd.t.r.b, .int .i64 q.nd.t.r.n, vc2, .int .i64 q.nd.a, .int .i64 q.nd.b, vk2, .int .i64 q.nd.g, .int .i64 q.nd.c, vd2] 39)) := by
  obtain ⟨h1, h2, hb⟩ := two w (.cells #[.int .i64 p.nd.k, .int .i64 p.nd.n, .int .i64 p.nd.t.k, .bool p.nd.t.no, .int .i64 p.nd.t.l.k, .int .i64 p.nd.t.l.a, .int .i64 p.nd.t.l.b, .int .i64 p.nd.t.l.n, .int .i64 p.nd.t.r.k, .int .i64 p.nd.t.r.a, .int .i64 p.nd.t.r.b, .int .i64 p.nd.t.r.n, vc, .int .i64 p.nd.a, .int .i64 p.nd.b, vk, .int .i64 p.nd.g, .int .i64 p.nd.c, vd] 39) (.cells #[.int .i64 q.nd.k, .int .i64 q.nd.n, .int .i64 q.nd.t.k, .bool q.nd.t.no, .int .i64 q.nd.t.l.k, .int .i64 q.nd.t.l.a, .int .i64 q.nd.t.l.b, .int .i64 q.nd.t.l.n, .int .i64 q.nd.t.r.k, .int .i64 q.nd.t.r.a, .int .i64 q.nd.t.r.b, .int .i64 q.nd.t.r.n, vc2, .int .i64 q.nd.a, .int .i64 q.nd.b, vk2, .int .i64 q.nd.g, .int .i64 q.nd.c, vd2] 39)
  have n1 := nod_blk h1 (PlanV.below hp hb)
  have n2 := nod_blk h2 (PlanV.below hq hb)
  refine ⟨n1, n2, ⟨n, p, q, n1, n2, fun h => h, ⟨⟨_, _, h1⟩, ⟨_, _, h2⟩⟩, hs, hs2, rfl, fun v hv => ?_, fun v hv => ?_⟩, hb⟩
  · have := (cell_at (j := 18) (v := vd) h1 rfl).symm.trans hv
    injection this with this
    subst this
    exact hu.below hb
  · have := (cell_at (j := 18) (v := vd2) h2 rfl).symm.trans hv
    injection this with this
    subst this
    exact hu2.below hb
set_option maxHeartbeats 1000000 in
theorem imOk : ImOk := by
  intro n p q vc vk vd vc2 vk2 vd2 w hp hq hu hu2 hs hs2
  obtain ⟨h1, h2, h3, h4⟩ := waits_two hp hq hu hu2 hs hs2
  have HN1 := hidden h1
  have HN2 := hidden h2
  have HW := hidden h3
  have HB := hidden h4
  have HC : Hid (Pl.cnt (n + 1) p ≤ 1048577) := by have := Pl.cnt_le (n + 1) p; show _ ≤ _; omega
  clear hp hq hu hu2 hs hs2 h1 h2 h3 h4
  go_enter Try.func7, Try.ntmps7
  go_wp2_with (fail)
  refine (sameTree_any n p q _ _ _ _ HW.out HN1.out HN2.out HC.out).mono ?_
  rintro e w1 ⟨rfl, hb⟩
  have HB1 : Hid (Below w.heap.size w w1) := bel_then HB.out hb
  clear hb
  go_wp2
  go_ret
  exact ⟨rfl, HB1.out⟩

end Go.Proofs.Ytkmihnagmbdbgaa
