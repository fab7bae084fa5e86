/-
  The contract of impl.sameBesidesKids at every two parts.
-/
import Derived.Test.YtkmihnagmbdbgaaPlanSpec4
namespace Go.Proofs.Ytkmihnagmbdbgaa
set_option maxRecDepth 100000
open Go.RowKit
set_option linter.unusedVariables false

theorem besides_any (d e : Nd) (vc vk vd vc2 vk2 vd2 : Value) (w : World) (hc : RawCels w vc d.cs) (hc2 : RawCels w vc2 e.cs) (hk : RawInts w vk d.ks) (hk2 : RawInts w vk2 e.ks)
    (hl1 : d.cs.length ≤ 140737488355328) (hl2 : e.cs.length ≤ 140737488355328) (hl3 : d.ks.length ≤ 140737488355328) (hl4 : e.ks.length ≤ 140737488355328) :
    Calls Try.prog 18 #[.agg #[.int .i64 d.k, .int .i64 d.n, .int .i64 d.t.k, .bool d.t.no, .int .i64 d.t.l.k, .int .i64 d.t.l.a, .int .i64 d.t.l.b, .int .i64 d.t.l.n, .int .i64 d.t.r.k, .int .i64 d.t.r.a, .int .i64 d.t.r.b, .int .i64 d.t.r.n, vc, .int .i64 d.a, .int .i64 d.b, vk, .int .i64 d.g, .int .i64 d.c, vd], .agg #[.int .i64 e.k, .int .i64 e.n, .int .i64 e.t.k, .bool e.t.no, .int .i64 e.t.l.k, .int .i64 e.t.l.a, .int .i64 e.t.l.b, .int .i64 e.t.l.n, .int .i64 e.t.r.k, .int .i64 e.t.r.a, .int .i64 e.t.r.b, .int .i64 e.t.r.n, vc2, .int .i64 e.a, .int .i64 e.b, vk2, .int .i64 e.g, .int .i64 e.c, vd2]] w fun r w' => r = .returned (.bool (d.eqB e)) ∧ Below w.heap.size w w' := by
  obtain ⟨-, ca, cc, rfl, -⟩ := id hc
  obtain ⟨-, ka, kc, rfl, -⟩ := id hk
  obtain ⟨-, ca2, cc2, rfl, -⟩ := id hc2
  obtain ⟨-, ka2, kc2, rfl, -⟩ := id hk2
  by_cases e0 : d.k = e.k
  case neg =>
    rw [show d.eqB e = false from by rw [Bool.eq_false_iff, Ne, Nd.eqB_iff]; exact fun h => e0 (by rw [h])]
    exact besides0 d.k d.n d.a d.b d.g d.c d.t d.cs d.ks e.k e.n e.a e.b e.g e.c e.t e.cs e.ks ca ka ca2 ka2 _ cc _ kc _ cc2 _ kc2 vd vd2 w hc hc2 hk hk2 hl1 hl2 hl3 hl4 e0
  by_cases e1 : d.n = e.n
  case neg =>
    rw [show d.eqB e = false from by rw [Bool.eq_false_iff, Ne, Nd.eqB_iff]; exact fun h => e1 (by rw [h])]
    exact besides1 d.k d.n d.a d.b d.g d.c d.t d.cs d.ks e.k e.n e.a e.b e.g e.c e.t e.cs e.ks ca ka ca2 ka2 _ cc _ kc _ cc2 _ kc2 vd vd2 w hc hc2 hk hk2 hl1 hl2 hl3 hl4 e0 e1
  by_cases e2 : d.t = e.t
  case neg =>
    rw [show d.eqB e = false from by rw [Bool.eq_false_iff, Ne, Nd.eqB_iff]; exact fun h => e2 (by rw [h])]
    exact besides2 d.k d.n d.a d.b d.g d.c d.t d.cs d.ks e.k e.n e.a e.b e.g e.c e.t e.cs e.ks ca ka ca2 ka2 _ cc _ kc _ cc2 _ kc2 vd vd2 w hc hc2 hk hk2 hl1 hl2 hl3 hl4 e0 e1 e2
  by_cases e3 : d.cs = e.cs
  case neg =>
    rw [show d.eqB e = false from by rw [Bool.eq_false_iff, Ne, Nd.eqB_iff]; exact fun h => e3 (by rw [h])]
    exact besides3 d.k d.n d.a d.b d.g d.c d.t d.cs d.ks e.k e.n e.a e.b e.g e.c e.t e.cs e.ks ca ka ca2 ka2 _ cc _ kc _ cc2 _ kc2 vd vd2 w hc hc2 hk hk2 hl1 hl2 hl3 hl4 e0 e1 e2 e3
  by_cases e4 : d.a = e.a
  case neg =>
    rw [show d.eqB e = false from by rw [Bool.eq_false_iff, Ne, Nd.eqB_iff]; exact fun h => e4 (by rw [h])]
    exact besides4 d.k d.n d.a d.b d.g d.c d.t d.cs d.ks e.k e.n e.a e.b e.g e.c e.t e.cs e.ks ca ka ca2 ka2 _ cc _ kc _ cc2 _ kc2 vd vd2 w hc hc2 hk hk2 hl1 hl2 hl3 hl4 e0 e1 e2 e3 e4
  by_cases e5 : d.b = e.b
  case neg =>
    rw [show d.eqB e = false from by rw [Bool.eq_false_iff, Ne, Nd.eqB_iff]; exact fun h => e5 (by rw [h])]
    exact besides5 d.k d.n d.a d.b d.g d.c d.t d.cs d.ks e.k e.n e.a e.b e.g e.c e.t e.cs e.ks ca ka ca2 ka2 _ cc _ kc _ cc2 _ kc2 vd vd2 w hc hc2 hk hk2 hl1 hl2 hl3 hl4 e0 e1 e2 e3 e4 e5
  by_cases e6 : d.ks = e.ks
  case neg =>
    rw [show d.eqB e = false from by rw [Bool.eq_false_iff, Ne, Nd.eqB_iff]; exact fun h => e6 (by rw [h])]
    exact besides6 d.k d.n d.a d.b d.g d.c d.t d.cs d.ks e.k e.n e.a e.b e.g e.c e.t e.cs e.ks ca ka ca2 ka2 _ cc _ kc _ cc2 _ kc2 vd vd2 w hc hc2 hk hk2 hl1 hl2 hl3 hl4 e0 e1 e2 e3 e4 e5 e6
  by_cases e7 : d.g = e.g
  case neg =>
    rw [show d.eqB e = false from by rw [Bool.eq_false_iff, Ne, Nd.eqB_iff]; exact fun h => e7 (by rw [h])]
    exact besides7 d.k d.n d.a d.b d.g d.c d.t d.cs d.ks e.k e.n e.a e.b e.g e.c e.t e.cs e.ks ca ka ca2 ka2 _ cc _ kc _ cc2 _ kc2 vd vd2 w hc hc2 hk hk2 hl1 hl2 hl3 hl4 e0 e1 e2 e3 e4 e5 e6 e7
  by_cases e8 : d.c = e.c
  case neg =>
    rw [show d.eqB e = false from by rw [Bool.eq_false_iff, Ne, Nd.eqB_iff]; exact fun h => e8 (by rw [h])]
    exact besides8 d.k d.n d.a d.b d.g d.c d.t d.cs d.ks e.k e.n e.a e.b e.g e.c e.t e.cs e.ks ca ka ca2 ka2 _ cc _ kc _ cc2 _ kc2 vd vd2 w hc hc2 hk hk2 hl1 hl2 hl3 hl4 e0 e1 e2 e3 e4 e5 e6 e7 e8
  rw [show d.eqB e = true from Nd.eqB_iff.2 (nd_ext e0 e1 e2 e4 e5 e7 e8 e6 e3)]
  exact besides9 d.k d.n d.a d.b d.g d.c d.t d.cs d.ks e.k e.n e.a e.b e.g e.c e.t e.cs e.ks ca ka ca2 ka2 _ cc _ kc _ cc2 _ kc2 vd vd2 w hc hc2 hk hk2 hl1 hl2 hl3 hl4 e0 e1 e2 e3 e4 e5 e6 e7 e8

end Go.Proofs.Ytkmihnagmbdbgaa
