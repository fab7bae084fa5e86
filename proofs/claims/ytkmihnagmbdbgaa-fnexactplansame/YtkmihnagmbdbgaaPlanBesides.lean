/-
  The contract of impl.sameBesidesKids: whether two parts are one, their kids aside.
-/
import Derived.Test.YtkmihnagmbdbgaaPlanEqual
namespace Go.Proofs.Ytkmihnagmbdbgaa
set_option maxRecDepth 100000
open Go.RowKit
set_option linter.unusedVariables false
set_option linter.unusedSimpArgs false

set_option maxHeartbeats 4000000 in
theorem besides0 (dk dn da db dg dc : Int) (dt : Tst) (dcs : List Cel) (dks : List Int) (ek en ea eb eg ec : Int) (et : Tst) (ecs : List Cel) (eks : List Int) (ca ka ca2 ka2 : Option Addr) (nc cc nk kc nc2 cc2 nk2 kc2 : Nat) (vd vd2 : Value) (w : World)
    (hc : RawCels w (.slice ca nc cc) dcs) (hc2 : RawCels w (.slice ca2 nc2 cc2) ecs) (hk : RawInts w (.slice ka nk kc) dks) (hk2 : RawInts w (.slice ka2 nk2 kc2) eks)
    (hl1 : dcs.length ≤ 140737488355328) (hl2 : ecs.length ≤ 140737488355328) (hl3 : dks.length ≤ 140737488355328) (hl4 : eks.length ≤ 140737488355328) (e0 : dk ≠ ek) :
    Calls Try.prog 18 #[.agg #[.int .i64 dk, .int .i64 dn, .int .i64 dt.k, .bool dt.no, .int .i64 dt.l.k, .int .i64 dt.l.a, .int .i64 dt.l.b, .int .i64 dt.l.n, .int .i64 dt.r.k, .int .i64 dt.r.a, .int .i64 dt.r.b, .int .i64 dt.r.n, .slice ca nc cc, .int .i64 da, .int .i64 db, .slice ka nk kc, .int .i64 dg, .int .i64 dc, vd], .agg #[.int .i64 ek, .int .i64 en, .int .i64 et.k, .bool et.no, .int .i64 et.l.k, .int .i64 et.l.a, .int .i64 et.l.b, .int .i64 et.l.n, .int .i64 et.r.k, .int .i64 et.r.a, .int .i64 et.r.b, .int .i64 et.r.n, .slice ca2 nc2 cc2, .int .i64 ea, .int .i64 eb, .slice ka2 nk2 kc2, .int .i64 eg, .int .i64 ec, vd2]] w fun r w' => r = .returned (.bool false) ∧ Below w.heap.size w w' := by
  have HC : Hid (RawCels w (.slice ca nc cc) dcs) := hc
  have HC2 : Hid (RawCels w (.slice ca2 nc2 cc2) ecs) := hc2
  have HK : Hid (RawInts w (.slice ka nk kc) dks) := hk
  have HK2 : Hid (RawInts w (.slice ka2 nk2 kc2) eks) := hk2
  have HL1 : Hid (dcs.length ≤ 140737488355328) := hl1
  have HL2 : Hid (ecs.length ≤ 140737488355328) := hl2
  have HL3 : Hid (dks.length ≤ 140737488355328) := hl3
  have HL4 : Hid (eks.length ≤ 140737488355328) := hl4
  clear hc hc2 hk hk2 hl1 hl2 hl3 hl4
  have g0 : (dk == ek) = false := by simp [e0]
  clear e0
  have HA0 : Hid (((w.alloc (.cells #[.int .i64 dk, .int .i64 dn, .int .i64 dt.k, .bool dt.no, .int .i64 dt.l.k, .int .i64 dt.l.a, .int .i64 dt.l.b, .int .i64 dt.l.n, .int .i64 dt.r.k, .int .i64 dt.r.a, .int .i64 dt.r.b, .int .i64 dt.r.n, .slice ca nc cc, .int .i64 da, .int .i64 db, .slice ka nk kc, .int .i64 dg, .int .i64 dc, vd] 39)).alloc (.cells #[.int .i64 ek, .int .i64 en, .int .i64 et.k, .bool et.no, .int .i64 et.l.k, .int .i64 et.l.a, .int .i64 et.l.b, .int .i64 et.l.n, .int .i64 et.r.k, .int .i64 et.r.a, .int .i64 et.r.b, .int .i64 et.r.n, .slice ca2 nc2 cc2, .int .i64 ea, .int .i64 eb, .slice ka2 nk2 kc2, .int .i64 eg, .int .i64 ec, vd2] 39)).heap[w.heap.size]? = some (.cells #[.int .i64 dk, .int .i64 dn, .int .i64 dt.k, .bool dt.no, .int .i64 dt.l.k, .int .i64 dt.l.a, .int .i64 dt.l.b, .int .i64 dt.l.n, .int .i64 dt.r.k, .int .i64 dt.r.a, .int .i64 dt.r.b, .int .i64 dt.r.n, .slice ca nc cc, .int .i64 da, .int .i64 db, .slice ka nk kc, .int .i64 dg, .int .i64 dc, vd] 39)) := (two w _ _).1
  have HQ0 : Hid (((w.alloc (.cells #[.int .i64 dk, .int .i64 dn, .int .i64 dt.k, .bool dt.no, .int .i64 dt.l.k, .int .i64 dt.l.a, .int .i64 dt.l.b, .int .i64 dt.l.n, .int .i64 dt.r.k, .int .i64 dt.r.a, .int .i64 dt.r.b, .int .i64 dt.r.n, .slice ca nc cc, .int .i64 da, .int .i64 db, .slice ka nk kc, .int .i64 dg, .int .i64 dc, vd] 39)).alloc (.cells #[.int .i64 ek, .int .i64 en, .int .i64 et.k, .bool et.no, .int .i64 et.l.k, .int .i64 et.l.a, .int .i64 et.l.b, .int .i64 et.l.n, .int .i64 et.r.k, .int .i64 et.r.a, .int .i64 et.r.b, .int .i64 et.r.n, .slice ca2 nc2 cc2, .int .i64 ea, .int .i64 eb, .slice ka2 nk2 kc2, .int .i64 eg, .int .i64 ec, vd2] 39)).heap[w.heap.size + 1]? = some (.cells #[.int .i64 ek, .int .i64 en, .int .i64 et.k, .bool et.no, .int .i64 et.l.k, .int .i64 et.l.a, .int .i64 et.l.b, .int .i64 et.l.n, .int .i64 et.r.k, .int .i64 et.r.a, .int .i64 et.r.b, .int .i64 et.r.n, .slice ca2 nc2 cc2, .int .i64 ea, .int .i64 eb, .slice ka2 nk2 kc2, .int .i64 eg, .int .i64 ec, vd2] 39)) := (two w _ _).2.1
  have HB0 : Hid (Below w.heap.size w ((w.alloc (.cells #[.int .i64 dk, .int .i64 dn, .int .i64 dt.k, .bool dt.no, .int .i64 dt.l.k, .int .i64 dt.l.a, .int .i64 dt.l.b, .int .i64 dt.l.n, .int .i64 dt.r.k, .int .i64 dt.r.a, .int .i64 dt.r.b, .int .i64 dt.r.n, .slice ca nc cc, .int .i64 da, .int .i64 db, .slice ka nk kc, .int .i64 dg, .int .i64 dc, vd] 39)).alloc (.cells #[.int .i64 ek, .int .i64 en, .int .i64 et.k, .bool et.no, .int .i64 et.l.k, .int .i64 et.l.a, .int .i64 et.l.b, .int .i64 et.l.n, .int .i64 et.r.k, .int .i64 et.r.a, .int .i64 et.r.b, .int .i64 et.r.n, .slice ca2 nc2 cc2, .int .i64 ea, .int .i64 eb, .slice ka2 nk2 kc2, .int .i64 eg, .int .i64 ec, vd2] 39))) := (two w _ _).2.2
  go_enter Try.func18, Try.ntmps18
  go_wp2_with fail
  go_ret
  exact ⟨rfl, HB0.out⟩

set_option maxHeartbeats 4000000 in
theorem besides1 (dk dn da db dg dc : Int) (dt : Tst) (dcs : List Cel) (dks : List Int) (ek en ea eb eg ec : Int) (et : Tst) (ecs : List Cel) (eks : List Int) (ca ka ca2 ka2 : Option Addr) (nc cc nk kc nc2 cc2 nk2 kc2 : Nat) (vd vd2 : Value) (w : World)
    (hc : RawCels w (.slice ca nc cc) dcs) (hc2 : RawCels w (.slice ca2 nc2 cc2) ecs) (hk : RawInts w (.slice ka nk kc) dks) (hk2 : RawInts w (.slice ka2 nk2 kc2) eks)
    (hl1 : dcs.length ≤ 140737488355328) (hl2 : ecs.length ≤ 140737488355328) (hl3 : dks.length ≤ 140737488355328) (hl4 : eks.length ≤ 140737488355328) (e0 : dk = ek) (e1 : dn ≠ en) :
    Calls Try.prog 18 #[.agg #[.int .i64 dk, .int .i64 dn, .int .i64 dt.k, .bool dt.no, .int .i64 dt.l.k, .int .i64 dt.l.a, .int .i64 dt.l.b, .int .i64 dt.l.n, .int .i64 dt.r.k, .int .i64 dt.r.a, .int .i64 dt.r.b, .int .i64 dt.r.n, .slice ca nc cc, .int .i64 da, .int .i64 db, .slice ka nk kc, .int .i64 dg, .int .i64 dc, vd], .agg #[.int .i64 ek, .int .i64 en, .int .i64 et.k, .bool et.no, .int .i64 et.l.k, .int .i64 et.l.a, .int .i64 et.l.b, .int .i64 et.l.n, .int .i64 et.r.k, .int .i64 et.r.a, .int .i64 et.r.b, .int .i64 et.r.n, .slice ca2 nc2 cc2, .int .i64 ea, .int .i64 eb, .slice ka2 nk2 kc2, .int .i64 eg, .int .i64 ec, vd2]] w fun r w' => r = .returned (.bool false) ∧ Below w.heap.size w w' := by
  have HC : Hid (RawCels w (.slice ca nc cc) dcs) := hc
  have HC2 : Hid (RawCels w (.slice ca2 nc2 cc2) ecs) := hc2
  have HK : Hid (RawInts w (.slice ka nk kc) dks) := hk
  have HK2 : Hid (RawInts w (.slice ka2 nk2 kc2) eks) := hk2
  have HL1 : Hid (dcs.length ≤ 140737488355328) := hl1
  have HL2 : Hid (ecs.length ≤ 140737488355328) := hl2
  have HL3 : Hid (dks.length ≤ 140737488355328) := hl3
  have HL4 : Hid (eks.length ≤ 140737488355328) := hl4
  clear hc hc2 hk hk2 hl1 hl2 hl3 hl4
  have g0 : (dk == ek) = true := by rw [e0]; simp
  clear e0
  have g1 : (dn == en) = false := by simp [e1]
  clear e1
  have HA0 : Hid (((w.alloc (.cells #[.int .i64 dk, .int .i64 dn, .int .i64 dt.k, .bool dt.no, .int .i64 dt.l.k, .int .i64 dt.l.a, .int .i64 dt.l.b, .int .i64 dt.l.n, .int .i64 dt.r.k, .int .i64 dt.r.a, .int .i64 dt.r.b, .int .i64 dt.r.n, .slice ca nc cc, .int .i64 da, .int .i64 db, .slice ka nk kc, .int .i64 dg, .int .i64 dc, vd] 39)).alloc (.cells #[.int .i64 ek, .int .i64 en, .int .i64 et.k, .bool et.no, .int .i64 et.l.k, .int .i64 et.l.a, .int .i64 et.l.b, .int .i64 et.l.n, .int .i64 et.r.k, .int .i64 et.r.a, .int .i64 et.r.b, .int .i64 et.r.n, .slice ca2 nc2 cc2, .int .i64 ea, .int .i64 eb, .slice ka2 nk2 kc2, .int .i64 eg, .int .i64 ec, vd2] 39)).heap[w.heap.size]? = some (.cells #[.int .i64 dk, .int .i64 dn, .int .i64 dt.k, .bool dt.no, .int .i64 dt.l.k, .int .i64 dt.l.a, .int .i64 dt.l.b, .int .i64 dt.l.n, .int .i64 dt.r.k, .int .i64 dt.r.a, .int .i64 dt.r.b, .int .i64 dt.r.n, .slice ca nc cc, .int .i64 da, .int .i64 db, .slice ka nk kc, .int .i64 dg, .int .i64 dc, vd] 39)) := (two w _ _).1
  have HQ0 : Hid (((w.alloc (.cells #[.int .i64 dk, .int .i64 dn, .int .i64 dt.k, .bool dt.no, .int .i64 dt.l.k, .int .i64 dt.l.a, .int .i64 dt.l.b, .int .i64 dt.l.n, .int .i64 dt.r.k, .int .i64 dt.r.a, .int .i64 dt.r.b, .int .i64 dt.r.n, .slice ca nc cc, .int .i64 da, .int .i64 db, .slice ka nk kc, .int .i64 dg, .int .i64 dc, vd] 39)).alloc (.cells #[.int .i64 ek, .int .i64 en, .int .i64 et.k, .bool et.no, .int .i64 et.l.k, .int .i64 et.l.a, .int .i64 et.l.b, .int .i64 et.l.n, .int .i64 et.r.k, .int .i64 et.r.a, .int .i64 et.r.b, .int .i64 et.r.n, .slice ca2 nc2 cc2, .int .i64 ea, .int .i64 eb, .slice ka2 nk2 kc2, .int .i64 eg, .int .i64 ec, vd2] 39)).heap[w.heap.size + 1]? = some (.cells #[.int .i64 ek, .int .i64 en, .int .i64 et.k, .bool et.no, .int .i64 et.l.k, .int .i64 et.l.a, .int .i64 et.l.b, .int .i64 et.l.n, .int .i64 et.r.k, .int .i64 et.r.a, .int .i64 et.r.b, .int .i64 et.r.n, .slice ca2 nc2 cc2, .int .i64 ea, .int .i64 eb, .slice ka2 nk2 kc2, .int .i64 eg, .int .i64 ec, vd2] 39)) := (two w _ _).2.1
  have HB0 : Hid (Below w.heap.size w ((w.alloc (.cells #[.int .i64 dk, .int .i64 dn, .int .i64 dt.k, .bool dt.no, .int .i64 dt.l.k, .int .i64 dt.l.a, .int .i64 dt.l.b, .int .i64 dt.l.n, .int .i64 dt.r.k, .int .i64 dt.r.a, .int .i64 dt.r.b, .int .i64 dt.r.n, .slice ca nc cc, .int .i64 da, .int .i64 db, .slice ka nk kc, .int .i64 dg, .int .i64 dc, vd] 39)).alloc (.cells #[.int .i64 ek, .int .i64 en, .int .i64 et.k, .bool et.no, .int .i64 et.l.k, .int .i64 et.l.a, .int .i64 et.l.b, .int .i64 et.l.n, .int .i64 et.r.k, .int .i64 et.r.a, .int .i64 et.r.b, .int .i64 et.r.n, .slice ca2 nc2 cc2, .int .i64 ea, .int .i64 eb, .slice ka2 nk2 kc2, .int .i64 eg, .int .i64 ec, vd2] 39))) := (two w _ _).2.2
  go_enter Try.func18, Try.ntmps18
  go_wp2_with fail
  go_ret
  exact ⟨rfl, HB0.out⟩

set_option maxHeartbeats 4000000 in
theorem besides2 (dk dn da db dg dc : Int) (dt : Tst) (dcs : List Cel) (dks : List Int) (ek en ea eb eg ec : Int) (et : Tst) (ecs : List Cel) (eks : List Int) (ca ka ca2 ka2 : Option Addr) (nc cc nk kc nc2 cc2 nk2 kc2 : Nat) (vd vd2 : Value) (w : World)
    (hc : RawCels w (.slice ca nc cc) dcs) (hc2 : RawCels w (.slice ca2 nc2 cc2) ecs) (hk : RawInts w (.slice ka nk kc) dks) (hk2 : RawInts w (.slice ka2 nk2 kc2) eks)
    (hl1 : dcs.length ≤ 140737488355328) (hl2 : ecs.length ≤ 140737488355328) (hl3 : dks.length ≤ 140737488355328) (hl4 : eks.length ≤ 140737488355328) (e0 : dk = ek) (e1 : dn = en) (e2 : dt ≠ et) :
    Calls Try.prog 18 #[.agg #[.int .i64 dk, .int .i64 dn, .int .i64 dt.k, .bool dt.no, .int .i64 dt.l.k, .int .i64 dt.l.a, .int .i64 dt.l.b, .int .i64 dt.l.n, .int .i64 dt.r.k, .int .i64 dt.r.a, .int .i64 dt.r.b, .int .i64 dt.r.n, .slice ca nc cc, .int .i64 da, .int .i64 db, .slice ka nk kc, .int .i64 dg, .int .i64 dc, vd], .agg #[.int .i64 ek, .int .i64 en, .int .i64 et.k, .bool et.no, .int .i64 et.l.k, .int .i64 et.l.a, .int .i64 et.l.b, .int .i64 et.l.n, .int .i64 et.r.k, .int .i64 et.r.a, .int .i64 et.r.b, .int .i64 et.r.n, .slice ca2 nc2 cc2, .int .i64 ea, .int .i64 eb, .slice ka2 nk2 kc2, .int .i64 eg, .int .i64 ec, vd2]] w fun r w' => r = .returned (.bool false) ∧ Below w.heap.size w w' := by
  have HC : Hid (RawCels w (.slice ca nc cc) dcs) := hc
  have HC2 : Hid (RawCels w (.slice ca2 nc2 cc2) ecs) := hc2
  have HK : Hid (RawInts w (.slice ka nk kc) dks) := hk
  have HK2 : Hid (RawInts w (.slice ka2 nk2 kc2) eks) := hk2
  have HL1 : Hid (dcs.length ≤ 140737488355328) := hl1
  have HL2 : Hid (ecs.length ≤ 140737488355328) := hl2
  have HL3 : Hid (dks.length ≤ 140737488355328) := hl3
  have HL4 : Hid (eks.length ≤ 140737488355328) := hl4
  clear hc hc2 hk hk2 hl1 hl2 hl3 hl4
  have g0 : (dk == ek) = true := by rw [e0]; simp
  clear e0
  have g1 : (dn == en) = true := by rw [e1]; simp
  clear e1
  have g2 : ∀ w : World, (binOp .eql 35 (.agg #[.int .i64 dt.k, .bool dt.no, .int .i64 dt.l.k, .int .i64 dt.l.a, .int .i64 dt.l.b, .int .i64 dt.l.n, .int .i64 dt.r.k, .int .i64 dt.r.a, .int .i64 dt.r.b, .int .i64 dt.r.n]) (.agg #[.int .i64 et.k, .bool et.no, .int .i64 et.l.k, .int .i64 et.l.a, .int .i64 et.l.b, .int .i64 et.l.n, .int .i64 et.r.k, .int .i64 et.r.a, .int .i64 et.r.b, .int .i64 et.r.n])).run Try.prog w = .ok (.bool false) w := fun w => by rw [testEq]; rw [show dt.eqB et = false from by rw [Bool.eq_false_iff, Ne, Tst.eqB_iff]; exact e2]
  clear e2
  have HA0 : Hid (((w.alloc (.cells #[.int .i64 dk, .int .i64 dn, .int .i64 dt.k, .bool dt.no, .int .i64 dt.l.k, .int .i64 dt.l.a, .int .i64 dt.l.b, .int .i64 dt.l.n, .int .i64 dt.r.k, .int .i64 dt.r.a, .int .i64 dt.r.b, .int .i64 dt.r.n, .slice ca nc cc, .int .i64 da, .int .i64 db, .slice ka nk kc, .int .i64 dg, .int .i64 dc, vd] 39)).alloc (.cells #[.int .i64 ek, .int .i64 en, .int .i64 et.k, .bool et.no, .int .i64 et.l.k, .int .i64 et.l.a, .int .i64 et.l.b, .int .i64 et.l.n, .int .i64 et.r.k, .int .i64 et.r.a, .int .i64 et.r.b, .int .i64 et.r.n, .slice ca2 nc2 cc2, .int .i64 ea, .int .i64 eb, .slice ka2 nk2 kc2, .int .i64 eg, .int .i64 ec, vd2] 39)).heap[w.heap.size]? = some (.cells #[.int .i64 dk, .int .i64 dn, .int .i64 dt.k, .bool dt.no, .int .i64 dt.l.k, .int .i64 dt.l.a, .int .i64 dt.l.b, .int .i64 dt.l.n, .int .i64 dt.r.k, .int .i64 dt.r.a, .int .i64 dt.r.b, .int .i64 dt.r.n, .slice ca nc cc, .int .i64 da, .int .i64 db, .slice ka nk kc, .int .i64 dg, .int .i64 dc, vd] 39)) := (two w _ _).1
  have HQ0 : Hid (((w.alloc (.cells #[.int .i64 dk, .int .i64 dn, .int .i64 dt.k, .bool dt.no, .int .i64 dt.l.k, .int .i64 dt.l.a, .int .i64 dt.l.b, .int .i64 dt.l.n, .int .i64 dt.r.k, .int .i64 dt.r.a, .int .i64 dt.r.b, .int .i64 dt.r.n, .slice ca nc cc, .int .i64 da, .int .i64 db, .slice ka nk kc, .int .i64 dg, .int .i64 dc, vd] 39)).alloc (.cells #[.int .i64 ek, .int .i64 en, .int .i64 et.k, .bool et.no, .int .i64 et.l.k, .int .i64 et.l.a, .int .i64 et.l.b, .int .i64 et.l.n, .int .i64 et.r.k, .int .i64 et.r.a, .int .i64 et.r.b, .int .i64 et.r.n, .slice ca2 nc2 cc2, .int .i64 ea, .int .i64 eb, .slice ka2 nk2 kc2, .int .i64 eg, .int .i64 ec, vd2] 39)).heap[w.heap.size + 1]? = some (.cells #[.int .i64 ek, .int .i64 en, .int .i64 et.k, .bool et.no, .int .i64 et.l.k, .int .i64 et.l.a, .int .i64 et.l.b, .int .i64 et.l.n, .int .i64 et.r.k, .int .i64 et.r.a, .int .i64 et.r.b, .int .i64 et.r.n, .slice ca2 nc2 cc2, .int .i64 ea, .int .i64 eb, .slice ka2 nk2 kc2, .int .i64 eg, .int .i64 ec, vd2] 39)) := (two w _ _).2.1
  have HB0 : Hid (Below w.heap.size w ((w.alloc (.cells #[.int .i64 dk, .int .i64 dn, .int .i64 dt.k, .bool dt.no, .int .i64 dt.l.k, .int .i64 dt.l.a, .int .i64 dt.l.b, .int .i64 dt.l.n, .int .i64 dt.r.k, .int .i64 dt.r.a, .int .i64 dt.r.b, .int .i64 dt.r.n, .slice ca nc cc, .int .i64 da, .int .i64 db, .slice ka nk kc, .int .i64 dg, .int .i64 dc, vd] 39)).alloc (.cells #[.int .i64 ek, .int .i64 en, .int .i64 et.k, .bool et.no, .int .i64 et.l.k, .int .i64 et.l.a, .int .i64 et.l.b, .int .i64 et.l.n, .int .i64 et.r.k, .int .i64 et.r.a, .int .i64 et.r.b, .int .i64 et.r.n, .slice ca2 nc2 cc2, .int .i64 ea, .int .i64 eb, .slice ka2 nk2 kc2, .int .i64 eg, .int .i64 ec, vd2] 39))) := (two w _ _).2.2
  go_enter Try.func18, Try.ntmps18
  go_wp2_with fail
  go_ret
  exact ⟨rfl, HB0.out⟩

set_option maxHeartbeats 4000000 in
theorem besides3 (dk dn da db dg dc : Int) (dt : Tst) (dcs : List Cel) (dks : List Int) (ek en ea eb eg ec : Int) (et : Tst) (ecs : List Cel) (eks : List Int) (ca ka ca2 ka2 : Option Addr) (nc cc nk kc nc2 cc2 nk2 kc2 : Nat) (vd vd2 : Value) (w : World)
    (hc : RawCels w (.slice ca nc cc) dcs) (hc2 : RawCels w (.slice ca2 nc2 cc2) ecs) (hk : RawInts w (.slice ka nk kc) dks) (hk2 : RawInts w (.slice ka2 nk2 kc2) eks)
    (hl1 : dcs.length ≤ 140737488355328) (hl2 : ecs.length ≤ 140737488355328) (hl3 : dks.length ≤ 140737488355328) (hl4 : eks.length ≤ 140737488355328) (e0 : dk = ek) (e1 : dn = en) (e2 : dt = et) (e3 : dcs ≠ ecs) :
    Calls Try.prog 18 #[.agg #[.int .i64 dk, .int .i64 dn, .int .i64 dt.k, .bool dt.no, .int .i64 dt.l.k, .int .i64 dt.l.a, .int .i64 dt.l.b, .int .i64 dt.l.n, .int .i64 dt.r.k, .int .i64 dt.r.a, .int .i64 dt.r.b, .int .i64 dt.r.n, .slice ca nc cc, .int .i64 da, .int .i64 db, .slice ka nk kc, .int .i64 dg, .int .i64 dc, vd], .agg #[.int .i64 ek, .int .i64 en, .int .i64 et.k, .bool et.no, .int .i64 et.l.k, .int .i64 et.l.a, .int .i64 et.l.b, .int .i64 et.l.n, .int .i64 et.r.k, .int .i64 et.r.a, .int .i64 et.r.b, .int .i64 et.r.n, .slice ca2 nc2 cc2, .int .i64 ea, .int .i64 eb, .slice ka2 nk2 kc2, .int .i64 eg, .int .i64 ec, vd2]] w fun r w' => r = .returned (.bool false) ∧ Below w.heap.size w w' := by
  have HC : Hid (RawCels w (.slice ca nc cc) dcs) := hc
  have HC2 : Hid (RawCels w (.slice ca2 nc2 cc2) ecs) := hc2
  have HK : Hid (RawInts w (.slice ka nk kc) dks) := hk
  have HK2 : Hid (RawInts w (.slice ka2 nk2 kc2) eks) := hk2
  have HL1 : Hid (dcs.length ≤ 140737488355328) := hl1
  have HL2 : Hid (ecs.length ≤ 140737488355328) := hl2
  have HL3 : Hid (dks.length ≤ 140737488355328) := hl3
  have HL4 : Hid (eks.length ≤ 140737488355328) := hl4
  clear hc hc2 hk hk2 hl1 hl2 hl3 hl4
  have g0 : (dk == ek) = true := by rw [e0]; simp
  clear e0
  have g1 : (dn == en) = true := by rw [e1]; simp
  clear e1
  have g2 : ∀ w : World, (binOp .eql 35 (.agg #[.int .i64 dt.k, .bool dt.no, .int .i64 dt.l.k, .int .i64 dt.l.a, .int .i64 dt.l.b, .int .i64 dt.l.n, .int .i64 dt.r.k, .int .i64 dt.r.a, .int .i64 dt.r.b, .int .i64 dt.r.n]) (.agg #[.int .i64 et.k, .bool et.no, .int .i64 et.l.k, .int .i64 et.l.a, .int .i64 et.l.b, .int .i64 et.l.n, .int .i64 et.r.k, .int .i64 et.r.a, .int .i64 et.r.b, .int .i64 et.r.n])).run Try.prog w = .ok (.bool true) w := fun w => by rw [testEq]; rw [Tst.eqB_iff.2 e2]
  clear e2
  have HE3 : Hid (celsB dcs ecs = false) := (by show _ = _; rw [Bool.eq_false_iff, Ne, celsB_iff]; exact e3)
  clear e3
  have HA0 : Hid (((w.alloc (.cells #[.int .i64 dk, .int .i64 dn, .int .i64 dt.k, .bool dt.no, .int .i64 dt.l.k, .int .i64 dt.l.a, .int .i64 dt.l.b, .int .i64 dt.l.n, .int .i64 dt.r.k, .int .i64 dt.r.a, .int .i64 dt.r.b, .int .i64 dt.r.n, .slice ca nc cc, .int .i64 da, .int .i64 db, .slice ka nk kc, .int .i64 dg, .int .i64 dc, vd] 39)).alloc (.cells #[.int .i64 ek, .int .i64 en, .int .i64 et.k, .bool et.no, .int .i64 et.l.k, .int .i64 et.l.a, .int .i64 et.l.b, .int .i64 et.l.n, .int .i64 et.r.k, .int .i64 et.r.a, .int .i64 et.r.b, .int .i64 et.r.n, .slice ca2 nc2 cc2, .int .i64 ea, .int .i64 eb, .slice ka2 nk2 kc2, .int .i64 eg, .int .i64 ec, vd2] 39)).heap[w.heap.size]? = some (.cells #[.int .i64 dk, .int .i64 dn, .int .i64 dt.k, .bool dt.no, .int .i64 dt.l.k, .int .i64 dt.l.a, .int .i64 dt.l.b, .int .i64 dt.l.n, .int .i64 dt.r.k, .int .i64 dt.r.a, .int .i64 dt.r.b, .int .i64 dt.r.n, .slice ca nc cc, .int .i64 da, .int .i64 db, .slice ka nk kc, .int .i64 dg, .int .i64 dc, vd] 39)) := (two w _ _).1
  have HQ0 : Hid (((w.alloc (.cells #[.int .i64 dk, .int .i64 dn, .int .i64 dt.k, .bool dt.no, .int .i64 dt.l.k, .int .i64 dt.l.a, .int .i64 dt.l.b, .int .i64 dt.l.n, .int .i64 dt.r.k, .int .i64 dt.r.a, .int .i64 dt.r.b, .int .i64 dt.r.n, .slice ca nc cc, .int .i64 da, .int .i64 db, .slice ka nk kc, .int .i64 dg, .int .i64 dc, vd] 39)).alloc (.cells #[.int .i64 ek, .int .i64 en, .int .i64 et.k, .bool et.no, .int .i64 et.l.k, .int .i64 et.l.a, .int .i64 et.l.b, .int .i64 et.l.n, .int .i64 et.r.k, .int .i64 et.r.a, .int .i64 et.r.b, .int .i64 et.r.n, .slice ca2 nc2 cc2, .int .i64 ea, .int .i64 eb, .slice ka2 nk2 kc2, .int .i64 eg, .int .i64 ec, vd2] 39)).heap[w.heap.size + 1]? = some (.cells #[.int .i64 ek, .int .i64 en, .int .i64 et.k, .bool et.no, .int .i64 et.l.k, .int .i64 et.l.a, .int .i64 et.l.b, .int .i64 et.l.n, .int .i64 et.r.k, .int .i64 et.r.a, .int .i64 et.r.b, .int .i64 et.r.n, .slice ca2 nc2 cc2, .int .i64 ea, .int .i64 eb, .slice ka2 nk2 kc2, .int .i64 eg, .int .i64 ec, vd2] 39)) := (two w _ _).2.1
  have HB0 : Hid (Below w.heap.size w ((w.alloc (.cells #[.int .i64 dk, .int .i64 dn, .int .i64 dt.k, .bool dt.no, .int .i64 dt.l.k, .int .i64 dt.l.a, .int .i64 dt.l.b, .int .i64 dt.l.n, .int .i64 dt.r.k, .int .i64 dt.r.a, .int .i64 dt.r.b, .int .i64 dt.r.n, .slice ca nc cc, .int .i64 da, .int .i64 db, .slice ka nk kc, .int .i64 dg, .int .i64 dc, vd] 39)).alloc (.cells #[.int .i64 ek, .int .i64 en, .int .i64 et.k, .bool et.no, .int .i64 et.l.k, .int .i64 et.l.a, .int .i64 et.l.b, .int .i64 et.l.n, .int .i64 et.r.k, .int .i64 et.r.a, .int .i64 et.r.b, .int .i64 et.r.n, .slice ca2 nc2 cc2, .int .i64 ea, .int .i64 eb, .slice ka2 nk2 kc2, .int .i64 eg, .int .i64 ec, vd2] 39))) := (two w _ _).2.2
  go_enter Try.func18, Try.ntmps18
  go_wp2_with fail
  refine (equalC_any _ _ dcs ecs _ (HC.out.below HB0.out) (HC2.out.below HB0.out) HL1.out HL2.out).mono ?_
  rw [HE3.out]
  rintro r w1 ⟨rfl, hb⟩
  have HA1 : Hid (w1.heap[w.heap.size]? = some (.cells #[.int .i64 dk, .int .i64 dn, .int .i64 dt.k, .bool dt.no, .int .i64 dt.l.k, .int .i64 dt.l.a, .int .i64 dt.l.b, .int .i64 dt.l.n, .int .i64 dt.r.k, .int .i64 dt.r.a, .int .i64 dt.r.b, .int .i64 dt.r.n, .slice ca nc cc, .int .i64 da, .int .i64 db, .slice ka nk kc, .int .i64 dg, .int .i64 dc, vd] 39)) := at_below HA0.out hb
  have HQ1 : Hid (w1.heap[w.heap.size + 1]? = some (.cells #[.int .i64 ek, .int .i64 en, .int .i64 et.k, .bool et.no, .int .i64 et.l.k, .int .i64 et.l.a, .int .i64 et.l.b, .int .i64 et.l.n, .int .i64 et.r.k, .int .i64 et.r.a, .int .i64 et.r.b, .int .i64 et.r.n, .slice ca2 nc2 cc2, .int .i64 ea, .int .i64 eb, .slice ka2 nk2 kc2, .int .i64 eg, .int .i64 ec, vd2] 39)) := at_below HQ0.out hb
  have HB1 : Hid (Below w.heap.size w w1) := bel_then HB0.out hb
  clear hb
  go_wp2_with fail
  go_ret
  exact ⟨rfl, HB1.out⟩

set_option maxHeartbeats 4000000 in
theorem besides4 (dk dn da db dg dc : Int) (dt : Tst) (dcs : List Cel) (dks : List Int) (ek en ea eb eg ec : Int) (et : Tst) (ecs : List Cel) (eks : List Int) (ca ka ca2 ka2 : Option Addr) (nc cc nk kc nc2 cc2 nk2 kc2 : Nat) (vd vd2 : Value) (w : World)
    (hc : RawCels w (.slice ca nc cc) dcs) (hc2 : RawCels w (.slice ca2 nc2 cc2) ecs) (hk : RawInts w (.slice ka nk kc) dks) (hk2 : RawInts w (.slice ka2 nk2 kc2) eks)
    (hl1 : dcs.length ≤ 140737488355328) (hl2 : ecs.length ≤ 140737488355328) (hl3 : dks.length ≤ 140737488355328) (hl4 : eks.length ≤ 140737488355328) (e0 : dk = ek) (e1 : dn = en) (e2 : dt = et) (e3 : dcs = ecs) (e4 : da ≠ ea) :
    Calls Try.prog 18 #[.agg #[.int .i64 dk, .int .i64 dn, .int .i64 dt.k, .bool dt.no, .int .i64 dt.l.k, .int .i64 dt.l.a, .int .i64 dt.l.b, .int .i64 dt.l.n, .int .i64 dt.r.k, .int .i64 dt.r.a, .int .i64 dt.r.b, .int .i64 dt.r.n, .slice ca nc cc, .int .i64 da, .int .i64 db, .slice ka nk kc, .int .i64 dg, .int .i64 dc, vd], .agg #[.int .i64 ek, .int .i64 en, .int .i64 et.k, .bool et.no, .int .i64 et.l.k, .int .i64 et.l.a, .int .i64 et.l.b, .int .i64 et.l.n, .int .i64 et.r.k, .int .i64 et.r.a, .int .i64 et.r.b, .int .i64 et.r.n, .slice ca2 nc2 cc2, .int .i64 ea, .int .i64 eb, .slice ka2 nk2 kc2, .int .i64 eg, .int .i64 ec, vd2]] w fun r w' => r = .returned (.bool false) ∧ Below w.heap.size w w' := by
  have HC : Hid (RawCels w (.slice ca nc cc) dcs) := hc
  have HC2 : Hid (RawCels w (.slice ca2 nc2 cc2) ecs) := hc2
  have HK : Hid (RawInts w (.slice ka nk kc) dks) := hk
  have HK2 : Hid (RawInts w (.slice ka2 nk2 kc2) eks) := hk2
  have HL1 : Hid (dcs.length ≤ 140737488355328) := hl1
  have HL2 : Hid (ecs.length ≤ 140737488355328) := hl2
  have HL3 : Hid (dks.length ≤ 140737488355328) := hl3
  have HL4 : Hid (eks.length ≤ 140737488355328) := hl4
  clear hc hc2 hk hk2 hl1 hl2 hl3 hl4
  have g0 : (dk == ek) = true := by rw [e0]; simp
  clear e0
  have g1 : (dn == en) = true := by rw [e1]; simp
  clear e1
  have g2 : ∀ w : World, (binOp .eql 35 (.agg #[.int .i64 dt.k, .bool dt.no, .int .i64 dt.l.k, .int .i64 dt.l.a, .int .i64 dt.l.b, .int .i64 dt.l.n, .int .i64 dt.r.k, .int .i64 dt.r.a, .int .i64 dt.r.b, .int .i64 dt.r.n]) (.agg #[.int .i64 et.k, .bool et.no, .int .i64 et.l.k, .int .i64 et.l.a, .int .i64 et.l.b, .int .i64 et.l.n, .int .i64 et.r.k, .int .i64 et.r.a, .int .i64 et.r.b, .int .i64 et.r.n])).run Try.prog w = .ok (.bool true) w := fun w => by rw [testEq]; rw [Tst.eqB_iff.2 e2]
  clear e2
  have HE3 : Hid (celsB dcs ecs = true) := (celsB_iff _ _).2 e3
  clear e3
  have g4 : (da == ea) = false := by simp [e4]
  clear e4
  have HA0 : Hid (((w.alloc (.cells #[.int .i64 dk, .int .i64 dn, .int .i64 dt.k, .bool dt.no, .int .i64 dt.l.k, .int .i64 dt.l.a, .int .i64 dt.l.b, .int .i64 dt.l.n, .int .i64 dt.r.k, .int .i64 dt.r.a, .int .i64 dt.r.b, .int .i64 dt.r.n, .slice ca nc cc, .int .i64 da, .int .i64 db, .slice ka nk kc, .int .i64 dg, .int .i64 dc, vd] 39)).alloc (.cells #[.int .i64 ek, .int .i64 en, .int .i64 et.k, .bool et.no, .int .i64 et.l.k, .int .i64 et.l.a, .int .i64 et.l.b, .int .i64 et.l.n, .int .i64 et.r.k, .int .i64 et.r.a, .int .i64 et.r.b, .int .i64 et.r.n, .slice ca2 nc2 cc2, .int .i64 ea, .int .i64 eb, .slice ka2 nk2 kc2, .int .i64 eg, .int .i64 ec, vd2] 39)).heap[w.heap.size]? = some (.cells #[.int .i64 dk, .int .i64 dn, .int .i64 dt.k, .bool dt.no, .int .i64 dt.l.k, .int .i64 dt.l.a, .int .i64 dt.l.b, .int .i64 dt.l.n, .int .i64 dt.r.k, .int .i64 dt.r.a, .int .i64 dt.r.b, .int .i64 dt.r.n, .slice ca nc cc, .int .i64 da, .int .i64 db, .slice ka nk kc, .int .i64 dg, .int .i64 dc, vd] 39)) := (two w _ _).1
  have HQ0 : Hid (((w.alloc (.cells #[.int .i64 dk, .int .i64 dn, .int .i64 dt.k, .bool dt.no, .int .i64 dt.l.k, .int .i64 dt.l.a, .int .i64 dt.l.b, .int .i64 dt.l.n, .int .i64 dt.r.k, .int .i64 dt.r.a, .int .i64 dt.r.b, .int .i64 dt.r.n, .slice ca nc cc, .int .i64 da, .int .i64 db, .slice ka nk kc, .int .i64 dg, .int .i64 dc, vd] 39)).alloc (.cells #[.int .i64 ek, .int .i64 en, .int .i64 et.k, .bool et.no, .int .i64 et.l.k, .int .i64 et.l.a, .int .i64 et.l.b, .int .i64 et.l.n, .int .i64 et.r.k, .int .i64 et.r.a, .int .i64 et.r.b, .int .i64 et.r.n, .slice ca2 nc2 cc2, .int .i64 ea, .int .i64 eb, .slice ka2 nk2 kc2, .int .i64 eg, .int .i64 ec, vd2] 39)).heap[w.heap.size + 1]? = some (.cells #[.int .i64 ek, .int .i64 en, .int .i64 et.k, .bool et.no, .int .i64 et.l.k, .int .i64 et.l.a, .int .i64 et.l.b, .int .i64 et.l.n, .int .i64 et.r.k, .int .i64 et.r.a, .int .i64 et.r.b, .int .i64 et.r.n, .slice ca2 nc2 cc2, .int .i64 ea, .int .i64 eb, .slice ka2 nk2 kc2, .int .i64 eg, .int .i64 ec, vd2] 39)) := (two w _ _).2.1
  have HB0 : Hid (Below w.heap.size w ((w.alloc (.cells #[.int .i64 dk, .int .i64 dn, .int .i64 dt.k, .bool dt.no, .int .i64 dt.l.k, .int .i64 dt.l.a, .int .i64 dt.l.b, .int .i64 dt.l.n, .int .i64 dt.r.k, .int .i64 dt.r.a, .int .i64 dt.r.b, .int .i64 dt.r.n, .slice ca nc cc, .int .i64 da, .int .i64 db, .slice ka nk kc, .int .i64 dg, .int .i64 dc, vd] 39)).alloc (.cells #[.int .i64 ek, .int .i64 en, .int .i64 et.k, .bool et.no, .int .i64 et.l.k, .int .i64 et.l.a, .int .i64 et.l.b, .int .i64 et.l.n, .int .i64 et.r.k, .int .i64 et.r.a, .int .i64 et.r.b, .int .i64 et.r.n, .slice ca2 nc2 cc2, .int .i64 ea, .int .i64 eb, .slice ka2 nk2 kc2, .int .i64 eg, .int .i64 ec, vd2] 39))) := (two w _ _).2.2
  go_enter Try.func18, Try.ntmps18
  go_wp2_with fail
  refine (equalC_any _ _ dcs ecs _ (HC.out.below HB0.out) (HC2.out.below HB0.out) HL1.out HL2.out).mono ?_
  rw [HE3.out]
  rintro r w1 ⟨rfl, hb⟩
  have HA1 : Hid (w1.heap[w.heap.size]? = some (.cells #[.int .i64 dk, .int .i64 dn, .int .i64 dt.k, .bool dt.no, .int .i64 dt.l.k, .int .i64 dt.l.a, .int .i64 dt.l.b, .int .i64 dt.l.n, .int .i64 dt.r.k, .int .i64 dt.r.a, .int .i64 dt.r.b, .int .i64 dt.r.n, .slice ca nc cc, .int .i64 da, .int .i64 db, .slice ka nk kc, .int .i64 dg, .int .i64 dc, vd] 39)) := at_below HA0.out hb
  have HQ1 : Hid (w1.heap[w.heap.size + 1]? = some (.cells #[.int .i64 ek, .int .i64 en, .int .i64 et.k, .bool et.no, .int .i64 et.l.k, .int .i64 et.l.a, .int .i64 et.l.b, .int .i64 et.l.n, .int .i64 et.r.k, .int .i64 et.r.a, .int .i64 et.r.b, .int .i64 et.r.n, .slice ca2 nc2 cc2, .int .i64 ea, .int .i64 eb, .slice ka2 nk2 kc2, .int .i64 eg, .int .i64 ec, vd2] 39)) := at_below HQ0.out hb
  have HB1 : Hid (Below w.heap.size w w1) := bel_then HB0.out hb
  clear hb
  have a13 : w1.cell? ⟨w.heap.size, 13, none⟩ = some (.int .i64 da) := cell_at HA1.out rfl
  have b13 : w1.cell? ⟨w.heap.size + 1, 13, none⟩ = some (.int .i64 ea) := cell_at HQ1.out rfl
  have a14 : w1.cell? ⟨w.heap.size, 14, none⟩ = some (.int .i64 db) := cell_at HA1.out rfl
  have b14 : w1.cell? ⟨w.heap.size + 1, 14, none⟩ = some (.int .i64 eb) := cell_at HQ1.out rfl
  have a15 : w1.cell? ⟨w.heap.size, 15, none⟩ = some (.slice ka nk kc) := cell_at HA1.out rfl
  have b15 : w1.cell? ⟨w.heap.size + 1, 15, none⟩ = some (.slice ka2 nk2 kc2) := cell_at HQ1.out rfl
  go_wp2_with fail
  go_ret
  exact ⟨rfl, HB1.out⟩

set_option maxHeartbeats 4000000 in
theorem besides5 (dk dn da db dg dc : Int) (dt : Tst) (dcs : List Cel) (dks : List Int) (ek en ea eb eg ec : Int) (et : Tst) (ecs : List Cel) (eks : List Int) (ca ka ca2 ka2 : Option Addr) (nc cc nk kc nc2 cc2 nk2 kc2 : Nat) (vd vd2 : Value) (w : World)
    (hc : RawCels w (.slice ca nc cc) dcs) (hc2 : RawCels w (.slice ca2 nc2 cc2) ecs) (hk : RawInts w (.slice ka nk kc) dks) (hk2 : RawInts w (.slice ka2 nk2 kc2) eks)
    (hl1 : dcs.length ≤ 140737488355328) (hl2 : ecs.length ≤ 140737488355328) (hl3 : dks.length ≤ 140737488355328) (hl4 : eks.length ≤ 140737488355328) (e0 : dk = ek) (e1 : dn = en) (e2 : dt = et) (e3 : dcs = ecs) (e4 : da = ea) (e5 : db ≠ eb) :
    Calls Try.prog 18 #[.agg #[.int .i64 dk, .int .i64 dn, .int .i64 dt.k, .bool dt.no, .int .i64 dt.l.k, .int .i64 dt.l.a, .int .i64 dt.l.b, .int .i64 dt.l.n, .int .i64 dt.r.k, .int .i64 dt.r.a, .int .i64 dt.r.b, .int .i64 dt.r.n, .slice ca nc cc, .int .i64 da, .int .i64 db, .slice ka nk kc, .int .i64 dg, .int .i64 dc, vd], .agg #[.int .i64 ek, .int .i64 en, .int .i64 et.k, .bool et.no, .int .i64 et.l.k, .int .i64 et.l.a, .int .i64 et.l.b, .int .i64 et.l.n, .int .i64 et.r.k, .int .i64 et.r.a, .int .i64 et.r.b, .int .i64 et.r.n, .slice ca2 nc2 cc2, .int .i64 ea, .int .i64 eb, .slice ka2 nk2 kc2, .int .i64 eg, .int .i64 ec, vd2]] w fun r w' => r = .returned (.bool false) ∧ Below w.heap.size w w' := by
  have HC : Hid (RawCels w (.slice ca nc cc) dcs) := hc
  have HC2 : Hid (RawCels w (.slice ca2 nc2 cc2) ecs) := hc2
  have HK : Hid (RawInts w (.slice ka nk kc) dks) := hk
  have HK2 : Hid (RawInts w (.slice ka2 nk2 kc2) eks) := hk2
  have HL1 : Hid (dcs.length ≤ 140737488355328) := hl1
  have HL2 : Hid (ecs.length ≤ 140737488355328) := hl2
  have HL3 : Hid (dks.length ≤ 140737488355328) := hl3
  have HL4 : Hid (eks.length ≤ 140737488355328) := hl4
  clear hc hc2 hk hk2 hl1 hl2 hl3 hl4
  have g0 : (dk == ek) = true := by rw [e0]; simp
  clear e0
  have g1 : (dn == en) = true := by rw [e1]; simp
  clear e1
  have g2 : ∀ w : World, (binOp .eql 35 (.agg #[.int .i64 dt.k, .bool dt.no, .int .i64 dt.l.k, .int .i64 dt.l.a, .int .i64 dt.l.b, .int .i64 dt.l.n, .int .i64 dt.r.k, .int .i64 dt.r.a, .int .i64 dt.r.b, .int .i64 dt.r.n]) (.agg #[.int .i64 et.k, .bool et.no, .int .i64 et.l.k, .int .i64 et.l.a, .int .i64 et.l.b, .int .i64 et.l.n, .int .i64 et.r.k, .int .i64 et.r.a, .int .i64 et.r.b, .int .i64 et.r.n])).run Try.prog w = .ok (.bool true) w := fun w => by rw [testEq]; rw [Tst.eqB_iff.2 e2]
  clear e2
  have HE3 : Hid (celsB dcs ecs = true) := (celsB_iff _ _).2 e3
  clear e3
  have g4 : (da == ea) = true := by rw [e4]; simp
  clear e4
  have g5 : (db == eb) = false := by simp [e5]
  clear e5
  have HA0 : Hid (((w.alloc (.cells #[.int .i64 dk, .int .i64 dn, .int .i64 dt.k, .bool dt.no, .int .i64 dt.l.k, .int .i64 dt.l.a, .int .i64 dt.l.b, .int .i64 dt.l.n, .int .i64 dt.r.k, .int .i64 dt.r.a, .int .i64 dt.r.b, .int .i64 dt.r.n, .slice ca nc cc, .int .i64 da, .int .i64 db, .slice ka nk kc, .int .i64 dg, .int .i64 dc, vd] 39)).alloc (.cells #[.int .i64 ek, .int .i64 en, .int .i64 et.k, .bool et.no, .int .i64 et.l.k, .int .i64 et.l.a, .int .i64 et.l.b, .int .i64 et.l.n, .int .i64 et.r.k, .int .i64 et.r.a, .int .i64 et.r.b, .int .i64 et.r.n, .slice ca2 nc2 cc2, .int .i64 ea, .int .i64 eb, .slice ka2 nk2 kc2, .int .i64 eg, .int .i64 ec, vd2] 39)).heap[w.heap.size]? = some (.cells #[.int .i64 dk, .int .i64 dn, .int .i64 dt.k, .bool dt.no, .int .i64 dt.l.k, .int .i64 dt.l.a, .int .i64 dt.l.b, .int .i64 dt.l.n, .int .i64 dt.r.k, .int .i64 dt.r.a, .int .i64 dt.r.b, .int .i64 dt.r.n, .slice ca nc cc, .int .i64 da, .int .i64 db, .slice ka nk kc, .int .i64 dg, .int .i64 dc, vd] 39)) := (two w _ _).1
  have HQ0 : Hid (((w.alloc (.cells #[.int .i64 dk, .int .i64 dn, .int .i64 dt.k, .bool dt.no, .int .i64 dt.l.k, .int .i64 dt.l.a, .int .i64 dt.l.b, .int .i64 dt.l.n, .int .i64 dt.r.k, .int .i64 dt.r.a, .int .i64 dt.r.b, .int .i64 dt.r.n, .slice ca nc cc, .int .i64 da, .int .i64 db, .slice ka nk kc, .int .i64 dg, .int .i64 dc, vd] 39)).alloc (.cells #[.int .i64 ek, .int .i64 en, .int .i64 et.k, .bool et.no, .int .i64 et.l.k, .int .i64 et.l.a, .int .i64 et.l.b, .int .i64 et.l.n, .int .i64 et.r.k, .int .i64 et.r.a, .int .i64 et.r.b, .int .i64 et.r.n, .slice ca2 nc2 cc2, .int .i64 ea, .int .i64 eb, .slice ka2 nk2 kc2, .int .i64 eg, .int .i64 ec, vd2] 39)).heap[w.heap.size + 1]? = some (.cells #[.int .i64 ek, .int .i64 en, .int .i64 et.k, .bool et.no, .int .i64 et.l.k, .int .i64 et.l.a, .int .i64 et.l.b, .int .i64 et.l.n, .int .i64 et.r.k, .int .i64 et.r.a, .int .i64 et.r.b, .int .i64 et.r.n, .slice ca2 nc2 cc2, .int .i64 ea, .int .i64 eb, .slice ka2 nk2 kc2, .int .i64 eg, .int .i64 ec, vd2] 39)) := (two w _ _).2.1
  have HB0 : Hid (Below w.heap.size w ((w.alloc (.cells #[.int .i64 dk, .int .i64 dn, .int .i64 dt.k, .bool dt.no, .int .i64 dt.l.k, .int .i64 dt.l.a, .int .i64 dt.l.b, .int .i64 dt.l.n, .int .i64 dt.r.k, .int .i64 dt.r.a, .int .i64 dt.r.b, .int .i64 dt.r.n, .slice ca nc cc, .int .i64 da, .int .i64 db, .slice ka nk kc, .int .i64 dg, .int .i64 dc, vd] 39)).alloc (.cells #[.int .i64 ek, .int .i64 en, .int .i64 et.k, .bool et.no, .int .i64 et.l.k, .int .i64 et.l.a, .int .i64 et.l.b, .int .i64 et.l.n, .int .i64 et.r.k, .int .i64 et.r.a, .int .i64 et.r.b, .int .i64 et.r.n, .slice ca2 nc2 cc2, .int .i64 ea, .int .i64 eb, .slice ka2 nk2 kc2, .int .i64 eg, .int .i64 ec, vd2] 39))) := (two w _ _).2.2
  go_enter Try.func18, Try.ntmps18
  go_wp2_with fail
  refine (equalC_any _ _ dcs ecs _ (HC.out.below HB0.out) (HC2.out.below HB0.out) HL1.out HL2.out).mono ?_
  rw [HE3.out]
  rintro r w1 ⟨rfl, hb⟩
  have HA1 : Hid (w1.heap[w.heap.size]? = some (.cells #[.int .i64 dk, .int .i64 dn, .int .i64 dt.k, .bool dt.no, .int .i64 dt.l.k, .int .i64 dt.l.a, .int .i64 dt.l.b, .int .i64 dt.l.n, .int .i64 dt.r.k, .int .i64 dt.r.a, .int .i64 dt.r.b, .int .i64 dt.r.n, .slice ca nc cc, .int .i64 da, .int .i64 db, .slice ka nk kc, .int .i64 dg, .int .i64 dc, vd] 39)) := at_below HA0.out hb
  have HQ1 : Hid (w1.heap[w.heap.size + 1]? = some (.cells #[.int .i64 ek, .int .i64 en, .int .i64 et.k, .bool et.no, .int .i64 et.l.k, .int .i64 et.l.a, .int .i64 et.l.b, .int .i64 et.l.n, .int .i64 et.r.k, .int .i64 et.r.a, .int .i64 et.r.b, .int .i64 et.r.n, .slice ca2 nc2 cc2, .int .i64 ea, .int .i64 eb, .slice ka2 nk2 kc2, .int .i64 eg, .int .i64 ec, vd2] 39)) := at_below HQ0.out hb
  have HB1 : Hid (Below w.heap.size w w1) := bel_then HB0.out hb
  clear hb
  have a13 : w1.cell? ⟨w.heap.size, 13, none⟩ = some (.int .i64 da) := cell_at HA1.out rfl
  have b13 : w1.cell? ⟨w.heap.size + 1, 13, none⟩ = some (.int .i64 ea) := cell_at HQ1.out rfl
  have a14 : w1.cell? ⟨w.heap.size, 14, none⟩ = some (.int .i64 db) := cell_at HA1.out rfl
  have b14 : w1.cell? ⟨w.heap.size + 1, 14, none⟩ = some (.int .i64 eb) := cell_at HQ1.out rfl
  have a15 : w1.cell? ⟨w.heap.size, 15, none⟩ = some (.slice ka nk kc) := cell_at HA1.out rfl
  have b15 : w1.cell? ⟨w.heap.size + 1, 15, none⟩ = some (.slice ka2 nk2 kc2) := cell_at HQ1.out rfl
  go_wp2_with fail
  go_ret
  exact ⟨rfl, HB1.out⟩

set_option maxHeartbeats 4000000 in
theorem besides6 (dk dn da db dg dc : Int) (dt : Tst) (dcs : List Cel) (dks : List Int) (ek en ea eb eg ec : Int) (et : Tst) (ecs : List Cel) (eks : List Int) (ca ka ca2 ka2 : Option Addr) (nc cc nk kc nc2 cc2 nk2 kc2 : Nat) (vd vd2 : Value) (w : World)
    (hc : RawCels w (.slice ca nc cc) dcs) (hc2 : RawCels w (.slice ca2 nc2 cc2) ecs) (hk : RawInts w (.slice ka nk kc) dks) (hk2 : RawInts w (.slice ka2 nk2 kc2) eks)
    (hl1 : dcs.length ≤ 140737488355328) (hl2 : ecs.length ≤ 140737488355328) (hl3 : dks.length ≤ 140737488355328) (hl4 : eks.length ≤ 140737488355328) (e0 : dk = ek) (e1 : dn = en) (e2 : dt = et) (e3 : dcs = ecs) (e4 : da = ea) (e5 : db = eb) (e6 : dks ≠ eks) :
    Calls Try.prog 18 #[.agg #[.int .i64 dk, .int .i64 dn, .int .i64 dt.k, .bool dt.no, .int .i64 dt.l.k, .int .i64 dt.l.a, .int .i64 dt.l.b, .int .i64 dt.l.n, .int .i64 dt.r.k, .int .i64 dt.r.a, .int .i64 dt.r.b, .int .i64 dt.r.n, .slice ca nc cc, .int .i64 da, .int .i64 db, .slice ka nk kc, .int .i64 dg, .int .i64 dc, vd], .agg #[.int .i64 ek, .int .i64 en, .int .i64 et.k, .bool et.no, .int .i64 et.l.k, .int .i64 et.l.a, .int .i64 et.l.b, .int .i64 et.l.n, .int .i64 et.r.k, .int .i64 et.r.a, .int .i64 et.r.b, .int .i64 et.r.n, .slice ca2 nc2 cc2, .int .i64 ea, .int .i64 eb, .slice ka2 nk2 kc2, .int .i64 eg, .int .i64 ec, vd2]] w fun r w' => r = .returned (.bool false) ∧ Below w.heap.size w w' := by
  have HC : Hid (RawCels w (.slice ca nc cc) dcs) := hc
  have HC2 : Hid (RawCels w (.slice ca2 nc2 cc2) ecs) := hc2
  have HK : Hid (RawInts w (.slice ka nk kc) dks) := hk
  have HK2 : Hid (RawInts w (.slice ka2 nk2 kc2) eks) := hk2
  have HL1 : Hid (dcs.length ≤ 140737488355328) := hl1
  have HL2 : Hid (ecs.length ≤ 140737488355328) := hl2
  have HL3 : Hid (dks.length ≤ 140737488355328) := hl3
  have HL4 : Hid (eks.length ≤ 140737488355328) := hl4
  clear hc hc2 hk hk2 hl1 hl2 hl3 hl4
  have g0 : (dk == ek) = true := by rw [e0]; simp
  clear e0
  have g1 : (dn == en) = true := by rw [e1]; simp
  clear e1
  have g2 : ∀ w : World, (binOp .eql 35 (.agg #[.int .i64 dt.k, .bool dt.no, .int .i64 dt.l.k, .int .i64 dt.l.a, .int .i64 dt.l.b, .int .i64 dt.l.n, .int .i64 dt.r.k, .int .i64 dt.r.a, .int .i64 dt.r.b, .int .i64 dt.r.n]) (.agg #[.int .i64 et.k, .bool et.no, .int .i64 et.l.k, .int .i64 et.l.a, .int .i64 et.l.b, .int .i64 et.l.n, .int .i64 et.r.k, .int .i64 et.r.a, .int .i64 et.r.b, .int .i64 et.r.n])).run Try.prog w = .ok (.bool true) w := fun w => by rw [testEq]; rw [Tst.eqB_iff.2 e2]
  clear e2
  have HE3 : Hid (celsB dcs ecs = true) := (celsB_iff _ _).2 e3
  clear e3
  have g4 : (da == ea) = true := by rw [e4]; simp
  clear e4
  have g5 : (db == eb) = true := by rw [e5]; simp
  clear e5
  have HE6 : Hid (sameB dks eks = false) := by show _ = _; simp [sameB, e6]
  clear e6
  have HA0 : Hid (((w.alloc (.cells #[.int .i64 dk, .int .i64 dn, .int .i64 dt.k, .bool dt.no, .int .i64 dt.l.k, .int .i64 dt.l.a, .int .i64 dt.l.b, .int .i64 dt.l.n, .int .i64 dt.r.k, .int .i64 dt.r.a, .int .i64 dt.r.b, .int .i64 dt.r.n, .slice ca nc cc, .int .i64 da, .int .i64 db, .slice ka nk kc, .int .i64 dg, .int .i64 dc, vd] 39)).alloc (.cells #[.int .i64 ek, .int .i64 en, .int .i64 et.k, .bool et.no, .int .i64 et.l.k, .int .i64 et.l.a, .int .i64 et.l.b, .int .i64 et.l.n, .int .i64 et.r.k, .int .i64 et.r.a, .int .i64 et.r.b, .int .i64 et.r.n, .slice ca2 nc2 cc2, .int .i64 ea, .int .i64 eb, .slice ka2 nk2 kc2, .int .i64 eg, .int .i64 ec, vd2] 39)).heap[w.heap.size]? = some (.cells #[.int .i64 dk, .int .i64 dn, .int .i64 dt.k, .bool dt.no, .int .i64 dt.l.k, .int .i64 dt.l.a, .int .i64 dt.l.b, .int .i64 dt.l.n, .int .i64 dt.r.k, .int .i64 dt.r.a, .int .i64 dt.r.b, .int .i64 dt.r.n, .slice ca nc cc, .int .i64 da, .int .i64 db, .slice ka nk kc, .int .i64 dg, .int .i64 dc, vd] 39)) := (two w _ _).1
  have HQ0 : Hid (((w.alloc (.cells #[.int .i64 dk, .int .i64 dn, .int .i64 dt.k, .bool dt.no, .int .i64 dt.l.k, .int .i64 dt.l.a, .int .i64 dt.l.b, .int .i64 dt.l.n, .int .i64 dt.r.k, .int .i64 dt.r.a, .int .i64 dt.r.b, .int .i64 dt.r.n, .slice ca nc cc, .int .i64 da, .int .i64 db, .slice ka nk kc, .int .i64 dg, .int .i64 dc, vd] 39)).alloc (.cells #[.int .i64 ek, .int .i64 en, .int .i64 et.k, .bool et.no, .int .i64 et.l.k, .int .i64 et.l.a, .int .i64 et.l.b, .int .i64 et.l.n, .int .i64 et.r.k, .int .i64 et.r.a, .int .i64 et.r.b, .int .i64 et.r.n, .slice ca2 nc2 cc2, .int .i64 ea, .int .i64 eb, .slice ka2 nk2 kc2, .int .i64 eg, .int .i64 ec, vd2] 39)).heap[w.heap.size + 1]? = some (.cells #[.int .i64 ek, .int .i64 en, .int .i64 et.k, .bool et.no, .int .i64 et.l.k, .int .i64 et.l.a, .int .i64 et.l.b, .int .i64 et.l.n, .int .i64 et.r.k, .int .i64 et.r.a, .int .i64 et.r.b, .int .i64 et.r.n, .slice ca2 nc2 cc2, .int .i64 ea, .int .i64 eb, .slice ka2 nk2 kc2, .int .i64 eg, .int .i64 ec, vd2] 39)) := (two w _ _).2.1
  have HB0 : Hid (Below w.heap.size w ((w.alloc (.cells #[.int .i64 dk, .int .i64 dn, .int .i64 dt.k, .bool dt.no, .int .i64 dt.l.k, .int .i64 dt.l.a, .int .i64 dt.l.b, .int .i64 dt.l.n, .int .i64 dt.r.k, .int .i64 dt.r.a, .int .i64 dt.r.b, .int .i64 dt.r.n, .slice ca nc cc, .int .i64 da, .int .i64 db, .slice ka nk kc, .int .i64 dg, .int .i64 dc, vd] 39)).alloc (.cells #[.int .i64 ek, .int .i64 en, .int .i64 et.k, .bool et.no, .int .i64 et.l.k, .int .i64 et.l.a, .int .i64 et.l.b, .int .i64 et.l.n, .int .i64 et.r.k, .int .i64 et.r.a, .int .i64 et.r.b, .int .i64 et.r.n, .slice ca2 nc2 cc2, .int .i64 ea, .int .i64 eb, .slice ka2 nk2 kc2, .int .i64 eg, .int .i64 ec, vd2] 39))) := (two w _ _).2.2
  go_enter Try.func18, Try.ntmps18
  go_wp2_with fail
  refine (equalC_any _ _ dcs ecs _ (HC.out.below HB0.out) (HC2.out.below HB0.out) HL1.out HL2.out).mono ?_
  rw [HE3.out]
  rintro r w1 ⟨rfl, hb⟩
  have HA1 : Hid (w1.heap[w.heap.size]? = some (.cells #[.int .i64 dk, .int .i64 dn, .int .i64 dt.k, .bool dt.no, .int .i64 dt.l.k, .int .i64 dt.l.a, .int .i64 dt.l.b, .int .i64 dt.l.n, .int .i64 dt.r.k, .int .i64 dt.r.a, .int .i64 dt.r.b, .int .i64 dt.r.n, .slice ca nc cc, .int .i64 da, .int .i64 db, .slice ka nk kc, .int .i64 dg, .int .i64 dc, vd] 39)) := at_below HA0.out hb
  have HQ1 : Hid (w1.heap[w.heap.size + 1]? = some (.cells #[.int .i64 ek, .int .i64 en, .int .i64 et.k, .bool et.no, .int .i64 et.l.k, .int .i64 et.l.a, .int .i64 et.l.b, .int .i64 et.l.n, .int .i64 et.r.k, .int .i64 et.r.a, .int .i64 et.r.b, .int .i64 et.r.n, .slice ca2 nc2 cc2, .int .i64 ea, .int .i64 eb, .slice ka2 nk2 kc2, .int .i64 eg, .int .i64 ec, vd2] 39)) := at_below HQ0.out hb
  have HB1 : Hid (Below w.heap.size w w1) := bel_then HB0.out hb
  clear hb
  have a13 : w1.cell? ⟨w.heap.size, 13, none⟩ = some (.int .i64 da) := cell_at HA1.out rfl
  have b13 : w1.cell? ⟨w.heap.size + 1, 13, none⟩ = some (.int .i64 ea) := cell_at HQ1.out rfl
  have a14 : w1.cell? ⟨w.heap.size, 14, none⟩ = some (.int .i64 db) := cell_at HA1.out rfl
  have b14 : w1.cell? ⟨w.heap.size + 1, 14, none⟩ = some (.int .i64 eb) := cell_at HQ1.out rfl
  have a15 : w1.cell? ⟨w.heap.size, 15, none⟩ = some (.slice ka nk kc) := cell_at HA1.out rfl
  have b15 : w1.cell? ⟨w.heap.size + 1, 15, none⟩ = some (.slice ka2 nk2 kc2) := cell_at HQ1.out rfl
  go_wp2_with fail
  refine (equalI_any _ _ dks eks _ ((HK.out.below HB1.out).ints HL3.out) ((HK2.out.below HB1.out).ints HL4.out)).mono ?_
  rw [HE6.out]
  rintro r w2 ⟨rfl, hb⟩
  have HA2 : Hid (w2.heap[w.heap.size]? = some (.cells #[.int .i64 dk, .int .i64 dn, .int .i64 dt.k, .bool dt.no, .int .i64 dt.l.k, .int .i64 dt.l.a, .int .i64 dt.l.b, .int .i64 dt.l.n, .int .i64 dt.r.k, .int .i64 dt.r.a, .int .i64 dt.r.b, .int .i64 dt.r.n, .slice ca nc cc, .int .i64 da, .int .i64 db, .slice ka nk kc, .int .i64 dg, .int .i64 dc, vd] 39)) := at_below HA1.out hb
  have HQ2 : Hid (w2.heap[w.heap.size + 1]? = some (.cells #[.int .i64 ek, .int .i64 en, .int .i64 et.k, .bool et.no, .int .i64 et.l.k, .int .i64 et.l.a, .int .i64 et.l.b, .int .i64 et.l.n, .int .i64 et.r.k, .int .i64 et.r.a, .int .i64 et.r.b, .int .i64 et.r.n, .slice ca2 nc2 cc2, .int .i64 ea, .int .i64 eb, .slice ka2 nk2 kc2, .int .i64 eg, .int .i64 ec, vd2] 39)) := at_below HQ1.out hb
  have HB2 : Hid (Below w.heap.size w w2) := bel_then HB1.out hb
  clear hb
  clear a13 b13 a14 b14 a15 b15
  go_wp2_with fail
  go_ret
  exact ⟨rfl, HB2.out⟩

set_option maxHeartbeats 4000000 in
theorem besides7 (dk dn da db dg dc : Int) (dt : Tst) (dcs : List Cel) (dks : List Int) (ek en ea eb eg ec : Int) (et : Tst) (ecs : List Cel) (eks : List Int) (ca ka ca2 ka2 : Option Addr) (nc cc nk kc nc2 cc2 nk2 kc2 : Nat) (vd vd2 : Value) (w : World)
    (hc : RawCels w (.slice ca nc cc) dcs) (hc2 : RawCels w (.slice ca2 nc2 cc2) ecs) (hk : RawInts w (.slice ka nk kc) dks) (hk2 : RawInts w (.slice ka2 nk2 kc2) eks)
    (hl1 : dcs.length ≤ 140737488355328) (hl2 : ecs.length ≤ 140737488355328) (hl3 : dks.length ≤ 140737488355328) (hl4 : eks.length ≤ 140737488355328) (e0 : dk = ek) (e1 : dn = en) (e2 : dt = et) (e3 : dcs = ecs) (e4 : da = ea) (e5 : db = eb) (e6 : dks = eks) (e7 : dg ≠ eg) :
    Calls Try.prog 18 #[.agg #[.int .i64 dk, .int .i64 dn, .int .i64 dt.k, .bool dt.no, .int .i64 dt.l.k, .int .i64 dt.l.a, .int .i64 dt.l.b, .int .i64 dt.l.n, .int .i64 dt.r.k, .int .i64 dt.r.a, .int .i64 dt.r.b, .int .i64 dt.r.n, .slice ca nc cc, .int .i64 da, .int .i64 db, .slice ka nk kc, .int .i64 dg, .int .i64 dc, vd], .agg #[.int .i64 ek, .int .i64 en, .int .i64 et.k, .bool et.no, .int .i64 et.l.k, .int .i64 et.l.a, .int .i64 et.l.b, .int .i64 et.l.n, .int .i64 et.r.k, .int .i64 et.r.a, .int .i64 et.r.b, .int .i64 et.r.n, .slice ca2 nc2 cc2, .int .i64 ea, .int .i64 eb, .slice ka2 nk2 kc2, .int .i64 eg, .int .i64 ec, vd2]] w fun r w' => r = .returned (.bool false) ∧ Below w.heap.size w w' := by
  have HC : Hid (RawCels w (.slice ca nc cc) dcs) := hc
  have HC2 : Hid (RawCels w (.slice ca2 nc2 cc2) ecs) := hc2
  have HK : Hid (RawInts w (.slice ka nk kc) dks) := hk
  have HK2 : Hid (RawInts w (.slice ka2 nk2 kc2) eks) := hk2
  have HL1 : Hid (dcs.length ≤ 140737488355328) := hl1
  have HL2 : Hid (ecs.length ≤ 140737488355328) := hl2
  have HL3 : Hid (dks.length ≤ 140737488355328) := hl3
  have HL4 : Hid (eks.length ≤ 140737488355328) := hl4
  clear hc hc2 hk hk2 hl1 hl2 hl3 hl4
  have g0 : (dk == ek) = true := by rw [e0]; simp
  clear e0
  have g1 : (dn == en) = true := by rw [e1]; simp
  clear e1
  have g2 : ∀ w : World, (binOp .eql 35 (.agg #[.int .i64 dt.k, .bool dt.no, .int .i64 dt.l.k, .int .i64 dt.l.a, .int .i64 dt.l.b, .int .i64 dt.l.n, .int .i64 dt.r.k, .int .i64 dt.r.a, .int .i64 dt.r.b, .int .i64 dt.r.n]) (.agg #[.int .i64 et.k, .bool et.no, .int .i64 et.l.k, .int .i64 et.l.a, .int .i64 et.l.b, .int .i64 et.l.n, .int .i64 et.r.k, .int .i64 et.r.a, .int .i64 et.r.b, .int .i64 et.r.n])).run Try.prog w = .ok (.bool true) w := fun w => by rw [testEq]; rw [Tst.eqB_iff.2 e2]
  clear e2
  have HE3 : Hid (celsB dcs ecs = true) := (celsB_iff _ _).2 e3
  clear e3
  have g4 : (da == ea) = true := by rw [e4]; simp
  clear e4
  have g5 : (db == eb) = true := by rw [e5]; simp
  clear e5
  have HE6 : Hid (sameB dks eks = true) := by show _ = _; rw [e6]; exact sameB_refl _
  clear e6
  have g7 : (dg == eg) = false := by simp [e7]
  clear e7
  have HA0 : Hid (((w.alloc (.cells #[.int .i64 dk, .int .i64 dn, .int .i64 dt.k, .bool dt.no, .int .i64 dt.l.k, .int .i64 dt.l.a, .int .i64 dt.l.b, .int .i64 dt.l.n, .int .i64 dt.r.k, .int .i64 dt.r.a, .int .i64 dt.r.b, .int .i64 dt.r.n, .slice ca nc cc, .int .i64 da, .int .i64 db, .slice ka nk kc, .int .i64 dg, .int .i64 dc, vd] 39)).alloc (.cells #[.int .i64 ek, .int .i64 en, .int .i64 et.k, .bool et.no, .int .i64 et.l.k, .int .i64 et.l.a, .int .i64 et.l.b, .int .i64 et.l.n, .int .i64 et.r.k, .int .i64 et.r.a, .int .i64 et.r.b, .int .i64 et.r.n, .slice ca2 nc2 cc2, .int .i64 ea, .int .i64 eb, .slice ka2 nk2 kc2, .int .i64 eg, .int .i64 ec, vd2] 39)).heap[w.heap.size]? = some (.cells #[.int .i64 dk, .int .i64 dn, .int .i64 dt.k, .bool dt.no, .int .i64 dt.l.k, .int .i64 dt.l.a, .int .i64 dt.l.b, .int .i64 dt.l.n, .int .i64 dt.r.k, .int .i64 dt.r.a, .int .i64 dt.r.b, .int .i64 dt.r.n, .slice ca nc cc, .int .i64 da, .int .i64 db, .slice ka nk kc, .int .i64 dg, .int .i64 dc, vd] 39)) := (two w _ _).1
  have HQ0 : Hid (((w.alloc (.cells #[.int .i64 dk, .int .i64 dn, .int .i64 dt.k, .bool dt.no, .int .i64 dt.l.k, .int .i64 dt.l.a, .int .i64 dt.l.b, .int .i64 dt.l.n, .int .i64 dt.r.k, .int .i64 dt.r.a, .int .i64 dt.r.b, .int .i64 dt.r.n, .slice ca nc cc, .int .i64 da, .int .i64 db, .slice ka nk kc, .int .i64 dg, .int .i64 dc, vd] 39)).alloc (.cells #[.int .i64 ek, .int .i64 en, .int .i64 et.k, .bool et.no, .int .i64 et.l.k, .int .i64 et.l.a, .int .i64 et.l.b, .int .i64 et.l.n, .int .i64 et.r.k, .int .i64 et.r.a, .int .i64 et.r.b, .int .i64 et.r.n, .slice ca2 nc2 cc2, .int .i64 ea, .int .i64 eb, .slice ka2 nk2 kc2, .int .i64 eg, .int .i64 ec, vd2] 39)).heap[w.heap.size + 1]? = some (.cells #[.int .i64 ek, .int .i64 en, .int .i64 et.k, .bool et.no, .int .i64 et.l.k, .int .i64 et.l.a, .int .i64 et.l.b, .int .i64 et.l.n, .int .i64 et.r.k, .int .i64 et.r.a, .int .i64 et.r.b, .int .i64 et.r.n, .slice ca2 nc2 cc2, .int .i64 ea, .int .i64 eb, .slice ka2 nk2 kc2, .int .i64 eg, .int .i64 ec, vd2] 39)) := (two w _ _).2.1
  have HB0 : Hid (Below w.heap.size w ((w.alloc (.cells #[.int .i64 dk, .int .i64 dn, .int .i64 dt.k, .bool dt.no, .int .i64 dt.l.k, .int .i64 dt.l.a, .int .i64 dt.l.b, .int .i64 dt.l.n, .int .i64 dt.r.k, .int .i64 dt.r.a, .int .i64 dt.r.b, .int .i64 dt.r.n, .slice ca nc cc, .int .i64 da, .int .i64 db, .slice ka nk kc, .int .i64 dg, .int .i64 dc, vd] 39)).alloc (.cells #[.int .i64 ek, .int .i64 en, .int .i64 et.k, .bool et.no, .int .i64 et.l.k, .int .i64 et.l.a, .int .i64 et.l.b, .int .i64 et.l.n, .int .i64 et.r.k, .int .i64 et.r.a, .int .i64 et.r.b, .int .i64 et.r.n, .slice ca2 nc2 cc2, .int .i64 ea, .int .i64 eb, .slice ka2 nk2 kc2, .int .i64 eg, .int .i64 ec, vd2] 39))) := (two w _ _).2.2
  go_enter Try.func18, Try.ntmps18
  go_wp2_with fail
  refine (equalC_any _ _ dcs ecs _ (HC.out.below HB0.out) (HC2.out.below HB0.out) HL1.out HL2.out).mono ?_
  rw [HE3.out]
  rintro r w1 ⟨rfl, hb⟩
  have HA1 : Hid (w1.heap[w.heap.size]? = some (.cells #[.int .i64 dk, .int .i64 dn, .int .i64 dt.k, .bool dt.no, .int .i64 dt.l.k, .int .i64 dt.l.a, .int .i64 dt.l.b, .int .i64 dt.l.n, .int .i64 dt.r.k, .int .i64 dt.r.a, .int .i64 dt.r.b, .int .i64 dt.r.n, .slice ca nc cc, .int .i64 da, .int .i64 db, .slice ka nk kc, .int .i64 dg, .int .i64 dc, vd] 39)) := at_below HA0.out hb
  have HQ1 : Hid (w1.heap[w.heap.size + 1]? = some (.cells #[.int .i64 ek, .int .i64 en, .int .i64 et.k, .bool et.no, .int .i64 et.l.k, .int .i64 et.l.a, .int .i64 et.l.b, .int .i64 et.l.n, .int .i64 et.r.k, .int .i64 et.r.a, .int .i64 et.r.b, .int .i64 et.r.n, .slice ca2 nc2 cc2, .int .i64 ea, .int .i64 eb, .slice ka2 nk2 kc2, .int .i64 eg, .int .i64 ec, vd2] 39)) := at_below HQ0.out hb
  have HB1 : Hid (Below w.heap.size w w1) := bel_then HB0.out hb
  clear hb
  have a13 : w1.cell? ⟨w.heap.size, 13, none⟩ = some (.int .i64 da) := cell_at HA1.out rfl
  have b13 : w1.cell? ⟨w.heap.size + 1, 13, none⟩ = some (.int .i64 ea) := cell_at HQ1.out rfl
  have a14 : w1.cell? ⟨w.heap.size, 14, none⟩ = some (.int .i64 db) := cell_at HA1.out rfl
  have b14 : w1.cell? ⟨w.heap.size + 1, 14, none⟩ = some (.int .i64 eb) := cell_at HQ1.out rfl
  have a15 : w1.cell? ⟨w.heap.size, 15, none⟩ = some (.slice ka nk kc) := cell_at HA1.out rfl
  have b15 : w1.cell? ⟨w.heap.size + 1, 15, none⟩ = some (.slice ka2 nk2 kc2) := cell_at HQ1.out rfl
  go_wp2_with fail
  refine (equalI_any _ _ dks eks _ ((HK.out.below HB1.out).ints HL3.out) ((HK2.out.below HB1.out).ints HL4.out)).mono ?_
  rw [HE6.out]
  rintro r w2 ⟨rfl, hb⟩
  have HA2 : Hid (w2.heap[w.heap.size]? = some (.cells #[.int .i64 dk, .int .i64 dn, .int .i64 dt.k, .bool dt.no, .int .i64 dt.l.k, .int .i64 dt.l.a, .int .i64 dt.l.b, .int .i64 dt.l.n, .int .i64 dt.r.k, .int .i64 dt.r.a, .int .i64 dt.r.b, .int .i64 dt.r.n, .slice ca nc cc, .int .i64 da, .int .i64 db, .slice ka nk kc, .int .i64 dg, .int .i64 dc, vd] 39)) := at_below HA1.out hb
  have HQ2 : Hid (w2.heap[w.heap.size + 1]? = some (.cells #[.int .i64 ek, .int .i64 en, .int .i64 et.k, .bool et.no, .int .i64 et.l.k, .int .i64 et.l.a, .int .i64 et.l.b, .int .i64 et.l.n, .int .i64 et.r.k, .int .i64 et.r.a, .int .i64 et.r.b, .int .i64 et.r.n, .slice ca2 nc2 cc2, .int .i64 ea, .int .i64 eb, .slice ka2 nk2 kc2, .int .i64 eg, .int .i64 ec, vd2] 39)) := at_below HQ1.out hb
  have HB2 : Hid (Below w.heap.size w w2) := bel_then HB1.out hb
  clear hb
  clear a13 b13 a14 b14 a15 b15
  have a16 : w2.cell? ⟨w.heap.size, 16, none⟩ = some (.int .i64 dg) := cell_at HA2.out rfl
  have b16 : w2.cell? ⟨w.heap.size + 1, 16, none⟩ = some (.int .i64 eg) := cell_at HQ2.out rfl
  have a17 : w2.cell? ⟨w.heap.size, 17, none⟩ = some (.int .i64 dc) := cell_at HA2.out rfl
  have b17 : w2.cell? ⟨w.heap.size + 1, 17, none⟩ = some (.int .i64 ec) := cell_at HQ2.out rfl
  go_wp2_with fail
  go_ret
  exact ⟨rfl, HB2.out⟩

set_option maxHeartbeats 4000000 in
theorem besides8 (dk dn da db dg dc : Int) (dt : Tst) (dcs : List Cel) (dks : List Int) (ek en ea eb eg ec : Int) (et : Tst) (ecs : List Cel) (eks : List Int) (ca ka ca2 ka2 : Option Addr) (nc cc nk kc nc2 cc2 nk2 kc2 : Nat) (vd vd2 : Value) (w : World)
    (hc : RawCels w (.slice ca nc cc) dcs) (hc2 : RawCels w (.slice ca2 nc2 cc2) ecs) (hk : RawInts w (.slice ka nk kc) dks) (hk2 : RawInts w (.slice ka2 nk2 kc2) eks)
    (hl1 : dcs.length ≤ 140737488355328) (hl2 : ecs.length ≤ 140737488355328) (hl3 : dks.length ≤ 140737488355328) (hl4 : eks.length ≤ 140737488355328) (e0 : dk = ek) (e1 : dn = en) (e2 : dt = et) (e3 : dcs = ecs) (e4 : da = ea) (e5 : db = eb) (e6 : dks = eks) (e7 : dg = eg) (e8 : dc ≠ ec) :
    Calls Try.prog 18 #[.agg #[.int .i64 dk, .int .i64 dn, .int .i64 dt.k, .bool dt.no, .int .i64 dt.l.k, .int .i64 dt.l.a, .int .i64 dt.l.b, .int .i64 dt.l.n, .int .i64 dt.r.k, .int .i64 dt.r.a, .int .i64 dt.r.b, .int .i64 dt.r.n, .slice ca nc cc, .int .i64 da, .int .i64 db, .slice ka nk kc, .int .i64 dg, .int .i64 dc, vd], .agg #[.int .i64 ek, .int .i64 en, .int .i64 et.k, .bool et.no, .int .i64 et.l.k, .int .i64 et.l.a, .int .i64 et.l.b, .int .i64 et.l.n, .int .i64 et.r.k, .int .i64 et.r.a, .int .i64 et.r.b, .int .i64 et.r.n, .slice ca2 nc2 cc2, .int .i64 ea, .int .i64 eb, .slice ka2 nk2 kc2, .int .i64 eg, .int .i64 ec, vd2]] w fun r w' => r = .returned (.bool false) ∧ Below w.heap.size w w' := by
  have HC : Hid (RawCels w (.slice ca nc cc) dcs) := hc
  have HC2 : Hid (RawCels w (.slice ca2 nc2 cc2) ecs) := hc2
  have HK : Hid (RawInts w (.slice ka nk kc) dks) := hk
  have HK2 : Hid (RawInts w (.slice ka2 nk2 kc2) eks) := hk2
  have HL1 : Hid (dcs.length ≤ 140737488355328) := hl1
  have HL2 : Hid (ecs.length ≤ 140737488355328) := hl2
  have HL3 : Hid (dks.length ≤ 140737488355328) := hl3
  have HL4 : Hid (eks.length ≤ 140737488355328) := hl4
  clear hc hc2 hk hk2 hl1 hl2 hl3 hl4
  have g0 : (dk == ek) = true := by rw [e0]; simp
  clear e0
  have g1 : (dn == en) = true := by rw [e1]; simp
  clear e1
  have g2 : ∀ w : World, (binOp .eql 35 (.agg #[.int .i64 dt.k, .bool dt.no, .int .i64 dt.l.k, .int .i64 dt.l.a, .int .i64 dt.l.b, .int .i64 dt.l.n, .int .i64 dt.r.k, .int .i64 dt.r.a, .int .i64 dt.r.b, .int .i64 dt.r.n]) (.agg #[.int .i64 et.k, .bool et.no, .int .i64 et.l.k, .int .i64 et.l.a, .int .i64 et.l.b, .int .i64 et.l.n, .int .i64 et.r.k, .int .i64 et.r.a, .int .i64 et.r.b, .int .i64 et.r.n])).run Try.prog w = .ok (.bool true) w := fun w => by rw [testEq]; rw [Tst.eqB_iff.2 e2]
  clear e2
  have HE3 : Hid (celsB dcs ecs = true) := (celsB_iff _ _).2 e3
  clear e3
  have g4 : (da == ea) = true := by rw [e4]; simp
  clear e4
  have g5 : (db == eb) = true := by rw [e5]; simp
  clear e5
  have HE6 : Hid (sameB dks eks = true) := by show _ = _; rw [e6]; exact sameB_refl _
  clear e6
  have g7 : (dg == eg) = true := by rw [e7]; simp
  clear e7
  have g8 : (dc == ec) = false := by simp [e8]
  clear e8
  have HA0 : Hid (((w.alloc (.cells #[.int .i64 dk, .int .i64 dn, .int .i64 dt.k, .bool dt.no, .int .i64 dt.l.k, .int .i64 dt.l.a, .int .i64 dt.l.b, .int .i64 dt.l.n, .int .i64 dt.r.k, .int .i64 dt.r.a, .int .i64 dt.r.b, .int .i64 dt.r.n, .slice ca nc cc, .int .i64 da, .int .i64 db, .slice ka nk kc, .int .i64 dg, .int .i64 dc, vd] 39)).alloc (.cells #[.int .i64 ek, .int .i64 en, .int .i64 et.k, .bool et.no, .int .i64 et.l.k, .int .i64 et.l.a, .int .i64 et.l.b, .int .i64 et.l.n, .int .i64 et.r.k, .int .i64 et.r.a, .int .i64 et.r.b, .int .i64 et.r.n, .slice ca2 nc2 cc2, .int .i64 ea, .int .i64 eb, .slice ka2 nk2 kc2, .int .i64 eg, .int .i64 ec, vd2] 39)).heap[w.heap.size]? = some (.cells #[.int .i64 dk, .int .i64 dn, .int .i64 dt.k, .bool dt.no, .int .i64 dt.l.k, .int .i64 dt.l.a, .int .i64 dt.l.b, .int .i64 dt.l.n, .int .i64 dt.r.k, .int .i64 dt.r.a, .int .i64 dt.r.b, .int .i64 dt.r.n, .slice ca nc cc, .int .i64 da, .int .i64 db, .slice ka nk kc, .int .i64 dg, .int .i64 dc, vd] 39)) := (two w _ _).1
  have HQ0 : Hid (((w.alloc (.cells #[.int .i64 dk, .int .i64 dn, .int .i64 dt.k, .bool dt.no, .int .i64 dt.l.k, .int .i64 dt.l.a, .int .i64 dt.l.b, .int .i64 dt.l.n, .int .i64 dt.r.k, .int .i64 dt.r.a, .int .i64 dt.r.b, .int .i64 dt.r.n, .slice ca nc cc, .int .i64 da, .int .i64 db, .slice ka nk kc, .int .i64 dg, .int .i64 dc, vd] 39)).alloc (.cells #[.int .i64 ek, .int .i64 en, .int .i64 et.k, .bool et.no, .int .i64 et.l.k, .int .i64 et.l.a, .int .i64 et.l.b, .int .i64 et.l.n, .int .i64 et.r.k, .int .i64 et.r.a, .int .i64 et.r.b, .int .i64 et.r.n, .slice ca2 nc2 cc2, .int .i64 ea, .int .i64 eb, .slice ka2 nk2 kc2, .int .i64 eg, .int .i64 ec, vd2] 39)).heap[w.heap.size + 1]? = some (.cells #[.int .i64 ek, .int .i64 en, .int .i64 et.k, .bool et.no, .int .i64 et.l.k, .int .i64 et.l.a, .int .i64 et.l.b, .int .i64 et.l.n, .int .i64 et.r.k, .int .i64 et.r.a, .int .i64 et.r.b, .int .i64 et.r.n, .slice ca2 nc2 cc2, .int .i64 ea, .int .i64 eb, .slice ka2 nk2 kc2, .int .i64 eg, .int .i64 ec, vd2] 39)) := (two w _ _).2.1
  have HB0 : Hid (Below w.heap.size w ((w.alloc (.cells #[.int .i64 dk, .int .i64 dn, .int .i64 dt.k, .bool dt.no, .int .i64 dt.l.k, .int .i64 dt.l.a, .int .i64 dt.l.b, .int .i64 dt.l.n, .int .i64 dt.r.k, .int .i64 dt.r.a, .int .i64 dt.r.b, .int .i64 dt.r.n, .slice ca nc cc, .int .i64 da, .int .i64 db, .slice ka nk kc, .int .i64 dg, .int .i64 dc, vd] 39)).alloc (.cells #[.int .i64 ek, .int .i64 en, .int .i64 et.k, .bool et.no, .int .i64 et.l.k, .int .i64 et.l.a, .int .i64 et.l.b, .int .i64 et.l.n, .int .i64 et.r.k, .int .i64 et.r.a, .int .i64 et.r.b, .int .i64 et.r.n, .slice ca2 nc2 cc2, .int .i64 ea, .int .i64 eb, .slice ka2 nk2 kc2, .int .i64 eg, .int .i64 ec, vd2] 39))) := (two w _ _).2.2
  go_enter Try.func18, Try.ntmps18
  go_wp2_with fail
  refine (equalC_any _ _ dcs ecs _ (HC.out.below HB0.out) (HC2.out.below HB0.out) HL1.out HL2.out).mono ?_
  rw [HE3.out]
  rintro r w1 ⟨rfl, hb⟩
  have HA1 : Hid (w1.heap[w.heap.size]? = some (.cells #[.int .i64 dk, .int .i64 dn, .int .i64 dt.k, .bool dt.no, .int .i64 dt.l.k, .int .i64 dt.l.a, .int .i64 dt.l.b, .int .i64 dt.l.n, .int .i64 dt.r.k, .int .i64 dt.r.a, .int .i64 dt.r.b, .int .i64 dt.r.n, .slice ca nc cc, .int .i64 da, .int .i64 db, .slice ka nk kc, .int .i64 dg, .int .i64 dc, vd] 39)) := at_below HA0.out hb
  have HQ1 : Hid (w1.heap[w.heap.size + 1]? = some (.cells #[.int .i64 ek, .int .i64 en, .int .i64 et.k, .bool et.no, .int .i64 et.l.k, .int .i64 et.l.a, .int .i64 et.l.b, .int .i64 et.l.n, .int .i64 et.r.k, .int .i64 et.r.a, .int .i64 et.r.b, .int .i64 et.r.n, .slice ca2 nc2 cc2, .int .i64 ea, .int .i64 eb, .slice ka2 nk2 kc2, .int .i64 eg, .int .i64 ec, vd2] 39)) := at_below HQ0.out hb
  have HB1 : Hid (Below w.heap.size w w1) := bel_then HB0.out hb
  clear hb
  have a13 : w1.cell? ⟨w.heap.size, 13, none⟩ = some (.int .i64 da) := cell_at HA1.out rfl
  have b13 : w1.cell? ⟨w.heap.size + 1, 13, none⟩ = some (.int .i64 ea) := cell_at HQ1.out rfl
  have a14 : w1.cell? ⟨w.heap.size, 14, none⟩ = some (.int .i64 db) := cell_at HA1.out rfl
  have b14 : w1.cell? ⟨w.heap.size + 1, 14, none⟩ = some (.int .i64 eb) := cell_at HQ1.out rfl
  have a15 : w1.cell? ⟨w.heap.size, 15, none⟩ = some (.slice ka nk kc) := cell_at HA1.out rfl
  have b15 : w1.cell? ⟨w.heap.size + 1, 15, none⟩ = some (.slice ka2 nk2 kc2) := cell_at HQ1.out rfl
  go_wp2_with fail
  refine (equalI_any _ _ dks eks _ ((HK.out.below HB1.out).ints HL3.out) ((HK2.out.below HB1.out).ints HL4.out)).mono ?_
  rw [HE6.out]
  rintro r w2 ⟨rfl, hb⟩
  have HA2 : Hid (w2.heap[w.heap.size]? = some (.cells #[.int .i64 dk, .int .i64 dn, .int .i64 dt.k, .bool dt.no, .int .i64 dt.l.k, .int .i64 dt.l.a, .int .i64 dt.l.b, .int .i64 dt.l.n, .int .i64 dt.r.k, .int .i64 dt.r.a, .int .i64 dt.r.b, .int .i64 dt.r.n, .slice ca nc cc, .int .i64 da, .int .i64 db, .slice ka nk kc, .int .i64 dg, .int .i64 dc, vd] 39)) := at_below HA1.out hb
  have HQ2 : Hid (w2.heap[w.heap.size + 1]? = some (.cells #[.int .i64 ek, .int .i64 en, .int .i64 et.k, .bool et.no, .int .i64 et.l.k, .int .i64 et.l.a, .int .i64 et.l.b, .int .i64 et.l.n, .int .i64 et.r.k, .int .i64 et.r.a, .int .i64 et.r.b, .int .i64 et.r.n, .slice ca2 nc2 cc2, .int .i64 ea, .int .i64 eb, .slice ka2 nk2 kc2, .int .i64 eg, .int .i64 ec, vd2] 39)) := at_below HQ1.out hb
  have HB2 : Hid (Below w.heap.size w w2) := bel_then HB1.out hb
  clear hb
  clear a13 b13 a14 b14 a15 b15
  have a16 : w2.cell? ⟨w.heap.size, 16, none⟩ = some (.int .i64 dg) := cell_at HA2.out rfl
  have b16 : w2.cell? ⟨w.heap.size + 1, 16, none⟩ = some (.int .i64 eg) := cell_at HQ2.out rfl
  have a17 : w2.cell? ⟨w.heap.size, 17, none⟩ = some (.int .i64 dc) := cell_at HA2.out rfl
  have b17 : w2.cell? ⟨w.heap.size + 1, 17, none⟩ = some (.int .i64 ec) := cell_at HQ2.out rfl
  go_wp2_with fail
  go_ret
  exact ⟨rfl, HB2.out⟩

set_option maxHeartbeats 4000000 in
theorem besides9 (dk dn da db dg dc : Int) (dt : Tst) (dcs : List Cel) (dks : List Int) (ek en ea eb eg ec : Int) (et : Tst) (ecs : List Cel) (eks : List Int) (ca ka ca2 ka2 : Option Addr) (nc cc nk kc nc2 cc2 nk2 kc2 : Nat) (vd vd2 : Value) (w : World)
    (hc : RawCels w (.slice ca nc cc) dcs) (hc2 : RawCels w (.slice ca2 nc2 cc2) ecs) (hk : RawInts w (.slice ka nk kc) dks) (hk2 : RawInts w (.slice ka2 nk2 kc2) eks)
    (hl1 : dcs.length ≤ 140737488355328) (hl2 : ecs.length ≤ 140737488355328) (hl3 : dks.length ≤ 140737488355328) (hl4 : eks.length ≤ 140737488355328) (e0 : dk = ek) (e1 : dn = en) (e2 : dt = et) (e3 : dcs = ecs) (e4 : da = ea) (e5 : db = eb) (e6 : dks = eks) (e7 : dg = eg) (e8 : dc = ec) :
    Calls Try.prog 18 #[.agg #[.int .i64 dk, .int .i64 dn, .int .i64 dt.k, .bool dt.no, .int .i64 dt.l.k, .int .i64 dt.l.a, .int .i64 dt.l.b, .int .i64 dt.l.n, .int .i64 dt.r.k, .int .i64 dt.r.a, .int .i64 dt.r.b, .int .i64 dt.r.n, .slice ca nc cc, .int .i64 da, .int .i64 db, .slice ka nk kc, .int .i64 dg, .int .i64 dc, vd], .agg #[.int .i64 ek, .int .i64 en, .int .i64 et.k, .bool et.no, .int .i64 et.l.k, .int .i64 et.l.a, .int .i64 et.l.b, .int .i64 et.l.n, .int .i64 et.r.k, .int .i64 et.r.a, .int .i64 et.r.b, .int .i64 et.r.n, .slice ca2 nc2 cc2, .int .i64 ea, .int .i64 eb, .slice ka2 nk2 kc2, .int .i64 eg, .int .i64 ec, vd2]] w fun r w' => r = .returned (.bool true) ∧ Below w.heap.size w w' := by
  have HC : Hid (RawCels w (.slice ca nc cc) dcs) := hc
  have HC2 : Hid (RawCels w (.slice ca2 nc2 cc2) ecs) := hc2
  have HK : Hid (RawInts w (.slice ka nk kc) dks) := hk
  have HK2 : Hid (RawInts w (.slice ka2 nk2 kc2) eks) := hk2
  have HL1 : Hid (dcs.length ≤ 140737488355328) := hl1
  have HL2 : Hid (ecs.length ≤ 140737488355328) := hl2
  have HL3 : Hid (dks.length ≤ 140737488355328) := hl3
  have HL4 : Hid (eks.length ≤ 140737488355328) := hl4
  clear hc hc2 hk hk2 hl1 hl2 hl3 hl4
  have g0 : (dk == ek) = true := by rw [e0]; simp
  clear e0
  have g1 : (dn == en) = true := by rw [e1]; simp
  clear e1
  have g2 : ∀ w : World, (binOp .eql 35 (.agg #[.int .i64 dt.k, .bool dt.no, .int .i64 dt.l.k, .int .i64 dt.l.a, .int .i64 dt.l.b, .int .i64 dt.l.n, .int .i64 dt.r.k, .int .i64 dt.r.a, .int .i64 dt.r.b, .int .i64 dt.r.n]) (.agg #[.int .i64 et.k, .bool et.no, .int .i64 et.l.k, .int .i64 et.l.a, .int .i64 et.l.b, .int .i64 et.l.n, .int .i64 et.r.k, .int .i64 et.r.a, .int .i64 et.r.b, .int .i64 et.r.n])).run Try.prog w = .ok (.bool true) w := fun w => by rw [testEq]; rw [Tst.eqB_iff.2 e2]
  clear e2
  have HE3 : Hid (celsB dcs ecs = true) := (celsB_iff _ _).2 e3
  clear e3
  have g4 : (da == ea) = true := by rw [e4]; simp
  clear e4
  have g5 : (db == eb) = true := by rw [e5]; simp
  clear e5
  have HE6 : Hid (sameB dks eks = true) := by show _ = _; rw [e6]; exact sameB_refl _
  clear e6
  have g7 : (dg == eg) = true := by rw [e7]; simp
  clear e7
  have g8 : (dc == ec) = true := by rw [e8]; simp
  clear e8
  have HA0 : Hid (((w.alloc (.cells #[.int .i64 dk, .int .i64 dn, .int .i64 dt.k, .bool dt.no, .int .i64 dt.l.k, .int .i64 dt.l.a, .int .i64 dt.l.b, .int .i64 dt.l.n, .int .i64 dt.r.k, .int .i64 dt.r.a, .int .i64 dt.r.b, .int .i64 dt.r.n, .slice ca nc cc, .int .i64 da, .int .i64 db, .slice ka nk kc, .int .i64 dg, .int .i64 dc, vd] 39)).alloc (.cells #[.int .i64 ek, .int .i64 en, .int .i64 et.k, .bool et.no, .int .i64 et.l.k, .int .i64 et.l.a, .int .i64 et.l.b, .int .i64 et.l.n, .int .i64 et.r.k, .int .i64 et.r.a, .int .i64 et.r.b, .int .i64 et.r.n, .slice ca2 nc2 cc2, .int .i64 ea, .int .i64 eb, .slice ka2 nk2 kc2, .int .i64 eg, .int .i64 ec, vd2] 39)).heap[w.heap.size]? = some (.cells #[.int .i64 dk, .int .i64 dn, .int .i64 dt.k, .bool dt.no, .int .i64 dt.l.k, .int .i64 dt.l.a, .int .i64 dt.l.b, .int .i64 dt.l.n, .int .i64 dt.r.k, .int .i64 dt.r.a, .int .i64 dt.r.b, .int .i64 dt.r.n, .slice ca nc cc, .int .i64 da, .int .i64 db, .slice ka nk kc, .int .i64 dg, .int .i64 dc, vd] 39)) := (two w _ _).1
  have HQ0 : Hid (((w.alloc (.cells #[.int .i64 dk, .int .i64 dn, .int .i64 dt.k, .bool dt.no, .int .i64 dt.l.k, .int .i64 dt.l.a, .int .i64 dt.l.b, .int .i64 dt.l.n, .int .i64 dt.r.k, .int .i64 dt.r.a, .int .i64 dt.r.b, .int .i64 dt.r.n, .slice ca nc cc, .int .i64 da, .int .i64 db, .slice ka nk kc, .int .i64 dg, .int .i64 dc, vd] 39)).alloc (.cells #[.int .i64 ek, .int .i64 en, .int .i64 et.k, .bool et.no, .int .i64 et.l.k, .int .i64 et.l.a, .int .i64 et.l.b, .int .i64 et.l.n, .int .i64 et.r.k, .int .i64 et.r.a, .int .i64 et.r.b, .int .i64 et.r.n, .slice ca2 nc2 cc2, .int .i64 ea, .int .i64 eb, .slice ka2 nk2 kc2, .int .i64 eg, .int .i64 ec, vd2] 39)).heap[w.heap.size + 1]? = some (.cells #[.int .i64 ek, .int .i64 en, .int .i64 et.k, .bool et.no, .int .i64 et.l.k, .int .i64 et.l.a, .int .i64 et.l.b, .int .i64 et.l.n, .int .i64 et.r.k, .int .i64 et.r.a, .int .i64 et.r.b, .int .i64 et.r.n, .slice ca2 nc2 cc2, .int .i64 ea, .int .i64 eb, .slice ka2 nk2 kc2, .int .i64 eg, .int .i64 ec, vd2] 39)) := (two w _ _).2.1
  have HB0 : Hid (Below w.heap.size w ((w.alloc (.cells #[.int .i64 dk, .int .i64 dn, .int .i64 dt.k, .bool dt.no, .int .i64 dt.l.k, .int .i64 dt.l.a, .int .i64 dt.l.b, .int .i64 dt.l.n, .int .i64 dt.r.k, .int .i64 dt.r.a, .int .i64 dt.r.b, .int .i64 dt.r.n, .slice ca nc cc, .int .i64 da, .int .i64 db, .slice ka nk kc, .int .i64 dg, .int .i64 dc, vd] 39)).alloc (.cells #[.int .i64 ek, .int .i64 en, .int .i64 et.k, .bool et.no, .int .i64 et.l.k, .int .i64 et.l.a, .int .i64 et.l.b, .int .i64 et.l.n, .int .i64 et.r.k, .int .i64 et.r.a, .int .i64 et.r.b, .int .i64 et.r.n, .slice ca2 nc2 cc2, .int .i64 ea, .int .i64 eb, .slice ka2 nk2 kc2, .int .i64 eg, .int .i64 ec, vd2] 39))) := (two w _ _).2.2
  go_enter Try.func18, Try.ntmps18
  go_wp2_with fail
  refine (equalC_any _ _ dcs ecs _ (HC.out.below HB0.out) (HC2.out.below HB0.out) HL1.out HL2.out).mono ?_
  rw [HE3.out]
  rintro r w1 ⟨rfl, hb⟩
  have HA1 : Hid (w1.heap[w.heap.size]? = some (.cells #[.int .i64 dk, .int .i64 dn, .int .i64 dt.k, .bool dt.no, .int .i64 dt.l.k, .int .i64 dt.l.a, .int .i64 dt.l.b, .int .i64 dt.l.n, .int .i64 dt.r.k, .int .i64 dt.r.a, .int .i64 dt.r.b, .int .i64 dt.r.n, .slice ca nc cc, .int .i64 da, .int .i64 db, .slice ka nk kc, .int .i64 dg, .int .i64 dc, vd] 39)) := at_below HA0.out hb
  have HQ1 : Hid (w1.heap[w.heap.size + 1]? = some (.cells #[.int .i64 ek, .int .i64 en, .int .i64 et.k, .bool et.no, .int .i64 et.l.k, .int .i64 et.l.a, .int .i64 et.l.b, .int .i64 et.l.n, .int .i64 et.r.k, .int .i64 et.r.a, .int .i64 et.r.b, .int .i64 et.r.n, .slice ca2 nc2 cc2, .int .i64 ea, .int .i64 eb, .slice ka2 nk2 kc2, .int .i64 eg, .int .i64 ec, vd2] 39)) := at_below HQ0.out hb
  have HB1 : Hid (Below w.heap.size w w1) := bel_then HB0.out hb
  clear hb
  have a13 : w1.cell? ⟨w.heap.size, 13, none⟩ = some (.int .i64 da) := cell_at HA1.out rfl
  have b13 : w1.cell? ⟨w.heap.size + 1, 13, none⟩ = some (.int .i64 ea) := cell_at HQ1.out rfl
  have a14 : w1.cell? ⟨w.heap.size, 14, none⟩ = some (.int .i64 db) := cell_at HA1.out rfl
  have b14 : w1.cell? ⟨w.heap.size + 1, 14, none⟩ = some (.int .i64 eb) := cell_at HQ1.out rfl
  have a15 : w1.cell? ⟨w.heap.size, 15, none⟩ = some (.slice ka nk kc) := cell_at HA1.out rfl
  have b15 : w1.cell? ⟨w.heap.size + 1, 15, none⟩ = some (.slice ka2 nk2 kc2) := cell_at HQ1.out rfl
  go_wp2_with fail
  refine (equalI_any _ _ dks eks _ ((HK.out.below HB1.out).ints HL3.out) ((HK2.out.below HB1.out).ints HL4.out)).mono ?_
  rw [HE6.out]
  rintro r w2 ⟨rfl, hb⟩
  have HA2 : Hid (w2.heap[w.heap.size]? = some (.cells #[.int .i64 dk, .int .i64 dn, .int .i64 dt.k, .bool dt.no, .int .i64 dt.l.k, .int .i64 dt.l.a, .int .i64 dt.l.b, .int .i64 dt.l.n, .int .i64 dt.r.k, .int .i64 dt.r.a, .int .i64 dt.r.b, .int .i64 dt.r.n, .slice ca nc cc, .int .i64 da, .int .i64 db, .slice ka nk kc, .int .i64 dg, .int .i64 dc, vd] 39)) := at_below HA1.out hb
  have HQ2 : Hid (w2.heap[w.heap.size + 1]? = some (.cells #[.int .i64 ek, .int .i64 en, .int .i64 et.k, .bool et.no, .int .i64 et.l.k, .int .i64 et.l.a, .int .i64 et.l.b, .int .i64 et.l.n, .int .i64 et.r.k, .int .i64 et.r.a, .int .i64 et.r.b, .int .i64 et.r.n, .slice ca2 nc2 cc2, .int .i64 ea, .int .i64 eb, .slice ka2 nk2 kc2, .int .i64 eg, .int .i64 ec, vd2] 39)) := at_below HQ1.out hb
  have HB2 : Hid (Below w.heap.size w w2) := bel_then HB1.out hb
  clear hb
  clear a13 b13 a14 b14 a15 b15
  have a16 : w2.cell? ⟨w.heap.size, 16, none⟩ = some (.int .i64 dg) := cell_at HA2.out rfl
  have b16 : w2.cell? ⟨w.heap.size + 1, 16, none⟩ = some (.int .i64 eg) := cell_at HQ2.out rfl
  have a17 : w2.cell? ⟨w.heap.size, 17, none⟩ = some (.int .i64 dc) := cell_at HA2.out rfl
  have b17 : w2.cell? ⟨w.heap.size + 1, 17, none⟩ = some (.int .i64 ec) := cell_at HQ2.out rfl
  go_wp2_with fail
  go_ret
  exact ⟨rfl, HB2.out⟩

end Go.Proofs.Ytkmihnagmbdbgaa
