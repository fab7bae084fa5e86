/-
  The contract of spec.PlanSame, where a part differs besides in what its cells and kids are: false.
-/
import Derived.Test.YtkmihnagmbdbgaaPlanSpec
namespace Go.Proofs.Ytkmihnagmbdbgaa
set_option maxRecDepth 100000
open Go.RowKit
set_option linter.unusedVariables false
set_option linter.unusedSimpArgs false

set_option maxHeartbeats 4000000 in
theorem specNot5 (dk dn da db dg dc : Int) (dt : Tst) (dks : List Int) (ek en ea eb eg ec : Int) (et : Tst) (eks : List Int) (ca ka xa ca2 ka2 xa2 : Option Addr) (nc cc nk kc nx xc nc2 cc2 nk2 kc2 nx2 xc2 : Nat) (w : World)
    (hk : RawInts w (.slice ka nk kc) dks) (hk2 : RawInts w (.slice ka2 nk2 kc2) eks) (hl3 : dks.length ≤ 140737488355328) (hl4 : eks.length ≤ 140737488355328) (e0 : dk = ek) (e1 : dn = en) (e2 : dt = et) (e3 : da = ea) (e4 : db = eb) (e5 : dg ≠ eg) :
    Calls Try.prog 5 #[.agg #[.int .i64 dk, .int .i64 dn, .int .i64 dt.k, .bool dt.no, .int .i64 dt.l.k, .int .i64 dt.l.a, .int .i64 dt.l.b, .int .i64 dt.l.n, .int .i64 dt.r.k, .int .i64 dt.r.a, .int .i64 dt.r.b, .int .i64 dt.r.n, .slice ca nc cc, .int .i64 da, .int .i64 db, .slice ka nk kc, .int .i64 dg, .int .i64 dc, .slice xa nx xc], .agg #[.int .i64 ek, .int .i64 en, .int .i64 et.k, .bool et.no, .int .i64 et.l.k, .int .i64 et.l.a, .int .i64 et.l.b, .int .i64 et.l.n, .int .i64 et.r.k, .int .i64 et.r.a, .int .i64 et.r.b, .int .i64 et.r.n, .slice ca2 nc2 cc2, .int .i64 ea, .int .i64 eb, .slice ka2 nk2 kc2, .int .i64 eg, .int .i64 ec, .slice xa2 nx2 xc2]] w fun r w' => r = .returned (.bool false) ∧ Below w.heap.size w w' := by
  have HK : Hid (RawInts w (.slice ka nk kc) dks) := hk
  have HK2 : Hid (RawInts w (.slice ka2 nk2 kc2) eks) := hk2
  have HL3 : Hid (dks.length ≤ 140737488355328) := hl3
  have HL4 : Hid (eks.length ≤ 140737488355328) := hl4
  clear hk hk2 hl3 hl4
  have g0 : (dk != ek) = false := by rw [e0]; simp
  have g1 : (dn != en) = false := by rw [e1]; simp
  have g2 : ∀ w : World, (binOp .neq 35 (.agg #[.int .i64 dt.k, .bool dt.no, .int .i64 dt.l.k, .int .i64 dt.l.a, .int .i64 dt.l.b, .int .i64 dt.l.n, .int .i64 dt.r.k, .int .i64 dt.r.a, .int .i64 dt.r.b, .int .i64 dt.r.n]) (.agg #[.int .i64 et.k, .bool et.no, .int .i64 et.l.k, .int .i64 et.l.a, .int .i64 et.l.b, .int .i64 et.l.n, .int .i64 et.r.k, .int .i64 et.r.a, .int .i64 et.r.b, .int .i64 et.r.n])).run Try.prog w = .ok (.bool false) w := fun w => by rw [testNeq]; rw [Tst.eqB_iff.2 e2]; rfl
  have g3 : (da != ea) = false := by rw [e3]; simp
  have g4 : (db != eb) = false := by rw [e4]; simp
  have g5 : (dg != eg) = true := by simp [e5]
  clear e0 e1 e2 e3 e4 e5
  have HA0 : Hid (((w.alloc (.cells #[.int .i64 dk, .int .i64 dn, .int .i64 dt.k, .bool dt.no, .int .i64 dt.l.k, .int .i64 dt.l.a, .int .i64 dt.l.b, .int .i64 dt.l.n, .int .i64 dt.r.k, .int .i64 dt.r.a, .int .i64 dt.r.b, .int .i64 dt.r.n, .slice ca nc cc, .int .i64 da, .int .i64 db, .slice ka nk kc, .int .i64 dg, .int .i64 dc, .slice xa nx xc] 39)).alloc (.cells #[.int .i64 ek, .int .i64 en, .int .i64 et.k, .bool et.no, .int .i64 et.l.k, .int .i64 et.l.a, .int .i64 et.l.b, .int .i64 et.l.n, .int .i64 et.r.k, .int .i64 et.r.a, .int .i64 et.r.b, .int .i64 et.r.n, .slice ca2 nc2 cc2, .int .i64 ea, .int .i64 eb, .slice ka2 nk2 kc2, .int .i64 eg, .int .i64 ec, .slice xa2 nx2 xc2] 39)).heap[w.heap.size]? = some (.cells #[.int .i64 dk, .int .i64 dn, .int .i64 dt.k, .bool dt.no, .int .i64 dt.l.k, .int .i64 dt.l.a, .int .i64 dt.l.b, .int .i64 dt.l.n, .int .i64 dt.r.k, .int .i64 dt.r.a, .int .i64 dt.r.b, .int .i64 dt.r.n, .slice ca nc cc, .int .i64 da, .int .i64 db, .slice ka nk kc, .int .i64 dg, .int .i64 dc, .slice xa nx xc] 39)) := (two w _ _).1
  have HQ0 : Hid (((w.alloc (.cells #[.int .i64 dk, .int .i64 dn, .int .i64 dt.k, .bool dt.no, .int .i64 dt.l.k, .int .i64 dt.l.a, .int .i64 dt.l.b, .int .i64 dt.l.n, .int .i64 dt.r.k, .int .i64 dt.r.a, .int .i64 dt.r.b, .int .i64 dt.r.n, .slice ca nc cc, .int .i64 da, .int .i64 db, .slice ka nk kc, .int .i64 dg, .int .i64 dc, .slice xa nx xc] 39)).alloc (.cells #[.int .i64 ek, .int .i64 en, .int .i64 et.k, .bool et.no, .int .i64 et.l.k, .int .i64 et.l.a, .int .i64 et.l.b, .int .i64 et.l.n, .int .i64 et.r.k, .int .i64 et.r.a, .int .i64 et.r.b, .int .i64 et.r.n, .slice ca2 nc2 cc2, .int .i64 ea, .int .i64 eb, .slice ka2 nk2 kc2, .int .i64 eg, .int .i64 ec, .slice xa2 nx2 xc2] 39)).heap[w.heap.size + 1]? = some (.cells #[.int .i64 ek, .int .i64 en, .int .i64 et.k, .bool et.no, .int .i64 et.l.k, .int .i64 et.l.a, .int .i64 et.l.b, .int .i64 et.l.n, .int .i64 et.r.k, .int .i64 et.r.a, .int .i64 et.r.b, .int .i64 et.r.n, .slice ca2 nc2 cc2, .int .i64 ea, .int .i64 eb, .slice ka2 nk2 kc2, .int .i64 eg, .int .i64 ec, .slice xa2 nx2 xc2] 39)) := (two w _ _).2.1
  have HB0 : Hid (Below w.heap.size w ((w.alloc (.cells #[.int .i64 dk, .int .i64 dn, .int .i64 dt.k, .bool dt.no, .int .i64 dt.l.k, .int .i64 dt.l.a, .int .i64 dt.l.b, .int .i64 dt.l.n, .int .i64 dt.r.k, .int .i64 dt.r.a, .int .i64 dt.r.b, .int .i64 dt.r.n, .slice ca nc cc, .int .i64 da, .int .i64 db, .slice ka nk kc, .int .i64 dg, .int .i64 dc, .slice xa nx xc] 39)).alloc (.cells #[.int .i64 ek, .int .i64 en, .int .i64 et.k, .bool et.no, .int .i64 et.l.k, .int .i64 et.l.a, .int .i64 et.l.b, .int .i64 et.l.n, .int .i64 et.r.k, .int .i64 et.r.a, .int .i64 et.r.b, .int .i64 et.r.n, .slice ca2 nc2 cc2, .int .i64 ea, .int .i64 eb, .slice ka2 nk2 kc2, .int .i64 eg, .int .i64 ec, .slice xa2 nx2 xc2] 39))) := (two w _ _).2.2
  go_enter Try.func5, Try.ntmps5
  go_wp2_with fail
  go_ret
  exact ⟨rfl, HB0.out⟩

set_option maxHeartbeats 4000000 in
theorem specNot6 (dk dn da db dg dc : Int) (dt : Tst) (dks : List Int) (ek en ea eb eg ec : Int) (et : Tst) (eks : List Int) (ca ka xa ca2 ka2 xa2 : Option Addr) (nc cc nk kc nx xc nc2 cc2 nk2 kc2 nx2 xc2 : Nat) (w : World)
    (hk : RawInts w (.slice ka nk kc) dks) (hk2 : RawInts w (.slice ka2 nk2 kc2) eks) (hl3 : dks.length ≤ 140737488355328) (hl4 : eks.length ≤ 140737488355328) (e0 : dk = ek) (e1 : dn = en) (e2 : dt = et) (e3 : da = ea) (e4 : db = eb) (e5 : dg = eg) (e6 : dc ≠ ec) :
    Calls Try.prog 5 #[.agg #[.int .i64 dk, .int .i64 dn, .int .i64 dt.k, .bool dt.no, .int .i64 dt.l.k, .int .i64 dt.l.a, .int .i64 dt.l.b, .int .i64 dt.l.n, .int .i64 dt.r.k, .int .i64 dt.r.a, .int .i64 dt.r.b, .int .i64 dt.r.n, .slice ca nc cc, .int .i64 da, .int .i64 db, .slice ka nk kc, .int .i64 dg, .int .i64 dc, .slice xa nx xc], .agg #[.int .i64 ek, .int .i64 en, .int .i64 et.k, .bool et.no, .int .i64 et.l.k, .int .i64 et.l.a, .int .i64 et.l.b, .int .i64 et.l.n, .int .i64 et.r.k, .int .i64 et.r.a, .int .i64 et.r.b, .int .i64 et.r.n, .slice ca2 nc2 cc2, .int .i64 ea, .int .i64 eb, .slice ka2 nk2 kc2, .int .i64 eg, .int .i64 ec, .slice xa2 nx2 xc2]] w fun r w' => r = .returned (.bool false) ∧ Below w.heap.size w w' := by
  have HK : Hid (RawInts w (.slice ka nk kc) dks) := hk
  have HK2 : Hid (RawInts w (.slice ka2 nk2 kc2) eks) := hk2
  have HL3 : Hid (dks.length ≤ 140737488355328) := hl3
  have HL4 : Hid (eks.length ≤ 140737488355328) := hl4
  clear hk hk2 hl3 hl4
  have g0 : (dk != ek) = false := by rw [e0]; simp
  have g1 : (dn != en) = false := by rw [e1]; simp
  have g2 : ∀ w : World, (binOp .neq 35 (.agg #[.int .i64 dt.k, .bool dt.no, .int .i64 dt.l.k, .int .i64 dt.l.a, .int .i64 dt.l.b, .int .i64 dt.l.n, .int .i64 dt.r.k, .int .i64 dt.r.a, .int .i64 dt.r.b, .int .i64 dt.r.n]) (.agg #[.int .i64 et.k, .bool et.no, .int .i64 et.l.k, .int .i64 et.l.a, .int .i64 et.l.b, .int .i64 et.l.n, .int .i64 et.r.k, .int .i64 et.r.a, .int .i64 et.r.b, .int .i64 et.r.n])).run Try.prog w = .ok (.bool false) w := fun w => by rw [testNeq]; rw [Tst.eqB_iff.2 e2]; rfl
  have g3 : (da != ea) = false := by rw [e3]; simp
  have g4 : (db != eb) = false := by rw [e4]; simp
  have g5 : (dg != eg) = false := by rw [e5]; simp
  have g6 : (dc != ec) = true := by simp [e6]
  clear e0 e1 e2 e3 e4 e5 e6
  have HA0 : Hid (((w.alloc (.cells #[.int .i64 dk, .int .i64 dn, .int .i64 dt.k, .bool dt.no, .int .i64 dt.l.k, .int .i64 dt.l.a, .int .i64 dt.l.b, .int .i64 dt.l.n, .int .i64 dt.r.k, .int .i64 dt.r.a, .int .i64 dt.r.b, .int .i64 dt.r.n, .slice ca nc cc, .int .i64 da, .int .i64 db, .slice ka nk kc, .int .i64 dg, .int .i64 dc, .slice xa nx xc] 39)).alloc (.cells #[.int .i64 ek, .int .i64 en, .int .i64 et.k, .bool et.no, .int .i64 et.l.k, .int .i64 et.l.a, .int .i64 et.l.b, .int .i64 et.l.n, .int .i64 et.r.k, .int .i64 et.r.a, .int .i64 et.r.b, .int .i64 et.r.n, .slice ca2 nc2 cc2, .int .i64 ea, .int .i64 eb, .slice ka2 nk2 kc2, .int .i64 eg, .int .i64 ec, .slice xa2 nx2 xc2] 39)).heap[w.heap.size]? = some (.cells #[.int .i64 dk, .int .i64 dn, .int .i64 dt.k, .bool dt.no, .int .i64 dt.l.k, .int .i64 dt.l.a, .int .i64 dt.l.b, .int .i64 dt.l.n, .int .i64 dt.r.k, .int .i64 dt.r.a, .int .i64 dt.r.b, .int .i64 dt.r.n, .slice ca nc cc, .int .i64 da, .int .i64 db, .slice ka nk kc, .int .i64 dg, .int .i64 dc, .slice xa nx xc] 39)) := (two w _ _).1
  have HQ0 : Hid (((w.alloc (.cells #[.int .i64 dk, .int .i64 dn, .int .i64 dt.k, .bool dt.no, .int .i64 dt.l.k, .int .i64 dt.l.a, .int .i64 dt.l.b, .int .i64 dt.l.n, .int .i64 dt.r.k, .int .i64 dt.r.a, .int .i64 dt.r.b, .int .i64 dt.r.n, .slice ca nc cc, .int .i64 da, .int .i64 db, .slice ka nk kc, .int .i64 dg, .int .i64 dc, .slice xa nx xc] 39)).alloc (.cells #[.int .i64 ek, .int .i64 en, .int .i64 et.k, .bool et.no, .int .i64 et.l.k, .int .i64 et.l.a, .int .i64 et.l.b, .int .i64 et.l.n, .int .i64 et.r.k, .int .i64 et.r.a, .int .i64 et.r.b, .int .i64 et.r.n, .slice ca2 nc2 cc2, .int .i64 ea, .int .i64 eb, .slice ka2 nk2 kc2, .int .i64 eg, .int .i64 ec, .slice xa2 nx2 xc2] 39)).heap[w.heap.size + 1]? = some (.cells #[.int .i64 ek, .int .i64 en, .int .i64 et.k, .bool et.no, .int .i64 et.l.k, .int .i64 et.l.a, .int .i64 et.l.b, .int .i64 et.l.n, .int .i64 et.r.k, .int .i64 et.r.a, .int .i64 et.r.b, .int .i64 et.r.n, .slice ca2 nc2 cc2, .int .i64 ea, .int .i64 eb, .slice ka2 nk2 kc2, .int .i64 eg, .int .i64 ec, .slice xa2 nx2 xc2] 39)) := (two w _ _).2.1
  have HB0 : Hid (Below w.heap.size w ((w.alloc (.cells #[.int .i64 dk, .int .i64 dn, .int .i64 dt.k, .bool dt.no, .int .i64 dt.l.k, .int .i64 dt.l.a, .int .i64 dt.l.b, .int .i64 dt.l.n, .int .i64 dt.r.k, .int .i64 dt.r.a, .int .i64 dt.r.b, .int .i64 dt.r.n, .slice ca nc cc, .int .i64 da, .int .i64 db, .slice ka nk kc, .int .i64 dg, .int .i64 dc, .slice xa nx xc] 39)).alloc (.cells #[.int .i64 ek, .int .i64 en, .int .i64 et.k, .bool et.no, .int .i64 et.l.k, .int .i64 et.l.a, .int .i64 et.l.b, .int .i64 et.l.n, .int .i64 et.r.k, .int .i64 et.r.a, .int .i64 et.r.b, .int .i64 et.r.n, .slice ca2 nc2 cc2, .int .i64 ea, .int .i64 eb, .slice ka2 nk2 kc2, .int .i64 eg, .int .i64 ec, .slice xa2 nx2 xc2] 39))) := (two w _ _).2.2
  go_enter Try.func5, Try.ntmps5
  go_wp2_with fail
  go_ret
  exact ⟨rfl, HB0.out⟩

set_option maxHeartbeats 4000000 in
theorem specNot7 (dk dn da db dg dc : Int) (dt : Tst) (dks : List Int) (ek en ea eb eg ec : Int) (et : Tst) (eks : List Int) (ca ka xa ca2 ka2 xa2 : Option Addr) (nc cc nk kc nx xc nc2 cc2 nk2 kc2 nx2 xc2 : Nat) (w : World)
    (hk : RawInts w (.slice ka nk kc) dks) (hk2 : RawInts w (.slice ka2 nk2 kc2) eks) (hl3 : dks.length ≤ 140737488355328) (hl4 : eks.length ≤ 140737488355328) (e0 : dk = ek) (e1 : dn = en) (e2 : dt = et) (e3 : da = ea) (e4 : db = eb) (e5 : dg = eg) (e6 : dc = ec) (e7 : dks ≠ eks) :
    Calls Try.prog 5 #[.agg #[.int .i64 dk, .int .i64 dn, .int .i64 dt.k, .bool dt.no, .int .i64 dt.l.k, .int .i64 dt.l.a, .int .i64 dt.l.b, .int .i64 dt.l.n, .int .i64 dt.r.k, .int .i64 dt.r.a, .int .i64 dt.r.b, .int .i64 dt.r.n, .slice ca nc cc, .int .i64 da, .int .i64 db, .slice ka nk kc, .int .i64 dg, .int .i64 dc, .slice xa nx xc], .agg #[.int .i64 ek, .int .i64 en, .int .i64 et.k, .bool et.no, .int .i64 et.l.k, .int .i64 et.l.a, .int .i64 et.l.b, .int .i64 et.l.n, .int .i64 et.r.k, .int .i64 et.r.a, .int .i64 et.r.b, .int .i64 et.r.n, .slice ca2 nc2 cc2, .int .i64 ea, .int .i64 eb, .slice ka2 nk2 kc2, .int .i64 eg, .int .i64 ec, .slice xa2 nx2 xc2]] w fun r w' => r = .returned (.bool false) ∧ Below w.heap.size w w' := by
  have HK : Hid (RawInts w (.slice ka nk kc) dks) := hk
  have HK2 : Hid (RawInts w (.slice ka2 nk2 kc2) eks) := hk2
  have HL3 : Hid (dks.length ≤ 140737488355328) := hl3
  have HL4 : Hid (eks.length ≤ 140737488355328) := hl4
  clear hk hk2 hl3 hl4
  have g0 : (dk != ek) = false := by rw [e0]; simp
  have g1 : (dn != en) = false := by rw [e1]; simp
  have g2 : ∀ w : World, (binOp .neq 35 (.agg #[.int .i64 dt.k, .bool dt.no, .int .i64 dt.l.k, .int .i64 dt.l.a, .int .i64 dt.l.b, .int .i64 dt.l.n, .int .i64 dt.r.k, .int .i64 dt.r.a, .int .i64 dt.r.b, .int .i64 dt.r.n]) (.agg #[.int .i64 et.k, .bool et.no, .int .i64 et.l.k, .int .i64 et.l.a, .int .i64 et.l.b, .int .i64 et.l.n, .int .i64 et.r.k, .int .i64 et.r.a, .int .i64 et.r.b, .int .i64 et.r.n])).run Try.prog w = .ok (.bool false) w := fun w => by rw [testNeq]; rw [Tst.eqB_iff.2 e2]; rfl
  have g3 : (da != ea) = false := by rw [e3]; simp
  have g4 : (db != eb) = false := by rw [e4]; simp
  have g5 : (dg != eg) = false := by rw [e5]; simp
  have g6 : (dc != ec) = false := by rw [e6]; simp
  have HE7 : Hid (sameB dks eks = false) := by show _ = _; simp [sameB, e7]
  clear e0 e1 e2 e3 e4 e5 e6 e7
  have HA0 : Hid (((w.alloc (.cells #[.int .i64 dk, .int .i64 dn, .int .i64 dt.k, .bool dt.no, .int .i64 dt.l.k, .int .i64 dt.l.a, .int .i64 dt.l.b, .int .i64 dt.l.n, .int .i64 dt.r.k, .int .i64 dt.r.a, .int .i64 dt.r.b, .int .i64 dt.r.n, .slice ca nc cc, .int .i64 da, .int .i64 db, .slice ka nk kc, .int .i64 dg, .int .i64 dc, .slice xa nx xc] 39)).alloc (.cells #[.int .i64 ek, .int .i64 en, .int .i64 et.k, .bool et.no, .int .i64 et.l.k, .int .i64 et.l.a, .int .i64 et.l.b, .int .i64 et.l.n, .int .i64 et.r.k, .int .i64 et.r.a, .int .i64 et.r.b, .int .i64 et.r.n, .slice ca2 nc2 cc2, .int .i64 ea, .int .i64 eb, .slice ka2 nk2 kc2, .int .i64 eg, .int .i64 ec, .slice xa2 nx2 xc2] 39)).heap[w.heap.size]? = some (.cells #[.int .i64 dk, .int .i64 dn, .int .i64 dt.k, .bool dt.no, .int .i64 dt.l.k, .int .i64 dt.l.a, .int .i64 dt.l.b, .int .i64 dt.l.n, .int .i64 dt.r.k, .int .i64 dt.r.a, .int .i64 dt.r.b, .int .i64 dt.r.n, .slice ca nc cc, .int .i64 da, .int .i64 db, .slice ka nk kc, .int .i64 dg, .int .i64 dc, .slice xa nx xc] 39)) := (two w _ _).1
  have HQ0 : Hid (((w.alloc (.cells #[.int .i64 dk, .int .i64 dn, .int .i64 dt.k, .bool dt.no, .int .i64 dt.l.k, .int .i64 dt.l.a, .int .i64 dt.l.b, .int .i64 dt.l.n, .int .i64 dt.r.k, .int .i64 dt.r.a, .int .i64 dt.r.b, .int .i64 dt.r.n, .slice ca nc cc, .int .i64 da, .int .i64 db, .slice ka nk kc, .int .i64 dg, .int .i64 dc, .slice xa nx xc] 39)).alloc (.cells #[.int .i64 ek, .int .i64 en, .int .i64 et.k, .bool et.no, .int .i64 et.l.k, .int .i64 et.l.a, .int .i64 et.l.b, .int .i64 et.l.n, .int .i64 et.r.k, .int .i64 et.r.a, .int .i64 et.r.b, .int .i64 et.r.n, .slice ca2 nc2 cc2, .int .i64 ea, .int .i64 eb, .slice ka2 nk2 kc2, .int .i64 eg, .int .i64 ec, .slice xa2 nx2 xc2] 39)).heap[w.heap.size + 1]? = some (.cells #[.int .i64 ek, .int .i64 en, .int .i64 et.k, .bool et.no, .int .i64 et.l.k, .int .i64 et.l.a, .int .i64 et.l.b, .int .i64 et.l.n, .int .i64 et.r.k, .int .i64 et.r.a, .int .i64 et.r.b, .int .i64 et.r.n, .slice ca2 nc2 cc2, .int .i64 ea, .int .i64 eb, .slice ka2 nk2 kc2, .int .i64 eg, .int .i64 ec, .slice xa2 nx2 xc2] 39)) := (two w _ _).2.1
  have HB0 : Hid (Below w.heap.size w ((w.alloc (.cells #[.int .i64 dk, .int .i64 dn, .int .i64 dt.k, .bool dt.no, .int .i64 dt.l.k, .int .i64 dt.l.a, .int .i64 dt.l.b, .int .i64 dt.l.n, .int .i64 dt.r.k, .int .i64 dt.r.a, .int .i64 dt.r.b, .int .i64 dt.r.n, .slice ca nc cc, .int .i64 da, .int .i64 db, .slice ka nk kc, .int .i64 dg, .int .i64 dc, .slice xa nx xc] 39)).alloc (.cells #[.int .i64 ek, .int .i64 en, .int .i64 et.k, .bool et.no, .int .i64 et.l.k, .int .i64 et.l.a, .int .i64 et.l.b, .int .i64 et.l.n, .int .i64 et.r.k, .int .i64 et.r.a, .int .i64 et.r.b, .int .i64 et.r.n, .slice ca2 nc2 cc2, .int .i64 ea, .int .i64 eb, .slice ka2 nk2 kc2, .int .i64 eg, .int .i64 ec, .slice xa2 nx2 xc2] 39))) := (two w _ _).2.2
  go_enter Try.func5, Try.ntmps5
  go_wp2_with fail
  refine (l4Ints_any _ _ dks eks _ ((HK.out.below HB0.out).ints HL3.out) ((HK2.out.below HB0.out).ints HL4.out)).mono ?_
  rw [HE7.out]
  rintro r w1 ⟨rfl, hb⟩
  have HA1 : Hid (w1.heap[w.heap.size]? = some (.cells #[.int .i64 dk, .int .i64 dn, .int .i64 dt.k, .bool dt.no, .int .i64 dt.l.k, .int .i64 dt.l.a, .int .i64 dt.l.b, .int .i64 dt.l.n, .int .i64 dt.r.k, .int .i64 dt.r.a, .int .i64 dt.r.b, .int .i64 dt.r.n, .slice ca nc cc, .int .i64 da, .int .i64 db, .slice ka nk kc, .int .i64 dg, .int .i64 dc, .slice xa nx xc] 39)) := at_below HA0.out hb
  have HQ1 : Hid (w1.heap[w.heap.size + 1]? = some (.cells #[.int .i64 ek, .int .i64 en, .int .i64 et.k, .bool et.no, .int .i64 et.l.k, .int .i64 et.l.a, .int .i64 et.l.b, .int .i64 et.l.n, .int .i64 et.r.k, .int .i64 et.r.a, .int .i64 et.r.b, .int .i64 et.r.n, .slice ca2 nc2 cc2, .int .i64 ea, .int .i64 eb, .slice ka2 nk2 kc2, .int .i64 eg, .int .i64 ec, .slice xa2 nx2 xc2] 39)) := at_below HQ0.out hb
  have HB1 : Hid (Below w.heap.size w w1) := bel_then HB0.out hb
  clear hb
  go_wp2_with fail
  go_ret
  exact ⟨rfl, HB1.out⟩

set_option maxHeartbeats 4000000 in
theorem specNot8 (dk dn da db dg dc : Int) (dt : Tst) (dks : List Int) (ek en ea eb eg ec : Int) (et : Tst) (eks : List Int) (ca ka xa ca2 ka2 xa2 : Option Addr) (nc cc nk kc nx xc nc2 cc2 nk2 kc2 nx2 xc2 : Nat) (w : World)
    (hk : RawInts w (.slice ka nk kc) dks) (hk2 : RawInts w (.slice ka2 nk2 kc2) eks) (hl3 : dks.length ≤ 140737488355328) (hl4 : eks.length ≤ 140737488355328) (e0 : dk = ek) (e1 : dn = en) (e2 : dt = et) (e3 : da = ea) (e4 : db = eb) (e5 : dg = eg) (e6 : dc = ec) (e7 : dks = eks) (e8 : nc ≠ nc2) :
    Calls Try.prog 5 #[.agg #[.int .i64 dk, .int .i64 dn, .int .i64 dt.k, .bool dt.no, .int .i64 dt.l.k, .int .i64 dt.l.a, .int .i64 dt.l.b, .int .i64 dt.l.n, .int .i64 dt.r.k, .int .i64 dt.r.a, .int .i64 dt.r.b, .int .i64 dt.r.n, .slice ca nc cc, .int .i64 da, .int .i64 db, .slice ka nk kc, .int .i64 dg, .int .i64 dc, .slice xa nx xc], .agg #[.int .i64 ek, .int .i64 en, .int .i64 et.k, .bool et.no, .int .i64 et.l.k, .int .i64 et.l.a, .int .i64 et.l.b, .int .i64 et.l.n, .int .i64 et.r.k, .int .i64 et.r.a, .int .i64 et.r.b, .int .i64 et.r.n, .slice ca2 nc2 cc2, .int .i64 ea, .int .i64 eb, .slice ka2 nk2 kc2, .int .i64 eg, .int .i64 ec, .slice xa2 nx2 xc2]] w fun r w' => r = .returned (.bool false) ∧ Below w.heap.size w w' := by
  have HK : Hid (RawInts w (.slice ka nk kc) dks) := hk
  have HK2 : Hid (RawInts w (.slice ka2 nk2 kc2) eks) := hk2
  have HL3 : Hid (dks.length ≤ 140737488355328) := hl3
  have HL4 : Hid (eks.length ≤ 140737488355328) := hl4
  clear hk hk2 hl3 hl4
  have g0 : (dk != ek) = false := by rw [e0]; simp
  have g1 : (dn != en) = false := by rw [e1]; simp
  have g2 : ∀ w : World, (binOp .neq 35 (.agg #[.int .i64 dt.k, .bool dt.no, .int .i64 dt.l.k, .int .i64 dt.l.a, .int .i64 dt.l.b, .int .i64 dt.l.n, .int .i64 dt.r.k, .int .i64 dt.r.a, .int .i64 dt.r.b, .int .i64 dt.r.n]) (.agg #[.int .i64 et.k, .bool et.no, .int .i64 et.l.k, .int .i64 et.l.a, .int .i64 et.l.b, .int .i64 et.l.n, .int .i64 et.r.k, .int .i64 et.r.a, .int .i64 et.r.b, .int .i64 et.r.n])).run Try.prog w = .ok (.bool false) w := fun w => by rw [testNeq]; rw [Tst.eqB_iff.2 e2]; rfl
  have g3 : (da != ea) = false := by rw [e3]; simp
  have g4 : (db != eb) = false := by rw [e4]; simp
  have g5 : (dg != eg) = false := by rw [e5]; simp
  have g6 : (dc != ec) = false := by rw [e6]; simp
  have HE7 : Hid (sameB dks eks = true) := by show _ = _; rw [e7]; exact sameB_refl _
  have g8 : ((nc : Int) != (nc2 : Int)) = true := by rw [bne_iff_ne]; omega
  clear e0 e1 e2 e3 e4 e5 e6 e7 e8
  have HA0 : Hid (((w.alloc (.cells #[.int .i64 dk, .int .i64 dn, .int .i64 dt.k, .bool dt.no, .int .i64 dt.l.k, .int .i64 dt.l.a, .int .i64 dt.l.b, .int .i64 dt.l.n, .int .i64 dt.r.k, .int .i64 dt.r.a, .int .i64 dt.r.b, .int .i64 dt.r.n, .slice ca nc cc, .int .i64 da, .int .i64 db, .slice ka nk kc, .int .i64 dg, .int .i64 dc, .slice xa nx xc] 39)).alloc (.cells #[.int .i64 ek, .int .i64 en, .int .i64 et.k, .bool et.no, .int .i64 et.l.k, .int .i64 et.l.a, .int .i64 et.l.b, .int .i64 et.l.n, .int .i64 et.r.k, .int .i64 et.r.a, .int .i64 et.r.b, .int .i64 et.r.n, .slice ca2 nc2 cc2, .int .i64 ea, .int .i64 eb, .slice ka2 nk2 kc2, .int .i64 eg, .int .i64 ec, .slice xa2 nx2 xc2] 39)).heap[w.heap.size]? = some (.cells #[.int .i64 dk, .int .i64 dn, .int .i64 dt.k, .bool dt.no, .int .i64 dt.l.k, .int .i64 dt.l.a, .int .i64 dt.l.b, .int .i64 dt.l.n, .int .i64 dt.r.k, .int .i64 dt.r.a, .int .i64 dt.r.b, .int .i64 dt.r.n, .slice ca nc cc, .int .i64 da, .int .i64 db, .slice ka nk kc, .int .i64 dg, .int .i64 dc, .slice xa nx xc] 39)) := (two w _ _).1
  have HQ0 : Hid (((w.alloc (.cells #[.int .i64 dk, .int .i64 dn, .int .i64 dt.k, .bool dt.no, .int .i64 dt.l.k, .int .i64 dt.l.a, .int .i64 dt.l.b, .int .i64 dt.l.n, .int .i64 dt.r.k, .int .i64 dt.r.a, .int .i64 dt.r.b, .int .i64 dt.r.n, .slice ca nc cc, .int .i64 da, .int .i64 db, .slice ka nk kc, .int .i64 dg, .int .i64 dc, .slice xa nx xc] 39)).alloc (.cells #[.int .i64 ek, .int .i64 en, .int .i64 et.k, .bool et.no, .int .i64 et.l.k, .int .i64 et.l.a, .int .i64 et.l.b, .int .i64 et.l.n, .int .i64 et.r.k, .int .i64 et.r.a, .int .i64 et.r.b, .int .i64 et.r.n, .slice ca2 nc2 cc2, .int .i64 ea, .int .i64 eb, .slice ka2 nk2 kc2, .int .i64 eg, .int .i64 ec, .slice xa2 nx2 xc2] 39)).heap[w.heap.size + 1]? = some (.cells #[.int .i64 ek, .int .i64 en, .int .i64 et.k, .bool et.no, .int .i64 et.l.k, .int .i64 et.l.a, .int .i64 et.l.b, .int .i64 et.l.n, .int .i64 et.r.k, .int .i64 et.r.a, .int .i64 et.r.b, .int .i64 et.r.n, .slice ca2 nc2 cc2, .int .i64 ea, .int .i64 eb, .slice ka2 nk2 kc2, .int .i64 eg, .int .i64 ec, .slice xa2 nx2 xc2] 39)) := (two w _ _).2.1
  have HB0 : Hid (Below w.heap.size w ((w.alloc (.cells #[.int .i64 dk, .int .i64 dn, .int .i64 dt.k, .bool dt.no, .int .i64 dt.l.k, .int .i64 dt.l.a, .int .i64 dt.l.b, .int .i64 dt.l.n, .int .i64 dt.r.k, .int .i64 dt.r.a, .int .i64 dt.r.b, .int .i64 dt.r.n, .slice ca nc cc, .int .i64 da, .int .i64 db, .slice ka nk kc, .int .i64 dg, .int .i64 dc, .slice xa nx xc] 39)).alloc (.cells #[.int .i64 ek, .int .i64 en, .int .i64 et.k, .bool et.no, .int .i64 et.l.k, .int .i64 et.l.a, .int .i64 et.l.b, .int .i64 et.l.n, .int .i64 et.r.k, .int .i64 et.r.a, .int .i64 et.r.b, .int .i64 et.r.n, .slice ca2 nc2 cc2, .int .i64 ea, .int .i64 eb, .slice ka2 nk2 kc2, .int .i64 eg, .int .i64 ec, .slice xa2 nx2 xc2] 39))) := (two w _ _).2.2
  go_enter Try.func5, Try.ntmps5
  go_wp2_with fail
  refine (l4Ints_any _ _ dks eks _ ((HK.out.below HB0.out).ints HL3.out) ((HK2.out.below HB0.out).ints HL4.out)).mono ?_
  rw [HE7.out]
  rintro r w1 ⟨rfl, hb⟩
  have HA1 : Hid (w1.heap[w.heap.size]? = some (.cells #[.int .i64 dk, .int .i64 dn, .int .i64 dt.k, .bool dt.no, .int .i64 dt.l.k, .int .i64 dt.l.a, .int .i64 dt.l.b, .int .i64 dt.l.n, .int .i64 dt.r.k, .int .i64 dt.r.a, .int .i64 dt.r.b, .int .i64 dt.r.n, .slice ca nc cc, .int .i64 da, .int .i64 db, .slice ka nk kc, .int .i64 dg, .int .i64 dc, .slice xa nx xc] 39)) := at_below HA0.out hb
  have HQ1 : Hid (w1.heap[w.heap.size + 1]? = some (.cells #[.int .i64 ek, .int .i64 en, .int .i64 et.k, .bool et.no, .int .i64 et.l.k, .int .i64 et.l.a, .int .i64 et.l.b, .int .i64 et.l.n, .int .i64 et.r.k, .int .i64 et.r.a, .int .i64 et.r.b, .int .i64 et.r.n, .slice ca2 nc2 cc2, .int .i64 ea, .int .i64 eb, .slice ka2 nk2 kc2, .int .i64 eg, .int .i64 ec, .slice xa2 nx2 xc2] 39)) := at_below HQ0.out hb
  have HB1 : Hid (Below w.heap.size w w1) := bel_then HB0.out hb
  clear hb
  have a12 : w1.cell? ⟨w.heap.size, 12, none⟩ = some (.slice ca nc cc) := cell_at HA1.out rfl
  have b12 : w1.cell? ⟨w.heap.size + 1, 12, none⟩ = some (.slice ca2 nc2 cc2) := cell_at HQ1.out rfl
  have a18 : w1.cell? ⟨w.heap.size, 18, none⟩ = some (.slice xa nx xc) := cell_at HA1.out rfl
  have b18 : w1.cell? ⟨w.heap.size + 1, 18, none⟩ = some (.slice xa2 nx2 xc2) := cell_at HQ1.out rfl
  go_wp2_with fail
  go_ret
  exact ⟨rfl, HB1.out⟩

set_option maxHeartbeats 4000000 in
theorem specNot9 (dk dn da db dg dc : Int) (dt : Tst) (dks : List Int) (ek en ea eb eg ec : Int) (et : Tst) (eks : List Int) (ca ka xa ca2 ka2 xa2 : Option Addr) (nc cc nk kc nx xc nc2 cc2 nk2 kc2 nx2 xc2 : Nat) (w : World)
    (hk : RawInts w (.slice ka nk kc) dks) (hk2 : RawInts w (.slice ka2 nk2 kc2) eks) (hl3 : dks.length ≤ 140737488355328) (hl4 : eks.length ≤ 140737488355328) (e0 : dk = ek) (e1 : dn = en) (e2 : dt = et) (e3 : da = ea) (e4 : db = eb) (e5 : dg = eg) (e6 : dc = ec) (e7 : dks = eks) (e8 : nc = nc2) (e9 : nx ≠ nx2) :
    Calls Try.prog 5 #[.agg #[.int .i64 dk, .int .i64 dn, .int .i64 dt.k, .bool dt.no, .int .i64 dt.l.k, .int .i64 dt.l.a, .int .i64 dt.l.b, .int .i64 dt.l.n, .int .i64 dt.r.k, .int .i64 dt.r.a, .int .i64 dt.r.b, .int .i64 dt.r.n, .slice ca nc cc, .int .i64 da, .int .i64 db, .slice ka nk kc, .int .i64 dg, .int .i64 dc, .slice xa nx xc], .agg #[.int .i64 ek, .int .i64 en, .int .i64 et.k, .bool et.no, .int .i64 et.l.k, .int .i64 et.l.a, .int .i64 et.l.b, .int .i64 et.l.n, .int .i64 et.r.k, .int .i64 et.r.a, .int .i64 et.r.b, .int .i64 et.r.n, .slice ca2 nc2 cc2, .int .i64 ea, .int .i64 eb, .slice ka2 nk2 kc2, .int .i64 eg, .int .i64 ec, .slice xa2 nx2 xc2]] w fun r w' => r = .returned (.bool false) ∧ Below w.heap.size w w' := by
  have HK : Hid (RawInts w (.slice ka nk kc) dks) := hk
  have HK2 : Hid (RawInts w (.slice ka2 nk2 kc2) eks) := hk2
  have HL3 : Hid (dks.length ≤ 140737488355328) := hl3
  have HL4 : Hid (eks.length ≤ 140737488355328) := hl4
  clear hk hk2 hl3 hl4
  have g0 : (dk != ek) = false := by rw [e0]; simp
  have g1 : (dn != en) = false := by rw [e1]; simp
  have g2 : ∀ w : World, (binOp .neq 35 (.agg #[.int .i64 dt.k, .bool dt.no, .int .i64 dt.l.k, .int .i64 dt.l.a, .int .i64 dt.l.b, .int .i64 dt.l.n, .int .i64 dt.r.k, .int .i64 dt.r.a, .int .i64 dt.r.b, .int .i64 dt.r.n]) (.agg #[.int .i64 et.k, .bool et.no, .int .i64 et.l.k, .int .i64 et.l.a, .int .i64 et.l.b, .int .i64 et.l.n, .int .i64 et.r.k, .int .i64 et.r.a, .int .i64 et.r.b, .int .i64 et.r.n])).run Try.prog w = .ok (.bool false) w := fun w => by rw [testNeq]; rw [Tst.eqB_iff.2 e2]; rfl
  have g3 : (da != ea) = false := by rw [e3]; simp
  have g4 : (db != eb) = false := by rw [e4]; simp
  have g5 : (dg != eg) = false := by rw [e5]; simp
  have g6 : (dc != ec) = false := by rw [e6]; simp
  have HE7 : Hid (sameB dks eks = true) := by show _ = _; rw [e7]; exact sameB_refl _
  have g8 : ((nc : Int) != (nc2 : Int)) = false := by rw [e8]; simp
  have g9 : ((nx : Int) != (nx2 : Int)) = true := by rw [bne_iff_ne]; omega
  clear e0 e1 e2 e3 e4 e5 e6 e7 e8 e9
  have HA0 : Hid (((w.alloc (.cells #[.int .i64 dk, .int .i64 dn, .int .i64 dt.k, .bool dt.no, .int .i64 dt.l.k, .int .i64 dt.l.a, .int .i64 dt.l.b, .int .i64 dt.l.n, .int .i64 dt.r.k, .int .i64 dt.r.a, .int .i64 dt.r.b, .int .i64 dt.r.n, .slice ca nc cc, .int .i64 da, .int .i64 db, .slice ka nk kc, .int .i64 dg, .int .i64 dc, .slice xa nx xc] 39)).alloc (.cells #[.int .i64 ek, .int .i64 en, .int .i64 et.k, .bool et.no, .int .i64 et.l.k, .int .i64 et.l.a, .int .i64 et.l.b, .int .i64 et.l.n, .int .i64 et.r.k, .int .i64 et.r.a, .int .i64 et.r.b, .int .i64 et.r.n, .slice ca2 nc2 cc2, .int .i64 ea, .int .i64 eb, .slice ka2 nk2 kc2, .int .i64 eg, .int .i64 ec, .slice xa2 nx2 xc2] 39)).heap[w.heap.size]? = some (.cells #[.int .i64 dk, .int .i64 dn, .int .i64 dt.k, .bool dt.no, .int .i64 dt.l.k, .int .i64 dt.l.a, .int .i64 dt.l.b, .int .i64 dt.l.n, .int .i64 dt.r.k, .int .i64 dt.r.a, .int .i64 dt.r.b, .int .i64 dt.r.n, .slice ca nc cc, .int .i64 da, .int .i64 db, .slice ka nk kc, .int .i64 dg, .int .i64 dc, .slice xa nx xc] 39)) := (two w _ _).1
  have HQ0 : Hid (((w.alloc (.cells #[.int .i64 dk, .int .i64 dn, .int .i64 dt.k, .bool dt.no, .int .i64 dt.l.k, .int .i64 dt.l.a, .int .i64 dt.l.b, .int .i64 dt.l.n, .int .i64 dt.r.k, .int .i64 dt.r.a, .int .i64 dt.r.b, .int .i64 dt.r.n, .slice ca nc cc, .int .i64 da, .int .i64 db, .slice ka nk kc, .int .i64 dg, .int .i64 dc, .slice xa nx xc] 39)).alloc (.cells #[.int .i64 ek, .int .i64 en, .int .i64 et.k, .bool et.no, .int .i64 et.l.k, .int .i64 et.l.a, .int .i64 et.l.b, .int .i64 et.l.n, .int .i64 et.r.k, .int .i64 et.r.a, .int .i64 et.r.b, .int .i64 et.r.n, .slice ca2 nc2 cc2, .int .i64 ea, .int .i64 eb, .slice ka2 nk2 kc2, .int .i64 eg, .int .i64 ec, .slice xa2 nx2 xc2] 39)).heap[w.heap.size + 1]? = some (.cells #[.int .i64 ek, .int .i64 en, .int .i64 et.k, .bool et.no, .int .i64 et.l.k, .int .i64 et.l.a, .int .i64 et.l.b, .int .i64 et.l.n, .int .i64 et.r.k, .int .i64 et.r.a, .int .i64 et.r.b, .int .i64 et.r.n, .slice ca2 nc2 cc2, .int .i64 ea, .int .i64 eb, .slice ka2 nk2 kc2, .int .i64 eg, .int .i64 ec, .slice xa2 nx2 xc2] 39)) := (two w _ _).2.1
  have HB0 : Hid (Below w.heap.size w ((w.alloc (.cells #[.int .i64 dk, .int .i64 dn, .int .i64 dt.k, .bool dt.no, .int .i64 dt.l.k, .int .i64 dt.l.a, .int .i64 dt.l.b, .int .i64 dt.l.n, .int .i64 dt.r.k, .int .i64 dt.r.a, .int .i64 dt.r.b, .int .i64 dt.r.n, .slice ca nc cc, .int .i64 da, .int .i64 db, .slice ka nk kc, .int .i64 dg, .int .i64 dc, .slice xa nx xc] 39)).alloc (.cells #[.int .i64 ek, .int .i64 en, .int .i64 et.k, .bool et.no, .int .i64 et.l.k, .int .i64 et.l.a, .int .i64 et.l.b, .int .i64 et.l.n, .int .i64 et.r.k, .int .i64 et.r.a, .int .i64 et.r.b, .int .i64 et.r.n, .slice ca2 nc2 cc2, .int .i64 ea, .int .i64 eb, .slice ka2 nk2 kc2, .int .i64 eg, .int .i64 ec, .slice xa2 nx2 xc2] 39))) := (two w _ _).2.2
  go_enter Try.func5, Try.ntmps5
  go_wp2_with fail
  refine (l4Ints_any _ _ dks eks _ ((HK.out.below HB0.out).ints HL3.out) ((HK2.out.below HB0.out).ints HL4.out)).mono ?_
  rw [HE7.out]
  rintro r w1 ⟨rfl, hb⟩
  have HA1 : Hid (w1.heap[w.heap.size]? = some (.cells #[.int .i64 dk, .int .i64 dn, .int .i64 dt.k, .bool dt.no, .int .i64 dt.l.k, .int .i64 dt.l.a, .int .i64 dt.l.b, .int .i64 dt.l.n, .int .i64 dt.r.k, .int .i64 dt.r.a, .int .i64 dt.r.b, .int .i64 dt.r.n, .slice ca nc cc, .int .i64 da, .int .i64 db, .slice ka nk kc, .int .i64 dg, .int .i64 dc, .slice xa nx xc] 39)) := at_below HA0.out hb
  have HQ1 : Hid (w1.heap[w.heap.size + 1]? = some (.cells #[.int .i64 ek, .int .i64 en, .int .i64 et.k, .bool et.no, .int .i64 et.l.k, .int .i64 et.l.a, .int .i64 et.l.b, .int .i64 et.l.n, .int .i64 et.r.k, .int .i64 et.r.a, .int .i64 et.r.b, .int .i64 et.r.n, .slice ca2 nc2 cc2, .int .i64 ea, .int .i64 eb, .slice ka2 nk2 kc2, .int .i64 eg, .int .i64 ec, .slice xa2 nx2 xc2] 39)) := at_below HQ0.out hb
  have HB1 : Hid (Below w.heap.size w w1) := bel_then HB0.out hb
  clear hb
  have a12 : w1.cell? ⟨w.heap.size, 12, none⟩ = some (.slice ca nc cc) := cell_at HA1.out rfl
  have b12 : w1.cell? ⟨w.heap.size + 1, 12, none⟩ = some (.slice ca2 nc2 cc2) := cell_at HQ1.out rfl
  have a18 : w1.cell? ⟨w.heap.size, 18, none⟩ = some (.slice xa nx xc) := cell_at HA1.out rfl
  have b18 : w1.cell? ⟨w.heap.size + 1, 18, none⟩ = some (.slice xa2 nx2 xc2) := cell_at HQ1.out rfl
  go_wp2_with fail
  go_ret
  exact ⟨rfl, HB1.out⟩

end Go.Proofs.Ytkmihnagmbdbgaa
