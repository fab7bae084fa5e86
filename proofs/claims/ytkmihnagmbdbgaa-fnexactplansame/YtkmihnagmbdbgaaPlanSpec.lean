/-
  The contract of spec.PlanSame, where a part differs besides in what its cells and kids are: false.
-/
import Derived.Test.YtkmihnagmbdbgaaPlanBesides
import Derived.Test.YtkmihnagmbdbgaaOrderFacts
namespace Go.Proofs.Ytkmihnagmbdbgaa
set_option maxRecDepth 100000
open Go.RowKit
set_option linter.unusedVariables false
set_option linter.unusedSimpArgs false

set_option maxHeartbeats 1000000 in
theorem testNeq (t u : Tst) (w : World) : (binOp .neq 35 (.agg #[.int .i64 t.k, .bool t.no, .int .i64 t.l.k, .int .i64 t.l.a, .int .i64 t.l.b, .int .i64 t.l.n, .int .i64 t.r.k, .int .i64 t.r.a, .int .i64 t.r.b, .int .i64 t.r.n]) (.agg #[.int .i64 u.k, .bool u.no, .int .i64 u.l.k, .int .i64 u.l.a, .int .i64 u.l.b, .int .i64 u.l.n, .int .i64 u.r.k, .int .i64 u.r.a, .int .i64 u.r.b, .int .i64 u.r.n])).run Try.prog w = .ok (.bool (!t.eqB u)) w := by
  have h := testEq t u w
  rw [run_eql_struct] at h
  rw [run_neq_struct]
  cases hr : (Op.equalIn 10000 35 (.agg #[.int .i64 t.k, .bool t.no, .int .i64 t.l.k, .int .i64 t.l.a, .int .i64 t.l.b, .int .i64 t.l.n, .int .i64 t.r.k, .int .i64 t.r.a, .int .i64 t.r.b, .int .i64 t.r.n]) (.agg #[.int .i64 u.k, .bool u.no, .int .i64 u.l.k, .int .i64 u.l.a, .int .i64 u.l.b, .int .i64 u.l.n, .int .i64 u.r.k, .int .i64 u.r.a, .int .i64 u.r.b, .int .i64 u.r.n])).run Try.prog w with
  | ok b w' =>
    rw [hr] at h
    simp only [Result.andThen, Result.ok.injEq, Value.bool.injEq] at h ⊢
    obtain ⟨rfl, rfl⟩ := h
    simp
  | halt e w' =>
    rw [hr] at h
    simp [Result.andThen] at h
theorem sameB_row (xs ys : List Int) : rowSameB xs ys = sameB xs ys := same_iff xs ys
theorem l4Ints_any (v v2 : Value) (xs ys : List Int) (w : World) (h : IntsAt w v xs) (h2 : IntsAt w v2 ys) :
    Calls Try.prog 12 #[v, v2] w fun e w' => e = .returned (.bool (sameB xs ys)) ∧ Below w.heap.size w w' := by
  go_enter Try.func12, Try.ntmps12
  go_wp2_with fail
  refine (l1Order_q v v2 xs ys _ h h2).mono ?_
  rintro e w' ⟨d, rfl, hd, hb⟩
  have HD : Hid (ordI d 0 = ordL xs ys) := hd
  clear hd h h2
  go_wp2
  go_ret
  exact ⟨ret_bool ((same_of_ord HD.out).trans (sameB_row xs ys)), hb.below⟩

set_option maxHeartbeats 4000000 in
theorem specNot0 (dk dn da db dg dc : Int) (dt : Tst) (dks : List Int) (ek en ea eb eg ec : Int) (et : Tst) (eks : List Int) (ca ka xa ca2 ka2 xa2 : Option Addr) (nc cc nk kc nx xc nc2 cc2 nk2 kc2 nx2 xc2 : Nat) (w : World)
    (hk : RawInts w (.slice ka nk kc) dks) (hk2 : RawInts w (.slice ka2 nk2 kc2) eks) (hl3 : dks.length ≤ 140737488355328) (hl4 : eks.length ≤ 140737488355328) (e0 : dk ≠ ek) :
    Calls Try.prog 5 #[.agg #[.int .i64 dk, .int .i64 dn, .int .i64 dt.k, .bool dt.no, .int .i64 dt.l.k, .int .i64 dt.l.a, .int .i64 dt.l.b, .int .i64 dt.l.n, .int .i64 dt.r.k, .int .i64 dt.r.a, .int .i64 dt.r.b, .int .i64 dt.r.n, .slice ca nc cc, .int .i64 da, .int .i64 db, .slice ka nk kc, .int .i64 dg, .int .i64 dc, .slice xa nx xc], .agg #[.int .i64 ek, .int .i64 en, .int .i64 et.k, .bool et.no, .int .i64 et.l.k, .int .i64 et.l.a, .int .i64 et.l.b, .int .i64 et.l.n, .int .i64 et.r.k, .int .i64 et.r.a, .int .i64 et.r.b, .int .i64 et.r.n, .slice ca2 nc2 cc2, .int .i64 ea, .int .i64 eb, .slice ka2 nk2 kc2, .int .i64 eg, .int .i64 ec, .slice xa2 nx2 xc2]] w fun r w' => r = .returned (.bool false) ∧ Below w.heap.size w w' := by
  have HK : Hid (RawInts w (.slice ka nk kc) dks) := hk
  have HK2 : Hid (RawInts w (.slice ka2 nk2 kc2) eks) := hk2
  have HL3 : Hid (dks.length ≤ 140737488355328) := hl3
  have HL4 : Hid (eks.length ≤ 140737488355328) := hl4
  clear hk hk2 hl3 hl4
  have g0 : (dk != ek) = true := by simp [e0]
  clear e0
  have HA0 : Hid (((w.alloc (.cells #[.int .i64 dk, .int .i64 dn, .int .i64 dt.k, .bool dt.no, .int .i64 dt.l.k, .int .i64 dt.l.a, .int .i64 dt.l.b, .int .i64 dt.l.n, .int .i64 dt.r.k, .int .i64 dt.r.a, .int .i64 dt.r.b, .int .i64 dt.r.n, .slice ca nc cc, .int .i64 da, .int .i64 db, .slice ka nk kc, .int .i64 dg, .int .i64 dc, .slice xa nx xc] 39)).alloc (.cells #[.int .i64 ek, .int .i64 en, .int .i64 et.k, .bool et.no, .int .i64 et.l.k, .int .i64 et.l.a, .int .i64 et.l.b, .int .i64 et.l.n, .int .i64 et.r.k, .int .i64 et.r.a, .int .i64 et.r.b, .int .i64 et.r.n, .slice ca2 nc2 cc2, .int .i64 ea, .int .i64 eb, .slice ka2 nk2 kc2, .int .i64 eg, .int .i64 ec, .slice xa2 nx2 xc2] 39)).heap[w.heap.size]? = some (.cells #[.int .i64 dk, .int .i64 dn, .int .i64 dt.k, .bool dt.no, .int .i64 dt.l.k, .int .i64 dt.l.a, .int .i64 dt.l.b, .int .i64 dt.l.n, .int .i64 dt.r.k, .int .i64 dt.r.a, .int .i64 dt.r.b, .int .i64 dt.r.n, .slice ca nc cc, .int .i64 da, .int .i64 db, .slice ka nk kc, .int .i64 dg, .int .i64 dc, .slice xa nx xc] 39)) := (two w _ _).1
  have HQ0 : Hid (((w.alloc (.cells #[.int .i64 dk, .int .i64 dn, .int .i64 dt.k, .bool dt.no, .int .i64 dt.l.k, .int .i64 dt.l.a, .int .i64 dt.l.b, .int .i64 dt.l.n, .int .i64 dt.r.k, .int .i64 dt.r.a, .int .i64 dt.r.b, .int .i64 dt.r.n, .slice ca nc cc, .int .i64 da, .int .i64 db, .slice ka nk kc, .int .i64 dg, .int .i64 dc, .slice xa nx xc] 39)).alloc (.cells #[.int .i64 ek, .int .i64 en, .int .i64 et.k, .bool et.no, .int .i64 et.l.k, .int .i64 et.l.a, .int .i64 et.l.b, .int .i64 et.l.n, .int .i64 et.r.k, .int .i64 et.r.a, .int .i64 et.r.b, .int .i64 et.r.n, .slice ca2 nc2 cc2, .int .i64 ea, .int .i64 eb, .slice ka2 nk2 kc2, .int .i64 eg, .int .i64 ec, .slice xa2 nx2 xc2] 39)).heap[w.heap.size + 1]? = some (.cells #[.int .i64 ek, .int .i64 en, .int .i64 et.k, .bool et.no, .int .i64 et.l.k, .int .i64 et.l.a, .int .i64 et.l.b, .int .i64 et.l.n, .int .i64 et.r.k, .int .i64 et.r.a, .int .i64 et.r.b, .int .i64 et.r.n, .slice ca2 nc2 cc2, .int .i64 ea, .int .i64 eb, .slice ka2 nk2 kc2, .int .i64 eg, .int .i64 ec, .slice xa2 nx2 xc2] 39)) := (two w _ _).2.1
  have HB0 : Hid (Below w.heap.size w ((w.alloc (.cells #[.int .i64 dk, .int .i64 dn, .int .i64 dt.k, .bool dt.no, .int .i64 dt.l.k, .int .i64 dt.l.a, .int .i64 dt.l.b, .int .i64 dt.l.n, .int .i64 dt.r.k, .int .i64 dt.r.a, .int .i64 dt.r.b, .int .i64 dt.r.n, .slice ca nc cc, .int .i64 da, .int .i64 db, .slice ka nk kc, .int .i64 dg, .int .i64 dc, .slice xa nx xc] 39)).alloc (.cells #[.int .i64 ek, .int .i64 en, .int .i64 et.k, .bool et.no, .int .i64 et.l.k, .int .i64 et.l.a, .int .i64 et.l.b, .int .i64 et.l.n, .int .i64 et.r.k, .int .i64 et.r.a, .int .i64 et.r.b, .int .i64 et.r.n, .slice ca2 nc2 cc2, .int .i64 ea, .int .i64 eb, .slice ka2 nk2 kc2, .int .i64 eg, .int .i64 ec, .slice xa2 nx2 xc2] 39))) := (two w _ _).2.2
  go_enter Try.func5, Try.ntmps5
  go_wp2_with fail
  go_ret
  exact ⟨rfl, HB0.out⟩

set_option maxHeartbeats 4000000 in
theorem specNot1 (dk dn da db dg dc : Int) (dt : Tst) (dks : List Int) (ek en ea eb eg ec : Int) (et : Tst) (eks : List Int) (ca ka xa ca2 ka2 xa2 : Option Addr) (nc cc nk kc nx xc nc2 cc2 nk2 kc2 nx2 xc2 : Nat) (w : World)
    (hk : RawInts w (.slice ka nk kc) dks) (hk2 : RawInts w (.slice ka2 nk2 kc2) eks) (hl3 : dks.length ≤ 140737488355328) (hl4 : eks.length ≤ 140737488355328) (e0 : dk = ek) (e1 : dn ≠ en) :
    Calls Try.prog 5 #[.agg #[.int .i64 dk, .int .i64 dn, .int .i64 dt.k, .bool dt.no, .int .i64 dt.l.k, .int .i64 dt.l.a, .int .i64 dt.l.b, .int .i64 dt.l.n, .int .i64 dt.r.k, .int .i64 dt.r.a, .int .i64 dt.r.b, .int .i64 dt.r.n, .slice ca nc cc, .int .i64 da, .int .i64 db, .slice ka nk kc, .int .i64 dg, .int .i64 dc, .slice xa nx xc], .agg #[.int .i64 ek, .int .i64 en, .int .i64 et.k, .bool et.no, .int .i64 et.l.k, .int .i64 et.l.a, .int .i64 et.l.b, .int .i64 et.l.n, .int .i64 et.r.k, .int .i64 et.r.a, .int .i64 et.r.b, .int .i64 et.r.n, .slice ca2 nc2 cc2, .int .i64 ea, .int .i64 eb, .slice ka2 nk2 kc2, .int .i64 eg, .int .i64 ec, .slice xa2 nx2 xc2]] w fun r w' => r = .returned (.bool false) ∧ Below w.heap.size w w' := by
  have HK : Hid (RawInts w (.slice ka nk kc) dks) := hk
  have HK2 : Hid (RawInts w (.slice ka2 nk2 kc2) eks) := hk2
  have HL3 : Hid (dks.length ≤ 140737488355328) := hl3
  have HL4 : Hid (eks.length ≤ 140737488355328) := hl4
  clear hk hk2 hl3 hl4
  have g0 : (dk != ek) = false := by rw [e0]; simp
  have g1 : (dn != en) = true := by simp [e1]
  clear e0 e1
  have HA0 : Hid (((w.alloc (.cells #[.int .i64 dk, .int .i64 dn, .int .i64 dt.k, .bool dt.no, .int .i64 dt.l.k, .int .i64 dt.l.a, .int .i64 dt.l.b, .int .i64 dt.l.n, .int .i64 dt.r.k, .int .i64 dt.r.a, .int .i64 dt.r.b, .int .i64 dt.r.n, .slice ca nc cc, .int .i64 da, .int .i64 db, .slice ka nk kc, .int .i64 dg, .int .i64 dc, .slice xa nx xc] 39)).alloc (.cells #[.int .i64 ek, .int .i64 en, .int .i64 et.k, .bool et.no, .int .i64 et.l.k, .int .i64 et.l.a, .int .i64 et.l.b, .int .i64 et.l.n, .int .i64 et.r.k, .int .i64 et.r.a, .int .i64 et.r.b, .int .i64 et.r.n, .slice ca2 nc2 cc2, .int .i64 ea, .int .i64 eb, .slice ka2 nk2 kc2, .int .i64 eg, .int .i64 ec, .slice xa2 nx2 xc2] 39)).heap[w.heap.size]? = some (.cells #[.int .i64 dk, .int .i64 dn, .int .i64 dt.k, .bool dt.no, .int .i64 dt.l.k, .int .i64 dt.l.a, .int .i64 dt.l.b, .int .i64 dt.l.n, .int .i64 dt.r.k, .int .i64 dt.r.a, .int .i64 dt.r.b, .int .i64 dt.r.n, .slice ca nc cc, .int .i64 da, .int .i64 db, .slice ka nk kc, .int .i64 dg, .int .i64 dc, .slice xa nx xc] 39)) := (two w _ _).1
  have HQ0 : Hid (((w.alloc (.cells #[.int .i64 dk, .int .i64 dn, .int .i64 dt.k, .bool dt.no, .int .i64 dt.l.k, .int .i64 dt.l.a, .int .i64 dt.l.b, .int .i64 dt.l.n, .int .i64 dt.r.k, .int .i64 dt.r.a, .int .i64 dt.r.b, .int .i64 dt.r.n, .slice ca nc cc, .int .i64 da, .int .i64 db, .slice ka nk kc, .int .i64 dg, .int .i64 dc, .slice xa nx xc] 39)).alloc (.cells #[.int .i64 ek, .int .i64 en, .int .i64 et.k, .bool et.no, .int .i64 et.l.k, .int .i64 et.l.a, .int .i64 et.l.b, .int .i64 et.l.n, .int .i64 et.r.k, .int .i64 et.r.a, .int .i64 et.r.b, .int .i64 et.r.n, .slice ca2 nc2 cc2, .int .i64 ea, .int .i64 eb, .slice ka2 nk2 kc2, .int .i64 eg, .int .i64 ec, .slice xa2 nx2 xc2] 39)).heap[w.heap.size + 1]? = some (.cells #[.int .i64 ek, .int .i64 en, .int .i64 et.k, .bool et.no, .int .i64 et.l.k, .int .i64 et.l.a, .int .i64 et.l.b, .int .i64 et.l.n, .int .i64 et.r.k, .int .i64 et.r.a, .int .i64 et.r.b, .int .i64 et.r.n, .slice ca2 nc2 cc2, .int .i64 ea, .int .i64 eb, .slice ka2 nk2 kc2, .int .i64 eg, .int .i64 ec, .slice xa2 nx2 xc2] 39)) := (two w _ _).2.1
  have HB0 : Hid (Below w.heap.size w ((w.alloc (.cells #[.int .i64 dk, .int .i64 dn, .int .i64 dt.k, .bool dt.no, .int .i64 dt.l.k, .int .i64 dt.l.a, .int .i64 dt.l.b, .int .i64 dt.l.n, .int .i64 dt.r.k, .int .i64 dt.r.a, .int .i64 dt.r.b, .int .i64 dt.r.n, .slice ca nc cc, .int .i64 da, .int .i64 db, .slice ka nk kc, .int .i64 dg, .int .i64 dc, .slice xa nx xc] 39)).alloc (.cells #[.int .i64 ek, .int .i64 en, .int .i64 et.k, .bool et.no, .int .i64 et.l.k, .int .i64 et.l.a, .int .i64 et.l.b, .int .i64 et.l.n, .int .i64 et.r.k, .int .i64 et.r.a, .int .i64 et.r.b, .int .i64 et.r.n, .slice ca2 nc2 cc2, .int .i64 ea, .int .i64 eb, .slice ka2 nk2 kc2, .int .i64 eg, .int .i64 ec, .slice xa2 nx2 xc2] 39))) := (two w _ _).2.2
  go_enter Try.func5, Try.ntmps5
  go_wp2_with fail
  go_ret
  exact ⟨rfl, HB0.out⟩

set_option maxHeartbeats 4000000 in
theorem specNot2 (dk dn da db dg dc : Int) (dt : Tst) (dks : List Int) (ek en ea eb eg ec : Int) (et : Tst) (eks : List Int) (ca ka xa ca2 ka2 xa2 : Option Addr) (nc cc nk kc nx xc nc2 cc2 nk2 kc2 nx2 xc2 : Nat) (w : World)
    (hk : RawInts w (.slice ka nk kc) dks) (hk2 : RawInts w (.slice ka2 nk2 kc2) eks) (hl3 : dks.length ≤ 140737488355328) (hl4 : eks.length ≤ 140737488355328) (e0 : dk = ek) (e1 : dn = en) (e2 : dt ≠ et) :
    Calls Try.prog 5 #[.agg #[.int .i64 dk, .int .i64 dn, .int .i64 dt.k, .bool dt.no, .int .i64 dt.l.k, .int .i64 dt.l.a, .int .i64 dt.l.b, .int .i64 dt.l.n, .int .i64 dt.r.k, .int .i64 dt.r.a, .int .i64 dt.r.b, .int .i64 dt.r.n, .slice ca nc cc, .int .i64 da, .int .i64 db, .slice ka nk kc, .int .i64 dg, .int .i64 dc, .slice xa nx xc], .agg #[.int .i64 ek, .int .i64 en, .int .i64 et.k, .bool et.no, .int .i64 et.l.k, .int .i64 et.l.a, .int .i64 et.l.b, .int .i64 et.l.n, .int .i64 et.r.k, .int .i64 et.r.a, .int .i64 et.r.b, .int .i64 et.r.n, .slice ca2 nc2 cc2, .int .i64 ea, .int .i64 eb, .slice ka2 nk2 kc2, .int .i64 eg, .int .i64 ec, .slice xa2 nx2 xc2]] w fun r w' => r = .returned (.bool false) ∧ Below w.heap.size w w' := by
  have HK : Hid (RawInts w (.slice ka nk kc) dks) := hk
  have HK2 : Hid (RawInts w (.slice ka2 nk2 kc2) eks) := hk2
  have HL3 : Hid (dks.length ≤ 140737488355328) := hl3
  have HL4 : Hid (eks.length ≤ 140737488355328) := hl4
  clear hk hk2 hl3 hl4
  have g0 : (dk != ek) = false := by rw [e0]; simp
  have g1 : (dn != en) = false := by rw [e1]; simp
  have g2 : ∀ w : World, (binOp .neq 35 (.agg #[.int .i64 dt.k, .bool dt.no, .int .i64 dt.l.k, .int .i64 dt.l.a, .int .i64 dt.l.b, .int .i64 dt.l.n, .int .i64 dt.r.k, .int .i64 dt.r.a, .int .i64 dt.r.b, .int .i64 dt.r.n]) (.agg #[.int .i64 et.k, .bool et.no, .int .i64 et.l.k, .int .i64 et.l.a, .int .i64 et.l.b, .int .i64 et.l.n, .int .i64 et.r.k, .int .i64 et.r.a, .int .i64 et.r.b, .int .i64 et.r.n])).run Try.prog w = .ok (.bool true) w := fun w => by rw [testNeq]; rw [show dt.eqB et = false from by rw [Bool.eq_false_iff, Ne, Tst.eqB_iff]; exact e2]; rfl
  clear e0 e1 e2
  have HA0 : Hid (((w.alloc (.cells #[.int .i64 dk, .int .i64 dn, .int .i64 dt.k, .bool dt.no, .int .i64 dt.l.k, .int .i64 dt.l.a, .int .i64 dt.l.b, .int .i64 dt.l.n, .int .i64 dt.r.k, .int .i64 dt.r.a, .int .i64 dt.r.b, .int .i64 dt.r.n, .slice ca nc cc, .int .i64 da, .int .i64 db, .slice ka nk kc, .int .i64 dg, .int .i64 dc, .slice xa nx xc] 39)).alloc (.cells #[.int .i64 ek, .int .i64 en, .int .i64 et.k, .bool et.no, .int .i64 et.l.k, .int .i64 et.l.a, .int .i64 et.l.b, .int .i64 et.l.n, .int .i64 et.r.k, .int .i64 et.r.a, .int .i64 et.r.b, .int .i64 et.r.n, .slice ca2 nc2 cc2, .int .i64 ea, .int .i64 eb, .slice ka2 nk2 kc2, .int .i64 eg, .int .i64 ec, .slice xa2 nx2 xc2] 39)).heap[w.heap.size]? = some (.cells #[.int .i64 dk, .int .i64 dn, .int .i64 dt.k, .bool dt.no, .int .i64 dt.l.k, .int .i64 dt.l.a, .int .i64 dt.l.b, .int .i64 dt.l.n, .int .i64 dt.r.k, .int .i64 dt.r.a, .int .i64 dt.r.b, .int .i64 dt.r.n, .slice ca nc cc, .int .i64 da, .int .i64 db, .slice ka nk kc, .int .i64 dg, .int .i64 dc, .slice xa nx xc] 39)) := (two w _ _).1
  have HQ0 : Hid (((w.alloc (.cells #[.int .i64 dk, .int .i64 dn, .int .i64 dt.k, .bool dt.no, .int .i64 dt.l.k, .int .i64 dt.l.a, .int .i64 dt.l.b, .int .i64 dt.l.n, .int .i64 dt.r.k, .int .i64 dt.r.a, .int .i64 dt.r.b, .int .i64 dt.r.n, .slice ca nc cc, .int .i64 da, .int .i64 db, .slice ka nk kc, .int .i64 dg, .int .i64 dc, .slice xa nx xc] 39)).alloc (.cells #[.int .i64 ek, .int .i64 en, .int .i64 et.k, .bool et.no, .int .i64 et.l.k, .int .i64 et.l.a, .int .i64 et.l.b, .int .i64 et.l.n, .int .i64 et.r.k, .int .i64 et.r.a, .int .i64 et.r.b, .int .i64 et.r.n, .slice ca2 nc2 cc2, .int .i64 ea, .int .i64 eb, .slice ka2 nk2 kc2, .int .i64 eg, .int .i64 ec, .slice xa2 nx2 xc2] 39)).heap[w.heap.size + 1]? = some (.cells #[.int .i64 ek, .int .i64 en, .int .i64 et.k, .bool et.no, .int .i64 et.l.k, .int .i64 et.l.a, .int .i64 et.l.b, .int .i64 et.l.n, .int .i64 et.r.k, .int .i64 et.r.a, .int .i64 et.r.b, .int .i64 et.r.n, .slice ca2 nc2 cc2, .int .i64 ea, .int .i64 eb, .slice ka2 nk2 kc2, .int .i64 eg, .int .i64 ec, .slice xa2 nx2 xc2] 39)) := (two w _ _).2.1
  have HB0 : Hid (Below w.heap.size w ((w.alloc (.cells #[.int .i64 dk, .int .i64 dn, .int .i64 dt.k, .bool dt.no, .int .i64 dt.l.k, .int .i64 dt.l.a, .int .i64 dt.l.b, .int .i64 dt.l.n, .int .i64 dt.r.k, .int .i64 dt.r.a, .int .i64 dt.r.b, .int .i64 dt.r.n, .slice ca nc cc, .int .i64 da, .int .i64 db, .slice ka nk kc, .int .i64 dg, .int .i64 dc, .slice xa nx xc] 39)).alloc (.cells #[.int .i64 ek, .int .i64 en, .int .i64 et.k, .bool et.no, .int .i64 et.l.k, .int .i64 et.l.a, .int .i64 et.l.b, .int .i64 et.l.n, .int .i64 et.r.k, .int .i64 et.r.a, .int .i64 et.r.b, .int .i64 et.r.n, .slice ca2 nc2 cc2, .int .i64 ea, .int .i64 eb, .slice ka2 nk2 kc2, .int .i64 eg, .int .i64 ec, .slice xa2 nx2 xc2] 39))) := (two w _ _).2.2
  go_enter Try.func5, Try.ntmps5
  go_wp2_with fail
  go_ret
  exact ⟨rfl, HB0.out⟩

set_option maxHeartbeats 4000000 in
theorem specNot3 (dk dn da db dg dc : Int) (dt : Tst) (dks : List Int) (ek en ea eb eg ec : Int) (et : Tst) (eks : List Int) (ca ka xa ca2 ka2 xa2 : Option Addr) (nc cc nk kc nx xc nc2 cc2 nk2 kc2 nx2 xc2 : Nat) (w : World)
    (hk : RawInts w (.slice ka nk kc) dks) (hk2 : RawInts w (.slice ka2 nk2 kc2) eks) (hl3 : dks.length ≤ 140737488355328) (hl4 : eks.length ≤ 140737488355328) (e0 : dk = ek) (e1 : dn = en) (e2 : dt = et) (e3 : da ≠ ea) :
    Calls Try.prog 5 #[.agg #[.int .i64 dk, .int .i64 dn, .int .i64 dt.k, .bool dt.no, .int .i64 dt.l.k, .int .i64 dt.l.a, .int .i64 dt.l.b, .int .i64 dt.l.n, .int .i64 dt.r.k, .int .i64 dt.r.a, .int .i64 dt.r.b, .int .i64 dt.r.n, .slice ca nc cc, .int .i64 da, .int .i64 db, .slice ka nk kc, .int .i64 dg, .int .i64 dc, .slice xa nx xc], .agg #[.int .i64 ek, .int .i64 en, .int .i64 et.k, .bool et.no, .int .i64 et.l.k, .int .i64 et.l.a, .int .i64 et.l.b, .int .i64 et.l.n, .int .i64 et.r.k, .int .i64 et.r.a, .int .i64 et.r.b, .int .i64 et.r.n, .slice ca2 nc2 cc2, .int .i64 ea, .int .i64 eb, .slice ka2 nk2 kc2, .int .i64 eg, .int .i64 ec, .slice xa2 nx2 xc2]] w fun r w' => r = .returned (.bool false) ∧ Below w.heap.size w w' := by
  have HK : Hid (RawInts w (.slice ka nk kc) dks) := hk
  have HK2 : Hid (RawInts w (.slice ka2 nk2 kc2) eks) := hk2
  have HL3 : Hid (dks.length ≤ 140737488355328) := hl3
  have HL4 : Hid (eks.length ≤ 140737488355328) := hl4
  clear hk hk2 hl3 hl4
  have g0 : (dk != ek) = false := by rw [e0]; simp
  have g1 : (dn != en) = false := by rw [e1]; simp
  have g2 : ∀ w : World, (binOp .neq 35 (.agg #[.int .i64 dt.k, .bool dt.no, .int .i64 dt.l.k, .int .i64 dt.l.a, .int .i64 dt.l.b, .int .i64 dt.l.n, .int .i64 dt.r.k, .int .i64 dt.r.a, .int .i64 dt.r.b, .int .i64 dt.r.n]) (.agg #[.int .i64 et.k, .bool et.no, .int .i64 et.l.k, .int .i64 et.l.a, .int .i64 et.l.b, .int .i64 et.l.n, .int .i64 et.r.k, .int .i64 et.r.a, .int .i64 et.r.b, .int .i64 et.r.n])).run Try.prog w = .ok (.bool false) w := fun w => by rw [testNeq]; rw [Tst.eqB_iff.2 e2]; rfl
  have g3 : (da != ea) = true := by simp [e3]
  clear e0 e1 e2 e3
  have HA0 : Hid (((w.alloc (.cells #[.int .i64 dk, .int .i64 dn, .int .i64 dt.k, .bool dt.no, .int .i64 dt.l.k, .int .i64 dt.l.a, .int .i64 dt.l.b, .int .i64 dt.l.n, .int .i64 dt.r.k, .int .i64 dt.r.a, .int .i64 dt.r.b, .int .i64 dt.r.n, .slice ca nc cc, .int .i64 da, .int .i64 db, .slice ka nk kc, .int .i64 dg, .int .i64 dc, .slice xa nx xc] 39)).alloc (.cells #[.int .i64 ek, .int .i64 en, .int .i64 et.k, .bool et.no, .int .i64 et.l.k, .int .i64 et.l.a, .int .i64 et.l.b, .int .i64 et.l.n, .int .i64 et.r.k, .int .i64 et.r.a, .int .i64 et.r.b, .int .i64 et.r.n, .slice ca2 nc2 cc2, .int .i64 ea, .int .i64 eb, .slice ka2 nk2 kc2, .int .i64 eg, .int .i64 ec, .slice xa2 nx2 xc2] 39)).heap[w.heap.size]? = some (.cells #[.int .i64 dk, .int .i64 dn, .int .i64 dt.k, .bool dt.no, .int .i64 dt.l.k, .int .i64 dt.l.a, .int .i64 dt.l.b, .int .i64 dt.l.n, .int .i64 dt.r.k, .int .i64 dt.r.a, .int .i64 dt.r.b, .int .i64 dt.r.n, .slice ca nc cc, .int .i64 da, .int .i64 db, .slice ka nk kc, .int .i64 dg, .int .i64 dc, .slice xa nx xc] 39)) := (two w _ _).1
  have HQ0 : Hid (((w.alloc (.cells #[.int .i64 dk, .int .i64 dn, .int .i64 dt.k, .bool dt.no, .int .i64 dt.l.k, .int .i64 dt.l.a, .int .i64 dt.l.b, .int .i64 dt.l.n, .int .i64 dt.r.k, .int .i64 dt.r.a, .int .i64 dt.r.b, .int .i64 dt.r.n, .slice ca nc cc, .int .i64 da, .int .i64 db, .slice ka nk kc, .int .i64 dg, .int .i64 dc, .slice xa nx xc] 39)).alloc (.cells #[.int .i64 ek, .int .i64 en, .int .i64 et.k, .bool et.no, .int .i64 et.l.k, .int .i64 et.l.a, .int .i64 et.l.b, .int .i64 et.l.n, .int .i64 et.r.k, .int .i64 et.r.a, .int .i64 et.r.b, .int .i64 et.r.n, .slice ca2 nc2 cc2, .int .i64 ea, .int .i64 eb, .slice ka2 nk2 kc2, .int .i64 eg, .int .i64 ec, .slice xa2 nx2 xc2] 39)).heap[w.heap.size + 1]? = some (.cells #[.int .i64 ek, .int .i64 en, .int .i64 et.k, .bool et.no, .int .i64 et.l.k, .int .i64 et.l.a, .int .i64 et.l.b, .int .i64 et.l.n, .int .i64 et.r.k, .int .i64 et.r.a, .int .i64 et.r.b, .int .i64 et.r.n, .slice ca2 nc2 cc2, .int .i64 ea, .int .i64 eb, .slice ka2 nk2 kc2, .int .i64 eg, .int .i64 ec, .slice xa2 nx2 xc2] 39)) := (two w _ _).2.1
  have HB0 : Hid (Below w.heap.size w ((w.alloc (.cells #[.int .i64 dk, .int .i64 dn, .int .i64 dt.k, .bool dt.no, .int .i64 dt.l.k, .int .i64 dt.l.a, .int .i64 dt.l.b, .int .i64 dt.l.n, .int .i64 dt.r.k, .int .i64 dt.r.a, .int .i64 dt.r.b, .int .i64 dt.r.n, .slice ca nc cc, .int .i64 da, .int .i64 db, .slice ka nk kc, .int .i64 dg, .int .i64 dc, .slice xa nx xc] 39)).alloc (.cells #[.int .i64 ek, .int .i64 en, .int .i64 et.k, .bool et.no, .int .i64 et.l.k, .int .i64 et.l.a, .int .i64 et.l.b, .int .i64 et.l.n, .int .i64 et.r.k, .int .i64 et.r.a, .int .i64 et.r.b, .int .i64 et.r.n, .slice ca2 nc2 cc2, .int .i64 ea, .int .i64 eb, .slice ka2 nk2 kc2, .int .i64 eg, .int .i64 ec, .slice xa2 nx2 xc2] 39))) := (two w _ _).2.2
  go_enter Try.func5, Try.ntmps5
  go_wp2_with fail
  go_ret
  exact ⟨rfl, HB0.out⟩

set_option maxHeartbeats 4000000 in
theorem specNot4 (dk dn da db dg dc : Int) (dt : Tst) (dks : List Int) (ek en ea eb eg ec : Int) (et : Tst) (eks : List Int) (ca ka xa ca2 ka2 xa2 : Option Addr) (nc cc nk kc nx xc nc2 cc2 nk2 kc2 nx2 xc2 : Nat) (w : World)
    (hk : RawInts w (.slice ka nk kc) dks) (hk2 : RawInts w (.slice ka2 nk2 kc2) eks) (hl3 : dks.length ≤ 140737488355328) (hl4 : eks.length ≤ 140737488355328) (e0 : dk = ek) (e1 : dn = en) (e2 : dt = et) (e3 : da = ea) (e4 : db ≠ eb) :
    Calls Try.prog 5 #[.agg #[.int .i64 dk, .int .i64 dn, .int .i64 dt.k, .bool dt.no, .int .i64 dt.l.k, .int .i64 dt.l.a, .int .i64 dt.l.b, .int .i64 dt.l.n, .int .i64 dt.r.k, .int .i64 dt.r.a, .int .i64 dt.r.b, .int .i64 dt.r.n, .slice ca nc cc, .int .i64 da, .int .i64 db, .slice ka nk kc, .int .i64 dg, .int .i64 dc, .slice xa nx xc], .agg #[.int .i64 ek, .int .i64 en, .int .i64 et.k, .bool et.no, .int .i64 et.l.k, .int .i64 et.l.a, .int .i64 et.l.b, .int .i64 et.l.n, .int .i64 et.r.k, .int .i64 et.r.a, .int .i64 et.r.b, .int .i64 et.r.n, .slice ca2 nc2 cc2, .int .i64 ea, .int .i64 eb, .slice ka2 nk2 kc2, .int .i64 eg, .int .i64 ec, .slice xa2 nx2 xc2]] w fun r w' => r = .returned (.bool false) ∧ Below w.heap.size w w' := by
  have HK : Hid (RawInts w (.slice ka nk kc) dks) := hk
  have HK2 : Hid (RawInts w (.slice ka2 nk2 kc2) eks) := hk2
  have HL3 : Hid (dks.length ≤ 140737488355328) := hl3
  have HL4 : Hid (eks.length ≤ 140737488355328) := hl4
  clear hk hk2 hl3 hl4
  have g0 : (dk != ek) = false := by rw [e0]; simp
  have g1 : (dn != en) = false := by rw [e1]; simp
  have g2 : ∀ w : World, (binOp .neq 35 (.agg #[.int .i64 dt.k, .bool dt.no, .int .i64 dt.l.k, .int .i64 dt.l.a, .int .i64 dt.l.b, .int .i64 dt.l.n, .int .i64 dt.r.k, .int .i64 dt.r.a, .int .i64 dt.r.b, .int .i64 dt.r.n]) (.agg #[.int .i64 et.k, .bool et.no, .int .i64 et.l.k, .int .i64 et.l.a, .int .i64 et.l.b, .int .i64 et.l.n, .int .i64 et.r.k, .int .i64 et.r.a, .int .i64 et.r.b, .int .i64 et.r.n])).run Try.prog w = .ok (.bool false) w := fun w => by rw [testNeq]; rw [Tst.eqB_iff.2 e2]; rfl
  have g3 : (da != ea) = false := by rw [e3]; simp
  have g4 : (db != eb) = true := by simp [e4]
  clear e0 e1 e2 e3 e4
  have HA0 : Hid (((w.alloc (.cells #[.int .i64 dk, .int .i64 dn, .int .i64 dt.k, .bool dt.no, .int .i64 dt.l.k, .int .i64 dt.l.a, .int .i64 dt.l.b, .int .i64 dt.l.n, .int .i64 dt.r.k, .int .i64 dt.r.a, .int .i64 dt.r.b, .int .i64 dt.r.n, .slice ca nc cc, .int .i64 da, .int .i64 db, .slice ka nk kc, .int .i64 dg, .int .i64 dc, .slice xa nx xc] 39)).alloc (.cells #[.int .i64 ek, .int .i64 en, .int .i64 et.k, .bool et.no, .int .i64 et.l.k, .int .i64 et.l.a, .int .i64 et.l.b, .int .i64 et.l.n, .int .i64 et.r.k, .int .i64 et.r.a, .int .i64 et.r.b, .int .i64 et.r.n, .slice ca2 nc2 cc2, .int .i64 ea, .int .i64 eb, .slice ka2 nk2 kc2, .int .i64 eg, .int .i64 ec, .slice xa2 nx2 xc2] 39)).heap[w.heap.size]? = some (.cells #[.int .i64 dk, .int .i64 dn, .int .i64 dt.k, .bool dt.no, .int .i64 dt.l.k, .int .i64 dt.l.a, .int .i64 dt.l.b, .int .i64 dt.l.n, .int .i64 dt.r.k, .int .i64 dt.r.a, .int .i64 dt.r.b, .int .i64 dt.r.n, .slice ca nc cc, .int .i64 da, .int .i64 db, .slice ka nk kc, .int .i64 dg, .int .i64 dc, .slice xa nx xc] 39)) := (two w _ _).1
  have HQ0 : Hid (((w.alloc (.cells #[.int .i64 dk, .int .i64 dn, .int .i64 dt.k, .bool dt.no, .int .i64 dt.l.k, .int .i64 dt.l.a, .int .i64 dt.l.b, .int .i64 dt.l.n, .int .i64 dt.r.k, .int .i64 dt.r.a, .int .i64 dt.r.b, .int .i64 dt.r.n, .slice ca nc cc, .int .i64 da, .int .i64 db, .slice ka nk kc, .int .i64 dg, .int .i64 dc, .slice xa nx xc] 39)).alloc (.cells #[.int .i64 ek, .int .i64 en, .int .i64 et.k, .bool et.no, .int .i64 et.l.k, .int .i64 et.l.a, .int .i64 et.l.b, .int .i64 et.l.n, .int .i64 et.r.k, .int .i64 et.r.a, .int .i64 et.r.b, .int .i64 et.r.n, .slice ca2 nc2 cc2, .int .i64 ea, .int .i64 eb, .slice ka2 nk2 kc2, .int .i64 eg, .int .i64 ec, .slice xa2 nx2 xc2] 39)).heap[w.heap.size + 1]? = some (.cells #[.int .i64 ek, .int .i64 en, .int .i64 et.k, .bool et.no, .int .i64 et.l.k, .int .i64 et.l.a, .int .i64 et.l.b, .int .i64 et.l.n, .int .i64 et.r.k, .int .i64 et.r.a, .int .i64 et.r.b, .int .i64 et.r.n, .slice ca2 nc2 cc2, .int .i64 ea, .int .i64 eb, .slice ka2 nk2 kc2, .int .i64 eg, .int .i64 ec, .slice xa2 nx2 xc2] 39)) := (two w _ _).2.1
  have HB0 : Hid (Below w.heap.size w ((w.alloc (.cells #[.int .i64 dk, .int .i64 dn, .int .i64 dt.k, .bool dt.no, .int .i64 dt.l.k, .int .i64 dt.l.a, .int .i64 dt.l.b, .int .i64 dt.l.n, .int .i64 dt.r.k, .int .i64 dt.r.a, .int .i64 dt.r.b, .int .i64 dt.r.n, .slice ca nc cc, .int .i64 da, .int .i64 db, .slice ka nk kc, .int .i64 dg, .int .i64 dc, .slice xa nx xc] 39)).alloc (.cells #[.int .i64 ek, .int .i64 en, .int .i64 et.k, .bool et.no, .int .i64 et.l.k, .int .i64 et.l.a, .int .i64 et.l.b, .int .i64 et.l.n, .int .i64 et.r.k, .int .i64 et.r.a, .int .i64 et.r.b, .int .i64 et.r.n, .slice ca2 nc2 cc2, .int .i64 ea, .int .i64 eb, .slice ka2 nk2 kc2, .int .i64 eg, .int .i64 ec, .slice xa2 nx2 xc2] 39))) := (two w _ _).2.2
  go_enter Try.func5, Try.ntmps5
  go_wp2_with fail
  go_ret
  exact ⟨rfl, HB0.out⟩

end Go.Proofs.Ytkmihnagmbdbgaa
