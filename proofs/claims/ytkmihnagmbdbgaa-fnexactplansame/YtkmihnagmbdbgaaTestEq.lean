/-
  Two tests held against each other, as the program's own == does it.
-/
import Derived.Test.YtkmihnagmbdbgaaCellMath
namespace Go.Proofs.Ytkmihnagmbdbgaa
set_option maxRecDepth 100000
open Go.RowKit

def Cel.eqB (c d : Cel) : Bool := c.k == d.k && (c.a == d.a && (c.b == d.b && c.n == d.n))
def Tst.eqB (t u : Tst) : Bool := t.k == u.k && (t.no == u.no && (t.l.eqB u.l && t.r.eqB u.r))
theorem Cel.eqB_iff {c d : Cel} : c.eqB d = true ↔ c = d := by
  obtain ⟨k, a, b, n⟩ := c
  obtain ⟨k', a', b', n'⟩ := d
  simp [Cel.eqB]
theorem Tst.eqB_iff {t u : Tst} : t.eqB u = true ↔ t = u := by
  obtain ⟨k, no, l, r⟩ := t
  obtain ⟨k', no', l', r'⟩ := u
  simp [Tst.eqB, Cel.eqB_iff]

theorem cellIn (d : Nat) (c e : Cel) (w : World) :
    (Op.equalIn (d + 2) 33 (.agg #[.int .i64 c.k, .int .i64 c.a, .int .i64 c.b, .int .i64 c.n]) (.agg #[.int .i64 e.k, .int .i64 e.a, .int .i64 e.b, .int .i64 e.n])).run Try.prog w = .ok (c.eqB e) w := by
  have hs : Try.prog.stoodInHeld 33 = false := by kernel_rfl
  rw [run_equalIn_agg (P := Try.prog) w _ _ _ _ (by kernel_rfl) hs]
  simp only [Program.fieldsOf, Try.underlying33]
  unfold Cel.eqB
  by_cases h1 : c.k = e.k <;> by_cases h2 : c.a = e.a <;> by_cases h3 : c.b = e.b <;> by_cases h4 : c.n = e.n <;> simp [go_sem, h1, h2, h3, h4, Try.underlying3]

set_option maxHeartbeats 1000000 in
theorem testEq (t u : Tst) (w : World) :
    (binOp .eql 35 (.agg #[.int .i64 t.k, .bool t.no, .int .i64 t.l.k, .int .i64 t.l.a, .int .i64 t.l.b, .int .i64 t.l.n, .int .i64 t.r.k, .int .i64 t.r.a, .int .i64 t.r.b, .int .i64 t.r.n]) (.agg #[.int .i64 u.k, .bool u.no, .int .i64 u.l.k, .int .i64 u.l.a, .int .i64 u.l.b, .int .i64 u.l.n, .int .i64 u.r.k, .int .i64 u.r.a, .int .i64 u.r.b, .int .i64 u.r.n])).run Try.prog w = .ok (.bool (t.eqB u)) w := by
  have hs : Try.prog.stoodInHeld 35 = false := by kernel_rfl
  have hl := fun w => cellIn 9997 t.l u.l w
  have hr := fun w => cellIn 9997 t.r u.r w
  rw [run_eql_struct, run_equalIn_agg (P := Try.prog) w _ _ _ _ (by kernel_rfl) hs]
  simp only [Program.fieldsOf, Try.underlying35]
  unfold Tst.eqB
  by_cases h1 : t.k = u.k <;> by_cases h2 : t.no = u.no <;> cases h3 : t.l.eqB u.l <;> cases h4 : t.r.eqB u.r <;> simp [go_sem, h1, h2, h3, h4, hl, hr, Try.underlying3, Try.underlying4]

end Go.Proofs.Ytkmihnagmbdbgaa
