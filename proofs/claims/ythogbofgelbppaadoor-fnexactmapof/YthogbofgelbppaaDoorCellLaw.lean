/-
  The contracts of laws.toCell and laws.toTest: what they answer is what they were handed.
-/
import Derived.Test.YthogbofgelbppaaDoorCellBox
namespace Go.Proofs.YthogbofgelbppaaDoor
open Go.RowKit

set_option maxRecDepth 100000 in
set_option maxHeartbeats 1000000 in
theorem toCell_exact (k a b n : Int) (w : World) :
    Calls Tryd.prog 30 #[.agg #[.int .i64 k, .int .i64 a, .int .i64 b, .int .i64 n]] w fun e w' => e = .returned (.agg #[.int .i64 k, .int .i64 a, .int .i64 b, .int .i64 n]) ∧ w' = ((w.alloc (.cells #[.int .i64 k, .int .i64 a, .int .i64 b, .int .i64 n] 24)).alloc (.cells #[.int .i64 k, .int .i64 a, .int .i64 b, .int .i64 n] 32)).alloc (.cells #[.int .i64 k, .int .i64 a, .int .i64 b, .int .i64 n] 32) := by
  go_enter Tryd.func30, Tryd.ntmps30
  go_wp2
  exact bodyPost_ret (v := .agg #[.int .i64 k, .int .i64 a, .int .i64 b, .int .i64 n]) (by simp [results, Tryd.results30, go_sem]) rfl ⟨rfl, rfl⟩
theorem toCell_any (k a b n : Int) (w : World) :
    Calls Tryd.prog 30 #[.agg #[.int .i64 k, .int .i64 a, .int .i64 b, .int .i64 n]] w fun e w' => e = .returned (.agg #[.int .i64 k, .int .i64 a, .int .i64 b, .int .i64 n]) ∧ Below w.heap.size w w' := by
  refine (toCell_exact k a b n w).mono fun e w' ⟨he, hw⟩ => ⟨he, ?_⟩
  subst hw
  exact bel_then (bel_then (bel_alloc _) (bel_alloc _)) (bel_alloc _)

set_option maxRecDepth 100000 in
set_option maxHeartbeats 1000000 in
theorem toTest_any (t : Tst) (w : World) :
    Calls Tryd.prog 9 #[.agg #[.int .i64 t.k, .bool t.no, .int .i64 t.l.k, .int .i64 t.l.a, .int .i64 t.l.b, .int .i64 t.l.n, .int .i64 t.r.k, .int .i64 t.r.a, .int .i64 t.r.b, .int .i64 t.r.n]] w fun e w' => e = .returned (.agg #[.int .i64 t.k, .bool t.no, .int .i64 t.l.k, .int .i64 t.l.a, .int .i64 t.l.b, .int .i64 t.l.n, .int .i64 t.r.k, .int .i64 t.r.a, .int .i64 t.r.b, .int .i64 t.r.n]) ∧ Below w.heap.size w w' := by
  obtain ⟨k, no, l, r⟩ := t
  simp only
  go_enter Tryd.func9, Tryd.ntmps9
  go_wp2_with fail
  refine (toCell_exact _ _ _ _ _).mono ?_
  rintro e w1 ⟨rfl, rfl⟩
  go_wp2_with fail
  refine (toCell_exact _ _ _ _ _).mono ?_
  rintro e w1 ⟨rfl, rfl⟩
  go_wp2
  refine bodyPost_ret (v := .agg #[.int .i64 k, .bool no, .int .i64 l.k, .int .i64 l.a, .int .i64 l.b, .int .i64 l.n, .int .i64 r.k, .int .i64 r.a, .int .i64 r.b, .int .i64 r.n]) (by simp [results, Tryd.results9, go_sem]) rfl ⟨rfl, ?_⟩
  repeat (first | exact bel_alloc _ | refine bel_then ?_ (bel_alloc _))

end Go.Proofs.YthogbofgelbppaaDoor
