/-
  How strconv.Atoi ends, as its callers want it.
-/
import Derived.Test.YtnkhgppfnkglfaaGreatDoorBase
import Derived.Lib.AtoiAll
namespace Go.Proofs.YtnkhgppfnkglfaaGreatDoor
open Go.RowKit

/-- How Atoi ends: a number that is read, or an error. -/
def AtoiEnd (l : List UInt8) (e : Ending) : Prop :=
  (∃ n : Int, Lib.atoiAll l = .ok n ∧ e = .returned (.tuple #[.int .i64 n, .nilIface])) ∨
  ((∀ n : Int, Lib.atoiAll l ≠ .ok n) ∧ ∃ (n : Int) (t : TypeId) (p : Value), e = .returned (.tuple #[.int .i64 n, .iface t p]))

end Go.Proofs.YtnkhgppfnkglfaaGreatDoor
