/-
  From the condition that the error of chapter 3 is laid to where it lies.
-/
import Derived.Test.YtflbdfpgaeeleaaGreatDoorIs
import Derived.Stop.LaidErr
namespace Go.Proofs.YtflbdfpgaeeleaaGreatDoor
open Go.RowKit

def HasSent (w : World) : Prop := ∃ p, Sent w p
theorem starError : "*" ++ "errors.errorString" = "*errors.errorString" := by decide
theorem sentType (u : TypeId) (h : Tryz.prog.typeName? 3 u = some "*errors.errorString") : u = 184 :=
  typeName_ptr_named (nm := "errors.errorString") (by rw [starError]; kernel_rfl) (by kernel_rfl) (by decide) u (by rw [starError]; exact h)
theorem sent_of_laid {W : World} {r : List (String × DataW Unit)} (h : laidMet Tryz.prog (("loop.example/milldam/impl.errNotReckoned", Rows.laid_loop_example_milldam_impl_errNotReckoned) :: r) W) : HasSent W := by
  have hg : Tryz.prog.globalNamed "loop.example/milldam/impl.errNotReckoned" = some 0 := by kernel_rfl
  obtain ⟨a, s, hv, _⟩ := laid_sentinel h hg (by kernel_rfl) Tryz.underlying93 sentType Tryz.underlying184 Tryz.underlying207 rfl rfl Tryz.underlying9 (by kernel_rfl) (by kernel_rfl)
  have hc := World.var?_cell hg hv 0
  exact ⟨a, lt_of_cell hc, hc⟩

end Go.Proofs.YtflbdfpgaeeleaaGreatDoor
