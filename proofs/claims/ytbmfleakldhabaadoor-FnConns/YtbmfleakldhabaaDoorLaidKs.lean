/- What a row's list of package-level variables gives the walk of StepConn: the program's own error value. -/
import Derived.Test.YtbmfleakldhabaaDoorRows
import Derived.Test.YtbmfleakldhabaaDoorKn6
import Derived.LaidSub
import Derived.MakeChecks
import Derived.Stop.LaidErr
namespace Go.Proofs.YtbmfleakldhabaaDoor.Kn
open Go.RowKit Base

theorem gStep : Tryd.prog.globalNamed "loop.example/g00722/impl.errStepRefused" = some 1 := by kernel_rfl

theorem gStepType : (Tryd.prog.globals[1]?).map (·.type) = some 88 := by kernel_rfl

theorem cellsErr : Tryd.prog.cellsOf 132 = 1 := by kernel_rfl

theorem cellsStr : Tryd.prog.cellsOf 9 = 1 := by kernel_rfl

theorem starErr : "*" ++ "errors.errorString" = "*errors.errorString" := by decide

theorem rowErr (u : TypeId) (h : Tryd.prog.typeName? 3 u = some "*errors.errorString") : u = 118 :=
  typeName_ptr_named (nm := "errors.errorString") (by rw [starErr]; kernel_rfl) (by kernel_rfl) (by decide) u (by rw [starErr]; exact h)

theorem stepPlain : ([(("loop.example/g00722/impl.errStepRefused", Rows.laid_loop_example_g00722_impl_errStepRefused) : String × DataW Unit)].all fun x => x.2.handleName?.isNone) = true := by kernel_rfl

theorem er_of {l : List (String × DataW Unit)} {W : World} (h : laidMetH Tryd.prog l W)
    (hl : (l.filter fun x => x.1 == "loop.example/g00722/impl.errStepRefused") = [("loop.example/g00722/impl.errStepRefused", Rows.laid_loop_example_g00722_impl_errStepRefused)]) : ∃ p, Er p W := by
  have h1 := h.filter fun x => x.1 == "loop.example/g00722/impl.errStepRefused"
  rw [hl, MakeChecks.laidMetH_plain _ _ _ stepPlain] at h1
  unfold Rows.laid_loop_example_g00722_impl_errStepRefused at h1
  obtain ⟨a0, s0, hv0, -, -, -⟩ := laid_sentinel h1 gStep gStepType Tryd.underlying88 rowErr Tryd.underlying118 Tryd.underlying132 rfl rfl Tryd.underlying9 cellsErr cellsStr
  refine ⟨a0, ?_⟩
  have e := World.var?_cell gStep hv0 0
  simpa [Er] using e
end Go.Proofs.YtbmfleakldhabaaDoor.Kn
