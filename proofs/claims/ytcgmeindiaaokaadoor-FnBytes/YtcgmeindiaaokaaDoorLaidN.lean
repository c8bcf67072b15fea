/- What a row's list of package-level variables gives the walks of chapter 12: the program's own error values. -/
import Derived.Test.YtcgmeindiaaokaaDoorRows
import Derived.Test.YtcgmeindiaaokaaDoorBdG
import Derived.LaidSub
import Derived.MakeChecks
import Derived.Stop.LaidErr
namespace Go.Proofs.YtcgmeindiaaokaaDoor.By
open Go.RowKit Base

theorem gNone : Tryd.prog.globalNamed "loop.example/g00722/impl.errNone" = some 2 := by kernel_rfl
theorem gNoneType : (Tryd.prog.globals[2]?).map (·.type) = some 48 := by kernel_rfl
theorem cellsErr : Tryd.prog.cellsOf 124 = 1 := by kernel_rfl
theorem cellsStr : Tryd.prog.cellsOf 9 = 1 := by kernel_rfl
theorem starErr : "*" ++ "errors.errorString" = "*errors.errorString" := by decide
theorem rowErr (u : TypeId) (h : Tryd.prog.typeName? 3 u = some "*errors.errorString") : u = 99 :=
  typeName_ptr_named (nm := "errors.errorString") (by rw [starErr]; kernel_rfl) (by kernel_rfl) (by decide) u (by rw [starErr]; exact h)
theorem nonePlain : ([(("loop.example/g00722/impl.errNone", Rows.laid_loop_example_g00722_impl_errNone) : String × DataW Unit)].all fun x => x.2.handleName?.isNone) = true := by kernel_rfl

theorem er_of {l : List (String × DataW Unit)} {W : World} (h : laidMetH Tryd.prog l W)
    (hl : (l.filter fun x => x.1 == "loop.example/g00722/impl.errNone") = [("loop.example/g00722/impl.errNone", Rows.laid_loop_example_g00722_impl_errNone)]) : ∃ p, ErN p W := by
  have h1 := h.filter fun x => x.1 == "loop.example/g00722/impl.errNone"
  rw [hl, MakeChecks.laidMetH_plain _ _ _ nonePlain] at h1
  unfold Rows.laid_loop_example_g00722_impl_errNone at h1
  obtain ⟨a0, s0, hv0, -, -, -⟩ := laid_sentinel h1 gNone gNoneType Tryd.underlying48 rowErr Tryd.underlying99 Tryd.underlying124 rfl rfl Tryd.underlying9 cellsErr cellsStr
  refine ⟨a0, ?_⟩
  have e := World.var?_cell gNone hv0 0
  simpa [ErN] using e
end Go.Proofs.YtcgmeindiaaokaaDoor.By
