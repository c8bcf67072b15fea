/- What a row's list of package-level variables gives: that a row ends, as the program's own error. -/
import Derived.Test.YtcgmeindiaaokaaDoorLaidN
import Derived.Test.YtcgmeindiaaokaaDoorBdV
namespace Go.Proofs.YtcgmeindiaaokaaDoor.By
open Go.RowKit Base

theorem gEnd : Tryd.prog.globalNamed "loop.example/g00722/impl.errAtEnd" = some 0 := by kernel_rfl
theorem gEndType : (Tryd.prog.globals[0]?).map (·.type) = some 48 := by kernel_rfl
theorem endPlain : ([(("loop.example/g00722/impl.errAtEnd", Rows.laid_loop_example_g00722_impl_errAtEnd) : String × DataW Unit)].all fun x => x.2.handleName?.isNone) = true := by kernel_rfl

theorem ea_of {l : List (String × DataW Unit)} {W : World} (h : laidMetH Tryd.prog l W)
    (hl : (l.filter fun x => x.1 == "loop.example/g00722/impl.errAtEnd") = [("loop.example/g00722/impl.errAtEnd", Rows.laid_loop_example_g00722_impl_errAtEnd)]) : ∃ p, ErA p W := by
  have h1 := h.filter fun x => x.1 == "loop.example/g00722/impl.errAtEnd"
  rw [hl, MakeChecks.laidMetH_plain _ _ _ endPlain] at h1
  unfold Rows.laid_loop_example_g00722_impl_errAtEnd at h1
  obtain ⟨a0, s0, hv0, -, -, -⟩ := laid_sentinel h1 gEnd gEndType Tryd.underlying48 rowErr Tryd.underlying99 Tryd.underlying124 rfl rfl Tryd.underlying9 cellsErr cellsStr
  refine ⟨a0, ?_⟩
  have e := World.var?_cell gEnd hv0 0
  simpa [ErA] using e
end Go.Proofs.YtcgmeindiaaokaaDoor.By
