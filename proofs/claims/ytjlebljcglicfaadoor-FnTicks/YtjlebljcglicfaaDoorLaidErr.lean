/- What a row's list of package-level variables gives the walks: the library's error value strconv.ErrSyntax is there. -/
import Derived.Test.YtjlebljcglicfaaDoorLaidTab
import Derived.Test.YtjlebljcglicfaaDoorParse2
import Derived.Stop.LaidErr
namespace Go.Proofs.YtjlebljcglicfaaDoor.Num
open Go.RowKit Base

theorem gEsType : (Tryd.prog.globals[0]?).map (·.type) = some 42 := by kernel_rfl

theorem cellsErr : Tryd.prog.cellsOf 77 = 1 := by kernel_rfl

theorem cellsStr : Tryd.prog.cellsOf 9 = 1 := by kernel_rfl

theorem starErr : "*" ++ "errors.errorString" = "*errors.errorString" := by decide

theorem rowErr (u : TypeId) (h : Tryd.prog.typeName? 3 u = some "*errors.errorString") : u = 75 :=
  typeName_ptr_named (nm := "errors.errorString") (by rw [starErr]; kernel_rfl) (by kernel_rfl) (by decide) u (by rw [starErr]; exact h)

theorem esPlain : ([(("strconv.ErrSyntax", Rows.laid_strconv_ErrSyntax) : String × DataW Unit)].all fun x => x.2.handleName?.isNone) = true := by kernel_rfl

theorem es_of {l : List (String × DataW Unit)} {W : World} (h : laidMetH Tryd.prog l W)
    (hl : (l.filter fun x => x.1 == "strconv.ErrSyntax") = [("strconv.ErrSyntax", Rows.laid_strconv_ErrSyntax)]) : Es W := by
  have h1 := h.filter fun x => x.1 == "strconv.ErrSyntax"
  rw [hl, MakeChecks.laidMetH_plain _ _ _ esPlain] at h1
  unfold Rows.laid_strconv_ErrSyntax at h1
  obtain ⟨a0, s0, hv0, -, -, -⟩ := laid_sentinel h1 gEs gEsType Tryd.underlying42 rowErr Tryd.underlying75 Tryd.underlying77 rfl rfl Tryd.underlying9 cellsErr cellsStr
  exact ⟨_, _, hv0⟩
end Go.Proofs.YtjlebljcglicfaaDoor.Num
