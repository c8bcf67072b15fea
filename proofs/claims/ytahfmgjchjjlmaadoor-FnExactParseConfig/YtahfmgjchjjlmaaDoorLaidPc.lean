/- What a row's list of package-level variables gives the walk of ParseConfig. -/
import Derived.Test.YtahfmgjchjjlmaaDoorLaidTb
import Derived.Test.YtahfmgjchjjlmaaDoorPc1
import Derived.Stop.LaidErr
namespace Go.Proofs.YtahfmgjchjjlmaaDoor.Fm
open Go.RowKit Base Num

theorem gErrType0 : (Tryd.prog.globals[7]?).map (·.type) = some 50 := by kernel_rfl
theorem gErrType1 : (Tryd.prog.globals[8]?).map (·.type) = some 50 := by kernel_rfl
theorem gErrType2 : (Tryd.prog.globals[0]?).map (·.type) = some 50 := by kernel_rfl
theorem gErrType3 : (Tryd.prog.globals[1]?).map (·.type) = some 50 := by kernel_rfl

theorem cellsErr : Tryd.prog.cellsOf 135 = 1 := by kernel_rfl

theorem cellsStr : Tryd.prog.cellsOf 9 = 1 := by kernel_rfl

theorem starErr : "*" ++ "errors.errorString" = "*errors.errorString" := by decide

theorem rowErr (u : TypeId) (h : Tryd.prog.typeName? 3 u = some "*errors.errorString") : u = 133 :=
  typeName_ptr_named (nm := "errors.errorString") (by rw [starErr]; kernel_rfl) (by kernel_rfl) (by decide) u (by rw [starErr]; exact h)

theorem plain0 : ([(("strconv.ErrSyntax", Rows.laid_strconv_ErrSyntax) : String × DataW Unit)].all fun x => x.2.handleName?.isNone) = true := by kernel_rfl
theorem plain1 : ([(("strconv.ErrRange", Rows.laid_strconv_ErrRange) : String × DataW Unit)].all fun x => x.2.handleName?.isNone) = true := by kernel_rfl
theorem plain2 : ([(("loop.example/g00722/impl.errConfigLong", Rows.laid_loop_example_g00722_impl_errConfigLong) : String × DataW Unit)].all fun x => x.2.handleName?.isNone) = true := by kernel_rfl
theorem plain3 : ([(("loop.example/g00722/impl.errConfigInvalid", Rows.laid_loop_example_g00722_impl_errConfigInvalid) : String × DataW Unit)].all fun x => x.2.handleName?.isNone) = true := by kernel_rfl

theorem es_of {l : List (String × DataW Unit)} {W : World} (h : laidMetH Tryd.prog l W)
    (hl : (l.filter fun x => x.1 == "strconv.ErrSyntax") = [("strconv.ErrSyntax", Rows.laid_strconv_ErrSyntax)]) : Evar W "strconv.ErrSyntax" := by
  have h1 := h.filter fun x => x.1 == "strconv.ErrSyntax"
  rw [hl, MakeChecks.laidMetH_plain _ _ _ plain0] at h1
  unfold Rows.laid_strconv_ErrSyntax at h1
  obtain ⟨a0, s0, hv0, -, -, -⟩ := laid_sentinel h1 gEs gErrType0 Tryd.underlying50 rowErr Tryd.underlying133 Tryd.underlying135 rfl rfl Tryd.underlying9 cellsErr cellsStr
  exact ⟨_, _, hv0⟩

theorem er_of {l : List (String × DataW Unit)} {W : World} (h : laidMetH Tryd.prog l W)
    (hl : (l.filter fun x => x.1 == "strconv.ErrRange") = [("strconv.ErrRange", Rows.laid_strconv_ErrRange)]) : Evar W "strconv.ErrRange" := by
  have h1 := h.filter fun x => x.1 == "strconv.ErrRange"
  rw [hl, MakeChecks.laidMetH_plain _ _ _ plain1] at h1
  unfold Rows.laid_strconv_ErrRange at h1
  obtain ⟨a0, s0, hv0, -, -, -⟩ := laid_sentinel h1 gEr gErrType1 Tryd.underlying50 rowErr Tryd.underlying133 Tryd.underlying135 rfl rfl Tryd.underlying9 cellsErr cellsStr
  exact ⟨_, _, hv0⟩

theorem el_of {l : List (String × DataW Unit)} {W : World} (h : laidMetH Tryd.prog l W)
    (hl : (l.filter fun x => x.1 == "loop.example/g00722/impl.errConfigLong") = [("loop.example/g00722/impl.errConfigLong", Rows.laid_loop_example_g00722_impl_errConfigLong)]) : Evp W "loop.example/g00722/impl.errConfigLong" := by
  have h1 := h.filter fun x => x.1 == "loop.example/g00722/impl.errConfigLong"
  rw [hl, MakeChecks.laidMetH_plain _ _ _ plain2] at h1
  unfold Rows.laid_loop_example_g00722_impl_errConfigLong at h1
  obtain ⟨a0, s0, hv0, -, -, -⟩ := laid_sentinel h1 gLong gErrType2 Tryd.underlying50 rowErr Tryd.underlying133 Tryd.underlying135 rfl rfl Tryd.underlying9 cellsErr cellsStr
  exact ⟨_, hv0⟩

theorem ei_of {l : List (String × DataW Unit)} {W : World} (h : laidMetH Tryd.prog l W)
    (hl : (l.filter fun x => x.1 == "loop.example/g00722/impl.errConfigInvalid") = [("loop.example/g00722/impl.errConfigInvalid", Rows.laid_loop_example_g00722_impl_errConfigInvalid)]) : Evp W "loop.example/g00722/impl.errConfigInvalid" := by
  have h1 := h.filter fun x => x.1 == "loop.example/g00722/impl.errConfigInvalid"
  rw [hl, MakeChecks.laidMetH_plain _ _ _ plain3] at h1
  unfold Rows.laid_loop_example_g00722_impl_errConfigInvalid at h1
  obtain ⟨a0, s0, hv0, -, -, -⟩ := laid_sentinel h1 gInv gErrType3 Tryd.underlying50 rowErr Tryd.underlying133 Tryd.underlying135 rfl rfl Tryd.underlying9 cellsErr cellsStr
  exact ⟨_, hv0⟩

theorem gEt : Tryd.prog.globalNamed "errors.errorType" = some 2 := by kernel_rfl
theorem rtEt : (Tryd.prog.cutTypes.find? (·.1 == "internal/reflectlite.rtype")).map (·.2) = some 82 := by kernel_rfl
theorem oneEt : ((List.range 163).filter fun t => Tryd.prog.rowNamed t [101, 114, 114, 111, 114]) = [50] := by kernel_rfl
theorem sizeEt : Tryd.prog.types.size = 163 := by kernel_rfl
theorem handEt : typeHandle Tryd.prog 50 = .pointer (some ⟨9, 50, none⟩) := by kernel_rfl

theorem et_of {l : List (String × DataW Unit)} {W : World} (h : laidMetH Tryd.prog l W)
    (hl : (l.filter fun x => x.1 == "errors.errorType") = [("errors.errorType", Rows.laid_errors_errorType)]) : As.Et W := by
  have h1 := h.filter fun x => x.1 == "errors.errorType"
  rw [hl] at h1
  obtain ⟨name, u, ty, e1, e2, e3, e4, e5⟩ := h1.2 _ (List.mem_singleton.2 rfl)
  have en : name = [101, 114, 114, 111, 114] := (Option.some.inj e1).symm
  subst en
  obtain rfl := Option.some.inj (rtEt.symm.trans e2)
  have hm : ty ∈ (List.range 163).filter fun t => Tryd.prog.rowNamed t [101, 114, 114, 111, 114] := List.mem_filter.2 ⟨List.mem_range.2 (by rw [← sizeEt]; exact e3), e4⟩
  rw [oneEt] at hm
  obtain rfl := List.mem_singleton.1 hm
  rw [handEt] at e5
  unfold As.Et
  simpa using World.var?_cell gEt e5 0

theorem vs_of {l : List (String × DataW Unit)} {W : World} (h : laidMetH Tryd.prog l W)
    (h0 : (l.filter fun x => x.1 == "loop.example/g00722/impl.errConfigLong") = [("loop.example/g00722/impl.errConfigLong", Rows.laid_loop_example_g00722_impl_errConfigLong)])
    (h1 : (l.filter fun x => x.1 == "loop.example/g00722/impl.errConfigInvalid") = [("loop.example/g00722/impl.errConfigInvalid", Rows.laid_loop_example_g00722_impl_errConfigInvalid)])
    (h2 : (l.filter fun x => x.1 == "internal/strconv.uint64pow10") = [("internal/strconv.uint64pow10", Rows.laid_internal_strconv_uint64pow10)])
    (h3 : (l.filter fun x => x.1 == "strconv.ErrSyntax") = [("strconv.ErrSyntax", Rows.laid_strconv_ErrSyntax)])
    (h4 : (l.filter fun x => x.1 == "strconv.ErrRange") = [("strconv.ErrRange", Rows.laid_strconv_ErrRange)])
    (h5 : (l.filter fun x => x.1 == "errors.errorType") = [("errors.errorType", Rows.laid_errors_errorType)]) : Vs W :=
  ⟨el_of h h0, ei_of h h1, tab_of h h2, ⟨es_of h h3, er_of h h4⟩, et_of h h5⟩
end Go.Proofs.YtahfmgjchjjlmaaDoor.Fm
