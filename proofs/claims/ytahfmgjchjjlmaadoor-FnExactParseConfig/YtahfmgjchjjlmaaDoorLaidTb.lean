/- What a row's list of package-level variables gives the walks: the library's table of powers of ten. -/
import Derived.Test.YtahfmgjchjjlmaaDoorRows
import Derived.Test.YtahfmgjchjjlmaaDoorTab1
import Derived.Lib.LaidTab
import Derived.LaidSub
import Derived.MakeChecks
namespace Go.Proofs.YtahfmgjchjjlmaaDoor.Num
open Go.RowKit Base

theorem gTabType : (Tryd.prog.globals[3]?).map (·.type) = some 106 := by kernel_rfl

theorem cellsTab : Tryd.prog.cellsOf 106 = 20 := by kernel_rfl

theorem cellsU64 : Tryd.prog.cellsOf 96 = 1 := by kernel_rfl

theorem tabPlain : ([(("internal/strconv.uint64pow10", Rows.laid_internal_strconv_uint64pow10) : String × DataW Unit)].all fun x => x.2.handleName?.isNone) = true := by kernel_rfl

theorem tabData : (Rows.laid_internal_strconv_uint64pow10 : DataW Unit) = Lib.tabData .u64 Lib.pow10Tab := by kernel_rfl

theorem tab_of {l : List (String × DataW Unit)} {W : World} (h : laidMetH Tryd.prog l W)
    (hl : (l.filter fun x => x.1 == "internal/strconv.uint64pow10") = [("internal/strconv.uint64pow10", Rows.laid_internal_strconv_uint64pow10)]) : Tab W := by
  have h1 := h.filter fun x => x.1 == "internal/strconv.uint64pow10"
  rw [hl, MakeChecks.laidMetH_plain _ _ _ tabPlain, tabData] at h1
  exact Lib.tabIs_of_head (rest := []) gTab gTabType Tryd.underlying106 Tryd.underlying96 cellsU64 cellsTab h1
end Go.Proofs.YtahfmgjchjjlmaaDoor.Num
