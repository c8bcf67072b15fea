/- What a row's list of package-level variables gives the walks: the library's table of powers of ten. -/
import Derived.Test.YtahfmgjchjjlmaaGreatDoorRows
import Derived.Test.YtahfmgjchjjlmaaGreatDoorTab1
import Derived.Lib.LaidTab
import Derived.LaidSub
import Derived.MakeChecks
namespace Go.Proofs.YtahfmgjchjjlmaaGreatDoor.Num
open Go.RowKit Base

theorem gTabType : (Tryz.prog.globals[3]?).map (·.type) = some 114 := by kernel_rfl

theorem cellsTab : Tryz.prog.cellsOf 114 = 20 := by kernel_rfl

theorem cellsU64 : Tryz.prog.cellsOf 103 = 1 := by kernel_rfl

theorem tabPlain : ([(("internal/strconv.uint64pow10", Rows.laid_internal_strconv_uint64pow10) : String × DataW Unit)].all fun x => x.2.handleName?.isNone) = true := by kernel_rfl

theorem tabData : (Rows.laid_internal_strconv_uint64pow10 : DataW Unit) = Lib.tabData .u64 Lib.pow10Tab := by kernel_rfl

theorem tab_of {l : List (String × DataW Unit)} {W : World} (h : laidMetH Tryz.prog l W)
    (hl : (l.filter fun x => x.1 == "internal/strconv.uint64pow10") = [("internal/strconv.uint64pow10", Rows.laid_internal_strconv_uint64pow10)]) : Tab W := by
  have h1 := h.filter fun x => x.1 == "internal/strconv.uint64pow10"
  rw [hl, MakeChecks.laidMetH_plain _ _ _ tabPlain, tabData] at h1
  exact Lib.tabIs_of_head (rest := []) gTab gTabType Tryz.underlying114 Tryz.underlying103 cellsU64 cellsTab h1
end Go.Proofs.YtahfmgjchjjlmaaGreatDoor.Num
