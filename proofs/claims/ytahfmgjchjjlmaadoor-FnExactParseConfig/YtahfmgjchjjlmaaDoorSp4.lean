/- The reference's ParseConfig at every text. -/
import Derived.Test.YtahfmgjchjjlmaaDoorSp2
import Derived.Test.YtahfmgjchjjlmaaDoorSp3
namespace Go.Proofs.YtahfmgjchjjlmaaDoor.Fm
open Go.RowKit Go.Deep Base Cf Ct Num Parts

theorem specParse_any (s : ByteArray) (w : World) (hs : s.size ≤ 1048576) : Calls Tryd.prog 8 #[.string s] w (SpEnd s.data.toList w) := by
  by_cases h : 1000 < s.size
  · exact specParse_long s w hs h
  · by_cases hE : (parts 10 s.data.toList).getLast? = some []
    · exact specParse_cut s w (by omega) hE
    · exact specParse_whole s w (by omega) hE
end Go.Proofs.YtahfmgjchjjlmaaDoor.Fm
