/- The laws' mark texts: what markText returns. -/
import Derived.Test.YtahfmgjchjjlmaaDoorNum1
namespace Go.Proofs.YtahfmgjchjjlmaaDoor.Num
open Go.RowKit Base

def mtx (n : Nat) : ByteArray := ⟨(109 :: Lib.decDigits n).toArray⟩


end Go.Proofs.YtahfmgjchjjlmaaDoor.Num
