/- The laws' mark texts: what markText returns. -/
import Derived.Test.YtahfmgjchjjlmaaGreatDoorNum1
namespace Go.Proofs.YtahfmgjchjjlmaaGreatDoor.Num
open Go.RowKit Base

def mtx (n : Nat) : ByteArray := ⟨(109 :: Lib.decDigits n).toArray⟩


end Go.Proofs.YtahfmgjchjjlmaaGreatDoor.Num
