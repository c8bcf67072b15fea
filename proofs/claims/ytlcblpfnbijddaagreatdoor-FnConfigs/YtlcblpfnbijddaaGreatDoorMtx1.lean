/- The laws' mark texts: what markText returns. -/
import Derived.Test.YtlcblpfnbijddaaGreatDoorNum1
namespace Go.Proofs.YtlcblpfnbijddaaGreatDoor.Num
open Go.RowKit Base

def mtx (n : Nat) : ByteArray := ⟨(109 :: Lib.decDigits n).toArray⟩


end Go.Proofs.YtlcblpfnbijddaaGreatDoor.Num
