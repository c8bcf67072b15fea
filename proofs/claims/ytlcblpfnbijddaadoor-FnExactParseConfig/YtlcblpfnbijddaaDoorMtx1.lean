/- The laws' mark texts: what markText returns. -/
import Derived.Test.YtlcblpfnbijddaaDoorNum1
namespace Go.Proofs.YtlcblpfnbijddaaDoor.Num
open Go.RowKit Base

def mtx (n : Nat) : ByteArray := ⟨(109 :: Lib.decDigits n).toArray⟩


end Go.Proofs.YtlcblpfnbijddaaDoor.Num
