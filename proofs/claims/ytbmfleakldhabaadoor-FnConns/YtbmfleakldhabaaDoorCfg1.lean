/- What the reference's ConfigOk answers. -/
import Derived.Test.YtbmfleakldhabaaDoorCfg0
namespace Go.Proofs.YtbmfleakldhabaaDoor.Cf
open Go.RowKit Base


end Go.Proofs.YtbmfleakldhabaaDoor.Cf
