/- The laws of ConfigOk and DefaultConfig walked; what is known of a configuration that came in. -/
import Derived.Test.YtahfmgjchjjlmaaGreatDoorCfg1
import Derived.Test.YtahfmgjchjjlmaaGreatDoorCfg2
import Derived.Deep.Slices
import Derived.Deep.Fields
import Derived.ChangeSame
import Derived.OpenShut
namespace Go.Proofs.YtahfmgjchjjlmaaGreatDoor.Cf
open Go.RowKit Go.Deep Go.ChangeShapes Go.WideShapes Base


end Go.Proofs.YtahfmgjchjjlmaaGreatDoor.Cf
