/- The laws of ConfigOk and DefaultConfig walked; what is known of a configuration that came in. -/
import Derived.Test.YtlcblpfnbijddaaGreatDoorCfg1
import Derived.Test.YtlcblpfnbijddaaGreatDoorCfg2
import Derived.Deep.Slices
import Derived.Deep.Fields
import Derived.ChangeSame
import Derived.OpenShut
namespace Go.Proofs.YtlcblpfnbijddaaGreatDoor.Cf
open Go.RowKit Go.Deep Go.ChangeShapes Go.WideShapes Base


end Go.Proofs.YtlcblpfnbijddaaGreatDoor.Cf
