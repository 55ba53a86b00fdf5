/- The texts R7, joined. -/
import Derived.Test.YtiplgdkpnhamaaaGreatDoorE02
import Derived.Deep.RegionWith
import Derived.Deep.DeepCutAuto
namespace Go.Proofs.YtiplgdkpnhamaaaGreatDoor
open Go.RowKit
end Go.Proofs.YtiplgdkpnhamaaaGreatDoor
