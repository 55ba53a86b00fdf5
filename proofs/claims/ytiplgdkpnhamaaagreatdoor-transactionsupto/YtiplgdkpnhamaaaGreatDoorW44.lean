/- The texts T9, joined. -/
import Derived.Test.YtiplgdkpnhamaaaGreatDoorW42
import Derived.Test.YtiplgdkpnhamaaaGreatDoorW43

/- Transactions holds of the program, for every script in its bounds. -/
namespace Go.Proofs.YtiplgdkpnhamaaaGreatDoor
theorem papi : PApi PR := papi_of commit_ok
end Go.Proofs.YtiplgdkpnhamaaaGreatDoor
