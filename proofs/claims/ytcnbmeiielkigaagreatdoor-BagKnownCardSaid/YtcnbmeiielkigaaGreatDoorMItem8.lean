/- Package item: readLines. -/
import Derived.Deep.RegionLaw
import Derived.Test.YtcnbmeiielkigaaGreatDoorMZ03
import Derived.Test.YtcnbmeiielkigaaGreatDoorMZ10
import Derived.Test.YtcnbmeiielkigaaGreatDoorMZ12
namespace Go.Proofs.YtcnbmeiielkigaaGreatDoor
open Go.RowKit
set_option linter.unusedVariables false
set_option linter.unusedSimpArgs false
end Go.Proofs.YtcnbmeiielkigaaGreatDoor
