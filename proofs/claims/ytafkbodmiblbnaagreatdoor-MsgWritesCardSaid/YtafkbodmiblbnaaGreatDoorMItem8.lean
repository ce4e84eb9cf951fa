/- Package item: readLines. -/
import Derived.Deep.RegionLaw
import Derived.Test.YtafkbodmiblbnaaGreatDoorMZ09
import Derived.Test.YtafkbodmiblbnaaGreatDoorMZ06
namespace Go.Proofs.YtafkbodmiblbnaaGreatDoor
open Go.RowKit
set_option linter.unusedVariables false
set_option linter.unusedSimpArgs false
end Go.Proofs.YtafkbodmiblbnaaGreatDoor
