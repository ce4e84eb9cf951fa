/- Package msg: SameImage, fitsImage, Check of messages without lists, kind by kind. -/
import Derived.Test.YtafkbodmiblbnaaGreatDoorMZ18
namespace Go.Proofs.YtafkbodmiblbnaaGreatDoor
open Go.RowKit
set_option linter.unusedVariables false
set_option linter.unusedSimpArgs false
end Go.Proofs.YtafkbodmiblbnaaGreatDoor
