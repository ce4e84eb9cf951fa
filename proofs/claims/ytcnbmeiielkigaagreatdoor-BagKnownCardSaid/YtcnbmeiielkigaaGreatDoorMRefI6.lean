/- The document's own item: Bytes, BytesRes. -/
import Derived.Test.YtcnbmeiielkigaaGreatDoorMZ12
import Derived.Test.YtcnbmeiielkigaaGreatDoorMZ15
import Derived.Test.YtcnbmeiielkigaaGreatDoorMZ16
import Derived.Test.YtcnbmeiielkigaaGreatDoorMZ06
namespace Go.Proofs.YtcnbmeiielkigaaGreatDoor
open Go.RowKit
set_option linter.unusedVariables false
set_option linter.unusedSimpArgs false
end Go.Proofs.YtcnbmeiielkigaaGreatDoor
