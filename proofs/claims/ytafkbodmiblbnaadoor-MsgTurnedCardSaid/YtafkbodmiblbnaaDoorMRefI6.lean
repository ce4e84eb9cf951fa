/- The document's own item: Bytes, BytesRes. -/
import Derived.Test.YtafkbodmiblbnaaDoorMRefI3
import Derived.Test.YtafkbodmiblbnaaDoorMZ15
import Derived.Test.YtafkbodmiblbnaaDoorMZ17
import Derived.Test.YtafkbodmiblbnaaDoorMZ18
import Derived.Test.YtafkbodmiblbnaaDoorMZ19
namespace Go.Proofs.YtafkbodmiblbnaaDoor
open Go.RowKit
set_option linter.unusedVariables false
set_option linter.unusedSimpArgs false
/-- What Bytes answers. -/
def BysP (w0 : World) (L : List Thing) (r : List UInt8) (e : Ending) (w' : World) : Prop := ∃ u, e = .returned (.tuple #[u, .int .i64 0]) ∧ Sep w0 (By u r :: L) w'
end Go.Proofs.YtafkbodmiblbnaaDoor
