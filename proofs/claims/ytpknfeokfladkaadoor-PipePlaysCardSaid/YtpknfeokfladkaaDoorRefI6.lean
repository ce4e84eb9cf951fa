/- The document's own item: Bytes, BytesRes. -/
import Derived.Test.YtpknfeokfladkaaDoorRefI3
import Derived.Test.YtpknfeokfladkaaDoorBkL
import Derived.Test.YtpknfeokfladkaaDoorBkD
import Derived.Test.YtpknfeokfladkaaDoorBkJ
import Derived.Test.YtpknfeokfladkaaDoorItem11
import Derived.Test.YtpknfeokfladkaaDoorBkF
namespace Go.Proofs.YtpknfeokfladkaaDoor
open Go.RowKit
set_option linter.unusedVariables false
set_option linter.unusedSimpArgs false
/-- What Bytes answers. -/
def BysP (w0 : World) (L : List Thing) (r : List UInt8) (e : Ending) (w' : World) : Prop := ∃ u, e = .returned (.tuple #[u, .int .i64 0]) ∧ Sep w0 (By u r :: L) w'
end Go.Proofs.YtpknfeokfladkaaDoor
