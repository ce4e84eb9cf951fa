/- Package item: BytesRes. -/
import Derived.Test.YtpknfeokfladkaaDoorItem10
import Derived.Test.YtpknfeokfladkaaDoorItem5
namespace Go.Proofs.YtpknfeokfladkaaDoor
open Go.RowKit
set_option linter.unusedVariables false
set_option linter.unusedSimpArgs false
def resBs (c a b : Int) : List UInt8 := [UInt8.ofNat c.toNat] ++ vint a.toNat ++ vint b.toNat
end Go.Proofs.YtpknfeokfladkaaDoor
