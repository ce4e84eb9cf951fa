/- Package item: BytesRes. -/
import Derived.Test.YtcicclghgbdgnaaDoorItem10
import Derived.Test.YtcicclghgbdgnaaDoorItem5
namespace Go.Proofs.YtcicclghgbdgnaaDoor
open Go.RowKit
set_option linter.unusedVariables false
set_option linter.unusedSimpArgs false
def resBs (c a b : Int) : List UInt8 := [UInt8.ofNat c.toNat] ++ vint a.toNat ++ vint b.toNat
end Go.Proofs.YtcicclghgbdgnaaDoor
