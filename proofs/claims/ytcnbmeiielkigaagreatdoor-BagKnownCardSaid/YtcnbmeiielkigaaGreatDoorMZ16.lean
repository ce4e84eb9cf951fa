/- Package item: BytesRes. -/
import Derived.Test.YtcnbmeiielkigaaGreatDoorMZ15
import Derived.Test.YtcnbmeiielkigaaGreatDoorMItem5
import Derived.Test.YtcnbmeiielkigaaGreatDoorMZ10
import Derived.Test.YtcnbmeiielkigaaGreatDoorMZ02
namespace Go.Proofs.YtcnbmeiielkigaaGreatDoor
open Go.RowKit
set_option linter.unusedVariables false
set_option linter.unusedSimpArgs false
theorem rc {w0 w : World} {bq : Nat} {c a b : Int} {L : List Thing} (h : Sep w0 (Cl bq #[.int .i64 c, .int .i64 a, .int .i64 b] 34 :: L) w) : w.cell? ⟨bq, 0, none⟩ = some (.int .i64 c) ∧ w.cell? ⟨bq, 1, none⟩ = some (.int .i64 a) ∧ w.cell? ⟨bq, 2, none⟩ = some (.int .i64 b) := cells3 h
end Go.Proofs.YtcnbmeiielkigaaGreatDoor
/- Varints, written and read: plain mathematics. -/
namespace Go.Proofs.YtcnbmeiielkigaaGreatDoor
open Go.RowKit
set_option linter.unusedVariables false

end Go.Proofs.YtcnbmeiielkigaaGreatDoor
/- Package item: what is written is read, and back: plain mathematics. -/
namespace Go.Proofs.YtcnbmeiielkigaaGreatDoor
open Go.RowKit
set_option linter.unusedVariables false
set_option linter.unusedSimpArgs false
end Go.Proofs.YtcnbmeiielkigaaGreatDoor
/- The statement's own: bytes. -/
namespace Go.Proofs.YtcnbmeiielkigaaGreatDoor
open Go.RowKit
set_option linter.unusedVariables false
set_option linter.unusedSimpArgs false
end Go.Proofs.YtcnbmeiielkigaaGreatDoor
