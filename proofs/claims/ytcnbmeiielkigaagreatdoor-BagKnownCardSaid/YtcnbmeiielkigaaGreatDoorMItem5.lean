/- Package item: Bytes. -/
import Derived.Deep.RegionLaw
import Derived.Test.YtcnbmeiielkigaaGreatDoorMZ02
import Derived.Test.YtcnbmeiielkigaaGreatDoorMZ08
import Derived.Test.YtcnbmeiielkigaaGreatDoorMZ10
namespace Go.Proofs.YtcnbmeiielkigaaGreatDoor
open Go.RowKit
set_option linter.unusedVariables false
set_option linter.unusedSimpArgs false
theorem fields_ne {k : Int} (h : fieldsOf k ≠ 0) : 1 ≤ k ∧ k ≤ 9 := by
 unfold fieldsOf at h
 split at h
 ·rename_i hk
  refine ⟨?_, hk.2⟩
  rcases Int.lt_or_le k 1 with h1 | h1
  ·obtain rfl : k = 0 := by omega
   exact absurd rfl h
  ·exact h1
 ·exact absurd rfl h
end Go.Proofs.YtcnbmeiielkigaaGreatDoor
