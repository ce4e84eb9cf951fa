/- The statement's own: made, whatever it is given. -/
import Derived.Test.YtfjodadmcfdlpaaDoorItem17
import Derived.Test.YtfjodadmcfdlpaaDoorItem18
import Derived.Test.YtfjodadmcfdlpaaDoorItem19
namespace Go.Proofs.YtfjodadmcfdlpaaDoor
open Go.RowKit
set_option linter.unusedVariables false
theorem made_any {w0 w : World} {L : List Thing} (k : Int) (s : KS) (o n : Int) (v : Value) (ls : List Ln) (h : Sep w0 L w) (hv : LnS w v ls) :
    Calls Tryd.prog 30 #[.agg #[.int .i64 k, .string s.1, .int .i64 o, .int .i64 n, v]] w (MadeP w0 L) := by
  have hm : 0 ≤ k % 9 ∧ k % 9 < 9 := by omega
  rcases (show k % 9 = 0 ∨ k % 9 = 1 ∨ k % 9 = 2 ∨ k % 9 = 3 ∨ k % 9 = 4 ∨ k % 9 = 5 ∨ k % 9 = 6 ∨ k % 9 = 7 ∨ k % 9 = 8 by omega) with hk | hk | hk | hk | hk | hk | hk | hk | hk
  · exact made_1 k s o n v ls h hv hk
  · by_cases hn : n < 0
    · exact made_2m k s o n v ls h hv hk hn
    · exact made_2p k s o n v ls h hv hk (by omega)
  · exact made_3 k s o n v ls h hv hk
  · exact made_4 k s o n v ls h hv hk
  · exact made_5 k s o n v ls h hv hk
  · exact made_6 k s o n v ls h hv hk
  · exact made_7 k s o n v ls h hv hk
  · exact made_8 k s o n v ls h hv hk
  · exact made_9 k s o n v ls h hv hk
end Go.Proofs.YtfjodadmcfdlpaaDoor
