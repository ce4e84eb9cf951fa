/-
  No cell of these rows narrows 'for every input' (looked for: loops, veiled, ifaces, maps, wideKeys, modest, calm, conditions, laid).
  DERIVED. THE GIVEN ROWS OF THIS SEAT. 5 by the template 'for every input the law returns true; each argument reads behind the call as it read before'; 0 by the template 'total and deterministic' (their statements: YtidbniigfkocpaaTotals.lean).
  GIVEN WITH THE SEED: the statements are not yours to turn. If you find one false, say at which input.
  Laid BY PROGRAM, IN A SANDBOX (cutbox-rows.mjs): the forced cells as the released guide's own fill.sh prints them over the translation ac8d7912b472504a… (all of the seat's roots in one cut). By AI agents, Wed Nov 11 2026. No macro, syntax, notation, axiom, sorry.
-/
import Derived.Test.YtidbniigfkocpaaChecked
import GoSem.Claim
import GoSem.ClaimJoined
import GoSem.ClaimMapViews
import Derived.JoinedTies
import Derived.KernelRfl
namespace Go.Proofs.Ytidbniigfkocpaa
/- THE CELL 'sum', in the pinned program and in every row, IS THE sha256 OF THE DUMP (.gsa) THAT YtidbniigfkocpaaProg.lean LOADS. Nothing in Lean hashes anything: it is a label: what it is worth is what the hold of that sum in a sandbox is worth. -/
noncomputable def Try.pinned : Pinned := { name := "ytidbniigfkocpaa", sum := "ac8d7912b472504a81e8b2b26d1ade0cc9d3ab09ed86174ec6f1e17b1831ba1e", checked := Try.checked }
namespace Rows
def none {H : Type} : Left H := { results := [], args := [] }

/-- 'gimballaw16.QuorumTallies': WHATEVER THE INPUT: true; the input reads as it did. -/
def quorumTalliesSpec : ChangeSpec := { name := "quorumTallies", fn := fun _ => fun
  | [d1, d2] => { results := [.lit (.bool true)], args := [d1, d2] }
  | _ => none }
def quorumTalliesRow : OpenClaim := { program := "ytidbniigfkocpaa", sum := "ac8d7912b472504a81e8b2b26d1ade0cc9d3ab09ed86174ec6f1e17b1831ba1e", func := "gimbal/gimballaw16.QuorumTallies", spec := "quorumTallies", recurses := true, plainKeys := false, apart := false }
def QuorumTalliesSaid : Prop := quorumTalliesRow.holds Try.pinned (OpenSpec.ofChange quorumTalliesSpec)

/-- ITS FALSE NEIGHBOUR: 'it returns false'. Refute it at one input. -/
def quorumTalliesWrong : ChangeSpec := { name := "quorumTallies", fn := fun _ => fun
  | [d1, d2] => { results := [.lit (.bool false)], args := [d1, d2] }
  | _ => none }
def QuorumTalliesWrongFalsely : Prop := quorumTalliesRow.holds Try.pinned (OpenSpec.ofChange quorumTalliesWrong)

/-- 'gimballaw16.QuorumAcks': WHATEVER THE INPUT: true; the input reads as it did. -/
def quorumAcksSpec : ChangeSpec := { name := "quorumAcks", fn := fun _ => fun
  | [d1, d2] => { results := [.lit (.bool true)], args := [d1, d2] }
  | _ => none }
def quorumAcksRow : OpenClaim := { program := "ytidbniigfkocpaa", sum := "ac8d7912b472504a81e8b2b26d1ade0cc9d3ab09ed86174ec6f1e17b1831ba1e", func := "gimbal/gimballaw16.QuorumAcks", spec := "quorumAcks", recurses := true, plainKeys := false, apart := false }
def QuorumAcksSaid : Prop := quorumAcksRow.holds Try.pinned (OpenSpec.ofChange quorumAcksSpec)

/-- ITS FALSE NEIGHBOUR: 'it returns false'. Refute it at one input. -/
def quorumAcksWrong : ChangeSpec := { name := "quorumAcks", fn := fun _ => fun
  | [d1, d2] => { results := [.lit (.bool false)], args := [d1, d2] }
  | _ => none }
def QuorumAcksWrongFalsely : Prop := quorumAcksRow.holds Try.pinned (OpenSpec.ofChange quorumAcksWrong)

/-- 'gimballaw16.QuorumMeets': WHATEVER THE INPUT: true; the input reads as it did. -/
def quorumMeetsSpec : ChangeSpec := { name := "quorumMeets", fn := fun _ => fun
  | [d1, d2, d3] => { results := [.lit (.bool true)], args := [d1, d2, d3] }
  | _ => none }
def quorumMeetsRow : OpenClaim := { program := "ytidbniigfkocpaa", sum := "ac8d7912b472504a81e8b2b26d1ade0cc9d3ab09ed86174ec6f1e17b1831ba1e", func := "gimbal/gimballaw16.QuorumMeets", spec := "quorumMeets", recurses := true, plainKeys := false, apart := false }
def QuorumMeetsSaid : Prop := quorumMeetsRow.holds Try.pinned (OpenSpec.ofChange quorumMeetsSpec)

/-- ITS FALSE NEIGHBOUR: 'it returns false'. Refute it at one input. -/
def quorumMeetsWrong : ChangeSpec := { name := "quorumMeets", fn := fun _ => fun
  | [d1, d2, d3] => { results := [.lit (.bool false)], args := [d1, d2, d3] }
  | _ => none }
def QuorumMeetsWrongFalsely : Prop := quorumMeetsRow.holds Try.pinned (OpenSpec.ofChange quorumMeetsWrong)

/-- 'gimballaw16.QuorumSure': WHATEVER THE INPUT: true; the input reads as it did. -/
def quorumSureSpec : ChangeSpec := { name := "quorumSure", fn := fun _ => fun
  | [d1, d2] => { results := [.lit (.bool true)], args := [d1, d2] }
  | _ => none }
def quorumSureRow : OpenClaim := { program := "ytidbniigfkocpaa", sum := "ac8d7912b472504a81e8b2b26d1ade0cc9d3ab09ed86174ec6f1e17b1831ba1e", func := "gimbal/gimballaw16.QuorumSure", spec := "quorumSure", recurses := true, plainKeys := false, apart := false }
def QuorumSureSaid : Prop := quorumSureRow.holds Try.pinned (OpenSpec.ofChange quorumSureSpec)

/-- ITS FALSE NEIGHBOUR: 'it returns false'. Refute it at one input. -/
def quorumSureWrong : ChangeSpec := { name := "quorumSure", fn := fun _ => fun
  | [d1, d2] => { results := [.lit (.bool false)], args := [d1, d2] }
  | _ => none }
def QuorumSureWrongFalsely : Prop := quorumSureRow.holds Try.pinned (OpenSpec.ofChange quorumSureWrong)

/-- 'gimballaw16.QuorumNames': WHATEVER THE INPUT: true; the input reads as it did. -/
def quorumNamesSpec : ChangeSpec := { name := "quorumNames", fn := fun _ => fun
  | [] => { results := [.lit (.bool true)], args := [] }
  | _ => none }
def quorumNamesRow : OpenClaim := { program := "ytidbniigfkocpaa", sum := "ac8d7912b472504a81e8b2b26d1ade0cc9d3ab09ed86174ec6f1e17b1831ba1e", func := "gimbal/gimballaw16.QuorumNames", spec := "quorumNames", recurses := true, plainKeys := false, apart := false }
def QuorumNamesSaid : Prop := quorumNamesRow.holds Try.pinned (OpenSpec.ofChange quorumNamesSpec)

/-- ITS FALSE NEIGHBOUR: 'it returns false'. Refute it at one input. -/
def quorumNamesWrong : ChangeSpec := { name := "quorumNames", fn := fun _ => fun
  | [] => { results := [.lit (.bool false)], args := [] }
  | _ => none }
def QuorumNamesWrongFalsely : Prop := quorumNamesRow.holds Try.pinned (OpenSpec.ofChange quorumNamesWrong)

/- THE SECOND FORM. 'bulk': how many values and letters a reading holds, each counted each time it is reached (what is shared counts as often as it is met; a slice's spare places count too). A statement '..UptoSaid' is the law's where the arguments, and the package variables that the reading takes, are together of bulk at most 1048576: NARROWER than '..Said'. Prove '..Said' where nothing that the law and all that it calls make is longer than what came in: it says more and counts as full. Else prove '..UptoSaid'. A law counts once. -/
mutual
def uptoBulk {H : Type} : DataW H → Nat
  | .lit (.string bytes) => bytes.length + 1
  | .lit _ => 1
  | .nil => 1
  | .ptr d => uptoBulk d + 1
  | .slice elems spare => uptoBulkAll elems + uptoBulkAll spare + 1
  | .agg parts => uptoBulkAll parts + 1
  | .iface _ d => uptoBulk d + 1
  | .map entries => uptoBulkEntries entries + 1
  | .held _ => 1
def uptoBulkAll {H : Type} : List (DataW H) → Nat
  | [] => 0
  | d :: r => uptoBulk d + uptoBulkAll r
def uptoBulkEntries {H : Type} : List (Lit × DataW H) → Nat
  | [] => 0
  | x :: r => uptoBulkEntry x + uptoBulkEntries r
def uptoBulkEntry {H : Type} : Lit × DataW H → Nat
  | (.string bytes, d) => bytes.length + uptoBulk d + 1
  | (_, d) => uptoBulk d + 1
 end
def uptoSmall : (H : Type) → List (DataW H) → Bool := fun _ ds => decide (uptoBulkAll ds ≤ 1048576)
def OpenSpec.upto (s : _root_.Go.ChangeSpec) : _root_.Go.OpenSpec := { _root_.Go.OpenSpec.ofChange s with cond := some uptoSmall }

/-- 'gimballaw16.QuorumTallies', WHERE WHAT IT READS IS OF BULK AT MOST 1048576: true; the input reads as it did. -/
def quorumTalliesUptoRow : OpenClaim := { program := "ytidbniigfkocpaa", sum := "ac8d7912b472504a81e8b2b26d1ade0cc9d3ab09ed86174ec6f1e17b1831ba1e", func := "gimbal/gimballaw16.QuorumTallies", spec := "quorumTallies", recurses := true, plainKeys := false, apart := false, narrowed := true }
def QuorumTalliesUptoSaid : Prop := quorumTalliesUptoRow.holds Try.pinned (OpenSpec.upto quorumTalliesSpec)

/-- 'gimballaw16.QuorumAcks', WHERE WHAT IT READS IS OF BULK AT MOST 1048576: true; the input reads as it did. -/
def quorumAcksUptoRow : OpenClaim := { program := "ytidbniigfkocpaa", sum := "ac8d7912b472504a81e8b2b26d1ade0cc9d3ab09ed86174ec6f1e17b1831ba1e", func := "gimbal/gimballaw16.QuorumAcks", spec := "quorumAcks", recurses := true, plainKeys := false, apart := false, narrowed := true }
def QuorumAcksUptoSaid : Prop := quorumAcksUptoRow.holds Try.pinned (OpenSpec.upto quorumAcksSpec)

/-- 'gimballaw16.QuorumMeets', WHERE WHAT IT READS IS OF BULK AT MOST 1048576: true; the input reads as it did. -/
def quorumMeetsUptoRow : OpenClaim := { program := "ytidbniigfkocpaa", sum := "ac8d7912b472504a81e8b2b26d1ade0cc9d3ab09ed86174ec6f1e17b1831ba1e", func := "gimbal/gimballaw16.QuorumMeets", spec := "quorumMeets", recurses := true, plainKeys := false, apart := false, narrowed := true }
def QuorumMeetsUptoSaid : Prop := quorumMeetsUptoRow.holds Try.pinned (OpenSpec.upto quorumMeetsSpec)

/-- 'gimballaw16.QuorumSure', WHERE WHAT IT READS IS OF BULK AT MOST 1048576: true; the input reads as it did. -/
def quorumSureUptoRow : OpenClaim := { program := "ytidbniigfkocpaa", sum := "ac8d7912b472504a81e8b2b26d1ade0cc9d3ab09ed86174ec6f1e17b1831ba1e", func := "gimbal/gimballaw16.QuorumSure", spec := "quorumSure", recurses := true, plainKeys := false, apart := false, narrowed := true }
def QuorumSureUptoSaid : Prop := quorumSureUptoRow.holds Try.pinned (OpenSpec.upto quorumSureSpec)

/-- 'gimballaw16.QuorumNames', WHERE WHAT IT READS IS OF BULK AT MOST 1048576: true; the input reads as it did. -/
def quorumNamesUptoRow : OpenClaim := { program := "ytidbniigfkocpaa", sum := "ac8d7912b472504a81e8b2b26d1ade0cc9d3ab09ed86174ec6f1e17b1831ba1e", func := "gimbal/gimballaw16.QuorumNames", spec := "quorumNames", recurses := true, plainKeys := false, apart := false, narrowed := true }
def QuorumNamesUptoSaid : Prop := quorumNamesUptoRow.holds Try.pinned (OpenSpec.upto quorumNamesSpec)

end Rows
end Go.Proofs.Ytidbniigfkocpaa
