/-
  NARROWER THAN 'FOR EVERY INPUT', by the rows' own cells (each row's printed sentence says how): ChooseKeeps: laid · ChooseTurns: laid · ChooseOne: laid · ChooseNames: laid.
  DERIVED. THE GIVEN ROWS OF THIS SEAT. 4 by the template 'for every input the law returns true; each argument reads behind the call as it read before'; 0 by the template 'total and deterministic' (their statements: YthgndegjiodopaaDoorTotals.lean).
  GIVEN WITH THE SEED: the statements are not yours to turn. If you find one false, say at which input.
  Laid BY PROGRAM, IN A SANDBOX (cutbox-rows.mjs): the forced cells as the released guide's own fill.sh prints them over the translation 58b1715cf718df81… (all of the seat's roots in one cut). By AI agents, Wed Nov 11 2026. No macro, syntax, notation, axiom, sorry.
-/
import Derived.Test.YthgndegjiodopaaDoorChecked
import GoSem.Claim
import GoSem.ClaimJoined
import GoSem.ClaimMapViews
import Derived.JoinedTies
import Derived.KernelRfl
namespace Go.Proofs.YthgndegjiodopaaDoor
/- THE CELL 'sum', in the pinned program and in every row, IS THE sha256 OF THE DUMP (.gsa) THAT YthgndegjiodopaaDoorProg.lean LOADS. Nothing in Lean hashes anything: it is a label: what it is worth is what the hold of that sum in a sandbox is worth. -/
noncomputable def Tryd.pinned : Pinned := { name := "ythgndegjiodopaadoor", sum := "58b1715cf718df8157a2b4f0407fea69d03b1d57d72b385d74d91a5ef8455a9f", checked := Tryd.checked }
namespace Rows
def none {H : Type} : Left H := { results := [], args := [] }

/- WHAT THE LISTED PACKAGE-LEVEL VARIABLES READ AS WHEN THE CALL BEGINS. Each datum BY PROGRAM (the guide's laid-datum.mjs) off the statement by which the dump's own 'gosem.cut.vars' lays the variable. In a bare row this is a premise. The card (YthgndegjiodopaaDoorCards.lean) ties it to the program's text. -/
def laid_gimbal_item_kinds {H : Type} : DataW H := .agg [.lit (.int .i64 0), .lit (.int .i64 5), .lit (.int .i64 9), .lit (.int .i64 22), .lit (.int .i64 2), .lit (.int .i64 2), .lit (.int .i64 2), .lit (.int .i64 4), .lit (.int .i64 1), .lit (.int .i64 2)]

/-- 'gimballaw18.ChooseKeeps': WHATEVER THE INPUT: true; the input reads as it did. -/
def chooseKeepsSpec : ChangeSpec := { name := "chooseKeeps", fn := fun _ => fun
  | [d1, d2, d3] => { results := [.lit (.bool true)], args := [d1, d2, d3] }
  | _ => none }
def chooseKeepsRow : OpenClaim := { program := "ythgndegjiodopaadoor", sum := "58b1715cf718df8157a2b4f0407fea69d03b1d57d72b385d74d91a5ef8455a9f", func := "gimbal/gimballaw18.ChooseKeeps", spec := "chooseKeeps", unfollowed := true, recurses := true, named := ["gimbal/item.kinds"], plainKeys := false, apart := false, laid := [("gimbal/item.kinds", laid_gimbal_item_kinds)] }
def ChooseKeepsSaid : Prop := chooseKeepsRow.holds Tryd.pinned (OpenSpec.ofChange chooseKeepsSpec)

/-- ITS FALSE NEIGHBOUR: 'it returns false'. Refute it at one input. -/
def chooseKeepsWrong : ChangeSpec := { name := "chooseKeeps", fn := fun _ => fun
  | [d1, d2, d3] => { results := [.lit (.bool false)], args := [d1, d2, d3] }
  | _ => none }
def ChooseKeepsWrongFalsely : Prop := chooseKeepsRow.holds Tryd.pinned (OpenSpec.ofChange chooseKeepsWrong)

/-- 'gimballaw18.ChooseTurns': WHATEVER THE INPUT: true; the input reads as it did. -/
def chooseTurnsSpec : ChangeSpec := { name := "chooseTurns", fn := fun _ => fun
  | [d1, d2, d3] => { results := [.lit (.bool true)], args := [d1, d2, d3] }
  | _ => none }
def chooseTurnsRow : OpenClaim := { program := "ythgndegjiodopaadoor", sum := "58b1715cf718df8157a2b4f0407fea69d03b1d57d72b385d74d91a5ef8455a9f", func := "gimbal/gimballaw18.ChooseTurns", spec := "chooseTurns", unfollowed := true, recurses := true, named := ["gimbal/item.kinds"], plainKeys := false, apart := false, laid := [("gimbal/item.kinds", laid_gimbal_item_kinds)] }
def ChooseTurnsSaid : Prop := chooseTurnsRow.holds Tryd.pinned (OpenSpec.ofChange chooseTurnsSpec)

/-- ITS FALSE NEIGHBOUR: 'it returns false'. Refute it at one input. -/
def chooseTurnsWrong : ChangeSpec := { name := "chooseTurns", fn := fun _ => fun
  | [d1, d2, d3] => { results := [.lit (.bool false)], args := [d1, d2, d3] }
  | _ => none }
def ChooseTurnsWrongFalsely : Prop := chooseTurnsRow.holds Tryd.pinned (OpenSpec.ofChange chooseTurnsWrong)

/-- 'gimballaw18.ChooseOne': WHATEVER THE INPUT: true; the input reads as it did. -/
def chooseOneSpec : ChangeSpec := { name := "chooseOne", fn := fun _ => fun
  | [d1, d2, d3] => { results := [.lit (.bool true)], args := [d1, d2, d3] }
  | _ => none }
def chooseOneRow : OpenClaim := { program := "ythgndegjiodopaadoor", sum := "58b1715cf718df8157a2b4f0407fea69d03b1d57d72b385d74d91a5ef8455a9f", func := "gimbal/gimballaw18.ChooseOne", spec := "chooseOne", unfollowed := true, recurses := true, named := ["gimbal/item.kinds"], plainKeys := false, apart := false, laid := [("gimbal/item.kinds", laid_gimbal_item_kinds)] }
def ChooseOneSaid : Prop := chooseOneRow.holds Tryd.pinned (OpenSpec.ofChange chooseOneSpec)

/-- ITS FALSE NEIGHBOUR: 'it returns false'. Refute it at one input. -/
def chooseOneWrong : ChangeSpec := { name := "chooseOne", fn := fun _ => fun
  | [d1, d2, d3] => { results := [.lit (.bool false)], args := [d1, d2, d3] }
  | _ => none }
def ChooseOneWrongFalsely : Prop := chooseOneRow.holds Tryd.pinned (OpenSpec.ofChange chooseOneWrong)

/-- 'gimballaw18.ChooseNames': WHATEVER THE INPUT: true; the input reads as it did. -/
def chooseNamesSpec : ChangeSpec := { name := "chooseNames", fn := fun _ => fun
  | [] => { results := [.lit (.bool true)], args := [] }
  | _ => none }
def chooseNamesRow : OpenClaim := { program := "ythgndegjiodopaadoor", sum := "58b1715cf718df8157a2b4f0407fea69d03b1d57d72b385d74d91a5ef8455a9f", func := "gimbal/gimballaw18.ChooseNames", spec := "chooseNames", unfollowed := true, recurses := true, named := ["gimbal/item.kinds"], plainKeys := false, apart := false, laid := [("gimbal/item.kinds", laid_gimbal_item_kinds)] }
def ChooseNamesSaid : Prop := chooseNamesRow.holds Tryd.pinned (OpenSpec.ofChange chooseNamesSpec)

/-- ITS FALSE NEIGHBOUR: 'it returns false'. Refute it at one input. -/
def chooseNamesWrong : ChangeSpec := { name := "chooseNames", fn := fun _ => fun
  | [] => { results := [.lit (.bool false)], args := [] }
  | _ => none }
def ChooseNamesWrongFalsely : Prop := chooseNamesRow.holds Tryd.pinned (OpenSpec.ofChange chooseNamesWrong)

/- THE SECOND FORM. 'bulk': how many values and letters a reading holds, each counted each time it is reached (what is shared counts as often as it is met; a slice's spare places count too). A statement '..UptoSaid' is the law's where the arguments, and the package variables that the reading takes, are together of bulk at most 1048576: NARROWER than '..Said'. Prove '..Said' where nothing that the law and all that it calls make is longer than what came in: it says more and counts as full. Else prove '..UptoSaid'. A law counts once. -/
mutual
def uptoBulk {H : Type} : DataW H → Nat
  | .lit (.string bytes) => bytes.length + 1
  | .lit _ => 1
  | .nil => 1
  | .ptr d => uptoBulk d + 1
  | .slice elems spare => uptoBulkAll elems + uptoBulkAll spare + 1
  | .agg parts => uptoBulkAll parts + 1
  | .iface _ d => uptoBulk d + 1
  | .map entries => uptoBulkEntries entries + 1
  | .held _ => 1
def uptoBulkAll {H : Type} : List (DataW H) → Nat
  | [] => 0
  | d :: r => uptoBulk d + uptoBulkAll r
def uptoBulkEntries {H : Type} : List (Lit × DataW H) → Nat
  | [] => 0
  | x :: r => uptoBulkEntry x + uptoBulkEntries r
def uptoBulkEntry {H : Type} : Lit × DataW H → Nat
  | (.string bytes, d) => bytes.length + uptoBulk d + 1
  | (_, d) => uptoBulk d + 1
 end
def uptoSmall : (H : Type) → List (DataW H) → Bool := fun _ ds => decide (uptoBulkAll ds ≤ 1048576)
def OpenSpec.upto (s : _root_.Go.ChangeSpec) : _root_.Go.OpenSpec := { _root_.Go.OpenSpec.ofChange s with cond := some uptoSmall }

/-- 'gimballaw18.ChooseKeeps', WHERE WHAT IT READS IS OF BULK AT MOST 1048576: true; the input reads as it did. -/
def chooseKeepsUptoRow : OpenClaim := { program := "ythgndegjiodopaadoor", sum := "58b1715cf718df8157a2b4f0407fea69d03b1d57d72b385d74d91a5ef8455a9f", func := "gimbal/gimballaw18.ChooseKeeps", spec := "chooseKeeps", unfollowed := true, recurses := true, named := ["gimbal/item.kinds"], plainKeys := false, apart := false, laid := [("gimbal/item.kinds", laid_gimbal_item_kinds)], narrowed := true }
def ChooseKeepsUptoSaid : Prop := chooseKeepsUptoRow.holds Tryd.pinned (OpenSpec.upto chooseKeepsSpec)

/-- 'gimballaw18.ChooseTurns', WHERE WHAT IT READS IS OF BULK AT MOST 1048576: true; the input reads as it did. -/
def chooseTurnsUptoRow : OpenClaim := { program := "ythgndegjiodopaadoor", sum := "58b1715cf718df8157a2b4f0407fea69d03b1d57d72b385d74d91a5ef8455a9f", func := "gimbal/gimballaw18.ChooseTurns", spec := "chooseTurns", unfollowed := true, recurses := true, named := ["gimbal/item.kinds"], plainKeys := false, apart := false, laid := [("gimbal/item.kinds", laid_gimbal_item_kinds)], narrowed := true }
def ChooseTurnsUptoSaid : Prop := chooseTurnsUptoRow.holds Tryd.pinned (OpenSpec.upto chooseTurnsSpec)

/-- 'gimballaw18.ChooseOne', WHERE WHAT IT READS IS OF BULK AT MOST 1048576: true; the input reads as it did. -/
def chooseOneUptoRow : OpenClaim := { program := "ythgndegjiodopaadoor", sum := "58b1715cf718df8157a2b4f0407fea69d03b1d57d72b385d74d91a5ef8455a9f", func := "gimbal/gimballaw18.ChooseOne", spec := "chooseOne", unfollowed := true, recurses := true, named := ["gimbal/item.kinds"], plainKeys := false, apart := false, laid := [("gimbal/item.kinds", laid_gimbal_item_kinds)], narrowed := true }
def ChooseOneUptoSaid : Prop := chooseOneUptoRow.holds Tryd.pinned (OpenSpec.upto chooseOneSpec)

/-- 'gimballaw18.ChooseNames', WHERE WHAT IT READS IS OF BULK AT MOST 1048576: true; the input reads as it did. -/
def chooseNamesUptoRow : OpenClaim := { program := "ythgndegjiodopaadoor", sum := "58b1715cf718df8157a2b4f0407fea69d03b1d57d72b385d74d91a5ef8455a9f", func := "gimbal/gimballaw18.ChooseNames", spec := "chooseNames", unfollowed := true, recurses := true, named := ["gimbal/item.kinds"], plainKeys := false, apart := false, laid := [("gimbal/item.kinds", laid_gimbal_item_kinds)], narrowed := true }
def ChooseNamesUptoSaid : Prop := chooseNamesUptoRow.holds Tryd.pinned (OpenSpec.upto chooseNamesSpec)

end Rows
end Go.Proofs.YthgndegjiodopaaDoor
