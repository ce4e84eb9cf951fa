/-
  NARROWER THAN 'FOR EVERY INPUT', by the rows' own cells (each row's printed sentence says how): MsgWrites: laid · MsgKnown: laid.
  DERIVED. THE GIVEN ROWS OF THIS SEAT. 2 by the template 'for every input the law returns true; each argument reads behind the call as it read before'; 0 by the template 'total and deterministic' (their statements: YtafkbodmiblbnaaGreatDoorTotals.lean).
  GIVEN WITH THE SEED: the statements are not yours to turn. If you find one false, say at which input.
  Laid BY PROGRAM, IN A SANDBOX (cutbox-rows.mjs): the forced cells as the released guide's own fill.sh prints them over the translation 5861b4d65c40b85a… (all of the seat's roots in one cut). By AI agents, Wed Nov 11 2026. No macro, syntax, notation, axiom, sorry.
-/
import Derived.Test.YtafkbodmiblbnaaGreatDoorChecked
import GoSem.Claim
import GoSem.ClaimJoined
import GoSem.ClaimMapViews
import Derived.JoinedTies
import Derived.KernelRfl
namespace Go.Proofs.YtafkbodmiblbnaaGreatDoor
/- THE CELL 'sum', in the pinned program and in every row, IS THE sha256 OF THE DUMP (.gsa) THAT YtafkbodmiblbnaaGreatDoorProg.lean LOADS. Nothing in Lean hashes anything: it is a label: what it is worth is what the hold of that sum in a sandbox is worth. -/
noncomputable def Tryz.pinned : Pinned := { name := "ytafkbodmiblbnaagreatdoor", sum := "5861b4d65c40b85ab79c5bd6acadb12eb1377c0020421f910a8cbfc20865d00d", checked := Tryz.checked }
namespace Rows
def none {H : Type} : Left H := { results := [], args := [] }

/- WHAT THE LISTED PACKAGE-LEVEL VARIABLES READ AS WHEN THE CALL BEGINS. Each datum BY PROGRAM (the guide's laid-datum.mjs) off the statement by which the dump's own 'gosem.cut.vars' lays the variable. In a bare row this is a premise. The card (YtafkbodmiblbnaaGreatDoorCards.lean) ties it to the program's text. -/
def laid_gimbal_item_kinds {H : Type} : DataW H := .agg [.lit (.int .i64 0), .lit (.int .i64 5), .lit (.int .i64 9), .lit (.int .i64 22), .lit (.int .i64 2), .lit (.int .i64 2), .lit (.int .i64 2), .lit (.int .i64 4), .lit (.int .i64 1), .lit (.int .i64 2)]
def laid_gimbal_msg_kinds {H : Type} : DataW H := .agg [.lit (.int .i64 0), .lit (.int .i64 16), .lit (.int .i64 99), .lit (.int .i64 23), .lit (.int .i64 3), .lit (.int .i64 7), .lit (.int .i64 1), .lit (.int .i64 137), .lit (.int .i64 3), .lit (.int .i64 129), .lit (.int .i64 33)]

/-- 'gimballaw05.MsgWrites': WHATEVER THE INPUT: true; the input reads as it did. -/
def msgWritesSpec : ChangeSpec := { name := "msgWrites", fn := fun _ => fun
  | [d1, d2] => { results := [.lit (.bool true)], args := [d1, d2] }
  | _ => none }
def msgWritesRow : OpenClaim := { program := "ytafkbodmiblbnaagreatdoor", sum := "5861b4d65c40b85ab79c5bd6acadb12eb1377c0020421f910a8cbfc20865d00d", func := "gimbal/gimballaw05.MsgWrites", spec := "msgWrites", unfollowed := true, recurses := true, named := ["gimbal/msg.kinds", "gimbal/item.kinds"], apart := false, laid := [("gimbal/item.kinds", laid_gimbal_item_kinds), ("gimbal/msg.kinds", laid_gimbal_msg_kinds)] }
def MsgWritesSaid : Prop := msgWritesRow.holds Tryz.pinned (OpenSpec.ofChange msgWritesSpec)

/-- ITS FALSE NEIGHBOUR: 'it returns false'. Refute it at one input. -/
def msgWritesWrong : ChangeSpec := { name := "msgWrites", fn := fun _ => fun
  | [d1, d2] => { results := [.lit (.bool false)], args := [d1, d2] }
  | _ => none }
def MsgWritesWrongFalsely : Prop := msgWritesRow.holds Tryz.pinned (OpenSpec.ofChange msgWritesWrong)

/-- 'gimballaw05.MsgKnown': WHATEVER THE INPUT: true; the input reads as it did. -/
def msgKnownSpec : ChangeSpec := { name := "msgKnown", fn := fun _ => fun
  | [] => { results := [.lit (.bool true)], args := [] }
  | _ => none }
def msgKnownRow : OpenClaim := { program := "ytafkbodmiblbnaagreatdoor", sum := "5861b4d65c40b85ab79c5bd6acadb12eb1377c0020421f910a8cbfc20865d00d", func := "gimbal/gimballaw05.MsgKnown", spec := "msgKnown", unfollowed := true, recurses := true, named := ["gimbal/msg.kinds", "gimbal/item.kinds"], apart := false, laid := [("gimbal/item.kinds", laid_gimbal_item_kinds), ("gimbal/msg.kinds", laid_gimbal_msg_kinds)] }
def MsgKnownSaid : Prop := msgKnownRow.holds Tryz.pinned (OpenSpec.ofChange msgKnownSpec)

/-- ITS FALSE NEIGHBOUR: 'it returns false'. Refute it at one input. -/
def msgKnownWrong : ChangeSpec := { name := "msgKnown", fn := fun _ => fun
  | [] => { results := [.lit (.bool false)], args := [] }
  | _ => none }
def MsgKnownWrongFalsely : Prop := msgKnownRow.holds Tryz.pinned (OpenSpec.ofChange msgKnownWrong)

/- THE SECOND FORM. 'bulk': how many values and letters a reading holds, each counted each time it is reached (what is shared counts as often as it is met; a slice's spare places count too). A statement '..UptoSaid' is the law's where the arguments, and the package variables that the reading takes, are together of bulk at most 1048576: NARROWER than '..Said'. Prove '..Said' where nothing that the law and all that it calls make is longer than what came in: it says more and counts as full. Else prove '..UptoSaid'. A law counts once. -/
mutual
def uptoBulk {H : Type} : DataW H → Nat
  | .lit (.string bytes) => bytes.length + 1
  | .lit _ => 1
  | .nil => 1
  | .ptr d => uptoBulk d + 1
  | .slice elems spare => uptoBulkAll elems + uptoBulkAll spare + 1
  | .agg parts => uptoBulkAll parts + 1
  | .iface _ d => uptoBulk d + 1
  | .map entries => uptoBulkEntries entries + 1
  | .held _ => 1
def uptoBulkAll {H : Type} : List (DataW H) → Nat
  | [] => 0
  | d :: r => uptoBulk d + uptoBulkAll r
def uptoBulkEntries {H : Type} : List (Lit × DataW H) → Nat
  | [] => 0
  | x :: r => uptoBulkEntry x + uptoBulkEntries r
def uptoBulkEntry {H : Type} : Lit × DataW H → Nat
  | (.string bytes, d) => bytes.length + uptoBulk d + 1
  | (_, d) => uptoBulk d + 1
 end
def uptoSmall : (H : Type) → List (DataW H) → Bool := fun _ ds => decide (uptoBulkAll ds ≤ 1048576)
def OpenSpec.upto (s : _root_.Go.ChangeSpec) : _root_.Go.OpenSpec := { _root_.Go.OpenSpec.ofChange s with cond := some uptoSmall }

/-- 'gimballaw05.MsgWrites', WHERE WHAT IT READS IS OF BULK AT MOST 1048576: true; the input reads as it did. -/
def msgWritesUptoRow : OpenClaim := { program := "ytafkbodmiblbnaagreatdoor", sum := "5861b4d65c40b85ab79c5bd6acadb12eb1377c0020421f910a8cbfc20865d00d", func := "gimbal/gimballaw05.MsgWrites", spec := "msgWrites", unfollowed := true, recurses := true, named := ["gimbal/msg.kinds", "gimbal/item.kinds"], apart := false, laid := [("gimbal/item.kinds", laid_gimbal_item_kinds), ("gimbal/msg.kinds", laid_gimbal_msg_kinds)], narrowed := true }
def MsgWritesUptoSaid : Prop := msgWritesUptoRow.holds Tryz.pinned (OpenSpec.upto msgWritesSpec)

/-- 'gimballaw05.MsgKnown', WHERE WHAT IT READS IS OF BULK AT MOST 1048576: true; the input reads as it did. -/
def msgKnownUptoRow : OpenClaim := { program := "ytafkbodmiblbnaagreatdoor", sum := "5861b4d65c40b85ab79c5bd6acadb12eb1377c0020421f910a8cbfc20865d00d", func := "gimbal/gimballaw05.MsgKnown", spec := "msgKnown", unfollowed := true, recurses := true, named := ["gimbal/msg.kinds", "gimbal/item.kinds"], apart := false, laid := [("gimbal/item.kinds", laid_gimbal_item_kinds), ("gimbal/msg.kinds", laid_gimbal_msg_kinds)], narrowed := true }
def MsgKnownUptoSaid : Prop := msgKnownUptoRow.holds Tryz.pinned (OpenSpec.upto msgKnownSpec)

end Rows
end Go.Proofs.YtafkbodmiblbnaaGreatDoor
