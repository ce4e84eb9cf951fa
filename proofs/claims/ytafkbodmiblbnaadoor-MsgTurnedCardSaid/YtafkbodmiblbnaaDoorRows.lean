/-
  NARROWER THAN 'FOR EVERY INPUT', by the rows' own cells (each row's printed sentence says how): MsgBack: laid · MsgAgain: laid · MsgTurned: laid.
  DERIVED. THE GIVEN ROWS OF THIS SEAT. 3 by the template 'for every input the law returns true; each argument reads behind the call as it read before'; 0 by the template 'total and deterministic' (their statements: YtafkbodmiblbnaaDoorTotals.lean).
  GIVEN WITH THE SEED: the statements are not yours to turn. If you find one false, say at which input.
  Laid BY PROGRAM, IN A SANDBOX (cutbox-rows.mjs): the forced cells as the released guide's own fill.sh prints them over the translation 040a06c0179cbb73… (all of the seat's roots in one cut). By AI agents, Wed Nov 11 2026. No macro, syntax, notation, axiom, sorry.
-/
import Derived.Test.YtafkbodmiblbnaaDoorChecked
import GoSem.Claim
import GoSem.ClaimJoined
import GoSem.ClaimMapViews
import Derived.JoinedTies
import Derived.KernelRfl
namespace Go.Proofs.YtafkbodmiblbnaaDoor
/- THE CELL 'sum', in the pinned program and in every row, IS THE sha256 OF THE DUMP (.gsa) THAT YtafkbodmiblbnaaDoorProg.lean LOADS. Nothing in Lean hashes anything: it is a label: what it is worth is what the hold of that sum in a sandbox is worth. -/
noncomputable def Tryd.pinned : Pinned := { name := "ytafkbodmiblbnaadoor", sum := "040a06c0179cbb73a67023920d6d9d141856d2ca291efca911cf9e70cc530065", checked := Tryd.checked }
namespace Rows
def none {H : Type} : Left H := { results := [], args := [] }

/- WHAT THE LISTED PACKAGE-LEVEL VARIABLES READ AS WHEN THE CALL BEGINS. Each datum BY PROGRAM (the guide's laid-datum.mjs) off the statement by which the dump's own 'gosem.cut.vars' lays the variable. In a bare row this is a premise. The card (YtafkbodmiblbnaaDoorCards.lean) ties it to the program's text. -/
def laid_gimbal_item_kinds {H : Type} : DataW H := .agg [.lit (.int .i64 0), .lit (.int .i64 5), .lit (.int .i64 9), .lit (.int .i64 22), .lit (.int .i64 2), .lit (.int .i64 2), .lit (.int .i64 2), .lit (.int .i64 4), .lit (.int .i64 1), .lit (.int .i64 2)]
def laid_gimbal_msg_kinds {H : Type} : DataW H := .agg [.lit (.int .i64 0), .lit (.int .i64 16), .lit (.int .i64 99), .lit (.int .i64 23), .lit (.int .i64 3), .lit (.int .i64 7), .lit (.int .i64 1), .lit (.int .i64 137), .lit (.int .i64 3), .lit (.int .i64 129), .lit (.int .i64 33)]

/-- 'gimballaw05.MsgBack': WHATEVER THE INPUT: true; the input reads as it did. -/
def msgBackSpec : ChangeSpec := { name := "msgBack", fn := fun _ => fun
  | [d] => { results := [.lit (.bool true)], args := [d] }
  | _ => none }
def msgBackRow : OpenClaim := { program := "ytafkbodmiblbnaadoor", sum := "040a06c0179cbb73a67023920d6d9d141856d2ca291efca911cf9e70cc530065", func := "gimbal/gimballaw05.MsgBack", spec := "msgBack", unfollowed := true, recurses := true, named := ["gimbal/msg.kinds", "gimbal/item.kinds"], apart := false, laid := [("gimbal/item.kinds", laid_gimbal_item_kinds), ("gimbal/msg.kinds", laid_gimbal_msg_kinds)] }
def MsgBackSaid : Prop := msgBackRow.holds Tryd.pinned (OpenSpec.ofChange msgBackSpec)

/-- ITS FALSE NEIGHBOUR: 'it returns false'. Refute it at one input. -/
def msgBackWrong : ChangeSpec := { name := "msgBack", fn := fun _ => fun
  | [d] => { results := [.lit (.bool false)], args := [d] }
  | _ => none }
def MsgBackWrongFalsely : Prop := msgBackRow.holds Tryd.pinned (OpenSpec.ofChange msgBackWrong)

/-- 'gimballaw05.MsgAgain': WHATEVER THE INPUT: true; the input reads as it did. -/
def msgAgainSpec : ChangeSpec := { name := "msgAgain", fn := fun _ => fun
  | [d] => { results := [.lit (.bool true)], args := [d] }
  | _ => none }
def msgAgainRow : OpenClaim := { program := "ytafkbodmiblbnaadoor", sum := "040a06c0179cbb73a67023920d6d9d141856d2ca291efca911cf9e70cc530065", func := "gimbal/gimballaw05.MsgAgain", spec := "msgAgain", unfollowed := true, recurses := true, named := ["gimbal/msg.kinds", "gimbal/item.kinds"], apart := false, laid := [("gimbal/item.kinds", laid_gimbal_item_kinds), ("gimbal/msg.kinds", laid_gimbal_msg_kinds)] }
def MsgAgainSaid : Prop := msgAgainRow.holds Tryd.pinned (OpenSpec.ofChange msgAgainSpec)

/-- ITS FALSE NEIGHBOUR: 'it returns false'. Refute it at one input. -/
def msgAgainWrong : ChangeSpec := { name := "msgAgain", fn := fun _ => fun
  | [d] => { results := [.lit (.bool false)], args := [d] }
  | _ => none }
def MsgAgainWrongFalsely : Prop := msgAgainRow.holds Tryd.pinned (OpenSpec.ofChange msgAgainWrong)

/-- 'gimballaw05.MsgTurned': WHATEVER THE INPUT: true; the input reads as it did. -/
def msgTurnedSpec : ChangeSpec := { name := "msgTurned", fn := fun _ => fun
  | [d1, d2, d3] => { results := [.lit (.bool true)], args := [d1, d2, d3] }
  | _ => none }
def msgTurnedRow : OpenClaim := { program := "ytafkbodmiblbnaadoor", sum := "040a06c0179cbb73a67023920d6d9d141856d2ca291efca911cf9e70cc530065", func := "gimbal/gimballaw05.MsgTurned", spec := "msgTurned", unfollowed := true, recurses := true, named := ["gimbal/msg.kinds", "gimbal/item.kinds"], apart := false, laid := [("gimbal/item.kinds", laid_gimbal_item_kinds), ("gimbal/msg.kinds", laid_gimbal_msg_kinds)] }
def MsgTurnedSaid : Prop := msgTurnedRow.holds Tryd.pinned (OpenSpec.ofChange msgTurnedSpec)

/-- ITS FALSE NEIGHBOUR: 'it returns false'. Refute it at one input. -/
def msgTurnedWrong : ChangeSpec := { name := "msgTurned", fn := fun _ => fun
  | [d1, d2, d3] => { results := [.lit (.bool false)], args := [d1, d2, d3] }
  | _ => none }
def MsgTurnedWrongFalsely : Prop := msgTurnedRow.holds Tryd.pinned (OpenSpec.ofChange msgTurnedWrong)

/- THE SECOND FORM. 'bulk': how many values and letters a reading holds, each counted each time it is reached (what is shared counts as often as it is met; a slice's spare places count too). A statement '..UptoSaid' is the law's where the arguments, and the package variables that the reading takes, are together of bulk at most 1048576: NARROWER than '..Said'. Prove '..Said' where nothing that the law and all that it calls make is longer than what came in: it says more and counts as full. Else prove '..UptoSaid'. A law counts once. -/
mutual
def uptoBulk {H : Type} : DataW H → Nat
  | .lit (.string bytes) => bytes.length + 1
  | .lit _ => 1
  | .nil => 1
  | .ptr d => uptoBulk d + 1
  | .slice elems spare => uptoBulkAll elems + uptoBulkAll spare + 1
  | .agg parts => uptoBulkAll parts + 1
  | .iface _ d => uptoBulk d + 1
  | .map entries => uptoBulkEntries entries + 1
  | .held _ => 1
def uptoBulkAll {H : Type} : List (DataW H) → Nat
  | [] => 0
  | d :: r => uptoBulk d + uptoBulkAll r
def uptoBulkEntries {H : Type} : List (Lit × DataW H) → Nat
  | [] => 0
  | x :: r => uptoBulkEntry x + uptoBulkEntries r
def uptoBulkEntry {H : Type} : Lit × DataW H → Nat
  | (.string bytes, d) => bytes.length + uptoBulk d + 1
  | (_, d) => uptoBulk d + 1
 end
def uptoSmall : (H : Type) → List (DataW H) → Bool := fun _ ds => decide (uptoBulkAll ds ≤ 1048576)
def OpenSpec.upto (s : _root_.Go.ChangeSpec) : _root_.Go.OpenSpec := { _root_.Go.OpenSpec.ofChange s with cond := some uptoSmall }

/-- 'gimballaw05.MsgBack', WHERE WHAT IT READS IS OF BULK AT MOST 1048576: true; the input reads as it did. -/
def msgBackUptoRow : OpenClaim := { program := "ytafkbodmiblbnaadoor", sum := "040a06c0179cbb73a67023920d6d9d141856d2ca291efca911cf9e70cc530065", func := "gimbal/gimballaw05.MsgBack", spec := "msgBack", unfollowed := true, recurses := true, named := ["gimbal/msg.kinds", "gimbal/item.kinds"], apart := false, laid := [("gimbal/item.kinds", laid_gimbal_item_kinds), ("gimbal/msg.kinds", laid_gimbal_msg_kinds)], narrowed := true }
def MsgBackUptoSaid : Prop := msgBackUptoRow.holds Tryd.pinned (OpenSpec.upto msgBackSpec)

/-- 'gimballaw05.MsgAgain', WHERE WHAT IT READS IS OF BULK AT MOST 1048576: true; the input reads as it did. -/
def msgAgainUptoRow : OpenClaim := { program := "ytafkbodmiblbnaadoor", sum := "040a06c0179cbb73a67023920d6d9d141856d2ca291efca911cf9e70cc530065", func := "gimbal/gimballaw05.MsgAgain", spec := "msgAgain", unfollowed := true, recurses := true, named := ["gimbal/msg.kinds", "gimbal/item.kinds"], apart := false, laid := [("gimbal/item.kinds", laid_gimbal_item_kinds), ("gimbal/msg.kinds", laid_gimbal_msg_kinds)], narrowed := true }
def MsgAgainUptoSaid : Prop := msgAgainUptoRow.holds Tryd.pinned (OpenSpec.upto msgAgainSpec)

/-- 'gimballaw05.MsgTurned', WHERE WHAT IT READS IS OF BULK AT MOST 1048576: true; the input reads as it did. -/
def msgTurnedUptoRow : OpenClaim := { program := "ytafkbodmiblbnaadoor", sum := "040a06c0179cbb73a67023920d6d9d141856d2ca291efca911cf9e70cc530065", func := "gimbal/gimballaw05.MsgTurned", spec := "msgTurned", unfollowed := true, recurses := true, named := ["gimbal/msg.kinds", "gimbal/item.kinds"], apart := false, laid := [("gimbal/item.kinds", laid_gimbal_item_kinds), ("gimbal/msg.kinds", laid_gimbal_msg_kinds)], narrowed := true }
def MsgTurnedUptoSaid : Prop := msgTurnedUptoRow.holds Tryd.pinned (OpenSpec.upto msgTurnedSpec)

end Rows
end Go.Proofs.YtafkbodmiblbnaaDoor
