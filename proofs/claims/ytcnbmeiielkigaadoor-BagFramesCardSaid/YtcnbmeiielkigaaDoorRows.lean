/-
  NARROWER THAN 'FOR EVERY INPUT', by the rows' own cells (each row's printed sentence says how): BagKeeps: laid · BagOnce: laid · BagTo: laid · BagFrames: laid.
  DERIVED. THE GIVEN ROWS OF THIS SEAT. 4 by the template 'for every input the law returns true; each argument reads behind the call as it read before'; 0 by the template 'total and deterministic' (their statements: YtcnbmeiielkigaaDoorTotals.lean).
  GIVEN WITH THE SEED: the statements are not yours to turn. If you find one false, say at which input.
  Laid BY PROGRAM, IN A SANDBOX (cutbox-rows.mjs): the forced cells as the released guide's own fill.sh prints them over the translation 2a471acfa8e98ca5… (all of the seat's roots in one cut). By AI agents, Wed Nov 11 2026. No macro, syntax, notation, axiom, sorry.
-/
import Derived.Test.YtcnbmeiielkigaaDoorChecked
import GoSem.Claim
import GoSem.ClaimJoined
import GoSem.ClaimMapViews
import Derived.JoinedTies
import Derived.KernelRfl
namespace Go.Proofs.YtcnbmeiielkigaaDoor
/- THE CELL 'sum', in the pinned program and in every row, IS THE sha256 OF THE DUMP (.gsa) THAT YtcnbmeiielkigaaDoorProg.lean LOADS. Nothing in Lean hashes anything: it is a label: what it is worth is what the hold of that sum in a sandbox is worth. -/
noncomputable def Tryd.pinned : Pinned := { name := "ytcnbmeiielkigaadoor", sum := "2a471acfa8e98ca551be633ceea77e86a9d49c72c808c8c697f3ee9e1814b30a", checked := Tryd.checked }
namespace Rows
def none {H : Type} : Left H := { results := [], args := [] }

/- WHAT THE LISTED PACKAGE-LEVEL VARIABLES READ AS WHEN THE CALL BEGINS. Each datum BY PROGRAM (the guide's laid-datum.mjs) off the statement by which the dump's own 'gosem.cut.vars' lays the variable. In a bare row this is a premise. The card (YtcnbmeiielkigaaDoorCards.lean) ties it to the program's text. -/
def laid_gimbal_item_kinds {H : Type} : DataW H := .agg [.lit (.int .i64 0), .lit (.int .i64 5), .lit (.int .i64 9), .lit (.int .i64 22), .lit (.int .i64 2), .lit (.int .i64 2), .lit (.int .i64 2), .lit (.int .i64 4), .lit (.int .i64 1), .lit (.int .i64 2)]
def laid_gimbal_msg_kinds {H : Type} : DataW H := .agg [.lit (.int .i64 0), .lit (.int .i64 16), .lit (.int .i64 99), .lit (.int .i64 23), .lit (.int .i64 3), .lit (.int .i64 7), .lit (.int .i64 1), .lit (.int .i64 137), .lit (.int .i64 3), .lit (.int .i64 129), .lit (.int .i64 33)]

/-- 'gimballaw22.BagKeeps': WHATEVER THE INPUT: true; the input reads as it did. -/
def bagKeepsSpec : ChangeSpec := { name := "bagKeeps", fn := fun _ => fun
  | [d] => { results := [.lit (.bool true)], args := [d] }
  | _ => none }
def bagKeepsRow : OpenClaim := { program := "ytcnbmeiielkigaadoor", sum := "2a471acfa8e98ca551be633ceea77e86a9d49c72c808c8c697f3ee9e1814b30a", func := "gimbal/gimballaw22.BagKeeps", spec := "bagKeeps", unfollowed := true, recurses := true, named := ["gimbal/msg.kinds", "gimbal/item.kinds"], apart := false, laid := [("gimbal/item.kinds", laid_gimbal_item_kinds), ("gimbal/msg.kinds", laid_gimbal_msg_kinds)] }
def BagKeepsSaid : Prop := bagKeepsRow.holds Tryd.pinned (OpenSpec.ofChange bagKeepsSpec)

/-- ITS FALSE NEIGHBOUR: 'it returns false'. Refute it at one input. -/
def bagKeepsWrong : ChangeSpec := { name := "bagKeeps", fn := fun _ => fun
  | [d] => { results := [.lit (.bool false)], args := [d] }
  | _ => none }
def BagKeepsWrongFalsely : Prop := bagKeepsRow.holds Tryd.pinned (OpenSpec.ofChange bagKeepsWrong)

/-- 'gimballaw22.BagOnce': WHATEVER THE INPUT: true; the input reads as it did. -/
def bagOnceSpec : ChangeSpec := { name := "bagOnce", fn := fun _ => fun
  | [d1, d2, d3] => { results := [.lit (.bool true)], args := [d1, d2, d3] }
  | _ => none }
def bagOnceRow : OpenClaim := { program := "ytcnbmeiielkigaadoor", sum := "2a471acfa8e98ca551be633ceea77e86a9d49c72c808c8c697f3ee9e1814b30a", func := "gimbal/gimballaw22.BagOnce", spec := "bagOnce", unfollowed := true, recurses := true, named := ["gimbal/msg.kinds", "gimbal/item.kinds"], apart := false, laid := [("gimbal/item.kinds", laid_gimbal_item_kinds), ("gimbal/msg.kinds", laid_gimbal_msg_kinds)] }
def BagOnceSaid : Prop := bagOnceRow.holds Tryd.pinned (OpenSpec.ofChange bagOnceSpec)

/-- ITS FALSE NEIGHBOUR: 'it returns false'. Refute it at one input. -/
def bagOnceWrong : ChangeSpec := { name := "bagOnce", fn := fun _ => fun
  | [d1, d2, d3] => { results := [.lit (.bool false)], args := [d1, d2, d3] }
  | _ => none }
def BagOnceWrongFalsely : Prop := bagOnceRow.holds Tryd.pinned (OpenSpec.ofChange bagOnceWrong)

/-- 'gimballaw22.BagTo': WHATEVER THE INPUT: true; the input reads as it did. -/
def bagToSpec : ChangeSpec := { name := "bagTo", fn := fun _ => fun
  | [d] => { results := [.lit (.bool true)], args := [d] }
  | _ => none }
def bagToRow : OpenClaim := { program := "ytcnbmeiielkigaadoor", sum := "2a471acfa8e98ca551be633ceea77e86a9d49c72c808c8c697f3ee9e1814b30a", func := "gimbal/gimballaw22.BagTo", spec := "bagTo", unfollowed := true, recurses := true, named := ["gimbal/msg.kinds", "gimbal/item.kinds"], apart := false, laid := [("gimbal/item.kinds", laid_gimbal_item_kinds), ("gimbal/msg.kinds", laid_gimbal_msg_kinds)] }
def BagToSaid : Prop := bagToRow.holds Tryd.pinned (OpenSpec.ofChange bagToSpec)

/-- ITS FALSE NEIGHBOUR: 'it returns false'. Refute it at one input. -/
def bagToWrong : ChangeSpec := { name := "bagTo", fn := fun _ => fun
  | [d] => { results := [.lit (.bool false)], args := [d] }
  | _ => none }
def BagToWrongFalsely : Prop := bagToRow.holds Tryd.pinned (OpenSpec.ofChange bagToWrong)

/-- 'gimballaw22.BagFrames': WHATEVER THE INPUT: true; the input reads as it did. -/
def bagFramesSpec : ChangeSpec := { name := "bagFrames", fn := fun _ => fun
  | [d1, d2] => { results := [.lit (.bool true)], args := [d1, d2] }
  | _ => none }
def bagFramesRow : OpenClaim := { program := "ytcnbmeiielkigaadoor", sum := "2a471acfa8e98ca551be633ceea77e86a9d49c72c808c8c697f3ee9e1814b30a", func := "gimbal/gimballaw22.BagFrames", spec := "bagFrames", unfollowed := true, recurses := true, named := ["gimbal/msg.kinds", "gimbal/item.kinds"], apart := false, laid := [("gimbal/item.kinds", laid_gimbal_item_kinds), ("gimbal/msg.kinds", laid_gimbal_msg_kinds)] }
def BagFramesSaid : Prop := bagFramesRow.holds Tryd.pinned (OpenSpec.ofChange bagFramesSpec)

/-- ITS FALSE NEIGHBOUR: 'it returns false'. Refute it at one input. -/
def bagFramesWrong : ChangeSpec := { name := "bagFrames", fn := fun _ => fun
  | [d1, d2] => { results := [.lit (.bool false)], args := [d1, d2] }
  | _ => none }
def BagFramesWrongFalsely : Prop := bagFramesRow.holds Tryd.pinned (OpenSpec.ofChange bagFramesWrong)

/- THE SECOND FORM. 'bulk': how many values and letters a reading holds, each counted each time it is reached (what is shared counts as often as it is met; a slice's spare places count too). A statement '..UptoSaid' is the law's where the arguments, and the package variables that the reading takes, are together of bulk at most 1048576: NARROWER than '..Said'. Prove '..Said' where nothing that the law and all that it calls make is longer than what came in: it says more and counts as full. Else prove '..UptoSaid'. A law counts once. -/
mutual
def uptoBulk {H : Type} : DataW H → Nat
  | .lit (.string bytes) => bytes.length + 1
  | .lit _ => 1
  | .nil => 1
  | .ptr d => uptoBulk d + 1
  | .slice elems spare => uptoBulkAll elems + uptoBulkAll spare + 1
  | .agg parts => uptoBulkAll parts + 1
  | .iface _ d => uptoBulk d + 1
  | .map entries => uptoBulkEntries entries + 1
  | .held _ => 1
def uptoBulkAll {H : Type} : List (DataW H) → Nat
  | [] => 0
  | d :: r => uptoBulk d + uptoBulkAll r
def uptoBulkEntries {H : Type} : List (Lit × DataW H) → Nat
  | [] => 0
  | x :: r => uptoBulkEntry x + uptoBulkEntries r
def uptoBulkEntry {H : Type} : Lit × DataW H → Nat
  | (.string bytes, d) => bytes.length + uptoBulk d + 1
  | (_, d) => uptoBulk d + 1
 end
def uptoSmall : (H : Type) → List (DataW H) → Bool := fun _ ds => decide (uptoBulkAll ds ≤ 1048576)
def OpenSpec.upto (s : _root_.Go.ChangeSpec) : _root_.Go.OpenSpec := { _root_.Go.OpenSpec.ofChange s with cond := some uptoSmall }

/-- 'gimballaw22.BagKeeps', WHERE WHAT IT READS IS OF BULK AT MOST 1048576: true; the input reads as it did. -/
def bagKeepsUptoRow : OpenClaim := { program := "ytcnbmeiielkigaadoor", sum := "2a471acfa8e98ca551be633ceea77e86a9d49c72c808c8c697f3ee9e1814b30a", func := "gimbal/gimballaw22.BagKeeps", spec := "bagKeeps", unfollowed := true, recurses := true, named := ["gimbal/msg.kinds", "gimbal/item.kinds"], apart := false, laid := [("gimbal/item.kinds", laid_gimbal_item_kinds), ("gimbal/msg.kinds", laid_gimbal_msg_kinds)], narrowed := true }
def BagKeepsUptoSaid : Prop := bagKeepsUptoRow.holds Tryd.pinned (OpenSpec.upto bagKeepsSpec)

/-- 'gimballaw22.BagOnce', WHERE WHAT IT READS IS OF BULK AT MOST 1048576: true; the input reads as it did. -/
def bagOnceUptoRow : OpenClaim := { program := "ytcnbmeiielkigaadoor", sum := "2a471acfa8e98ca551be633ceea77e86a9d49c72c808c8c697f3ee9e1814b30a", func := "gimbal/gimballaw22.BagOnce", spec := "bagOnce", unfollowed := true, recurses := true, named := ["gimbal/msg.kinds", "gimbal/item.kinds"], apart := false, laid := [("gimbal/item.kinds", laid_gimbal_item_kinds), ("gimbal/msg.kinds", laid_gimbal_msg_kinds)], narrowed := true }
def BagOnceUptoSaid : Prop := bagOnceUptoRow.holds Tryd.pinned (OpenSpec.upto bagOnceSpec)

/-- 'gimballaw22.BagTo', WHERE WHAT IT READS IS OF BULK AT MOST 1048576: true; the input reads as it did. -/
def bagToUptoRow : OpenClaim := { program := "ytcnbmeiielkigaadoor", sum := "2a471acfa8e98ca551be633ceea77e86a9d49c72c808c8c697f3ee9e1814b30a", func := "gimbal/gimballaw22.BagTo", spec := "bagTo", unfollowed := true, recurses := true, named := ["gimbal/msg.kinds", "gimbal/item.kinds"], apart := false, laid := [("gimbal/item.kinds", laid_gimbal_item_kinds), ("gimbal/msg.kinds", laid_gimbal_msg_kinds)], narrowed := true }
def BagToUptoSaid : Prop := bagToUptoRow.holds Tryd.pinned (OpenSpec.upto bagToSpec)

/-- 'gimballaw22.BagFrames', WHERE WHAT IT READS IS OF BULK AT MOST 1048576: true; the input reads as it did. -/
def bagFramesUptoRow : OpenClaim := { program := "ytcnbmeiielkigaadoor", sum := "2a471acfa8e98ca551be633ceea77e86a9d49c72c808c8c697f3ee9e1814b30a", func := "gimbal/gimballaw22.BagFrames", spec := "bagFrames", unfollowed := true, recurses := true, named := ["gimbal/msg.kinds", "gimbal/item.kinds"], apart := false, laid := [("gimbal/item.kinds", laid_gimbal_item_kinds), ("gimbal/msg.kinds", laid_gimbal_msg_kinds)], narrowed := true }
def BagFramesUptoSaid : Prop := bagFramesUptoRow.holds Tryd.pinned (OpenSpec.upto bagFramesSpec)

end Rows
end Go.Proofs.YtcnbmeiielkigaaDoor
