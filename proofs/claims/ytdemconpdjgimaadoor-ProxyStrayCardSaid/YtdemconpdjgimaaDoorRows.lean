/-
  NARROWER THAN 'FOR EVERY INPUT', by the rows' own cells (each row's printed sentence says how): ProxyEnough: laid · ProxyStray: laid · ProxySends: laid · ProxyNums: laid.
  DERIVED. THE GIVEN ROWS OF THIS SEAT. 4 by the template 'for every input the law returns true; each argument reads behind the call as it read before'; 0 by the template 'total and deterministic' (their statements: YtdemconpdjgimaaDoorTotals.lean).
  GIVEN WITH THE SEED: the statements are not yours to turn. If you find one false, say at which input.
  Laid BY PROGRAM, IN A SANDBOX (cutbox-rows.mjs): the forced cells as the released guide's own fill.sh prints them over the translation bc667999b8723a98… (all of the seat's roots in one cut). By AI agents, Wed Nov 11 2026. No macro, syntax, notation, axiom, sorry.
-/
import Derived.Test.YtdemconpdjgimaaDoorChecked
import GoSem.Claim
import GoSem.ClaimJoined
import GoSem.ClaimMapViews
import Derived.JoinedTies
import Derived.KernelRfl
namespace Go.Proofs.YtdemconpdjgimaaDoor
/- THE CELL 'sum', in the pinned program and in every row, IS THE sha256 OF THE DUMP (.gsa) THAT YtdemconpdjgimaaDoorProg.lean LOADS. Nothing in Lean hashes anything: it is a label: what it is worth is what the hold of that sum in a sandbox is worth. -/
noncomputable def Tryd.pinned : Pinned := { name := "ytdemconpdjgimaadoor", sum := "bc667999b8723a98680a07ea58a3269501828ac4a489ac3b8e0a41675c3a506c", checked := Tryd.checked }
namespace Rows
def none {H : Type} : Left H := { results := [], args := [] }

/- WHAT THE LISTED PACKAGE-LEVEL VARIABLES READ AS WHEN THE CALL BEGINS. Each datum BY PROGRAM (the guide's laid-datum.mjs) off the statement by which the dump's own 'gosem.cut.vars' lays the variable. In a bare row this is a premise. The card (YtdemconpdjgimaaDoorCards.lean) ties it to the program's text. -/
def laid_gimbal_item_kinds {H : Type} : DataW H := .agg [.lit (.int .i64 0), .lit (.int .i64 5), .lit (.int .i64 9), .lit (.int .i64 22), .lit (.int .i64 2), .lit (.int .i64 2), .lit (.int .i64 2), .lit (.int .i64 4), .lit (.int .i64 1), .lit (.int .i64 2)]
def laid_gimbal_msg_kinds {H : Type} : DataW H := .agg [.lit (.int .i64 0), .lit (.int .i64 16), .lit (.int .i64 99), .lit (.int .i64 23), .lit (.int .i64 3), .lit (.int .i64 7), .lit (.int .i64 1), .lit (.int .i64 137), .lit (.int .i64 3), .lit (.int .i64 129), .lit (.int .i64 33)]

/-- 'gimballaw21.ProxyEnough': WHATEVER THE INPUT: true; the input reads as it did. -/
def proxyEnoughSpec : ChangeSpec := { name := "proxyEnough", fn := fun _ => fun
  | [d1, d2] => { results := [.lit (.bool true)], args := [d1, d2] }
  | _ => none }
def proxyEnoughRow : OpenClaim := { program := "ytdemconpdjgimaadoor", sum := "bc667999b8723a98680a07ea58a3269501828ac4a489ac3b8e0a41675c3a506c", func := "gimbal/gimballaw21.ProxyEnough", spec := "proxyEnough", unfollowed := true, recurses := true, named := ["gimbal/item.kinds", "gimbal/msg.kinds"], plainKeys := false, apart := false, laid := [("gimbal/item.kinds", laid_gimbal_item_kinds), ("gimbal/msg.kinds", laid_gimbal_msg_kinds)] }
def ProxyEnoughSaid : Prop := proxyEnoughRow.holds Tryd.pinned (OpenSpec.ofChange proxyEnoughSpec)

/-- ITS FALSE NEIGHBOUR: 'it returns false'. Refute it at one input. -/
def proxyEnoughWrong : ChangeSpec := { name := "proxyEnough", fn := fun _ => fun
  | [d1, d2] => { results := [.lit (.bool false)], args := [d1, d2] }
  | _ => none }
def ProxyEnoughWrongFalsely : Prop := proxyEnoughRow.holds Tryd.pinned (OpenSpec.ofChange proxyEnoughWrong)

/-- 'gimballaw21.ProxyStray': WHATEVER THE INPUT: true; the input reads as it did. -/
def proxyStraySpec : ChangeSpec := { name := "proxyStray", fn := fun _ => fun
  | [d1, d2, d3] => { results := [.lit (.bool true)], args := [d1, d2, d3] }
  | _ => none }
def proxyStrayRow : OpenClaim := { program := "ytdemconpdjgimaadoor", sum := "bc667999b8723a98680a07ea58a3269501828ac4a489ac3b8e0a41675c3a506c", func := "gimbal/gimballaw21.ProxyStray", spec := "proxyStray", unfollowed := true, recurses := true, named := ["gimbal/item.kinds", "gimbal/msg.kinds"], plainKeys := false, apart := false, laid := [("gimbal/item.kinds", laid_gimbal_item_kinds), ("gimbal/msg.kinds", laid_gimbal_msg_kinds)] }
def ProxyStraySaid : Prop := proxyStrayRow.holds Tryd.pinned (OpenSpec.ofChange proxyStraySpec)

/-- ITS FALSE NEIGHBOUR: 'it returns false'. Refute it at one input. -/
def proxyStrayWrong : ChangeSpec := { name := "proxyStray", fn := fun _ => fun
  | [d1, d2, d3] => { results := [.lit (.bool false)], args := [d1, d2, d3] }
  | _ => none }
def ProxyStrayWrongFalsely : Prop := proxyStrayRow.holds Tryd.pinned (OpenSpec.ofChange proxyStrayWrong)

/-- 'gimballaw21.ProxySends': WHATEVER THE INPUT: true; the input reads as it did. -/
def proxySendsSpec : ChangeSpec := { name := "proxySends", fn := fun _ => fun
  | [d1, d2, d3] => { results := [.lit (.bool true)], args := [d1, d2, d3] }
  | _ => none }
def proxySendsRow : OpenClaim := { program := "ytdemconpdjgimaadoor", sum := "bc667999b8723a98680a07ea58a3269501828ac4a489ac3b8e0a41675c3a506c", func := "gimbal/gimballaw21.ProxySends", spec := "proxySends", unfollowed := true, recurses := true, named := ["gimbal/item.kinds", "gimbal/msg.kinds"], plainKeys := false, apart := false, laid := [("gimbal/item.kinds", laid_gimbal_item_kinds), ("gimbal/msg.kinds", laid_gimbal_msg_kinds)] }
def ProxySendsSaid : Prop := proxySendsRow.holds Tryd.pinned (OpenSpec.ofChange proxySendsSpec)

/-- ITS FALSE NEIGHBOUR: 'it returns false'. Refute it at one input. -/
def proxySendsWrong : ChangeSpec := { name := "proxySends", fn := fun _ => fun
  | [d1, d2, d3] => { results := [.lit (.bool false)], args := [d1, d2, d3] }
  | _ => none }
def ProxySendsWrongFalsely : Prop := proxySendsRow.holds Tryd.pinned (OpenSpec.ofChange proxySendsWrong)

/-- 'gimballaw21.ProxyNums': WHATEVER THE INPUT: true; the input reads as it did. -/
def proxyNumsSpec : ChangeSpec := { name := "proxyNums", fn := fun _ => fun
  | [d1, d2] => { results := [.lit (.bool true)], args := [d1, d2] }
  | _ => none }
def proxyNumsRow : OpenClaim := { program := "ytdemconpdjgimaadoor", sum := "bc667999b8723a98680a07ea58a3269501828ac4a489ac3b8e0a41675c3a506c", func := "gimbal/gimballaw21.ProxyNums", spec := "proxyNums", unfollowed := true, recurses := true, named := ["gimbal/item.kinds", "gimbal/msg.kinds"], plainKeys := false, apart := false, laid := [("gimbal/item.kinds", laid_gimbal_item_kinds), ("gimbal/msg.kinds", laid_gimbal_msg_kinds)] }
def ProxyNumsSaid : Prop := proxyNumsRow.holds Tryd.pinned (OpenSpec.ofChange proxyNumsSpec)

/-- ITS FALSE NEIGHBOUR: 'it returns false'. Refute it at one input. -/
def proxyNumsWrong : ChangeSpec := { name := "proxyNums", fn := fun _ => fun
  | [d1, d2] => { results := [.lit (.bool false)], args := [d1, d2] }
  | _ => none }
def ProxyNumsWrongFalsely : Prop := proxyNumsRow.holds Tryd.pinned (OpenSpec.ofChange proxyNumsWrong)

/- THE SECOND FORM. 'bulk': how many values and letters a reading holds, each counted each time it is reached (what is shared counts as often as it is met; a slice's spare places count too). A statement '..UptoSaid' is the law's where the arguments, and the package variables that the reading takes, are together of bulk at most 1048576: NARROWER than '..Said'. Prove '..Said' where nothing that the law and all that it calls make is longer than what came in: it says more and counts as full. Else prove '..UptoSaid'. A law counts once. -/
mutual
def uptoBulk {H : Type} : DataW H → Nat
  | .lit (.string bytes) => bytes.length + 1
  | .lit _ => 1
  | .nil => 1
  | .ptr d => uptoBulk d + 1
  | .slice elems spare => uptoBulkAll elems + uptoBulkAll spare + 1
  | .agg parts => uptoBulkAll parts + 1
  | .iface _ d => uptoBulk d + 1
  | .map entries => uptoBulkEntries entries + 1
  | .held _ => 1
def uptoBulkAll {H : Type} : List (DataW H) → Nat
  | [] => 0
  | d :: r => uptoBulk d + uptoBulkAll r
def uptoBulkEntries {H : Type} : List (Lit × DataW H) → Nat
  | [] => 0
  | x :: r => uptoBulkEntry x + uptoBulkEntries r
def uptoBulkEntry {H : Type} : Lit × DataW H → Nat
  | (.string bytes, d) => bytes.length + uptoBulk d + 1
  | (_, d) => uptoBulk d + 1
 end
def uptoSmall : (H : Type) → List (DataW H) → Bool := fun _ ds => decide (uptoBulkAll ds ≤ 1048576)
def OpenSpec.upto (s : _root_.Go.ChangeSpec) : _root_.Go.OpenSpec := { _root_.Go.OpenSpec.ofChange s with cond := some uptoSmall }

/-- 'gimballaw21.ProxyEnough', WHERE WHAT IT READS IS OF BULK AT MOST 1048576: true; the input reads as it did. -/
def proxyEnoughUptoRow : OpenClaim := { program := "ytdemconpdjgimaadoor", sum := "bc667999b8723a98680a07ea58a3269501828ac4a489ac3b8e0a41675c3a506c", func := "gimbal/gimballaw21.ProxyEnough", spec := "proxyEnough", unfollowed := true, recurses := true, named := ["gimbal/item.kinds", "gimbal/msg.kinds"], plainKeys := false, apart := false, laid := [("gimbal/item.kinds", laid_gimbal_item_kinds), ("gimbal/msg.kinds", laid_gimbal_msg_kinds)], narrowed := true }
def ProxyEnoughUptoSaid : Prop := proxyEnoughUptoRow.holds Tryd.pinned (OpenSpec.upto proxyEnoughSpec)

/-- 'gimballaw21.ProxyStray', WHERE WHAT IT READS IS OF BULK AT MOST 1048576: true; the input reads as it did. -/
def proxyStrayUptoRow : OpenClaim := { program := "ytdemconpdjgimaadoor", sum := "bc667999b8723a98680a07ea58a3269501828ac4a489ac3b8e0a41675c3a506c", func := "gimbal/gimballaw21.ProxyStray", spec := "proxyStray", unfollowed := true, recurses := true, named := ["gimbal/item.kinds", "gimbal/msg.kinds"], plainKeys := false, apart := false, laid := [("gimbal/item.kinds", laid_gimbal_item_kinds), ("gimbal/msg.kinds", laid_gimbal_msg_kinds)], narrowed := true }
def ProxyStrayUptoSaid : Prop := proxyStrayUptoRow.holds Tryd.pinned (OpenSpec.upto proxyStraySpec)

/-- 'gimballaw21.ProxySends', WHERE WHAT IT READS IS OF BULK AT MOST 1048576: true; the input reads as it did. -/
def proxySendsUptoRow : OpenClaim := { program := "ytdemconpdjgimaadoor", sum := "bc667999b8723a98680a07ea58a3269501828ac4a489ac3b8e0a41675c3a506c", func := "gimbal/gimballaw21.ProxySends", spec := "proxySends", unfollowed := true, recurses := true, named := ["gimbal/item.kinds", "gimbal/msg.kinds"], plainKeys := false, apart := false, laid := [("gimbal/item.kinds", laid_gimbal_item_kinds), ("gimbal/msg.kinds", laid_gimbal_msg_kinds)], narrowed := true }
def ProxySendsUptoSaid : Prop := proxySendsUptoRow.holds Tryd.pinned (OpenSpec.upto proxySendsSpec)

/-- 'gimballaw21.ProxyNums', WHERE WHAT IT READS IS OF BULK AT MOST 1048576: true; the input reads as it did. -/
def proxyNumsUptoRow : OpenClaim := { program := "ytdemconpdjgimaadoor", sum := "bc667999b8723a98680a07ea58a3269501828ac4a489ac3b8e0a41675c3a506c", func := "gimbal/gimballaw21.ProxyNums", spec := "proxyNums", unfollowed := true, recurses := true, named := ["gimbal/item.kinds", "gimbal/msg.kinds"], plainKeys := false, apart := false, laid := [("gimbal/item.kinds", laid_gimbal_item_kinds), ("gimbal/msg.kinds", laid_gimbal_msg_kinds)], narrowed := true }
def ProxyNumsUptoSaid : Prop := proxyNumsUptoRow.holds Tryd.pinned (OpenSpec.upto proxyNumsSpec)

end Rows
end Go.Proofs.YtdemconpdjgimaaDoor
