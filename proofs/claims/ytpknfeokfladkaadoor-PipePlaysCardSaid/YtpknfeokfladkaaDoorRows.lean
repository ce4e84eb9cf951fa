/-
  NARROWER THAN 'FOR EVERY INPUT', by the rows' own cells (each row's printed sentence says how): PipePlays: laid · PipeAgrees: laid · PipeKeeps: laid · PipeJoins: laid · PipeOwn: laid · PipeNames: laid.
  DERIVED. THE GIVEN ROWS OF THIS SEAT. 6 by the template 'for every input the law returns true; each argument reads behind the call as it read before'; 0 by the template 'total and deterministic' (their statements: YtpknfeokfladkaaDoorTotals.lean).
  GIVEN WITH THE SEED: the statements are not yours to turn. If you find one false, say at which input.
  Laid BY PROGRAM, IN A SANDBOX (cutbox-rows.mjs): the forced cells as the released guide's own fill.sh prints them over the translation d3a962f1ad52b048… (all of the seat's roots in one cut). By AI agents, Wed Nov 11 2026. No macro, syntax, notation, axiom, sorry.
-/
import Derived.Test.YtpknfeokfladkaaDoorChecked
import GoSem.Claim
import GoSem.ClaimJoined
import GoSem.ClaimMapViews
import Derived.JoinedTies
import Derived.KernelRfl
namespace Go.Proofs.YtpknfeokfladkaaDoor
/- THE CELL 'sum', in the pinned program and in every row, IS THE sha256 OF THE DUMP (.gsa) THAT YtpknfeokfladkaaDoorProg.lean LOADS. Nothing in Lean hashes anything: it is a label: what it is worth is what the hold of that sum in a sandbox is worth. -/
noncomputable def Tryd.pinned : Pinned := { name := "ytpknfeokfladkaadoor", sum := "d3a962f1ad52b048c89bd2865e7e7a23c23268bfe5dfa003d8a522bd87481fdd", checked := Tryd.checked }
namespace Rows
def none {H : Type} : Left H := { results := [], args := [] }

/- WHAT THE LISTED PACKAGE-LEVEL VARIABLES READ AS WHEN THE CALL BEGINS. Each datum BY PROGRAM (the guide's laid-datum.mjs) off the statement by which the dump's own 'gosem.cut.vars' lays the variable. In a bare row this is a premise. The card (YtpknfeokfladkaaDoorCards.lean) ties it to the program's text. -/
def laid_gimbal_item_kinds {H : Type} : DataW H := .agg [.lit (.int .i64 0), .lit (.int .i64 5), .lit (.int .i64 9), .lit (.int .i64 22), .lit (.int .i64 2), .lit (.int .i64 2), .lit (.int .i64 2), .lit (.int .i64 4), .lit (.int .i64 1), .lit (.int .i64 2)]

/-- 'gimballaw12.PipePlays': WHATEVER THE INPUT: true; the input reads as it did. -/
def pipePlaysSpec : ChangeSpec := { name := "pipePlays", fn := fun _ => fun
  | [d1, d2] => { results := [.lit (.bool true)], args := [d1, d2] }
  | _ => none }
def pipePlaysRow : OpenClaim := { program := "ytpknfeokfladkaadoor", sum := "d3a962f1ad52b048c89bd2865e7e7a23c23268bfe5dfa003d8a522bd87481fdd", func := "gimbal/gimballaw12.PipePlays", spec := "pipePlays", unfollowed := true, recurses := true, named := ["gimbal/item.kinds"], apart := false, laid := [("gimbal/item.kinds", laid_gimbal_item_kinds)] }
def PipePlaysSaid : Prop := pipePlaysRow.holds Tryd.pinned (OpenSpec.ofChange pipePlaysSpec)

/-- ITS FALSE NEIGHBOUR: 'it returns false'. Refute it at one input. -/
def pipePlaysWrong : ChangeSpec := { name := "pipePlays", fn := fun _ => fun
  | [d1, d2] => { results := [.lit (.bool false)], args := [d1, d2] }
  | _ => none }
def PipePlaysWrongFalsely : Prop := pipePlaysRow.holds Tryd.pinned (OpenSpec.ofChange pipePlaysWrong)

/-- 'gimballaw12.PipeAgrees': WHATEVER THE INPUT: true; the input reads as it did. -/
def pipeAgreesSpec : ChangeSpec := { name := "pipeAgrees", fn := fun _ => fun
  | [d1, d2, d3] => { results := [.lit (.bool true)], args := [d1, d2, d3] }
  | _ => none }
def pipeAgreesRow : OpenClaim := { program := "ytpknfeokfladkaadoor", sum := "d3a962f1ad52b048c89bd2865e7e7a23c23268bfe5dfa003d8a522bd87481fdd", func := "gimbal/gimballaw12.PipeAgrees", spec := "pipeAgrees", unfollowed := true, recurses := true, named := ["gimbal/item.kinds"], apart := false, laid := [("gimbal/item.kinds", laid_gimbal_item_kinds)] }
def PipeAgreesSaid : Prop := pipeAgreesRow.holds Tryd.pinned (OpenSpec.ofChange pipeAgreesSpec)

/-- ITS FALSE NEIGHBOUR: 'it returns false'. Refute it at one input. -/
def pipeAgreesWrong : ChangeSpec := { name := "pipeAgrees", fn := fun _ => fun
  | [d1, d2, d3] => { results := [.lit (.bool false)], args := [d1, d2, d3] }
  | _ => none }
def PipeAgreesWrongFalsely : Prop := pipeAgreesRow.holds Tryd.pinned (OpenSpec.ofChange pipeAgreesWrong)

/-- 'gimballaw12.PipeKeeps': WHATEVER THE INPUT: true; the input reads as it did. -/
def pipeKeepsSpec : ChangeSpec := { name := "pipeKeeps", fn := fun _ => fun
  | [d1, d2] => { results := [.lit (.bool true)], args := [d1, d2] }
  | _ => none }
def pipeKeepsRow : OpenClaim := { program := "ytpknfeokfladkaadoor", sum := "d3a962f1ad52b048c89bd2865e7e7a23c23268bfe5dfa003d8a522bd87481fdd", func := "gimbal/gimballaw12.PipeKeeps", spec := "pipeKeeps", unfollowed := true, recurses := true, named := ["gimbal/item.kinds"], apart := false, laid := [("gimbal/item.kinds", laid_gimbal_item_kinds)] }
def PipeKeepsSaid : Prop := pipeKeepsRow.holds Tryd.pinned (OpenSpec.ofChange pipeKeepsSpec)

/-- ITS FALSE NEIGHBOUR: 'it returns false'. Refute it at one input. -/
def pipeKeepsWrong : ChangeSpec := { name := "pipeKeeps", fn := fun _ => fun
  | [d1, d2] => { results := [.lit (.bool false)], args := [d1, d2] }
  | _ => none }
def PipeKeepsWrongFalsely : Prop := pipeKeepsRow.holds Tryd.pinned (OpenSpec.ofChange pipeKeepsWrong)

/-- 'gimballaw12.PipeJoins': WHATEVER THE INPUT: true; the input reads as it did. -/
def pipeJoinsSpec : ChangeSpec := { name := "pipeJoins", fn := fun _ => fun
  | [d1, d2, d3] => { results := [.lit (.bool true)], args := [d1, d2, d3] }
  | _ => none }
def pipeJoinsRow : OpenClaim := { program := "ytpknfeokfladkaadoor", sum := "d3a962f1ad52b048c89bd2865e7e7a23c23268bfe5dfa003d8a522bd87481fdd", func := "gimbal/gimballaw12.PipeJoins", spec := "pipeJoins", unfollowed := true, recurses := true, named := ["gimbal/item.kinds"], apart := false, laid := [("gimbal/item.kinds", laid_gimbal_item_kinds)] }
def PipeJoinsSaid : Prop := pipeJoinsRow.holds Tryd.pinned (OpenSpec.ofChange pipeJoinsSpec)

/-- ITS FALSE NEIGHBOUR: 'it returns false'. Refute it at one input. -/
def pipeJoinsWrong : ChangeSpec := { name := "pipeJoins", fn := fun _ => fun
  | [d1, d2, d3] => { results := [.lit (.bool false)], args := [d1, d2, d3] }
  | _ => none }
def PipeJoinsWrongFalsely : Prop := pipeJoinsRow.holds Tryd.pinned (OpenSpec.ofChange pipeJoinsWrong)

/-- 'gimballaw12.PipeOwn': WHATEVER THE INPUT: true; the input reads as it did. -/
def pipeOwnSpec : ChangeSpec := { name := "pipeOwn", fn := fun _ => fun
  | [d] => { results := [.lit (.bool true)], args := [d] }
  | _ => none }
def pipeOwnRow : OpenClaim := { program := "ytpknfeokfladkaadoor", sum := "d3a962f1ad52b048c89bd2865e7e7a23c23268bfe5dfa003d8a522bd87481fdd", func := "gimbal/gimballaw12.PipeOwn", spec := "pipeOwn", unfollowed := true, recurses := true, named := ["gimbal/item.kinds"], apart := false, laid := [("gimbal/item.kinds", laid_gimbal_item_kinds)] }
def PipeOwnSaid : Prop := pipeOwnRow.holds Tryd.pinned (OpenSpec.ofChange pipeOwnSpec)

/-- ITS FALSE NEIGHBOUR: 'it returns false'. Refute it at one input. -/
def pipeOwnWrong : ChangeSpec := { name := "pipeOwn", fn := fun _ => fun
  | [d] => { results := [.lit (.bool false)], args := [d] }
  | _ => none }
def PipeOwnWrongFalsely : Prop := pipeOwnRow.holds Tryd.pinned (OpenSpec.ofChange pipeOwnWrong)

/-- 'gimballaw12.PipeNames': WHATEVER THE INPUT: true; the input reads as it did. -/
def pipeNamesSpec : ChangeSpec := { name := "pipeNames", fn := fun _ => fun
  | [] => { results := [.lit (.bool true)], args := [] }
  | _ => none }
def pipeNamesRow : OpenClaim := { program := "ytpknfeokfladkaadoor", sum := "d3a962f1ad52b048c89bd2865e7e7a23c23268bfe5dfa003d8a522bd87481fdd", func := "gimbal/gimballaw12.PipeNames", spec := "pipeNames", unfollowed := true, recurses := true, named := ["gimbal/item.kinds"], apart := false, laid := [("gimbal/item.kinds", laid_gimbal_item_kinds)] }
def PipeNamesSaid : Prop := pipeNamesRow.holds Tryd.pinned (OpenSpec.ofChange pipeNamesSpec)

/-- ITS FALSE NEIGHBOUR: 'it returns false'. Refute it at one input. -/
def pipeNamesWrong : ChangeSpec := { name := "pipeNames", fn := fun _ => fun
  | [] => { results := [.lit (.bool false)], args := [] }
  | _ => none }
def PipeNamesWrongFalsely : Prop := pipeNamesRow.holds Tryd.pinned (OpenSpec.ofChange pipeNamesWrong)

/- THE SECOND FORM. 'bulk': how many values and letters a reading holds, each counted each time it is reached (what is shared counts as often as it is met; a slice's spare places count too). A statement '..UptoSaid' is the law's where the arguments, and the package variables that the reading takes, are together of bulk at most 1048576: NARROWER than '..Said'. Prove '..Said' where nothing that the law and all that it calls make is longer than what came in: it says more and counts as full. Else prove '..UptoSaid'. A law counts once. -/
mutual
def uptoBulk {H : Type} : DataW H → Nat
  | .lit (.string bytes) => bytes.length + 1
  | .lit _ => 1
  | .nil => 1
  | .ptr d => uptoBulk d + 1
  | .slice elems spare => uptoBulkAll elems + uptoBulkAll spare + 1
  | .agg parts => uptoBulkAll parts + 1
  | .iface _ d => uptoBulk d + 1
  | .map entries => uptoBulkEntries entries + 1
  | .held _ => 1
def uptoBulkAll {H : Type} : List (DataW H) → Nat
  | [] => 0
  | d :: r => uptoBulk d + uptoBulkAll r
def uptoBulkEntries {H : Type} : List (Lit × DataW H) → Nat
  | [] => 0
  | x :: r => uptoBulkEntry x + uptoBulkEntries r
def uptoBulkEntry {H : Type} : Lit × DataW H → Nat
  | (.string bytes, d) => bytes.length + uptoBulk d + 1
  | (_, d) => uptoBulk d + 1
 end
def uptoSmall : (H : Type) → List (DataW H) → Bool := fun _ ds => decide (uptoBulkAll ds ≤ 1048576)
def OpenSpec.upto (s : _root_.Go.ChangeSpec) : _root_.Go.OpenSpec := { _root_.Go.OpenSpec.ofChange s with cond := some uptoSmall }

/-- 'gimballaw12.PipePlays', WHERE WHAT IT READS IS OF BULK AT MOST 1048576: true; the input reads as it did. -/
def pipePlaysUptoRow : OpenClaim := { program := "ytpknfeokfladkaadoor", sum := "d3a962f1ad52b048c89bd2865e7e7a23c23268bfe5dfa003d8a522bd87481fdd", func := "gimbal/gimballaw12.PipePlays", spec := "pipePlays", unfollowed := true, recurses := true, named := ["gimbal/item.kinds"], apart := false, laid := [("gimbal/item.kinds", laid_gimbal_item_kinds)], narrowed := true }
def PipePlaysUptoSaid : Prop := pipePlaysUptoRow.holds Tryd.pinned (OpenSpec.upto pipePlaysSpec)

/-- 'gimballaw12.PipeAgrees', WHERE WHAT IT READS IS OF BULK AT MOST 1048576: true; the input reads as it did. -/
def pipeAgreesUptoRow : OpenClaim := { program := "ytpknfeokfladkaadoor", sum := "d3a962f1ad52b048c89bd2865e7e7a23c23268bfe5dfa003d8a522bd87481fdd", func := "gimbal/gimballaw12.PipeAgrees", spec := "pipeAgrees", unfollowed := true, recurses := true, named := ["gimbal/item.kinds"], apart := false, laid := [("gimbal/item.kinds", laid_gimbal_item_kinds)], narrowed := true }
def PipeAgreesUptoSaid : Prop := pipeAgreesUptoRow.holds Tryd.pinned (OpenSpec.upto pipeAgreesSpec)

/-- 'gimballaw12.PipeKeeps', WHERE WHAT IT READS IS OF BULK AT MOST 1048576: true; the input reads as it did. -/
def pipeKeepsUptoRow : OpenClaim := { program := "ytpknfeokfladkaadoor", sum := "d3a962f1ad52b048c89bd2865e7e7a23c23268bfe5dfa003d8a522bd87481fdd", func := "gimbal/gimballaw12.PipeKeeps", spec := "pipeKeeps", unfollowed := true, recurses := true, named := ["gimbal/item.kinds"], apart := false, laid := [("gimbal/item.kinds", laid_gimbal_item_kinds)], narrowed := true }
def PipeKeepsUptoSaid : Prop := pipeKeepsUptoRow.holds Tryd.pinned (OpenSpec.upto pipeKeepsSpec)

/-- 'gimballaw12.PipeJoins', WHERE WHAT IT READS IS OF BULK AT MOST 1048576: true; the input reads as it did. -/
def pipeJoinsUptoRow : OpenClaim := { program := "ytpknfeokfladkaadoor", sum := "d3a962f1ad52b048c89bd2865e7e7a23c23268bfe5dfa003d8a522bd87481fdd", func := "gimbal/gimballaw12.PipeJoins", spec := "pipeJoins", unfollowed := true, recurses := true, named := ["gimbal/item.kinds"], apart := false, laid := [("gimbal/item.kinds", laid_gimbal_item_kinds)], narrowed := true }
def PipeJoinsUptoSaid : Prop := pipeJoinsUptoRow.holds Tryd.pinned (OpenSpec.upto pipeJoinsSpec)

/-- 'gimballaw12.PipeOwn', WHERE WHAT IT READS IS OF BULK AT MOST 1048576: true; the input reads as it did. -/
def pipeOwnUptoRow : OpenClaim := { program := "ytpknfeokfladkaadoor", sum := "d3a962f1ad52b048c89bd2865e7e7a23c23268bfe5dfa003d8a522bd87481fdd", func := "gimbal/gimballaw12.PipeOwn", spec := "pipeOwn", unfollowed := true, recurses := true, named := ["gimbal/item.kinds"], apart := false, laid := [("gimbal/item.kinds", laid_gimbal_item_kinds)], narrowed := true }
def PipeOwnUptoSaid : Prop := pipeOwnUptoRow.holds Tryd.pinned (OpenSpec.upto pipeOwnSpec)

/-- 'gimballaw12.PipeNames', WHERE WHAT IT READS IS OF BULK AT MOST 1048576: true; the input reads as it did. -/
def pipeNamesUptoRow : OpenClaim := { program := "ytpknfeokfladkaadoor", sum := "d3a962f1ad52b048c89bd2865e7e7a23c23268bfe5dfa003d8a522bd87481fdd", func := "gimbal/gimballaw12.PipeNames", spec := "pipeNames", unfollowed := true, recurses := true, named := ["gimbal/item.kinds"], apart := false, laid := [("gimbal/item.kinds", laid_gimbal_item_kinds)], narrowed := true }
def PipeNamesUptoSaid : Prop := pipeNamesUptoRow.holds Tryd.pinned (OpenSpec.upto pipeNamesSpec)

end Rows
end Go.Proofs.YtpknfeokfladkaaDoor
