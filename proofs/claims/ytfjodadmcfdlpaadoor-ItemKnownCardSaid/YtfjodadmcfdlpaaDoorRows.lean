/-
  NARROWER THAN 'FOR EVERY INPUT', by the rows' own cells (each row's printed sentence says how): ItemWrites: laid · ItemReads: laid · ItemBack: laid · ItemAgain: laid · ItemSame: laid · ItemKnown: laid.
  DERIVED. THE GIVEN ROWS OF THIS SEAT. 6 by the template 'for every input the law returns true; each argument reads behind the call as it read before'; 0 by the template 'total and deterministic' (their statements: YtfjodadmcfdlpaaDoorTotals.lean).
  GIVEN WITH THE SEED: the statements are not yours to turn. If you find one false, say at which input.
  Laid BY PROGRAM, IN A SANDBOX (cutbox-rows.mjs): the forced cells as the released guide's own fill.sh prints them over the translation bfbd5f1ff482accb… (all of the seat's roots in one cut). By AI agents, Wed Nov 11 2026. No macro, syntax, notation, axiom, sorry.
-/
import Derived.Test.YtfjodadmcfdlpaaDoorChecked
import GoSem.Claim
import GoSem.ClaimJoined
import GoSem.ClaimMapViews
import Derived.JoinedTies
import Derived.KernelRfl
namespace Go.Proofs.YtfjodadmcfdlpaaDoor
/- THE CELL 'sum', in the pinned program and in every row, IS THE sha256 OF THE DUMP (.gsa) THAT YtfjodadmcfdlpaaDoorProg.lean LOADS. Nothing in Lean hashes anything: it is a label: what it is worth is what the hold of that sum in a sandbox is worth. -/
noncomputable def Tryd.pinned : Pinned := { name := "ytfjodadmcfdlpaadoor", sum := "bfbd5f1ff482accb7293b1a63f93d14feab905e684dc55bd4c72ab90a4564144", checked := Tryd.checked }
namespace Rows
def none {H : Type} : Left H := { results := [], args := [] }

/- WHAT THE LISTED PACKAGE-LEVEL VARIABLES READ AS WHEN THE CALL BEGINS. Each datum BY PROGRAM (the guide's laid-datum.mjs) off the statement by which the dump's own 'gosem.cut.vars' lays the variable. In a bare row this is a premise. The card (YtfjodadmcfdlpaaDoorCards.lean) ties it to the program's text. -/
def laid_gimbal_item_kinds {H : Type} : DataW H := .agg [.lit (.int .i64 0), .lit (.int .i64 5), .lit (.int .i64 9), .lit (.int .i64 22), .lit (.int .i64 2), .lit (.int .i64 2), .lit (.int .i64 2), .lit (.int .i64 4), .lit (.int .i64 1), .lit (.int .i64 2)]

/-- 'gimballaw03.ItemWrites': WHATEVER THE INPUT: true; the input reads as it did. -/
def itemWritesSpec : ChangeSpec := { name := "itemWrites", fn := fun _ => fun
  | [d1, d2, d3] => { results := [.lit (.bool true)], args := [d1, d2, d3] }
  | _ => none }
def itemWritesRow : OpenClaim := { program := "ytfjodadmcfdlpaadoor", sum := "bfbd5f1ff482accb7293b1a63f93d14feab905e684dc55bd4c72ab90a4564144", func := "gimbal/gimballaw03.ItemWrites", spec := "itemWrites", named := ["gimbal/item.kinds"], apart := false, laid := [("gimbal/item.kinds", laid_gimbal_item_kinds)] }
def ItemWritesSaid : Prop := itemWritesRow.holds Tryd.pinned (OpenSpec.ofChange itemWritesSpec)

/-- ITS FALSE NEIGHBOUR: 'it returns false'. Refute it at one input. -/
def itemWritesWrong : ChangeSpec := { name := "itemWrites", fn := fun _ => fun
  | [d1, d2, d3] => { results := [.lit (.bool false)], args := [d1, d2, d3] }
  | _ => none }
def ItemWritesWrongFalsely : Prop := itemWritesRow.holds Tryd.pinned (OpenSpec.ofChange itemWritesWrong)

/-- 'gimballaw03.ItemReads': WHATEVER THE INPUT: true; the input reads as it did. -/
def itemReadsSpec : ChangeSpec := { name := "itemReads", fn := fun _ => fun
  | [d] => { results := [.lit (.bool true)], args := [d] }
  | _ => none }
def itemReadsRow : OpenClaim := { program := "ytfjodadmcfdlpaadoor", sum := "bfbd5f1ff482accb7293b1a63f93d14feab905e684dc55bd4c72ab90a4564144", func := "gimbal/gimballaw03.ItemReads", spec := "itemReads", named := ["gimbal/item.kinds"], apart := false, laid := [("gimbal/item.kinds", laid_gimbal_item_kinds)] }
def ItemReadsSaid : Prop := itemReadsRow.holds Tryd.pinned (OpenSpec.ofChange itemReadsSpec)

/-- ITS FALSE NEIGHBOUR: 'it returns false'. Refute it at one input. -/
def itemReadsWrong : ChangeSpec := { name := "itemReads", fn := fun _ => fun
  | [d] => { results := [.lit (.bool false)], args := [d] }
  | _ => none }
def ItemReadsWrongFalsely : Prop := itemReadsRow.holds Tryd.pinned (OpenSpec.ofChange itemReadsWrong)

/-- 'gimballaw03.ItemBack': WHATEVER THE INPUT: true; the input reads as it did. -/
def itemBackSpec : ChangeSpec := { name := "itemBack", fn := fun _ => fun
  | [d1, d2] => { results := [.lit (.bool true)], args := [d1, d2] }
  | _ => none }
def itemBackRow : OpenClaim := { program := "ytfjodadmcfdlpaadoor", sum := "bfbd5f1ff482accb7293b1a63f93d14feab905e684dc55bd4c72ab90a4564144", func := "gimbal/gimballaw03.ItemBack", spec := "itemBack", named := ["gimbal/item.kinds"], apart := false, laid := [("gimbal/item.kinds", laid_gimbal_item_kinds)] }
def ItemBackSaid : Prop := itemBackRow.holds Tryd.pinned (OpenSpec.ofChange itemBackSpec)

/-- ITS FALSE NEIGHBOUR: 'it returns false'. Refute it at one input. -/
def itemBackWrong : ChangeSpec := { name := "itemBack", fn := fun _ => fun
  | [d1, d2] => { results := [.lit (.bool false)], args := [d1, d2] }
  | _ => none }
def ItemBackWrongFalsely : Prop := itemBackRow.holds Tryd.pinned (OpenSpec.ofChange itemBackWrong)

/-- 'gimballaw03.ItemAgain': WHATEVER THE INPUT: true; the input reads as it did. -/
def itemAgainSpec : ChangeSpec := { name := "itemAgain", fn := fun _ => fun
  | [d] => { results := [.lit (.bool true)], args := [d] }
  | _ => none }
def itemAgainRow : OpenClaim := { program := "ytfjodadmcfdlpaadoor", sum := "bfbd5f1ff482accb7293b1a63f93d14feab905e684dc55bd4c72ab90a4564144", func := "gimbal/gimballaw03.ItemAgain", spec := "itemAgain", named := ["gimbal/item.kinds"], apart := false, laid := [("gimbal/item.kinds", laid_gimbal_item_kinds)] }
def ItemAgainSaid : Prop := itemAgainRow.holds Tryd.pinned (OpenSpec.ofChange itemAgainSpec)

/-- ITS FALSE NEIGHBOUR: 'it returns false'. Refute it at one input. -/
def itemAgainWrong : ChangeSpec := { name := "itemAgain", fn := fun _ => fun
  | [d] => { results := [.lit (.bool false)], args := [d] }
  | _ => none }
def ItemAgainWrongFalsely : Prop := itemAgainRow.holds Tryd.pinned (OpenSpec.ofChange itemAgainWrong)

/-- 'gimballaw03.ItemSame': WHATEVER THE INPUT: true; the input reads as it did. -/
def itemSameSpec : ChangeSpec := { name := "itemSame", fn := fun _ => fun
  | [d1, d2, d3] => { results := [.lit (.bool true)], args := [d1, d2, d3] }
  | _ => none }
def itemSameRow : OpenClaim := { program := "ytfjodadmcfdlpaadoor", sum := "bfbd5f1ff482accb7293b1a63f93d14feab905e684dc55bd4c72ab90a4564144", func := "gimbal/gimballaw03.ItemSame", spec := "itemSame", named := ["gimbal/item.kinds"], apart := false, laid := [("gimbal/item.kinds", laid_gimbal_item_kinds)] }
def ItemSameSaid : Prop := itemSameRow.holds Tryd.pinned (OpenSpec.ofChange itemSameSpec)

/-- ITS FALSE NEIGHBOUR: 'it returns false'. Refute it at one input. -/
def itemSameWrong : ChangeSpec := { name := "itemSame", fn := fun _ => fun
  | [d1, d2, d3] => { results := [.lit (.bool false)], args := [d1, d2, d3] }
  | _ => none }
def ItemSameWrongFalsely : Prop := itemSameRow.holds Tryd.pinned (OpenSpec.ofChange itemSameWrong)

/-- 'gimballaw03.ItemKnown': WHATEVER THE INPUT: true; the input reads as it did. -/
def itemKnownSpec : ChangeSpec := { name := "itemKnown", fn := fun _ => fun
  | [] => { results := [.lit (.bool true)], args := [] }
  | _ => none }
def itemKnownRow : OpenClaim := { program := "ytfjodadmcfdlpaadoor", sum := "bfbd5f1ff482accb7293b1a63f93d14feab905e684dc55bd4c72ab90a4564144", func := "gimbal/gimballaw03.ItemKnown", spec := "itemKnown", named := ["gimbal/item.kinds"], apart := false, laid := [("gimbal/item.kinds", laid_gimbal_item_kinds)] }
def ItemKnownSaid : Prop := itemKnownRow.holds Tryd.pinned (OpenSpec.ofChange itemKnownSpec)

/-- ITS FALSE NEIGHBOUR: 'it returns false'. Refute it at one input. -/
def itemKnownWrong : ChangeSpec := { name := "itemKnown", fn := fun _ => fun
  | [] => { results := [.lit (.bool false)], args := [] }
  | _ => none }
def ItemKnownWrongFalsely : Prop := itemKnownRow.holds Tryd.pinned (OpenSpec.ofChange itemKnownWrong)

/- THE SECOND FORM. 'bulk': how many values and letters a reading holds, each counted each time it is reached (what is shared counts as often as it is met; a slice's spare places count too). A statement '..UptoSaid' is the law's where the arguments, and the package variables that the reading takes, are together of bulk at most 1048576: NARROWER than '..Said'. Prove '..Said' where nothing that the law and all that it calls make is longer than what came in: it says more and counts as full. Else prove '..UptoSaid'. A law counts once. -/
mutual
def uptoBulk {H : Type} : DataW H → Nat
  | .lit (.string bytes) => bytes.length + 1
  | .lit _ => 1
  | .nil => 1
  | .ptr d => uptoBulk d + 1
  | .slice elems spare => uptoBulkAll elems + uptoBulkAll spare + 1
  | .agg parts => uptoBulkAll parts + 1
  | .iface _ d => uptoBulk d + 1
  | .map entries => uptoBulkEntries entries + 1
  | .held _ => 1
def uptoBulkAll {H : Type} : List (DataW H) → Nat
  | [] => 0
  | d :: r => uptoBulk d + uptoBulkAll r
def uptoBulkEntries {H : Type} : List (Lit × DataW H) → Nat
  | [] => 0
  | x :: r => uptoBulkEntry x + uptoBulkEntries r
def uptoBulkEntry {H : Type} : Lit × DataW H → Nat
  | (.string bytes, d) => bytes.length + uptoBulk d + 1
  | (_, d) => uptoBulk d + 1
 end
def uptoSmall : (H : Type) → List (DataW H) → Bool := fun _ ds => decide (uptoBulkAll ds ≤ 1048576)
def OpenSpec.upto (s : _root_.Go.ChangeSpec) : _root_.Go.OpenSpec := { _root_.Go.OpenSpec.ofChange s with cond := some uptoSmall }

/-- 'gimballaw03.ItemWrites', WHERE WHAT IT READS IS OF BULK AT MOST 1048576: true; the input reads as it did. -/
def itemWritesUptoRow : OpenClaim := { program := "ytfjodadmcfdlpaadoor", sum := "bfbd5f1ff482accb7293b1a63f93d14feab905e684dc55bd4c72ab90a4564144", func := "gimbal/gimballaw03.ItemWrites", spec := "itemWrites", named := ["gimbal/item.kinds"], apart := false, laid := [("gimbal/item.kinds", laid_gimbal_item_kinds)], narrowed := true }
def ItemWritesUptoSaid : Prop := itemWritesUptoRow.holds Tryd.pinned (OpenSpec.upto itemWritesSpec)

/-- 'gimballaw03.ItemReads', WHERE WHAT IT READS IS OF BULK AT MOST 1048576: true; the input reads as it did. -/
def itemReadsUptoRow : OpenClaim := { program := "ytfjodadmcfdlpaadoor", sum := "bfbd5f1ff482accb7293b1a63f93d14feab905e684dc55bd4c72ab90a4564144", func := "gimbal/gimballaw03.ItemReads", spec := "itemReads", named := ["gimbal/item.kinds"], apart := false, laid := [("gimbal/item.kinds", laid_gimbal_item_kinds)], narrowed := true }
def ItemReadsUptoSaid : Prop := itemReadsUptoRow.holds Tryd.pinned (OpenSpec.upto itemReadsSpec)

/-- 'gimballaw03.ItemBack', WHERE WHAT IT READS IS OF BULK AT MOST 1048576: true; the input reads as it did. -/
def itemBackUptoRow : OpenClaim := { program := "ytfjodadmcfdlpaadoor", sum := "bfbd5f1ff482accb7293b1a63f93d14feab905e684dc55bd4c72ab90a4564144", func := "gimbal/gimballaw03.ItemBack", spec := "itemBack", named := ["gimbal/item.kinds"], apart := false, laid := [("gimbal/item.kinds", laid_gimbal_item_kinds)], narrowed := true }
def ItemBackUptoSaid : Prop := itemBackUptoRow.holds Tryd.pinned (OpenSpec.upto itemBackSpec)

/-- 'gimballaw03.ItemAgain', WHERE WHAT IT READS IS OF BULK AT MOST 1048576: true; the input reads as it did. -/
def itemAgainUptoRow : OpenClaim := { program := "ytfjodadmcfdlpaadoor", sum := "bfbd5f1ff482accb7293b1a63f93d14feab905e684dc55bd4c72ab90a4564144", func := "gimbal/gimballaw03.ItemAgain", spec := "itemAgain", named := ["gimbal/item.kinds"], apart := false, laid := [("gimbal/item.kinds", laid_gimbal_item_kinds)], narrowed := true }
def ItemAgainUptoSaid : Prop := itemAgainUptoRow.holds Tryd.pinned (OpenSpec.upto itemAgainSpec)

/-- 'gimballaw03.ItemSame', WHERE WHAT IT READS IS OF BULK AT MOST 1048576: true; the input reads as it did. -/
def itemSameUptoRow : OpenClaim := { program := "ytfjodadmcfdlpaadoor", sum := "bfbd5f1ff482accb7293b1a63f93d14feab905e684dc55bd4c72ab90a4564144", func := "gimbal/gimballaw03.ItemSame", spec := "itemSame", named := ["gimbal/item.kinds"], apart := false, laid := [("gimbal/item.kinds", laid_gimbal_item_kinds)], narrowed := true }
def ItemSameUptoSaid : Prop := itemSameUptoRow.holds Tryd.pinned (OpenSpec.upto itemSameSpec)

/-- 'gimballaw03.ItemKnown', WHERE WHAT IT READS IS OF BULK AT MOST 1048576: true; the input reads as it did. -/
def itemKnownUptoRow : OpenClaim := { program := "ytfjodadmcfdlpaadoor", sum := "bfbd5f1ff482accb7293b1a63f93d14feab905e684dc55bd4c72ab90a4564144", func := "gimbal/gimballaw03.ItemKnown", spec := "itemKnown", named := ["gimbal/item.kinds"], apart := false, laid := [("gimbal/item.kinds", laid_gimbal_item_kinds)], narrowed := true }
def ItemKnownUptoSaid : Prop := itemKnownUptoRow.holds Tryd.pinned (OpenSpec.upto itemKnownSpec)

end Rows
end Go.Proofs.YtfjodadmcfdlpaaDoor
