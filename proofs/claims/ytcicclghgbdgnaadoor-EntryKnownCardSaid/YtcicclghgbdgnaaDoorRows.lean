/-
  NARROWER THAN 'FOR EVERY INPUT', by the rows' own cells (each row's printed sentence says how): EntryWrites: laid · EntryRows: laid · EntryBack: laid · EntryAgain: laid · EntryKnown: laid.
  DERIVED. THE GIVEN ROWS OF THIS SEAT. 5 by the template 'for every input the law returns true; each argument reads behind the call as it read before'; 0 by the template 'total and deterministic' (their statements: YtcicclghgbdgnaaDoorTotals.lean).
  GIVEN WITH THE SEED: the statements are not yours to turn. If you find one false, say at which input.
  Laid BY PROGRAM, IN A SANDBOX (cutbox-rows.mjs): the forced cells as the released guide's own fill.sh prints them over the translation 543e0c70bab83dbe… (all of the seat's roots in one cut). By AI agents, Wed Nov 11 2026. No macro, syntax, notation, axiom, sorry.
-/
import Derived.Test.YtcicclghgbdgnaaDoorChecked
import GoSem.Claim
import GoSem.ClaimJoined
import GoSem.ClaimMapViews
import Derived.JoinedTies
import Derived.KernelRfl
namespace Go.Proofs.YtcicclghgbdgnaaDoor
/- THE CELL 'sum', in the pinned program and in every row, IS THE sha256 OF THE DUMP (.gsa) THAT YtcicclghgbdgnaaDoorProg.lean LOADS. Nothing in Lean hashes anything: it is a label: what it is worth is what the hold of that sum in a sandbox is worth. -/
noncomputable def Tryd.pinned : Pinned := { name := "ytcicclghgbdgnaadoor", sum := "543e0c70bab83dbe753c28bec6fc02af57dcb04c489589a2aebdc4cb5f0cfe01", checked := Tryd.checked }
namespace Rows
def none {H : Type} : Left H := { results := [], args := [] }

/- WHAT THE LISTED PACKAGE-LEVEL VARIABLES READ AS WHEN THE CALL BEGINS. Each datum BY PROGRAM (the guide's laid-datum.mjs) off the statement by which the dump's own 'gosem.cut.vars' lays the variable. In a bare row this is a premise. The card (YtcicclghgbdgnaaDoorCards.lean) ties it to the program's text. -/
def laid_gimbal_item_kinds {H : Type} : DataW H := .agg [.lit (.int .i64 0), .lit (.int .i64 5), .lit (.int .i64 9), .lit (.int .i64 22), .lit (.int .i64 2), .lit (.int .i64 2), .lit (.int .i64 2), .lit (.int .i64 4), .lit (.int .i64 1), .lit (.int .i64 2)]

/-- 'gimballaw04.EntryWrites': WHATEVER THE INPUT: true; the input reads as it did. -/
def entryWritesSpec : ChangeSpec := { name := "entryWrites", fn := fun _ => fun
  | [d1, d2] => { results := [.lit (.bool true)], args := [d1, d2] }
  | _ => none }
def entryWritesRow : OpenClaim := { program := "ytcicclghgbdgnaadoor", sum := "543e0c70bab83dbe753c28bec6fc02af57dcb04c489589a2aebdc4cb5f0cfe01", func := "gimbal/gimballaw04.EntryWrites", spec := "entryWrites", unfollowed := true, recurses := true, named := ["gimbal/item.kinds"], apart := false, laid := [("gimbal/item.kinds", laid_gimbal_item_kinds)] }
def EntryWritesSaid : Prop := entryWritesRow.holds Tryd.pinned (OpenSpec.ofChange entryWritesSpec)

/-- ITS FALSE NEIGHBOUR: 'it returns false'. Refute it at one input. -/
def entryWritesWrong : ChangeSpec := { name := "entryWrites", fn := fun _ => fun
  | [d1, d2] => { results := [.lit (.bool false)], args := [d1, d2] }
  | _ => none }
def EntryWritesWrongFalsely : Prop := entryWritesRow.holds Tryd.pinned (OpenSpec.ofChange entryWritesWrong)

/-- 'gimballaw04.EntryRows': WHATEVER THE INPUT: true; the input reads as it did. -/
def entryRowsSpec : ChangeSpec := { name := "entryRows", fn := fun _ => fun
  | [d1, d2] => { results := [.lit (.bool true)], args := [d1, d2] }
  | _ => none }
def entryRowsRow : OpenClaim := { program := "ytcicclghgbdgnaadoor", sum := "543e0c70bab83dbe753c28bec6fc02af57dcb04c489589a2aebdc4cb5f0cfe01", func := "gimbal/gimballaw04.EntryRows", spec := "entryRows", unfollowed := true, recurses := true, named := ["gimbal/item.kinds"], apart := false, laid := [("gimbal/item.kinds", laid_gimbal_item_kinds)] }
def EntryRowsSaid : Prop := entryRowsRow.holds Tryd.pinned (OpenSpec.ofChange entryRowsSpec)

/-- ITS FALSE NEIGHBOUR: 'it returns false'. Refute it at one input. -/
def entryRowsWrong : ChangeSpec := { name := "entryRows", fn := fun _ => fun
  | [d1, d2] => { results := [.lit (.bool false)], args := [d1, d2] }
  | _ => none }
def EntryRowsWrongFalsely : Prop := entryRowsRow.holds Tryd.pinned (OpenSpec.ofChange entryRowsWrong)

/-- 'gimballaw04.EntryBack': WHATEVER THE INPUT: true; the input reads as it did. -/
def entryBackSpec : ChangeSpec := { name := "entryBack", fn := fun _ => fun
  | [d] => { results := [.lit (.bool true)], args := [d] }
  | _ => none }
def entryBackRow : OpenClaim := { program := "ytcicclghgbdgnaadoor", sum := "543e0c70bab83dbe753c28bec6fc02af57dcb04c489589a2aebdc4cb5f0cfe01", func := "gimbal/gimballaw04.EntryBack", spec := "entryBack", unfollowed := true, recurses := true, named := ["gimbal/item.kinds"], apart := false, laid := [("gimbal/item.kinds", laid_gimbal_item_kinds)] }
def EntryBackSaid : Prop := entryBackRow.holds Tryd.pinned (OpenSpec.ofChange entryBackSpec)

/-- ITS FALSE NEIGHBOUR: 'it returns false'. Refute it at one input. -/
def entryBackWrong : ChangeSpec := { name := "entryBack", fn := fun _ => fun
  | [d] => { results := [.lit (.bool false)], args := [d] }
  | _ => none }
def EntryBackWrongFalsely : Prop := entryBackRow.holds Tryd.pinned (OpenSpec.ofChange entryBackWrong)

/-- 'gimballaw04.EntryAgain': WHATEVER THE INPUT: true; the input reads as it did. -/
def entryAgainSpec : ChangeSpec := { name := "entryAgain", fn := fun _ => fun
  | [d] => { results := [.lit (.bool true)], args := [d] }
  | _ => none }
def entryAgainRow : OpenClaim := { program := "ytcicclghgbdgnaadoor", sum := "543e0c70bab83dbe753c28bec6fc02af57dcb04c489589a2aebdc4cb5f0cfe01", func := "gimbal/gimballaw04.EntryAgain", spec := "entryAgain", unfollowed := true, recurses := true, named := ["gimbal/item.kinds"], apart := false, laid := [("gimbal/item.kinds", laid_gimbal_item_kinds)] }
def EntryAgainSaid : Prop := entryAgainRow.holds Tryd.pinned (OpenSpec.ofChange entryAgainSpec)

/-- ITS FALSE NEIGHBOUR: 'it returns false'. Refute it at one input. -/
def entryAgainWrong : ChangeSpec := { name := "entryAgain", fn := fun _ => fun
  | [d] => { results := [.lit (.bool false)], args := [d] }
  | _ => none }
def EntryAgainWrongFalsely : Prop := entryAgainRow.holds Tryd.pinned (OpenSpec.ofChange entryAgainWrong)

/-- 'gimballaw04.EntryKnown': WHATEVER THE INPUT: true; the input reads as it did. -/
def entryKnownSpec : ChangeSpec := { name := "entryKnown", fn := fun _ => fun
  | [] => { results := [.lit (.bool true)], args := [] }
  | _ => none }
def entryKnownRow : OpenClaim := { program := "ytcicclghgbdgnaadoor", sum := "543e0c70bab83dbe753c28bec6fc02af57dcb04c489589a2aebdc4cb5f0cfe01", func := "gimbal/gimballaw04.EntryKnown", spec := "entryKnown", unfollowed := true, recurses := true, named := ["gimbal/item.kinds"], apart := false, laid := [("gimbal/item.kinds", laid_gimbal_item_kinds)] }
def EntryKnownSaid : Prop := entryKnownRow.holds Tryd.pinned (OpenSpec.ofChange entryKnownSpec)

/-- ITS FALSE NEIGHBOUR: 'it returns false'. Refute it at one input. -/
def entryKnownWrong : ChangeSpec := { name := "entryKnown", fn := fun _ => fun
  | [] => { results := [.lit (.bool false)], args := [] }
  | _ => none }
def EntryKnownWrongFalsely : Prop := entryKnownRow.holds Tryd.pinned (OpenSpec.ofChange entryKnownWrong)

/- THE SECOND FORM. 'bulk': how many values and letters a reading holds, each counted each time it is reached (what is shared counts as often as it is met; a slice's spare places count too). A statement '..UptoSaid' is the law's where the arguments, and the package variables that the reading takes, are together of bulk at most 1048576: NARROWER than '..Said'. Prove '..Said' where nothing that the law and all that it calls make is longer than what came in: it says more and counts as full. Else prove '..UptoSaid'. A law counts once. -/
mutual
def uptoBulk {H : Type} : DataW H → Nat
  | .lit (.string bytes) => bytes.length + 1
  | .lit _ => 1
  | .nil => 1
  | .ptr d => uptoBulk d + 1
  | .slice elems spare => uptoBulkAll elems + uptoBulkAll spare + 1
  | .agg parts => uptoBulkAll parts + 1
  | .iface _ d => uptoBulk d + 1
  | .map entries => uptoBulkEntries entries + 1
  | .held _ => 1
def uptoBulkAll {H : Type} : List (DataW H) → Nat
  | [] => 0
  | d :: r => uptoBulk d + uptoBulkAll r
def uptoBulkEntries {H : Type} : List (Lit × DataW H) → Nat
  | [] => 0
  | x :: r => uptoBulkEntry x + uptoBulkEntries r
def uptoBulkEntry {H : Type} : Lit × DataW H → Nat
  | (.string bytes, d) => bytes.length + uptoBulk d + 1
  | (_, d) => uptoBulk d + 1
 end
def uptoSmall : (H : Type) → List (DataW H) → Bool := fun _ ds => decide (uptoBulkAll ds ≤ 1048576)
def OpenSpec.upto (s : _root_.Go.ChangeSpec) : _root_.Go.OpenSpec := { _root_.Go.OpenSpec.ofChange s with cond := some uptoSmall }

/-- 'gimballaw04.EntryWrites', WHERE WHAT IT READS IS OF BULK AT MOST 1048576: true; the input reads as it did. -/
def entryWritesUptoRow : OpenClaim := { program := "ytcicclghgbdgnaadoor", sum := "543e0c70bab83dbe753c28bec6fc02af57dcb04c489589a2aebdc4cb5f0cfe01", func := "gimbal/gimballaw04.EntryWrites", spec := "entryWrites", unfollowed := true, recurses := true, named := ["gimbal/item.kinds"], apart := false, laid := [("gimbal/item.kinds", laid_gimbal_item_kinds)], narrowed := true }
def EntryWritesUptoSaid : Prop := entryWritesUptoRow.holds Tryd.pinned (OpenSpec.upto entryWritesSpec)

/-- 'gimballaw04.EntryRows', WHERE WHAT IT READS IS OF BULK AT MOST 1048576: true; the input reads as it did. -/
def entryRowsUptoRow : OpenClaim := { program := "ytcicclghgbdgnaadoor", sum := "543e0c70bab83dbe753c28bec6fc02af57dcb04c489589a2aebdc4cb5f0cfe01", func := "gimbal/gimballaw04.EntryRows", spec := "entryRows", unfollowed := true, recurses := true, named := ["gimbal/item.kinds"], apart := false, laid := [("gimbal/item.kinds", laid_gimbal_item_kinds)], narrowed := true }
def EntryRowsUptoSaid : Prop := entryRowsUptoRow.holds Tryd.pinned (OpenSpec.upto entryRowsSpec)

/-- 'gimballaw04.EntryBack', WHERE WHAT IT READS IS OF BULK AT MOST 1048576: true; the input reads as it did. -/
def entryBackUptoRow : OpenClaim := { program := "ytcicclghgbdgnaadoor", sum := "543e0c70bab83dbe753c28bec6fc02af57dcb04c489589a2aebdc4cb5f0cfe01", func := "gimbal/gimballaw04.EntryBack", spec := "entryBack", unfollowed := true, recurses := true, named := ["gimbal/item.kinds"], apart := false, laid := [("gimbal/item.kinds", laid_gimbal_item_kinds)], narrowed := true }
def EntryBackUptoSaid : Prop := entryBackUptoRow.holds Tryd.pinned (OpenSpec.upto entryBackSpec)

/-- 'gimballaw04.EntryAgain', WHERE WHAT IT READS IS OF BULK AT MOST 1048576: true; the input reads as it did. -/
def entryAgainUptoRow : OpenClaim := { program := "ytcicclghgbdgnaadoor", sum := "543e0c70bab83dbe753c28bec6fc02af57dcb04c489589a2aebdc4cb5f0cfe01", func := "gimbal/gimballaw04.EntryAgain", spec := "entryAgain", unfollowed := true, recurses := true, named := ["gimbal/item.kinds"], apart := false, laid := [("gimbal/item.kinds", laid_gimbal_item_kinds)], narrowed := true }
def EntryAgainUptoSaid : Prop := entryAgainUptoRow.holds Tryd.pinned (OpenSpec.upto entryAgainSpec)

/-- 'gimballaw04.EntryKnown', WHERE WHAT IT READS IS OF BULK AT MOST 1048576: true; the input reads as it did. -/
def entryKnownUptoRow : OpenClaim := { program := "ytcicclghgbdgnaadoor", sum := "543e0c70bab83dbe753c28bec6fc02af57dcb04c489589a2aebdc4cb5f0cfe01", func := "gimbal/gimballaw04.EntryKnown", spec := "entryKnown", unfollowed := true, recurses := true, named := ["gimbal/item.kinds"], apart := false, laid := [("gimbal/item.kinds", laid_gimbal_item_kinds)], narrowed := true }
def EntryKnownUptoSaid : Prop := entryKnownUptoRow.holds Tryd.pinned (OpenSpec.upto entryKnownSpec)

end Rows
end Go.Proofs.YtcicclghgbdgnaaDoor
