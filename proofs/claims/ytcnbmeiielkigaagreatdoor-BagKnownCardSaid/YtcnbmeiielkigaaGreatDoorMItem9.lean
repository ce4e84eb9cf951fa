/- Package item: Parse. -/
import Derived.IntWalk
import Derived.Test.YtcnbmeiielkigaaGreatDoorMItem8
namespace Go.Proofs.YtcnbmeiielkigaaGreatDoor
open Go.RowKit
set_option linter.unusedVariables false
set_option linter.unusedSimpArgs false
def sZ : KS := ⟨⟨#[]⟩, Nat.zero_le _⟩
/-- An op. -/
structure OpM where
 k : Int
 s : KS
 o : Int
 n : Int
 ls : List Ln
def OpM.zero : OpM := ⟨0, sZ, 0, 0, []⟩
def OpM.ok (p : OpM) : Bool := okB p.k p.s p.o p.n p.ls
theorem Sep.onto1 {w0 w w' : World} {A : Thing} {L : List Thing} (h : Sep w0 L w) (h' : Sep w [A] w') : Sep w0 (A :: L) w' := by
 obtain ⟨F, hF, h2⟩ := h'.head
 exact h.new (h'.loc _ (List.mem_cons_self ..)) h'.low hF h2
end Go.Proofs.YtcnbmeiielkigaaGreatDoor
