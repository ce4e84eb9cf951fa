/-
  DERIVED. GIVEN WITH THE SEED: THE CARDS: each row of YtafkbodmiblbnaaDoorRows.lean that lists a variable, with what it lists TIED to the program's text (the seventh form; the later family's looks); each row that meets fmt, with fmt's text TOLD by the authors' own Lean function (tested against real Go, not proved from fmt's source: count such statements apart). THE CARD IS WHAT COUNTS. Prove the row's statement (the work); the ties are given (YtafkbodmiblbnaaDoorTie.lean); close each card by the builder's one call (the guide's Derived/Test/ToyasCard.lean, 'card_holds'). Laid BY PROGRAM, IN A SANDBOX (cutbox-door.mjs). By AI agents, Wed Nov 11 2026. No macro, syntax, notation, axiom, sorry.
-/
import Derived.Test.YtafkbodmiblbnaaDoorRows
import GoSem.ClaimSeven
namespace Go.Proofs.YtafkbodmiblbnaaDoor
namespace Rows

/-- THE TIED CARD OF 'gimballaw05.MsgBack'. -/
def msgBackCard : Claim7 := { stood := { row := msgBackRow, standIns := [], harness := (true, "48fd0e6b0c2e05f1fe52c229d6e0d1b46be4903c6bb64191a82613daf36568d2"), looks := false }, kinds := [], alts := [], laidByText := true, laidKinds := [.data, .data], laidTests := true, laidLooks := .later }
def MsgBackCardSaid : Prop := Claim7.holds Tryd.pinned (.plain (OpenSpec.ofChange msgBackSpec)) msgBackCard

/-- THE TIED CARD OF 'gimballaw05.MsgAgain'. -/
def msgAgainCard : Claim7 := { stood := { row := msgAgainRow, standIns := [], harness := (true, "48fd0e6b0c2e05f1fe52c229d6e0d1b46be4903c6bb64191a82613daf36568d2"), looks := false }, kinds := [], alts := [], laidByText := true, laidKinds := [.data, .data], laidTests := true, laidLooks := .later }
def MsgAgainCardSaid : Prop := Claim7.holds Tryd.pinned (.plain (OpenSpec.ofChange msgAgainSpec)) msgAgainCard

/-- THE TIED CARD OF 'gimballaw05.MsgTurned'. -/
def msgTurnedCard : Claim7 := { stood := { row := msgTurnedRow, standIns := [], harness := (true, "48fd0e6b0c2e05f1fe52c229d6e0d1b46be4903c6bb64191a82613daf36568d2"), looks := false }, kinds := [], alts := [], laidByText := true, laidKinds := [.data, .data], laidTests := true, laidLooks := .later }
def MsgTurnedCardSaid : Prop := Claim7.holds Tryd.pinned (.plain (OpenSpec.ofChange msgTurnedSpec)) msgTurnedCard

/-- THE SECOND FORM's CARD OF 'gimballaw05.MsgBack'. -/
def msgBackUptoCard : Claim7 := { stood := { row := msgBackUptoRow, standIns := [], harness := (true, "48fd0e6b0c2e05f1fe52c229d6e0d1b46be4903c6bb64191a82613daf36568d2"), looks := false }, kinds := [], alts := [], laidByText := true, laidKinds := [.data, .data], laidTests := true, laidLooks := .later }
def MsgBackUptoCardSaid : Prop := Claim7.holds Tryd.pinned (.plain (OpenSpec.upto msgBackSpec)) msgBackUptoCard

/-- THE SECOND FORM's CARD OF 'gimballaw05.MsgAgain'. -/
def msgAgainUptoCard : Claim7 := { stood := { row := msgAgainUptoRow, standIns := [], harness := (true, "48fd0e6b0c2e05f1fe52c229d6e0d1b46be4903c6bb64191a82613daf36568d2"), looks := false }, kinds := [], alts := [], laidByText := true, laidKinds := [.data, .data], laidTests := true, laidLooks := .later }
def MsgAgainUptoCardSaid : Prop := Claim7.holds Tryd.pinned (.plain (OpenSpec.upto msgAgainSpec)) msgAgainUptoCard

/-- THE SECOND FORM's CARD OF 'gimballaw05.MsgTurned'. -/
def msgTurnedUptoCard : Claim7 := { stood := { row := msgTurnedUptoRow, standIns := [], harness := (true, "48fd0e6b0c2e05f1fe52c229d6e0d1b46be4903c6bb64191a82613daf36568d2"), looks := false }, kinds := [], alts := [], laidByText := true, laidKinds := [.data, .data], laidTests := true, laidLooks := .later }
def MsgTurnedUptoCardSaid : Prop := Claim7.holds Tryd.pinned (.plain (OpenSpec.upto msgTurnedSpec)) msgTurnedUptoCard
end Rows
end Go.Proofs.YtafkbodmiblbnaaDoor
