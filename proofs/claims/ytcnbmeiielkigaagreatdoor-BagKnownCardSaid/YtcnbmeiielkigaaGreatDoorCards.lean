/-
  DERIVED. GIVEN WITH THE SEED: THE CARDS: each row of YtcnbmeiielkigaaGreatDoorRows.lean that lists a variable, with what it lists TIED to the program's text (the seventh form; the later family's looks); each row that meets fmt, with fmt's text TOLD by the authors' own Lean function (tested against real Go, not proved from fmt's source: count such statements apart). THE CARD IS WHAT COUNTS. Prove the row's statement (the work); the ties are given (YtcnbmeiielkigaaGreatDoorTie.lean); close each card by the builder's one call (the guide's Derived/Test/ToyasCard.lean, 'card_holds'). Laid BY PROGRAM, IN A SANDBOX (cutbox-door.mjs). By AI agents, Wed Nov 11 2026. No macro, syntax, notation, axiom, sorry.
-/
import Derived.Test.YtcnbmeiielkigaaGreatDoorRows
import GoSem.ClaimSeven
namespace Go.Proofs.YtcnbmeiielkigaaGreatDoor
namespace Rows

/-- THE TIED CARD OF 'gimballaw22.BagPlays'. -/
def bagPlaysCard : Claim7 := { stood := { row := bagPlaysRow, standIns := [], harness := (true, "5db65981c5bbc66a876445d20bbd43a89114159be498a0e02adda02fcf62f965"), looks := false }, kinds := [], alts := [], laidByText := true, laidKinds := [.data, .data], laidTests := true, laidLooks := .later }
def BagPlaysCardSaid : Prop := Claim7.holds Tryz.pinned (.plain (OpenSpec.ofChange bagPlaysSpec)) bagPlaysCard

/-- THE TIED CARD OF 'gimballaw22.BagKnown'. -/
def bagKnownCard : Claim7 := { stood := { row := bagKnownRow, standIns := [], harness := (true, "5db65981c5bbc66a876445d20bbd43a89114159be498a0e02adda02fcf62f965"), looks := false }, kinds := [], alts := [], laidByText := true, laidKinds := [.data, .data], laidTests := true, laidLooks := .later }
def BagKnownCardSaid : Prop := Claim7.holds Tryz.pinned (.plain (OpenSpec.ofChange bagKnownSpec)) bagKnownCard

/-- THE SECOND FORM's CARD OF 'gimballaw22.BagPlays'. -/
def bagPlaysUptoCard : Claim7 := { stood := { row := bagPlaysUptoRow, standIns := [], harness := (true, "5db65981c5bbc66a876445d20bbd43a89114159be498a0e02adda02fcf62f965"), looks := false }, kinds := [], alts := [], laidByText := true, laidKinds := [.data, .data], laidTests := true, laidLooks := .later }
def BagPlaysUptoCardSaid : Prop := Claim7.holds Tryz.pinned (.plain (OpenSpec.upto bagPlaysSpec)) bagPlaysUptoCard

/-- THE SECOND FORM's CARD OF 'gimballaw22.BagKnown'. -/
def bagKnownUptoCard : Claim7 := { stood := { row := bagKnownUptoRow, standIns := [], harness := (true, "5db65981c5bbc66a876445d20bbd43a89114159be498a0e02adda02fcf62f965"), looks := false }, kinds := [], alts := [], laidByText := true, laidKinds := [.data, .data], laidTests := true, laidLooks := .later }
def BagKnownUptoCardSaid : Prop := Claim7.holds Tryz.pinned (.plain (OpenSpec.upto bagKnownSpec)) bagKnownUptoCard
end Rows
end Go.Proofs.YtcnbmeiielkigaaGreatDoor
