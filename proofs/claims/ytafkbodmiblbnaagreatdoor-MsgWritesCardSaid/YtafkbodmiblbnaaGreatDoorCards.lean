/-
  DERIVED. GIVEN WITH THE SEED: THE CARDS: each row of YtafkbodmiblbnaaGreatDoorRows.lean that lists a variable, with what it lists TIED to the program's text (the seventh form; the later family's looks); each row that meets fmt, with fmt's text TOLD by the authors' own Lean function (tested against real Go, not proved from fmt's source: count such statements apart). THE CARD IS WHAT COUNTS. Prove the row's statement (the work); the ties are given (YtafkbodmiblbnaaGreatDoorTie.lean); close each card by the builder's one call (the guide's Derived/Test/ToyasCard.lean, 'card_holds'). Laid BY PROGRAM, IN A SANDBOX (cutbox-door.mjs). By AI agents, Wed Nov 11 2026. No macro, syntax, notation, axiom, sorry.
-/
import Derived.Test.YtafkbodmiblbnaaGreatDoorRows
import GoSem.ClaimSeven
namespace Go.Proofs.YtafkbodmiblbnaaGreatDoor
namespace Rows

/-- THE TIED CARD OF 'gimballaw05.MsgWrites'. -/
def msgWritesCard : Claim7 := { stood := { row := msgWritesRow, standIns := [], harness := (true, "399abf2b15ed24fcfe6360578b6a0b860c987501f7d5a9bf42ab0c629e8cdcbc"), looks := false }, kinds := [], alts := [], laidByText := true, laidKinds := [.data, .data], laidTests := true, laidLooks := .later }
def MsgWritesCardSaid : Prop := Claim7.holds Tryz.pinned (.plain (OpenSpec.ofChange msgWritesSpec)) msgWritesCard

/-- THE TIED CARD OF 'gimballaw05.MsgKnown'. -/
def msgKnownCard : Claim7 := { stood := { row := msgKnownRow, standIns := [], harness := (true, "399abf2b15ed24fcfe6360578b6a0b860c987501f7d5a9bf42ab0c629e8cdcbc"), looks := false }, kinds := [], alts := [], laidByText := true, laidKinds := [.data, .data], laidTests := true, laidLooks := .later }
def MsgKnownCardSaid : Prop := Claim7.holds Tryz.pinned (.plain (OpenSpec.ofChange msgKnownSpec)) msgKnownCard

/-- THE SECOND FORM's CARD OF 'gimballaw05.MsgWrites'. -/
def msgWritesUptoCard : Claim7 := { stood := { row := msgWritesUptoRow, standIns := [], harness := (true, "399abf2b15ed24fcfe6360578b6a0b860c987501f7d5a9bf42ab0c629e8cdcbc"), looks := false }, kinds := [], alts := [], laidByText := true, laidKinds := [.data, .data], laidTests := true, laidLooks := .later }
def MsgWritesUptoCardSaid : Prop := Claim7.holds Tryz.pinned (.plain (OpenSpec.upto msgWritesSpec)) msgWritesUptoCard

/-- THE SECOND FORM's CARD OF 'gimballaw05.MsgKnown'. -/
def msgKnownUptoCard : Claim7 := { stood := { row := msgKnownUptoRow, standIns := [], harness := (true, "399abf2b15ed24fcfe6360578b6a0b860c987501f7d5a9bf42ab0c629e8cdcbc"), looks := false }, kinds := [], alts := [], laidByText := true, laidKinds := [.data, .data], laidTests := true, laidLooks := .later }
def MsgKnownUptoCardSaid : Prop := Claim7.holds Tryz.pinned (.plain (OpenSpec.upto msgKnownSpec)) msgKnownUptoCard
end Rows
end Go.Proofs.YtafkbodmiblbnaaGreatDoor
