/-
  DERIVED. GIVEN WITH THE SEED: THE CARDS: each row of YtcnbmeiielkigaaDoorRows.lean that lists a variable, with what it lists TIED to the program's text (the seventh form; the later family's looks); each row that meets fmt, with fmt's text TOLD by the authors' own Lean function (tested against real Go, not proved from fmt's source: count such statements apart). THE CARD IS WHAT COUNTS. Prove the row's statement (the work); the ties are given (YtcnbmeiielkigaaDoorTie.lean); close each card by the builder's one call (the guide's Derived/Test/ToyasCard.lean, 'card_holds'). Laid BY PROGRAM, IN A SANDBOX (cutbox-door.mjs). By AI agents, Wed Nov 11 2026. No macro, syntax, notation, axiom, sorry.
-/
import Derived.Test.YtcnbmeiielkigaaDoorRows
import GoSem.ClaimSeven
namespace Go.Proofs.YtcnbmeiielkigaaDoor
namespace Rows

/-- THE TIED CARD OF 'gimballaw22.BagKeeps'. -/
def bagKeepsCard : Claim7 := { stood := { row := bagKeepsRow, standIns := [], harness := (true, "9077f26bd4fe5bdc1593f06134a06b187d0e2ada4b72607678d678cba73df541"), looks := false }, kinds := [], alts := [], laidByText := true, laidKinds := [.data, .data], laidTests := true, laidLooks := .later }
def BagKeepsCardSaid : Prop := Claim7.holds Tryd.pinned (.plain (OpenSpec.ofChange bagKeepsSpec)) bagKeepsCard

/-- THE TIED CARD OF 'gimballaw22.BagOnce'. -/
def bagOnceCard : Claim7 := { stood := { row := bagOnceRow, standIns := [], harness := (true, "9077f26bd4fe5bdc1593f06134a06b187d0e2ada4b72607678d678cba73df541"), looks := false }, kinds := [], alts := [], laidByText := true, laidKinds := [.data, .data], laidTests := true, laidLooks := .later }
def BagOnceCardSaid : Prop := Claim7.holds Tryd.pinned (.plain (OpenSpec.ofChange bagOnceSpec)) bagOnceCard

/-- THE TIED CARD OF 'gimballaw22.BagTo'. -/
def bagToCard : Claim7 := { stood := { row := bagToRow, standIns := [], harness := (true, "9077f26bd4fe5bdc1593f06134a06b187d0e2ada4b72607678d678cba73df541"), looks := false }, kinds := [], alts := [], laidByText := true, laidKinds := [.data, .data], laidTests := true, laidLooks := .later }
def BagToCardSaid : Prop := Claim7.holds Tryd.pinned (.plain (OpenSpec.ofChange bagToSpec)) bagToCard

/-- THE TIED CARD OF 'gimballaw22.BagFrames'. -/
def bagFramesCard : Claim7 := { stood := { row := bagFramesRow, standIns := [], harness := (true, "9077f26bd4fe5bdc1593f06134a06b187d0e2ada4b72607678d678cba73df541"), looks := false }, kinds := [], alts := [], laidByText := true, laidKinds := [.data, .data], laidTests := true, laidLooks := .later }
def BagFramesCardSaid : Prop := Claim7.holds Tryd.pinned (.plain (OpenSpec.ofChange bagFramesSpec)) bagFramesCard

/-- THE SECOND FORM's CARD OF 'gimballaw22.BagKeeps'. -/
def bagKeepsUptoCard : Claim7 := { stood := { row := bagKeepsUptoRow, standIns := [], harness := (true, "9077f26bd4fe5bdc1593f06134a06b187d0e2ada4b72607678d678cba73df541"), looks := false }, kinds := [], alts := [], laidByText := true, laidKinds := [.data, .data], laidTests := true, laidLooks := .later }
def BagKeepsUptoCardSaid : Prop := Claim7.holds Tryd.pinned (.plain (OpenSpec.upto bagKeepsSpec)) bagKeepsUptoCard

/-- THE SECOND FORM's CARD OF 'gimballaw22.BagOnce'. -/
def bagOnceUptoCard : Claim7 := { stood := { row := bagOnceUptoRow, standIns := [], harness := (true, "9077f26bd4fe5bdc1593f06134a06b187d0e2ada4b72607678d678cba73df541"), looks := false }, kinds := [], alts := [], laidByText := true, laidKinds := [.data, .data], laidTests := true, laidLooks := .later }
def BagOnceUptoCardSaid : Prop := Claim7.holds Tryd.pinned (.plain (OpenSpec.upto bagOnceSpec)) bagOnceUptoCard

/-- THE SECOND FORM's CARD OF 'gimballaw22.BagTo'. -/
def bagToUptoCard : Claim7 := { stood := { row := bagToUptoRow, standIns := [], harness := (true, "9077f26bd4fe5bdc1593f06134a06b187d0e2ada4b72607678d678cba73df541"), looks := false }, kinds := [], alts := [], laidByText := true, laidKinds := [.data, .data], laidTests := true, laidLooks := .later }
def BagToUptoCardSaid : Prop := Claim7.holds Tryd.pinned (.plain (OpenSpec.upto bagToSpec)) bagToUptoCard

/-- THE SECOND FORM's CARD OF 'gimballaw22.BagFrames'. -/
def bagFramesUptoCard : Claim7 := { stood := { row := bagFramesUptoRow, standIns := [], harness := (true, "9077f26bd4fe5bdc1593f06134a06b187d0e2ada4b72607678d678cba73df541"), looks := false }, kinds := [], alts := [], laidByText := true, laidKinds := [.data, .data], laidTests := true, laidLooks := .later }
def BagFramesUptoCardSaid : Prop := Claim7.holds Tryd.pinned (.plain (OpenSpec.upto bagFramesSpec)) bagFramesUptoCard
end Rows
end Go.Proofs.YtcnbmeiielkigaaDoor
