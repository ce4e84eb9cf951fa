/-
  DERIVED. GIVEN WITH THE SEED: THE CARDS: each row of YthgndegjiodopaaDoorRows.lean that lists a variable, with what it lists TIED to the program's text (the seventh form; the later family's looks); each row that meets fmt, with fmt's text TOLD by the authors' own Lean function (tested against real Go, not proved from fmt's source: count such statements apart). THE CARD IS WHAT COUNTS. Prove the row's statement (the work); the ties are given (YthgndegjiodopaaDoorTie.lean); close each card by the builder's one call (the guide's Derived/Test/ToyasCard.lean, 'card_holds'). Laid BY PROGRAM, IN A SANDBOX (cutbox-door.mjs). By AI agents, Wed Nov 11 2026. No macro, syntax, notation, axiom, sorry.
-/
import Derived.Test.YthgndegjiodopaaDoorRows
import GoSem.ClaimSeven
namespace Go.Proofs.YthgndegjiodopaaDoor
namespace Rows

/-- THE TIED CARD OF 'gimballaw18.ChooseKeeps'. -/
def chooseKeepsCard : Claim7 := { stood := { row := chooseKeepsRow, standIns := [], harness := (true, "437ac3bad3209ae4ad417de596bd16820fc2c2d004ef1a3d6273120f2e6bebf9"), looks := false }, kinds := [], alts := [], laidByText := true, laidKinds := [.data], laidTests := true, laidLooks := .later }
def ChooseKeepsCardSaid : Prop := Claim7.holds Tryd.pinned (.plain (OpenSpec.ofChange chooseKeepsSpec)) chooseKeepsCard

/-- THE TIED CARD OF 'gimballaw18.ChooseTurns'. -/
def chooseTurnsCard : Claim7 := { stood := { row := chooseTurnsRow, standIns := [], harness := (true, "437ac3bad3209ae4ad417de596bd16820fc2c2d004ef1a3d6273120f2e6bebf9"), looks := false }, kinds := [], alts := [], laidByText := true, laidKinds := [.data], laidTests := true, laidLooks := .later }
def ChooseTurnsCardSaid : Prop := Claim7.holds Tryd.pinned (.plain (OpenSpec.ofChange chooseTurnsSpec)) chooseTurnsCard

/-- THE TIED CARD OF 'gimballaw18.ChooseOne'. -/
def chooseOneCard : Claim7 := { stood := { row := chooseOneRow, standIns := [], harness := (true, "437ac3bad3209ae4ad417de596bd16820fc2c2d004ef1a3d6273120f2e6bebf9"), looks := false }, kinds := [], alts := [], laidByText := true, laidKinds := [.data], laidTests := true, laidLooks := .later }
def ChooseOneCardSaid : Prop := Claim7.holds Tryd.pinned (.plain (OpenSpec.ofChange chooseOneSpec)) chooseOneCard

/-- THE TIED CARD OF 'gimballaw18.ChooseNames'. -/
def chooseNamesCard : Claim7 := { stood := { row := chooseNamesRow, standIns := [], harness := (true, "437ac3bad3209ae4ad417de596bd16820fc2c2d004ef1a3d6273120f2e6bebf9"), looks := false }, kinds := [], alts := [], laidByText := true, laidKinds := [.data], laidTests := true, laidLooks := .later }
def ChooseNamesCardSaid : Prop := Claim7.holds Tryd.pinned (.plain (OpenSpec.ofChange chooseNamesSpec)) chooseNamesCard

/-- THE SECOND FORM's CARD OF 'gimballaw18.ChooseKeeps'. -/
def chooseKeepsUptoCard : Claim7 := { stood := { row := chooseKeepsUptoRow, standIns := [], harness := (true, "437ac3bad3209ae4ad417de596bd16820fc2c2d004ef1a3d6273120f2e6bebf9"), looks := false }, kinds := [], alts := [], laidByText := true, laidKinds := [.data], laidTests := true, laidLooks := .later }
def ChooseKeepsUptoCardSaid : Prop := Claim7.holds Tryd.pinned (.plain (OpenSpec.upto chooseKeepsSpec)) chooseKeepsUptoCard

/-- THE SECOND FORM's CARD OF 'gimballaw18.ChooseTurns'. -/
def chooseTurnsUptoCard : Claim7 := { stood := { row := chooseTurnsUptoRow, standIns := [], harness := (true, "437ac3bad3209ae4ad417de596bd16820fc2c2d004ef1a3d6273120f2e6bebf9"), looks := false }, kinds := [], alts := [], laidByText := true, laidKinds := [.data], laidTests := true, laidLooks := .later }
def ChooseTurnsUptoCardSaid : Prop := Claim7.holds Tryd.pinned (.plain (OpenSpec.upto chooseTurnsSpec)) chooseTurnsUptoCard

/-- THE SECOND FORM's CARD OF 'gimballaw18.ChooseOne'. -/
def chooseOneUptoCard : Claim7 := { stood := { row := chooseOneUptoRow, standIns := [], harness := (true, "437ac3bad3209ae4ad417de596bd16820fc2c2d004ef1a3d6273120f2e6bebf9"), looks := false }, kinds := [], alts := [], laidByText := true, laidKinds := [.data], laidTests := true, laidLooks := .later }
def ChooseOneUptoCardSaid : Prop := Claim7.holds Tryd.pinned (.plain (OpenSpec.upto chooseOneSpec)) chooseOneUptoCard

/-- THE SECOND FORM's CARD OF 'gimballaw18.ChooseNames'. -/
def chooseNamesUptoCard : Claim7 := { stood := { row := chooseNamesUptoRow, standIns := [], harness := (true, "437ac3bad3209ae4ad417de596bd16820fc2c2d004ef1a3d6273120f2e6bebf9"), looks := false }, kinds := [], alts := [], laidByText := true, laidKinds := [.data], laidTests := true, laidLooks := .later }
def ChooseNamesUptoCardSaid : Prop := Claim7.holds Tryd.pinned (.plain (OpenSpec.upto chooseNamesSpec)) chooseNamesUptoCard
end Rows
end Go.Proofs.YthgndegjiodopaaDoor
