/-
  DERIVED. GIVEN WITH THE SEED: THE CARDS: each row of YtpknfeokfladkaaDoorRows.lean that lists a variable, with what it lists TIED to the program's text (the seventh form; the later family's looks); each row that meets fmt, with fmt's text TOLD by the authors' own Lean function (tested against real Go, not proved from fmt's source: count such statements apart). THE CARD IS WHAT COUNTS. Prove the row's statement (the work); the ties are given (YtpknfeokfladkaaDoorTie.lean); close each card by the builder's one call (the guide's Derived/Test/ToyasCard.lean, 'card_holds'). Laid BY PROGRAM, IN A SANDBOX (cutbox-door.mjs). By AI agents, Wed Nov 11 2026. No macro, syntax, notation, axiom, sorry.
-/
import Derived.Test.YtpknfeokfladkaaDoorRows
import GoSem.ClaimSeven
namespace Go.Proofs.YtpknfeokfladkaaDoor
namespace Rows

/-- THE TIED CARD OF 'gimballaw12.PipePlays'. -/
def pipePlaysCard : Claim7 := { stood := { row := pipePlaysRow, standIns := [], harness := (true, "13bfd2b8237888a47cf3b0579d0d2d8f36f209e89556d5c7a493ee6c2a147737"), looks := false }, kinds := [], alts := [], laidByText := true, laidKinds := [.data], laidTests := true, laidLooks := .later }
def PipePlaysCardSaid : Prop := Claim7.holds Tryd.pinned (.plain (OpenSpec.ofChange pipePlaysSpec)) pipePlaysCard

/-- THE TIED CARD OF 'gimballaw12.PipeAgrees'. -/
def pipeAgreesCard : Claim7 := { stood := { row := pipeAgreesRow, standIns := [], harness := (true, "13bfd2b8237888a47cf3b0579d0d2d8f36f209e89556d5c7a493ee6c2a147737"), looks := false }, kinds := [], alts := [], laidByText := true, laidKinds := [.data], laidTests := true, laidLooks := .later }
def PipeAgreesCardSaid : Prop := Claim7.holds Tryd.pinned (.plain (OpenSpec.ofChange pipeAgreesSpec)) pipeAgreesCard

/-- THE TIED CARD OF 'gimballaw12.PipeKeeps'. -/
def pipeKeepsCard : Claim7 := { stood := { row := pipeKeepsRow, standIns := [], harness := (true, "13bfd2b8237888a47cf3b0579d0d2d8f36f209e89556d5c7a493ee6c2a147737"), looks := false }, kinds := [], alts := [], laidByText := true, laidKinds := [.data], laidTests := true, laidLooks := .later }
def PipeKeepsCardSaid : Prop := Claim7.holds Tryd.pinned (.plain (OpenSpec.ofChange pipeKeepsSpec)) pipeKeepsCard

/-- THE TIED CARD OF 'gimballaw12.PipeJoins'. -/
def pipeJoinsCard : Claim7 := { stood := { row := pipeJoinsRow, standIns := [], harness := (true, "13bfd2b8237888a47cf3b0579d0d2d8f36f209e89556d5c7a493ee6c2a147737"), looks := false }, kinds := [], alts := [], laidByText := true, laidKinds := [.data], laidTests := true, laidLooks := .later }
def PipeJoinsCardSaid : Prop := Claim7.holds Tryd.pinned (.plain (OpenSpec.ofChange pipeJoinsSpec)) pipeJoinsCard

/-- THE TIED CARD OF 'gimballaw12.PipeOwn'. -/
def pipeOwnCard : Claim7 := { stood := { row := pipeOwnRow, standIns := [], harness := (true, "13bfd2b8237888a47cf3b0579d0d2d8f36f209e89556d5c7a493ee6c2a147737"), looks := false }, kinds := [], alts := [], laidByText := true, laidKinds := [.data], laidTests := true, laidLooks := .later }
def PipeOwnCardSaid : Prop := Claim7.holds Tryd.pinned (.plain (OpenSpec.ofChange pipeOwnSpec)) pipeOwnCard

/-- THE TIED CARD OF 'gimballaw12.PipeNames'. -/
def pipeNamesCard : Claim7 := { stood := { row := pipeNamesRow, standIns := [], harness := (true, "13bfd2b8237888a47cf3b0579d0d2d8f36f209e89556d5c7a493ee6c2a147737"), looks := false }, kinds := [], alts := [], laidByText := true, laidKinds := [.data], laidTests := true, laidLooks := .later }
def PipeNamesCardSaid : Prop := Claim7.holds Tryd.pinned (.plain (OpenSpec.ofChange pipeNamesSpec)) pipeNamesCard

/-- THE SECOND FORM's CARD OF 'gimballaw12.PipePlays'. -/
def pipePlaysUptoCard : Claim7 := { stood := { row := pipePlaysUptoRow, standIns := [], harness := (true, "13bfd2b8237888a47cf3b0579d0d2d8f36f209e89556d5c7a493ee6c2a147737"), looks := false }, kinds := [], alts := [], laidByText := true, laidKinds := [.data], laidTests := true, laidLooks := .later }
def PipePlaysUptoCardSaid : Prop := Claim7.holds Tryd.pinned (.plain (OpenSpec.upto pipePlaysSpec)) pipePlaysUptoCard

/-- THE SECOND FORM's CARD OF 'gimballaw12.PipeAgrees'. -/
def pipeAgreesUptoCard : Claim7 := { stood := { row := pipeAgreesUptoRow, standIns := [], harness := (true, "13bfd2b8237888a47cf3b0579d0d2d8f36f209e89556d5c7a493ee6c2a147737"), looks := false }, kinds := [], alts := [], laidByText := true, laidKinds := [.data], laidTests := true, laidLooks := .later }
def PipeAgreesUptoCardSaid : Prop := Claim7.holds Tryd.pinned (.plain (OpenSpec.upto pipeAgreesSpec)) pipeAgreesUptoCard

/-- THE SECOND FORM's CARD OF 'gimballaw12.PipeKeeps'. -/
def pipeKeepsUptoCard : Claim7 := { stood := { row := pipeKeepsUptoRow, standIns := [], harness := (true, "13bfd2b8237888a47cf3b0579d0d2d8f36f209e89556d5c7a493ee6c2a147737"), looks := false }, kinds := [], alts := [], laidByText := true, laidKinds := [.data], laidTests := true, laidLooks := .later }
def PipeKeepsUptoCardSaid : Prop := Claim7.holds Tryd.pinned (.plain (OpenSpec.upto pipeKeepsSpec)) pipeKeepsUptoCard

/-- THE SECOND FORM's CARD OF 'gimballaw12.PipeJoins'. -/
def pipeJoinsUptoCard : Claim7 := { stood := { row := pipeJoinsUptoRow, standIns := [], harness := (true, "13bfd2b8237888a47cf3b0579d0d2d8f36f209e89556d5c7a493ee6c2a147737"), looks := false }, kinds := [], alts := [], laidByText := true, laidKinds := [.data], laidTests := true, laidLooks := .later }
def PipeJoinsUptoCardSaid : Prop := Claim7.holds Tryd.pinned (.plain (OpenSpec.upto pipeJoinsSpec)) pipeJoinsUptoCard

/-- THE SECOND FORM's CARD OF 'gimballaw12.PipeOwn'. -/
def pipeOwnUptoCard : Claim7 := { stood := { row := pipeOwnUptoRow, standIns := [], harness := (true, "13bfd2b8237888a47cf3b0579d0d2d8f36f209e89556d5c7a493ee6c2a147737"), looks := false }, kinds := [], alts := [], laidByText := true, laidKinds := [.data], laidTests := true, laidLooks := .later }
def PipeOwnUptoCardSaid : Prop := Claim7.holds Tryd.pinned (.plain (OpenSpec.upto pipeOwnSpec)) pipeOwnUptoCard

/-- THE SECOND FORM's CARD OF 'gimballaw12.PipeNames'. -/
def pipeNamesUptoCard : Claim7 := { stood := { row := pipeNamesUptoRow, standIns := [], harness := (true, "13bfd2b8237888a47cf3b0579d0d2d8f36f209e89556d5c7a493ee6c2a147737"), looks := false }, kinds := [], alts := [], laidByText := true, laidKinds := [.data], laidTests := true, laidLooks := .later }
def PipeNamesUptoCardSaid : Prop := Claim7.holds Tryd.pinned (.plain (OpenSpec.upto pipeNamesSpec)) pipeNamesUptoCard
end Rows
end Go.Proofs.YtpknfeokfladkaaDoor
