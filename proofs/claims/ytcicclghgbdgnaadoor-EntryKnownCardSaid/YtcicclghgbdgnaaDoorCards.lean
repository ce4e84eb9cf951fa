/-
  DERIVED. GIVEN WITH THE SEED: THE CARDS: each row of YtcicclghgbdgnaaDoorRows.lean that lists a variable, with what it lists TIED to the program's text (the seventh form; the later family's looks); each row that meets fmt, with fmt's text TOLD by the authors' own Lean function (tested against real Go, not proved from fmt's source: count such statements apart). THE CARD IS WHAT COUNTS. Prove the row's statement (the work); the ties are given (YtcicclghgbdgnaaDoorTie.lean); close each card by the builder's one call (the guide's Derived/Test/ToyasCard.lean, 'card_holds'). Laid BY PROGRAM, IN A SANDBOX (cutbox-door.mjs). By AI agents, Wed Nov 11 2026. No macro, syntax, notation, axiom, sorry.
-/
import Derived.Test.YtcicclghgbdgnaaDoorRows
import GoSem.ClaimSeven
namespace Go.Proofs.YtcicclghgbdgnaaDoor
namespace Rows

/-- THE TIED CARD OF 'gimballaw04.EntryWrites'. -/
def entryWritesCard : Claim7 := { stood := { row := entryWritesRow, standIns := [], harness := (true, "d23fd1dd344710b85cf7a7b1a01f590fe4608ee96a0128182e52e2a2ed414ce4"), looks := false }, kinds := [], alts := [], laidByText := true, laidKinds := [.data], laidTests := true, laidLooks := .later }
def EntryWritesCardSaid : Prop := Claim7.holds Tryd.pinned (.plain (OpenSpec.ofChange entryWritesSpec)) entryWritesCard

/-- THE TIED CARD OF 'gimballaw04.EntryRows'. -/
def entryRowsCard : Claim7 := { stood := { row := entryRowsRow, standIns := [], harness := (true, "d23fd1dd344710b85cf7a7b1a01f590fe4608ee96a0128182e52e2a2ed414ce4"), looks := false }, kinds := [], alts := [], laidByText := true, laidKinds := [.data], laidTests := true, laidLooks := .later }
def EntryRowsCardSaid : Prop := Claim7.holds Tryd.pinned (.plain (OpenSpec.ofChange entryRowsSpec)) entryRowsCard

/-- THE TIED CARD OF 'gimballaw04.EntryBack'. -/
def entryBackCard : Claim7 := { stood := { row := entryBackRow, standIns := [], harness := (true, "d23fd1dd344710b85cf7a7b1a01f590fe4608ee96a0128182e52e2a2ed414ce4"), looks := false }, kinds := [], alts := [], laidByText := true, laidKinds := [.data], laidTests := true, laidLooks := .later }
def EntryBackCardSaid : Prop := Claim7.holds Tryd.pinned (.plain (OpenSpec.ofChange entryBackSpec)) entryBackCard

/-- THE TIED CARD OF 'gimballaw04.EntryAgain'. -/
def entryAgainCard : Claim7 := { stood := { row := entryAgainRow, standIns := [], harness := (true, "d23fd1dd344710b85cf7a7b1a01f590fe4608ee96a0128182e52e2a2ed414ce4"), looks := false }, kinds := [], alts := [], laidByText := true, laidKinds := [.data], laidTests := true, laidLooks := .later }
def EntryAgainCardSaid : Prop := Claim7.holds Tryd.pinned (.plain (OpenSpec.ofChange entryAgainSpec)) entryAgainCard

/-- THE TIED CARD OF 'gimballaw04.EntryKnown'. -/
def entryKnownCard : Claim7 := { stood := { row := entryKnownRow, standIns := [], harness := (true, "d23fd1dd344710b85cf7a7b1a01f590fe4608ee96a0128182e52e2a2ed414ce4"), looks := false }, kinds := [], alts := [], laidByText := true, laidKinds := [.data], laidTests := true, laidLooks := .later }
def EntryKnownCardSaid : Prop := Claim7.holds Tryd.pinned (.plain (OpenSpec.ofChange entryKnownSpec)) entryKnownCard

/-- THE SECOND FORM's CARD OF 'gimballaw04.EntryWrites'. -/
def entryWritesUptoCard : Claim7 := { stood := { row := entryWritesUptoRow, standIns := [], harness := (true, "d23fd1dd344710b85cf7a7b1a01f590fe4608ee96a0128182e52e2a2ed414ce4"), looks := false }, kinds := [], alts := [], laidByText := true, laidKinds := [.data], laidTests := true, laidLooks := .later }
def EntryWritesUptoCardSaid : Prop := Claim7.holds Tryd.pinned (.plain (OpenSpec.upto entryWritesSpec)) entryWritesUptoCard

/-- THE SECOND FORM's CARD OF 'gimballaw04.EntryRows'. -/
def entryRowsUptoCard : Claim7 := { stood := { row := entryRowsUptoRow, standIns := [], harness := (true, "d23fd1dd344710b85cf7a7b1a01f590fe4608ee96a0128182e52e2a2ed414ce4"), looks := false }, kinds := [], alts := [], laidByText := true, laidKinds := [.data], laidTests := true, laidLooks := .later }
def EntryRowsUptoCardSaid : Prop := Claim7.holds Tryd.pinned (.plain (OpenSpec.upto entryRowsSpec)) entryRowsUptoCard

/-- THE SECOND FORM's CARD OF 'gimballaw04.EntryBack'. -/
def entryBackUptoCard : Claim7 := { stood := { row := entryBackUptoRow, standIns := [], harness := (true, "d23fd1dd344710b85cf7a7b1a01f590fe4608ee96a0128182e52e2a2ed414ce4"), looks := false }, kinds := [], alts := [], laidByText := true, laidKinds := [.data], laidTests := true, laidLooks := .later }
def EntryBackUptoCardSaid : Prop := Claim7.holds Tryd.pinned (.plain (OpenSpec.upto entryBackSpec)) entryBackUptoCard

/-- THE SECOND FORM's CARD OF 'gimballaw04.EntryAgain'. -/
def entryAgainUptoCard : Claim7 := { stood := { row := entryAgainUptoRow, standIns := [], harness := (true, "d23fd1dd344710b85cf7a7b1a01f590fe4608ee96a0128182e52e2a2ed414ce4"), looks := false }, kinds := [], alts := [], laidByText := true, laidKinds := [.data], laidTests := true, laidLooks := .later }
def EntryAgainUptoCardSaid : Prop := Claim7.holds Tryd.pinned (.plain (OpenSpec.upto entryAgainSpec)) entryAgainUptoCard

/-- THE SECOND FORM's CARD OF 'gimballaw04.EntryKnown'. -/
def entryKnownUptoCard : Claim7 := { stood := { row := entryKnownUptoRow, standIns := [], harness := (true, "d23fd1dd344710b85cf7a7b1a01f590fe4608ee96a0128182e52e2a2ed414ce4"), looks := false }, kinds := [], alts := [], laidByText := true, laidKinds := [.data], laidTests := true, laidLooks := .later }
def EntryKnownUptoCardSaid : Prop := Claim7.holds Tryd.pinned (.plain (OpenSpec.upto entryKnownSpec)) entryKnownUptoCard
end Rows
end Go.Proofs.YtcicclghgbdgnaaDoor
