/-
  DERIVED. GIVEN WITH THE SEED: THE CARDS: each row of YtfjodadmcfdlpaaDoorRows.lean that lists a variable, with what it lists TIED to the program's text (the seventh form; the later family's looks); each row that meets fmt, with fmt's text TOLD by the authors' own Lean function (tested against real Go, not proved from fmt's source: count such statements apart). THE CARD IS WHAT COUNTS. Prove the row's statement (the work); the ties are given (YtfjodadmcfdlpaaDoorTie.lean); close each card by the builder's one call (the guide's Derived/Test/ToyasCard.lean, 'card_holds'). Laid BY PROGRAM, IN A SANDBOX (cutbox-door.mjs). By AI agents, Wed Nov 11 2026. No macro, syntax, notation, axiom, sorry.
-/
import Derived.Test.YtfjodadmcfdlpaaDoorRows
import GoSem.ClaimSeven
namespace Go.Proofs.YtfjodadmcfdlpaaDoor
namespace Rows

/-- THE TIED CARD OF 'gimballaw03.ItemWrites'. -/
def itemWritesCard : Claim7 := { stood := { row := itemWritesRow, standIns := [], harness := (true, "c5b2828efc717d8b1a07ce04964e781c3b08ae002e20c99652e9062bcd70f0f7"), looks := false }, kinds := [], alts := [], laidByText := true, laidKinds := [.data], laidTests := true, laidLooks := .later }
def ItemWritesCardSaid : Prop := Claim7.holds Tryd.pinned (.plain (OpenSpec.ofChange itemWritesSpec)) itemWritesCard

/-- THE TIED CARD OF 'gimballaw03.ItemReads'. -/
def itemReadsCard : Claim7 := { stood := { row := itemReadsRow, standIns := [], harness := (true, "c5b2828efc717d8b1a07ce04964e781c3b08ae002e20c99652e9062bcd70f0f7"), looks := false }, kinds := [], alts := [], laidByText := true, laidKinds := [.data], laidTests := true, laidLooks := .later }
def ItemReadsCardSaid : Prop := Claim7.holds Tryd.pinned (.plain (OpenSpec.ofChange itemReadsSpec)) itemReadsCard

/-- THE TIED CARD OF 'gimballaw03.ItemBack'. -/
def itemBackCard : Claim7 := { stood := { row := itemBackRow, standIns := [], harness := (true, "c5b2828efc717d8b1a07ce04964e781c3b08ae002e20c99652e9062bcd70f0f7"), looks := false }, kinds := [], alts := [], laidByText := true, laidKinds := [.data], laidTests := true, laidLooks := .later }
def ItemBackCardSaid : Prop := Claim7.holds Tryd.pinned (.plain (OpenSpec.ofChange itemBackSpec)) itemBackCard

/-- THE TIED CARD OF 'gimballaw03.ItemAgain'. -/
def itemAgainCard : Claim7 := { stood := { row := itemAgainRow, standIns := [], harness := (true, "c5b2828efc717d8b1a07ce04964e781c3b08ae002e20c99652e9062bcd70f0f7"), looks := false }, kinds := [], alts := [], laidByText := true, laidKinds := [.data], laidTests := true, laidLooks := .later }
def ItemAgainCardSaid : Prop := Claim7.holds Tryd.pinned (.plain (OpenSpec.ofChange itemAgainSpec)) itemAgainCard

/-- THE TIED CARD OF 'gimballaw03.ItemSame'. -/
def itemSameCard : Claim7 := { stood := { row := itemSameRow, standIns := [], harness := (true, "c5b2828efc717d8b1a07ce04964e781c3b08ae002e20c99652e9062bcd70f0f7"), looks := false }, kinds := [], alts := [], laidByText := true, laidKinds := [.data], laidTests := true, laidLooks := .later }
def ItemSameCardSaid : Prop := Claim7.holds Tryd.pinned (.plain (OpenSpec.ofChange itemSameSpec)) itemSameCard

/-- THE TIED CARD OF 'gimballaw03.ItemKnown'. -/
def itemKnownCard : Claim7 := { stood := { row := itemKnownRow, standIns := [], harness := (true, "c5b2828efc717d8b1a07ce04964e781c3b08ae002e20c99652e9062bcd70f0f7"), looks := false }, kinds := [], alts := [], laidByText := true, laidKinds := [.data], laidTests := true, laidLooks := .later }
def ItemKnownCardSaid : Prop := Claim7.holds Tryd.pinned (.plain (OpenSpec.ofChange itemKnownSpec)) itemKnownCard

/-- THE SECOND FORM's CARD OF 'gimballaw03.ItemWrites'. -/
def itemWritesUptoCard : Claim7 := { stood := { row := itemWritesUptoRow, standIns := [], harness := (true, "c5b2828efc717d8b1a07ce04964e781c3b08ae002e20c99652e9062bcd70f0f7"), looks := false }, kinds := [], alts := [], laidByText := true, laidKinds := [.data], laidTests := true, laidLooks := .later }
def ItemWritesUptoCardSaid : Prop := Claim7.holds Tryd.pinned (.plain (OpenSpec.upto itemWritesSpec)) itemWritesUptoCard

/-- THE SECOND FORM's CARD OF 'gimballaw03.ItemReads'. -/
def itemReadsUptoCard : Claim7 := { stood := { row := itemReadsUptoRow, standIns := [], harness := (true, "c5b2828efc717d8b1a07ce04964e781c3b08ae002e20c99652e9062bcd70f0f7"), looks := false }, kinds := [], alts := [], laidByText := true, laidKinds := [.data], laidTests := true, laidLooks := .later }
def ItemReadsUptoCardSaid : Prop := Claim7.holds Tryd.pinned (.plain (OpenSpec.upto itemReadsSpec)) itemReadsUptoCard

/-- THE SECOND FORM's CARD OF 'gimballaw03.ItemBack'. -/
def itemBackUptoCard : Claim7 := { stood := { row := itemBackUptoRow, standIns := [], harness := (true, "c5b2828efc717d8b1a07ce04964e781c3b08ae002e20c99652e9062bcd70f0f7"), looks := false }, kinds := [], alts := [], laidByText := true, laidKinds := [.data], laidTests := true, laidLooks := .later }
def ItemBackUptoCardSaid : Prop := Claim7.holds Tryd.pinned (.plain (OpenSpec.upto itemBackSpec)) itemBackUptoCard

/-- THE SECOND FORM's CARD OF 'gimballaw03.ItemAgain'. -/
def itemAgainUptoCard : Claim7 := { stood := { row := itemAgainUptoRow, standIns := [], harness := (true, "c5b2828efc717d8b1a07ce04964e781c3b08ae002e20c99652e9062bcd70f0f7"), looks := false }, kinds := [], alts := [], laidByText := true, laidKinds := [.data], laidTests := true, laidLooks := .later }
def ItemAgainUptoCardSaid : Prop := Claim7.holds Tryd.pinned (.plain (OpenSpec.upto itemAgainSpec)) itemAgainUptoCard

/-- THE SECOND FORM's CARD OF 'gimballaw03.ItemSame'. -/
def itemSameUptoCard : Claim7 := { stood := { row := itemSameUptoRow, standIns := [], harness := (true, "c5b2828efc717d8b1a07ce04964e781c3b08ae002e20c99652e9062bcd70f0f7"), looks := false }, kinds := [], alts := [], laidByText := true, laidKinds := [.data], laidTests := true, laidLooks := .later }
def ItemSameUptoCardSaid : Prop := Claim7.holds Tryd.pinned (.plain (OpenSpec.upto itemSameSpec)) itemSameUptoCard

/-- THE SECOND FORM's CARD OF 'gimballaw03.ItemKnown'. -/
def itemKnownUptoCard : Claim7 := { stood := { row := itemKnownUptoRow, standIns := [], harness := (true, "c5b2828efc717d8b1a07ce04964e781c3b08ae002e20c99652e9062bcd70f0f7"), looks := false }, kinds := [], alts := [], laidByText := true, laidKinds := [.data], laidTests := true, laidLooks := .later }
def ItemKnownUptoCardSaid : Prop := Claim7.holds Tryd.pinned (.plain (OpenSpec.upto itemKnownSpec)) itemKnownUptoCard
end Rows
end Go.Proofs.YtfjodadmcfdlpaaDoor
