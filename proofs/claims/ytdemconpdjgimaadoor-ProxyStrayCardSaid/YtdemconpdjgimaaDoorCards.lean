/-
  DERIVED. GIVEN WITH THE SEED: THE CARDS: each row of YtdemconpdjgimaaDoorRows.lean that lists a variable, with what it lists TIED to the program's text (the seventh form; the later family's looks); each row that meets fmt, with fmt's text TOLD by the authors' own Lean function (tested against real Go, not proved from fmt's source: count such statements apart). THE CARD IS WHAT COUNTS. Prove the row's statement (the work); the ties are given (YtdemconpdjgimaaDoorTie.lean); close each card by the builder's one call (the guide's Derived/Test/ToyasCard.lean, 'card_holds'). Laid BY PROGRAM, IN A SANDBOX (cutbox-door.mjs). By AI agents, Wed Nov 11 2026. No macro, syntax, notation, axiom, sorry.
-/
import Derived.Test.YtdemconpdjgimaaDoorRows
import GoSem.ClaimSeven
namespace Go.Proofs.YtdemconpdjgimaaDoor
namespace Rows

/-- THE TIED CARD OF 'gimballaw21.ProxyEnough'. -/
def proxyEnoughCard : Claim7 := { stood := { row := proxyEnoughRow, standIns := [], harness := (true, "bcdceb5911b631f2c9edd547113f03882f7466f49475ef375248e63a4bf51fc5"), looks := false }, kinds := [], alts := [], laidByText := true, laidKinds := [.data, .data], laidTests := true, laidLooks := .later }
def ProxyEnoughCardSaid : Prop := Claim7.holds Tryd.pinned (.plain (OpenSpec.ofChange proxyEnoughSpec)) proxyEnoughCard

/-- THE TIED CARD OF 'gimballaw21.ProxyStray'. -/
def proxyStrayCard : Claim7 := { stood := { row := proxyStrayRow, standIns := [], harness := (true, "bcdceb5911b631f2c9edd547113f03882f7466f49475ef375248e63a4bf51fc5"), looks := false }, kinds := [], alts := [], laidByText := true, laidKinds := [.data, .data], laidTests := true, laidLooks := .later }
def ProxyStrayCardSaid : Prop := Claim7.holds Tryd.pinned (.plain (OpenSpec.ofChange proxyStraySpec)) proxyStrayCard

/-- THE TIED CARD OF 'gimballaw21.ProxySends'. -/
def proxySendsCard : Claim7 := { stood := { row := proxySendsRow, standIns := [], harness := (true, "bcdceb5911b631f2c9edd547113f03882f7466f49475ef375248e63a4bf51fc5"), looks := false }, kinds := [], alts := [], laidByText := true, laidKinds := [.data, .data], laidTests := true, laidLooks := .later }
def ProxySendsCardSaid : Prop := Claim7.holds Tryd.pinned (.plain (OpenSpec.ofChange proxySendsSpec)) proxySendsCard

/-- THE TIED CARD OF 'gimballaw21.ProxyNums'. -/
def proxyNumsCard : Claim7 := { stood := { row := proxyNumsRow, standIns := [], harness := (true, "bcdceb5911b631f2c9edd547113f03882f7466f49475ef375248e63a4bf51fc5"), looks := false }, kinds := [], alts := [], laidByText := true, laidKinds := [.data, .data], laidTests := true, laidLooks := .later }
def ProxyNumsCardSaid : Prop := Claim7.holds Tryd.pinned (.plain (OpenSpec.ofChange proxyNumsSpec)) proxyNumsCard

/-- THE SECOND FORM's CARD OF 'gimballaw21.ProxyEnough'. -/
def proxyEnoughUptoCard : Claim7 := { stood := { row := proxyEnoughUptoRow, standIns := [], harness := (true, "bcdceb5911b631f2c9edd547113f03882f7466f49475ef375248e63a4bf51fc5"), looks := false }, kinds := [], alts := [], laidByText := true, laidKinds := [.data, .data], laidTests := true, laidLooks := .later }
def ProxyEnoughUptoCardSaid : Prop := Claim7.holds Tryd.pinned (.plain (OpenSpec.upto proxyEnoughSpec)) proxyEnoughUptoCard

/-- THE SECOND FORM's CARD OF 'gimballaw21.ProxyStray'. -/
def proxyStrayUptoCard : Claim7 := { stood := { row := proxyStrayUptoRow, standIns := [], harness := (true, "bcdceb5911b631f2c9edd547113f03882f7466f49475ef375248e63a4bf51fc5"), looks := false }, kinds := [], alts := [], laidByText := true, laidKinds := [.data, .data], laidTests := true, laidLooks := .later }
def ProxyStrayUptoCardSaid : Prop := Claim7.holds Tryd.pinned (.plain (OpenSpec.upto proxyStraySpec)) proxyStrayUptoCard

/-- THE SECOND FORM's CARD OF 'gimballaw21.ProxySends'. -/
def proxySendsUptoCard : Claim7 := { stood := { row := proxySendsUptoRow, standIns := [], harness := (true, "bcdceb5911b631f2c9edd547113f03882f7466f49475ef375248e63a4bf51fc5"), looks := false }, kinds := [], alts := [], laidByText := true, laidKinds := [.data, .data], laidTests := true, laidLooks := .later }
def ProxySendsUptoCardSaid : Prop := Claim7.holds Tryd.pinned (.plain (OpenSpec.upto proxySendsSpec)) proxySendsUptoCard

/-- THE SECOND FORM's CARD OF 'gimballaw21.ProxyNums'. -/
def proxyNumsUptoCard : Claim7 := { stood := { row := proxyNumsUptoRow, standIns := [], harness := (true, "bcdceb5911b631f2c9edd547113f03882f7466f49475ef375248e63a4bf51fc5"), looks := false }, kinds := [], alts := [], laidByText := true, laidKinds := [.data, .data], laidTests := true, laidLooks := .later }
def ProxyNumsUptoCardSaid : Prop := Claim7.holds Tryd.pinned (.plain (OpenSpec.upto proxyNumsSpec)) proxyNumsUptoCard
end Rows
end Go.Proofs.YtdemconpdjgimaaDoor
