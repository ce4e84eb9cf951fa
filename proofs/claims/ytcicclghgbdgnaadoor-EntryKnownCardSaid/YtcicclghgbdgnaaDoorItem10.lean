/- Package item: ParseRes. -/
import Derived.Test.YtcicclghgbdgnaaDoorItem9
import Derived.Test.YtcicclghgbdgnaaDoorBkB
namespace Go.Proofs.YtcicclghgbdgnaaDoor
open Go.RowKit
set_option linter.unusedVariables false
set_option linter.unusedSimpArgs false
theorem cells3 {w0 w : World} {b : Nat} {v0 v1 v2 : Value} {t : TypeId} {L : List Thing} (h : Sep w0 (Cl b #[v0, v1, v2] t :: L) w) :
    w.cell? ⟨b, 0, none⟩ = some v0 ∧ w.cell? ⟨b, 1, none⟩ = some v1 ∧ w.cell? ⟨b, 2, none⟩ = some v2 := ⟨h.cell rfl, h.cell rfl, h.cell rfl⟩
theorem store3 {w0 w : World} {b : Nat} {v0 v1 v2 u0 u1 u2 : Value} {t : TypeId} {L : List Thing} (h : Sep w0 (Cl b #[v0, v1, v2] t :: L) w) :
    Sep w0 (Cl b #[u0, u1, u2] t :: L) (((w.setCell ⟨b, 0, none⟩ u0).setCell ⟨b, 1, none⟩ u1).setCell ⟨b, 2, none⟩ u2) := ((h.setCell 0 _).setCell 1 _).setCell 2 _
/-- What ParseRes answers. -/
def prsRes (l : List UInt8) : (Int × Int × Int) × Int :=
  let a := rdNe l 0
  let b := rdVe a.2.1 a.2.2
  let c := rdVe b.2.1 b.2.2
  if endErr c.2.1 c.2.2 = 0 then (if resB (a.1 : Nat) (i64w b.1) (i64w c.1) then (((a.1 : Nat), i64w b.1, i64w c.1), 0) else ((0, 0, 0), 4)) else ((0, 0, 0), endErr c.2.1 c.2.2)
end Go.Proofs.YtcicclghgbdgnaaDoor
