/- Slices of structs that came in. -/
import Derived.Test.YtcnbmeiielkigaaDoorOpen
namespace Go.Proofs.YtcnbmeiielkigaaDoor
open Go.RowKit
set_option linter.unusedVariables false
/-- A slice whose elements take c cells each. -/
theorem RdC.rows {P : Program} {w : World} {t e : TypeId} {v : Value} {c : Nat} (ht : P.underlying t = some (.slice e)) (hc : P.cellsOf e = c) (hpos : 0 < c) (h : RdC P w t [v]) :
    ∃ (a : Option Addr) (len cap : Nat), v = .slice a len cap ∧ len ≤ cap ∧ cap ≤ maxLen ∧
      ∀ i, i < len → ∃ b off, a = some ⟨b, off, none⟩ ∧ b < w.heap.size ∧ ∃ cs : List Value, cs.length = c ∧ (∀ j (hj : j < cs.length), w.cell? ⟨b, off + i * c + j, none⟩ = some cs[j]) ∧ RdC P w e cs := by
  rcases h.slice ht with h0 | ⟨a, len, cap, h0, hl, hm, hel⟩
  · simp only [List.cons.injEq, and_true] at h0
    subst h0
    exact ⟨none, 0, 0, rfl, Nat.le_refl _, Nat.zero_le _, fun i hi => by omega⟩
  · simp only [List.cons.injEq, and_true] at h0
    subst h0
    refine ⟨some a, len, cap, rfl, hl, hm, fun i hi => ?_⟩
    obtain ⟨cs, h1, h2, h3⟩ := hel i hi
    rw [hc] at h1 h2
    have hx : ∃ b off, a = ⟨b, off, none⟩ := by
      obtain ⟨cs', g1, g2, _⟩ := hel 0 (by omega)
      have h4 := g2 0 (by omega)
      obtain ⟨b, off, sp⟩ := a
      cases sp with
      | none => exact ⟨b, off, rfl⟩
      | some s =>
        rw [List.getElem?_eq_getElem (by omega)] at h4
        simp [Addr.add, World.cell?] at h4
        split at h4 <;> simp at h4
    obtain ⟨b, off, rfl⟩ := hx
    have hadd : ∀ o j, (⟨b, o, none⟩ : Addr).add j = ⟨b, o + j, none⟩ := fun o j => by unfold Addr.add; split <;> simp_all
    have hcell : ∀ j (hj : j < cs.length), w.cell? ⟨b, off + i * c + j, none⟩ = some cs[j] := fun j hj => by
      have h4 := h2 j (by omega)
      rw [hadd, hadd, List.getElem?_eq_getElem hj] at h4
      exact h4
    exact ⟨b, off, rfl, World.block_lt_of_cell? w ⟨b, off + i * c + 0, none⟩ (hcell 0 (by omega)), cs, h1, hcell, h3⟩
end Go.Proofs.YtcnbmeiielkigaaDoor
