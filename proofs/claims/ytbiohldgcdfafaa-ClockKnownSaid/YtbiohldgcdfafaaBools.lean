/- Slices of bools that came in, as lists. -/
import Derived.Test.YtbiohldgcdfafaaKit
import Derived.Deep.Grids
namespace Go.Proofs.Ytbiohldgcdfafaa
open Go.RowKit
set_option linter.unusedVariables false
/-- What the walk is told of a slice of bools: nil, or a row of its cells. -/
def IsBools (w : World) (a : Option Addr) (len cap : Nat) (zs : List Bool) : Prop :=
  (a = none ∧ len = 0 ∧ cap = 0 ∧ zs = []) ∨ ∃ x, a = some x ∧ len ≤ cap ∧ cap ≤ maxLen ∧ zs.length = cap ∧ ∀ i, i < zs.length → w.cell? (x.add i) = some (.bool (zs.getD i false))
theorem isBools_some {w : World} {x : Addr} {len cap : Nat} {B : Nat → Bool} (h1 : len ≤ cap) (h2 : cap ≤ maxLen) (h : ∀ i, i < cap → w.cell? (x.add i) = some (.bool (B i))) : IsBools w (some x) len cap ((List.range cap).map B) :=
  .inr ⟨x, rfl, h1, h2, by simp, fun i hi => by rw [h i (by simpa using hi)]; simp at hi; simp [List.getD, hi]⟩
/-- Bools as values. -/
def lv (l : List Bool) : List Value := l.map Value.bool
theorem lv_length (l : List Bool) : (lv l).length = l.length := by simp [lv]
theorem lv_get (l : List Bool) (j : Nat) (h : j < l.length) : (lv l)[j]? = some (.bool (l[j])) := by simp [lv, h]
theorem sl_of_bools {w : World} {a : Option Addr} {len cap : Nat} {zs : List Bool} (h : IsBools w a len cap zs) : ∃ l : List Bool, l.length = len ∧ len ≤ cap ∧ Sl w (.slice a l.length cap) (lv l) := by
  rcases h with ⟨rfl, rfl, rfl, rfl⟩ | ⟨x, rfl, h1, h2, h3, h4⟩
  · exact ⟨[], rfl, Nat.le_refl _, .inl (.inl ⟨rfl, rfl⟩)⟩
  · by_cases h0 : len = 0
    · subst h0
      exact ⟨[], rfl, h1, .inr ⟨x, cap, rfl, rfl⟩⟩
    · have hx : ∃ b off, x = ⟨b, off, none⟩ := by
        have := h4 0 (by omega)
        obtain ⟨b, off, sp⟩ := x
        cases sp with
        | none => exact ⟨b, off, rfl⟩
        | some s => simp [Addr.add, World.cell?] at this; split at this <;> simp at this
      obtain ⟨b, off, rfl⟩ := hx
      have hadd : ∀ j, (⟨b, off, none⟩ : Addr).add j = ⟨b, off + j, none⟩ := fun j => by unfold Addr.add; split <;> simp_all
      have hb : b < w.heap.size := World.block_lt_of_cell? w ⟨b, off, none⟩ (by have := h4 0 (by omega); rw [hadd, Nat.add_zero] at this; exact this)
      have hl : (zs.take len).length = len := by rw [List.length_take]; omega
      refine ⟨zs.take len, hl, h1, .inl (.inr ⟨b, off, cap, by rw [lv_length], by rw [lv_length, hl]; exact h1, h2, hb, fun j u hj => ?_⟩)⟩
      rw [← hadd]
      have hj' : j < len := by
        rcases Nat.lt_or_ge j len with h | h
        · exact h
        · rw [List.getElem?_eq_none (by rw [lv_length, hl]; exact h)] at hj; cases hj
      have hjz : j < zs.length := by omega
      rw [h4 j hjz, ← hj, lv, List.getElem?_map, List.getElem?_take, if_pos hj', List.getElem?_eq_getElem hjz]
      simp only [List.getD, List.getElem?_eq_getElem hjz, Option.getD_some, Option.map_some]
end Go.Proofs.Ytbiohldgcdfafaa
