/- Slices of integers of one kind that came in, as lists. -/
import Derived.Test.YtcnbmeiielkigaaDoorKit
namespace Go.Proofs.YtcnbmeiielkigaaDoor
open Go.RowKit
set_option linter.unusedVariables false
/-- Integers as values. -/
def iv (k : IntKind) (l : List Int) : List Value := l.map (Value.int k)
theorem iv_length (k : IntKind) (l : List Int) : (iv k l).length = l.length := by simp [iv]
theorem iv_get (k : IntKind) (l : List Int) (j : Nat) (h : j < l.length) : (iv k l)[j]? = some (.int k (l[j])) := by simp [iv, h]
/-- The cell's address has no spot. -/
theorem plain_of_cell {w : World} {x : Addr} {v : Value} (h : w.cell? (x.add 0) = some v) (hs : ∀ b o s, x = ⟨b, o, some s⟩ → False) : ∃ b off, x = ⟨b, off, none⟩ := by
  obtain ⟨b, off, sp⟩ := x
  cases sp with
  | none => exact ⟨b, off, rfl⟩
  | some s => exact (hs b off s rfl).elim
/-- A slice of integers that came in, as the row's shell tells it. -/
theorem sl_of_ints {k : IntKind} {w : World} {a : Option Addr} {len cap : Nat} {zs : List Int}
    (h : (a = none ∧ len = 0 ∧ cap = 0 ∧ zs = []) ∨ ∃ x, a = some x ∧ len ≤ cap ∧ cap ≤ maxLen ∧ zs.length = cap ∧ (∀ i, i < zs.length → w.cell? (x.add i) = some (.int k (zs.getD i 0))) ∧ ∀ n ∈ zs, (Lit.int k n).wf = true) :
    ∃ l : List Int, l.length = len ∧ len ≤ cap ∧ (∀ n ∈ l, (Lit.int k n).wf = true) ∧ Sl w (.slice a l.length cap) (iv k l) := by
  rcases h with ⟨rfl, rfl, rfl, rfl⟩ | ⟨x, rfl, h1, h2, h3, h4, h5⟩
  · exact ⟨[], rfl, Nat.le_refl _, (fun _ h => by cases h), .inl (.inl ⟨rfl, rfl⟩)⟩
  · by_cases h0 : len = 0
    · subst h0
      exact ⟨[], rfl, h1, (fun _ h => by cases h), .inr ⟨x, cap, rfl, rfl⟩⟩
    · have hx : ∃ b off, x = ⟨b, off, none⟩ := by
        have := h4 0 (by omega)
        obtain ⟨b, off, sp⟩ := x
        cases sp with
        | none => exact ⟨b, off, rfl⟩
        | some s => simp [Addr.add, World.cell?] at this; split at this <;> simp at this
      obtain ⟨b, off, rfl⟩ := hx
      have hadd : ∀ j, (⟨b, off, none⟩ : Addr).add j = ⟨b, off + j, none⟩ := fun j => by unfold Addr.add; split <;> simp_all
      have hb : b < w.heap.size := World.block_lt_of_cell? w ⟨b, off, none⟩ (by have := h4 0 (by omega); rw [hadd, Nat.add_zero] at this; exact this)
      have hl : (zs.take len).length = len := by rw [List.length_take]; omega
      refine ⟨zs.take len, hl, h1, fun n hn => h5 n (List.mem_of_mem_take hn), .inl (.inr ⟨b, off, cap, by rw [iv_length], by rw [iv_length, hl]; exact h1, h2, hb, fun j u hj => ?_⟩)⟩
      rw [← hadd]
      have hj' : j < len := by
        rcases Nat.lt_or_ge j len with h | h
        · exact h
        · rw [List.getElem?_eq_none (by rw [iv_length, hl]; exact h)] at hj; cases hj
      have hjz : j < zs.length := by omega
      rw [h4 j hjz, ← hj, iv, List.getElem?_map, List.getElem?_take, if_pos hj', List.getElem?_eq_getElem hjz]
      simp only [List.getD, List.getElem?_eq_getElem hjz, Option.getD_some, Option.map_some]
/-- One of them, read. -/
theorem Sl.at {w : World} {a : Option Addr} {n c : Nat} {xs : List Value} (h : Sl w (.slice a n c) xs) (hn : 0 < n) : ∃ b off, a = some ⟨b, off, none⟩ ∧ n = xs.length ∧ ∀ j u, xs[j]? = some u → w.cell? ⟨b, off + j, none⟩ = some u := by
  rcases h with (⟨hv, hx⟩ | ⟨b, off, cap, hv, _, _, _, hc⟩) | ⟨x, c, hv, hx⟩
  · simp only [Value.slice.injEq] at hv; omega
  · simp only [Value.slice.injEq] at hv
    exact ⟨b, off, hv.1, hv.2.1, hc⟩
  · simp only [Value.slice.injEq] at hv; omega
/-- .. in any world in which what was there is as it was. -/
theorem Sl.cellAt {w : World} {b off n c : Nat} {xs : List Value} (h : Sl w (.slice (some ⟨b, off, none⟩) n c) xs) {j : Nat} {u : Value} (hn : 0 < n) (hj : xs[j]? = some u) {wz : World} (hb : Below w.heap.size w wz) : wz.cell? ⟨b, off + j, none⟩ = some u := by
  obtain ⟨b', off', he, _, hc⟩ := (h.keep hb.size fun b _ hlt => hb.block b hlt).at hn
  simp only [Option.some.injEq, Addr.mk.injEq, and_true] at he
  obtain ⟨rfl, rfl⟩ := he
  exact hc j u hj
end Go.Proofs.YtcnbmeiielkigaaDoor
