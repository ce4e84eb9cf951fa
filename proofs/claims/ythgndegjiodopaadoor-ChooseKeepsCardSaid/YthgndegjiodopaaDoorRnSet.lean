/- A cell of a row of structs of one's own is stored to. -/
import Derived.Test.YthgndegjiodopaaDoorRowsN
namespace Go.Proofs.YthgndegjiodopaaDoor
open Go.RowKit
set_option linter.unusedVariables false
theorem Sep.rnSet {w0 w : World} {sz n : Nat} {e : TypeId} {v : Value} {xs : List Value} {L : List Thing} (h : Sep w0 (Rn sz e v n xs :: L) w) (hp : 0 < n) :
    ∃ b c, v = .slice (some ⟨b, 0, none⟩) n c ∧ n ≤ c ∧ c ≤ maxLen ∧ b < w.heap.size ∧ xs.length = n * sz ∧ (∀ k (hk : k < xs.length), w.cell? ⟨b, k, none⟩ = some xs[k]) ∧ (∀ k, w.frozen? ⟨b, k, none⟩ = false) ∧
      ∀ k x, k < xs.length → Sep w0 (Rn sz e v n (xs.set k x) :: L) (w.setCell ⟨b, k, none⟩ x) := by
  have ho := h.rn
  rcases ho.2 with ⟨_, h0⟩ | ⟨b, c, cur, rfl, hb, hh, h1, h2, h3, h4⟩
  · omega
  · refine ⟨b, c, rfl, h1, h2, (ownsRow_lt ho b rfl).2, ho.1, fun k hk => ?_, fun k => ?_, fun k x hk => ?_⟩
    · have hj2 : k < n * sz := by rw [← ho.1]; exact hk
      unfold World.cell?
      rw [hh]
      have h5 : (cur.toList.take (n * sz))[k]? = some xs[k] := by rw [h4]; exact List.getElem?_eq_getElem hk
      rw [List.getElem?_take, if_pos hj2] at h5
      simpa using h5
    · unfold World.frozen?; rw [hh]; simp
    · refine h.change (loc_rn _ _ _ _ _) fun F hF hlt => ⟨F, ⟨⟨w0.heap.size, ?_, .inr ⟨b, c, cur.setIfInBounds k x, rfl, hb, heap_setCell_at hh x, h1, h2, by simpa using h3, ?_⟩⟩, hF.2⟩, fun j hj => ⟨.inl hj, by have := hlt j hj; simpa [World.setCell] using this⟩, chg_setCell ((hF.2 b).2 rfl) k x⟩
      · rw [List.length_set]; exact ho.1
      · rw [Array.toList_setIfInBounds, List.take_set]
        exact congrArg (fun l => List.set l k x) h4
end Go.Proofs.YthgndegjiodopaaDoor
