/- A cell of a row of one's own is stored to. -/
import Derived.Test.YtidbniigfkocpaaSep
namespace Go.Proofs.Ytidbniigfkocpaa
open Go.RowKit
set_option linter.unusedVariables false
theorem Sep.rowForm {w0 w : World} {e : TypeId} {v : Value} {xs : List Value} {L : List Thing} (h : Sep w0 (Rw e v xs :: L) w) (hp : 0 < xs.length) :
    ∃ b c, v = .slice (some ⟨b, 0, none⟩) xs.length c ∧ xs.length ≤ c ∧ c ≤ maxLen ∧ (∀ k (hk : k < xs.length), w.cell? ⟨b, k, none⟩ = some xs[k]) ∧ (∀ k, w.frozen? ⟨b, k, none⟩ = false) ∧
      ∀ k x, k < xs.length → Sep w0 (Rw e v (xs.set k x) :: L) (w.setCell ⟨b, k, none⟩ x) := by
  have ho := h.rw_
  rcases ho.2 with ⟨_, h0⟩ | ⟨b, c, cur, rfl, hb, hh, h1, h2, h3, h4⟩
  · omega
  · refine ⟨b, c, rfl, h1, h2, fun k hk => ?_, fun k => ?_, fun k x hk => ?_⟩
    · unfold World.cell?
      rw [hh]
      have : cur[k]? = some xs[k] := by
        have h5 : xs[k]? = some xs[k] := List.getElem?_eq_getElem hk
        conv at h5 => lhs; rw [← h4]
        rw [List.getElem?_take, if_pos (by omega)] at h5
        simpa using h5
      simpa using this
    · unfold World.frozen?; rw [hh]; simp
    · refine h.change (loc_rw _ _ _) fun F hF hlt => ⟨F, ⟨⟨w0.heap.size, ?_, .inr ⟨b, c, cur.setIfInBounds k x, by rw [List.length_set], hb, heap_setCell_at hh x, by rw [List.length_set]; exact h1, h2, by simpa using h3, ?_⟩⟩, hF.2⟩, fun j hj => ⟨.inl hj, by have := hlt j hj; simpa [World.setCell] using this⟩, chg_setCell ((hF.2 b).2 rfl) k x⟩
      · simp
      · rw [Array.toList_setIfInBounds, List.length_set]
        have e1 : cur.toList.take (xs.length * 1) = xs := h4
        rw [Nat.mul_one] at e1 ⊢
        conv => rhs; rw [← e1]
        rw [List.take_set]
/-- Bytes, whichever. -/
def Bys (xs : List Value) : Prop := ∀ u ∈ xs, ∃ z : Int, u = .int .u8 z
theorem bys_bv (l : List UInt8) : Bys (bv l) := fun u hu => by obtain ⟨x, _, rfl⟩ := List.mem_map.1 hu; exact ⟨_, rfl⟩
theorem Bys.set {xs : List Value} (h : Bys xs) (k : Nat) (z : Int) : Bys (xs.set k (.int .u8 z)) := fun u hu => by
  rcases List.mem_or_eq_of_mem_set hu with h1 | rfl
  · exact h u h1
  · exact ⟨z, rfl⟩
theorem Bys.get {xs : List Value} (h : Bys xs) (k : Nat) (hk : k < xs.length) : ∃ z : Int, xs[k] = .int .u8 z := h _ (List.getElem_mem hk)
end Go.Proofs.Ytidbniigfkocpaa
