/- Texts turned into bytes. -/
import Derived.Test.YtfjodadmcfdlpaaDoorSep
import Derived.Lib.ConvBytes
namespace Go.Proofs.YtfjodadmcfdlpaaDoor
open Go.RowKit
set_option linter.unusedVariables false
theorem conv_str (w : World) (s : ByteArray) (hs : s.size ≤ maxLen) : ∃ (b c : Nat) (w' : World), (convert 9 28 (.string s)).run Tryd.prog w = .ok (.slice (some ⟨b, 0, none⟩) s.size c) w' ∧ Below w.heap.size w w' ∧ Sl w' (.slice (some ⟨b, 0, none⟩) s.size c) (bv s.data.toList) := by
  have hsz : s.data.toList.length = s.size := rfl
  refine ⟨_, _, _, Lib.run_convert_string_bytes (P := Tryd.prog) w _ _ 5 s Tryd.underlying9 Tryd.underlying28 Tryd.underlying5, ⟨rfl, rfl, rfl, ?_, fun k hk => Lib.bytesWorld_at_old w _ s k hk⟩, .inl (.inr ⟨_, 0, _, by rw [bv_length, hsz], ?_, grownCap_le_maxLen _ _ _ _ hs, ?_, fun j u hj => ?_⟩)⟩
  · rw [Lib.bytesWorld_size]; omega
  · rw [bv_length, hsz]; exact grownCap_ge _ _ _ _
  · rw [Lib.bytesWorld_size]; omega
  · have hj2 : j < s.size := by
      rcases Nat.lt_or_ge j s.size with h | h
      · exact h
      · rw [List.getElem?_eq_none (by rw [bv_length, hsz]; exact h)] at hj; cases hj
    rw [Nat.zero_add, Lib.bytesWorld_cell w _ s j hj2, ← hj, bv_get _ j (by rw [hsz]; exact hj2)]
    simp [List.getD, hj2]
end Go.Proofs.YtfjodadmcfdlpaaDoor
