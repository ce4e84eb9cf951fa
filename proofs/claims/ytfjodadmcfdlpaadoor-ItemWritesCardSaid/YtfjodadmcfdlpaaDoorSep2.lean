/- More of things beside each other. -/
import Derived.Test.YtfjodadmcfdlpaaDoorSep
namespace Go.Proofs.YtfjodadmcfdlpaaDoor
open Go.RowKit
set_option linter.unusedVariables false
theorem Beside.sw8 {b : Nat} {w : World} {G : Nat → Prop} {A B C D E X Y Z : Thing} {L : List Thing} (h : Beside b (A :: B :: C :: D :: E :: X :: Y :: Z :: L) w G) : Beside b (Z :: A :: B :: C :: D :: E :: X :: Y :: L) w G := (h.under fun _ h => h.sw7).swap
theorem Sep.sw8 {w0 w : World} {A B C D E X Y Z : Thing} {L : List Thing} (h : Sep w0 (A :: B :: C :: D :: E :: X :: Y :: Z :: L) w) : Sep w0 (Z :: A :: B :: C :: D :: E :: X :: Y :: L) w :=
  ⟨h.low, fun V hV => h.loc V (by simp at hV ⊢; rcases hV with h | h | h | h | h | h | h | h | h <;> simp [h]), h.all.sw8⟩
theorem Beside.sw9 {b : Nat} {w : World} {G : Nat → Prop} {A B C D E X Y Z T : Thing} {L : List Thing} (h : Beside b (A :: B :: C :: D :: E :: X :: Y :: Z :: T :: L) w G) : Beside b (T :: A :: B :: C :: D :: E :: X :: Y :: Z :: L) w G := (h.under fun _ h => h.sw8).swap
theorem Sep.sw9 {w0 w : World} {A B C D E X Y Z T : Thing} {L : List Thing} (h : Sep w0 (A :: B :: C :: D :: E :: X :: Y :: Z :: T :: L) w) : Sep w0 (T :: A :: B :: C :: D :: E :: X :: Y :: Z :: L) w :=
  ⟨h.low, fun V hV => h.loc V (by simp at hV ⊢; rcases hV with h | h | h | h | h | h | h | h | h | h <;> simp [h]), h.all.sw9⟩
/-- The least of a length and a number, as the walk reckons it. -/
theorem min_len (n k : Nat) : ∃ m : Nat, m ≤ n ∧ m ≤ k ∧ (if (k : Int) < (n : Int) then (k : Int) else (n : Int)) = (m : Int) ∧ (m = n ∨ m = k) := by
  by_cases h : k < n
  · exact ⟨k, by omega, by omega, by rw [if_pos (by omega)], .inr rfl⟩
  · exact ⟨n, by omega, by omega, by rw [if_neg (by omega)], .inl rfl⟩
end Go.Proofs.YtfjodadmcfdlpaaDoor
