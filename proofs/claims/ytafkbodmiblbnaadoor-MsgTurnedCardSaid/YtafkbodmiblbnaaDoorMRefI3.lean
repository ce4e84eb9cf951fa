/- The document's own item: Check. -/
import Derived.Test.YtafkbodmiblbnaaDoorMZ06
import Derived.Test.YtafkbodmiblbnaaDoorMItem5
namespace Go.Proofs.YtafkbodmiblbnaaDoor
open Go.RowKit
set_option linter.unusedVariables false
set_option linter.unusedSimpArgs false
/-- What a kind is, said by tests. -/
structure KindIs (k : Int) (wi sk od ad nu re : Bool) : Prop where
  wi : wthB k 1 9 = wi
  sk : skuK k = sk
  od : ordK k = od
  ad : (k == 2) = ad
  nu : numK k = nu
  re : (k == 3) = re
theorem kind_is (k : Int) : (fieldsOf k = 5 ∧ KindIs k true true false false true false) ∨ (fieldsOf k = 9 ∧ KindIs k true true false true true false) ∨ (fieldsOf k = 22 ∧ KindIs k true false true false true true) ∨
    (fieldsOf k = 2 ∧ KindIs k true false true false false false) ∨ (fieldsOf k = 4 ∧ KindIs k true false false false true false) ∨ (fieldsOf k = 1 ∧ KindIs k true true false false false false) ∨ (fieldsOf k = 0 ∧ KindIs k false false false false false false) := by
  by_cases h : 1 ≤ k ∧ k ≤ 9
  · rcases (show k = 1 ∨ k = 2 ∨ k = 3 ∨ k = 4 ∨ k = 5 ∨ k = 6 ∨ k = 7 ∨ k = 8 ∨ k = 9 by omega) with rfl | rfl | rfl | rfl | rfl | rfl | rfl | rfl | rfl
    · exact .inl ⟨by decide, ⟨rfl, rfl, rfl, rfl, rfl, rfl⟩⟩
    · exact .inr (.inl ⟨by decide, ⟨rfl, rfl, rfl, rfl, rfl, rfl⟩⟩)
    · exact .inr (.inr (.inl ⟨by decide, ⟨rfl, rfl, rfl, rfl, rfl, rfl⟩⟩))
    · exact .inr (.inr (.inr (.inl ⟨by decide, ⟨rfl, rfl, rfl, rfl, rfl, rfl⟩⟩)))
    · exact .inr (.inr (.inr (.inl ⟨by decide, ⟨rfl, rfl, rfl, rfl, rfl, rfl⟩⟩)))
    · exact .inr (.inr (.inr (.inl ⟨by decide, ⟨rfl, rfl, rfl, rfl, rfl, rfl⟩⟩)))
    · exact .inr (.inr (.inr (.inr (.inl ⟨by decide, ⟨rfl, rfl, rfl, rfl, rfl, rfl⟩⟩))))
    · exact .inr (.inr (.inr (.inr (.inr (.inl ⟨by decide, ⟨rfl, rfl, rfl, rfl, rfl, rfl⟩⟩)))))
    · exact .inr (.inr (.inr (.inl ⟨by decide, ⟨rfl, rfl, rfl, rfl, rfl, rfl⟩⟩)))
  · have hf : fieldsOf k = 0 := by
      rcases Classical.em (fieldsOf k = 0) with h0 | h0
      · exact h0
      · exact absurd (fields_ne h0) h
    refine .inr (.inr (.inr (.inr (.inr (.inr ⟨hf, ⟨?_, ?_, ?_, ?_, ?_, ?_⟩⟩)))))
    · unfold wthB; rw [Bool.and_eq_false_iff]; simp only [decide_eq_false_iff_not]; omega
    · unfold skuK; simp only [Bool.or_eq_false_iff, beq_eq_false_iff_ne]; omega
    · unfold ordK; simp only [Bool.or_eq_false_iff, beq_eq_false_iff_ne, Bool.and_eq_false_iff, decide_eq_false_iff_not]; omega
    · rw [beq_eq_false_iff_ne]; omega
    · unfold numK; simp only [Bool.or_eq_false_iff, beq_eq_false_iff_ne, Bool.and_eq_false_iff, decide_eq_false_iff_not]; omega
    · rw [beq_eq_false_iff_ne]; omega
theorem chgB_eq (n : Int) : chgB n = (wthB n (-2147483647) 2147483647 && (n != 0)) := by
  unfold chgB wthB
  by_cases h : n = 0
  · subst h; rfl
  · rw [show decide (n ≠ 0) = true from decide_eq_true h, show (n != 0) = true by rw [bne_iff_ne]; exact h]; simp
end Go.Proofs.YtafkbodmiblbnaaDoor
