/- Rotations and reversals, bit by bit: plain mathematics. -/
import Derived.Test.YtfjodadmcfdlpaaDoorBitsMath
namespace Go.Proofs.YtfjodadmcfdlpaaDoor
open Go.RowKit

theorem u64_bit {n : Nat} (h : U64 n) {j : Nat} (hj : 64 ≤ j) : n.testBit j = false := by
  apply Nat.testBit_lt_two_pow
  have : 2 ^ 64 ≤ 2 ^ j := Nat.pow_le_pow_right (by omega) hj
  unfold U64 at h; omega
theorem eq_of_bits {a b : Nat} (ha : U64 a) (hb : U64 b) (h : ∀ j, j < 64 → a.testBit j = b.testBit j) : a = b := by
  apply Nat.eq_of_testBit_eq
  intro j
  by_cases hj : j < 64
  · exact h j hj
  · rw [u64_bit ha (by omega), u64_bit hb (by omega)]
theorem rotl_bit (n r j : Nat) (hj : j < 64) : (rotl n r).testBit j = (decide (r ≤ j) && n.testBit (j - r) || n.testBit (j + (64 - r))) := by
  unfold rotl
  rw [Nat.testBit_or, Nat.testBit_mod_two_pow, Nat.testBit_mul_two_pow, Nat.testBit_div_two_pow]
  simp [hj]
theorem rotl_at (n r i : Nat) (hn : U64 n) (hr : r < 64) (hi : i < 64) : (rotl n r).testBit ((i + r) % 64) = n.testBit i := by
  rw [rotl_bit n r _ (Nat.mod_lt _ (by omega))]
  by_cases h : i + r < 64
  · rw [Nat.mod_eq_of_lt h]
    simp only [show r ≤ i + r by omega, decide_true, Bool.true_and, Nat.add_sub_cancel]
    rw [u64_bit hn (show 64 ≤ i + r + (64 - r) by omega), Bool.or_false]
  · rw [show (i + r) % 64 = i + r - 64 by omega]
    simp only [show ¬ r ≤ i + r - 64 by omega, decide_false, Bool.false_and, Bool.false_or]
    congr 1; omega
theorem rot_back (n : Nat) (k : Int) (hn : U64 n) : rot (rot n k) (-k) = n := by
  unfold rot
  obtain ⟨r, hr, e⟩ : ∃ r : Nat, r < 64 ∧ (k % 64).toNat = r := ⟨_, by omega, rfl⟩
  have e2 : ((-k) % 64).toNat = (64 - r) % 64 := by omega
  rw [e, e2]
  apply eq_of_bits (rotl_u64 _ _ (rotl_u64 _ _ hn)) hn
  intro j hj
  have h1 := rotl_at (rotl n r) ((64 - r) % 64) ((j + r) % 64) (rotl_u64 _ _ hn) (by omega) (by omega)
  rw [show ((j + r) % 64 + (64 - r) % 64) % 64 = j by omega] at h1
  rw [h1, rotl_at n r j hn hr hj]
theorem rot_64 (n : Nat) (hn : U64 n) : rot n 64 = n := by
  unfold rot rotl
  unfold U64 at hn
  simp
  rw [Nat.mod_eq_of_lt hn, Nat.div_eq_of_lt hn, Nat.or_zero]
theorem revF_bit (c t n i : Nat) (hc : c ≤ 64) (ht : t < 2 ^ (64 - c)) : (revF c t n).testBit i = if i < c then n.testBit (c - 1 - i) else t.testBit (i - c) := by
  induction c generalizing t n with
  | zero => simp [revF]
  | succ c ih =>
    have hp : 2 ^ (64 - c) = 2 ^ (64 - (c + 1)) * 2 := by rw [← Nat.pow_succ]; congr 1; omega
    have hlt : t * 2 ≤ 2 ^ 64 - 2 := by
      have : 2 ^ (64 - (c + 1)) ≤ 2 ^ 63 := Nat.pow_le_pow_right (by omega) (by omega)
      omega
    have e : t * 2 % 2 ^ 64 ||| n % 2 = t * 2 + n % 2 := by
      rw [Nat.mod_eq_of_lt (by omega), Nat.mul_comm]
      exact (Nat.two_pow_add_eq_or_of_lt (i := 1) (b := n % 2) (by omega) t).symm
    rw [revF, e, ih _ _ (by omega) (by omega)]
    by_cases h1 : i < c
    · rw [if_pos h1, if_pos (by omega), Nat.testBit_div_two]
      congr 1; omega
    · rw [if_neg h1]
      by_cases h2 : i = c
      · subst h2
        rw [if_pos (by omega), Nat.sub_self, show i + 1 - 1 - i = 0 by omega]
        simp only [Nat.testBit_zero]
        congr 2; omega
      · rw [if_neg (by omega), show i - c = (i - (c + 1)) + 1 by omega, Nat.testBit_succ]
        congr 1; omega
theorem rev_bit (n w i : Nat) (hw : w ≤ 64) : (rev n w).testBit i = (decide (i < w) && n.testBit (w - 1 - i)) := by
  unfold rev
  rw [show (min (max (w : Int) 0) 64).toNat = w by omega, revF_bit w 0 n i hw (Nat.pow_pos (by decide))]
  by_cases h : i < w
  · rw [if_pos h]; simp [h]
  · rw [if_neg h]; simp [h]
theorem rev_rev (n : Nat) (hn : U64 n) : rev (rev n 64) 64 = n := by
  apply eq_of_bits (rev_u64 _ _) hn
  intro j hj
  have h1 := rev_bit (rev n 64) 64 j (by omega)
  have h2 := rev_bit n 64 (63 - j) (by omega)
  simp only [show j < 64 from hj, show 63 - j < 64 by omega, decide_true, Bool.true_and] at h1 h2
  rw [show ((64 : Nat) : Int) = 64 from rfl] at h1 h2
  rw [h1, show 64 - 1 - j = 63 - j by omega, h2]
  congr 1; omega
/-- Bit i of a number, as the program asks for it. -/
theorem bit_at (n i : Nat) (hn : U64 n) : bits BinOp.and IntKind.u64 ((n : Int) / 2 ^ i) 1 = ((n.testBit i).toNat : Int) := by
  have e : ((n : Int) / 2 ^ i) = ((n / 2 ^ i : Nat) : Int) := by simp
  have h64 : U64 (n / 2 ^ i) := Nat.lt_of_le_of_lt (Nat.div_le_self _ _) hn
  rw [e, and_one _ h64, Nat.testBit_eq_decide_div_mod_eq]
  have : n / 2 ^ i % 2 = 0 ∨ n / 2 ^ i % 2 = 1 := by omega
  rcases this with h | h <;> simp [h]
end Go.Proofs.YtfjodadmcfdlpaaDoor
