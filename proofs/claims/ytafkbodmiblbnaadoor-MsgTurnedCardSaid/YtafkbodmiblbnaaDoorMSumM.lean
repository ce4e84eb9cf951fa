/- Package sum: bits that are turned within 32 in a row are told (pure). -/
import Derived.Test.YtafkbodmiblbnaaDoorMSum3
namespace Go.Proofs.YtafkbodmiblbnaaDoor
open Go Go.RowKit
set_option linter.unusedVariables false
set_option linter.unusedSimpArgs false
theorem crcB_xor (x y : Nat) : crcB (x ^^^ y) = crcB x ^^^ crcB y := by
  unfold crcB
  have hm : (x ^^^ y) % 2 = (x + y) % 2 := by
    have h1 := Nat.testBit_xor x y 0
    simp only [Nat.testBit_zero] at h1
    rcases Nat.mod_two_eq_zero_or_one x with hx | hx <;> rcases Nat.mod_two_eq_zero_or_one y with hy | hy <;> rcases Nat.mod_two_eq_zero_or_one (x ^^^ y) with hz | hz <;> simp [hx, hy, hz] at h1 <;> omega
  rw [Nat.xor_div_two, hm]
  rcases Nat.mod_two_eq_zero_or_one x with hx | hx <;> rcases Nat.mod_two_eq_zero_or_one y with hy | hy
  · rw [show (x + y) % 2 = 0 by omega, hx, hy]; simp
  · rw [show (x + y) % 2 = 1 by omega, hx, hy]; simp only [Nat.zero_mul, Nat.one_mul, Nat.xor_zero]; ac_rfl
  · rw [show (x + y) % 2 = 1 by omega, hx, hy]; simp only [Nat.zero_mul, Nat.one_mul, Nat.xor_zero]; ac_rfl
  · rw [show (x + y) % 2 = 0 by omega, hx, hy]; simp only [Nat.zero_mul, Nat.one_mul, Nat.xor_zero]
    rw [show (x / 2 ^^^ 3988292384) ^^^ (y / 2 ^^^ 3988292384) = (x / 2 ^^^ y / 2) ^^^ (3988292384 ^^^ 3988292384) by ac_rfl, Nat.xor_self, Nat.xor_zero]
theorem crcN_xor : ∀ (k x y : Nat), crcN k (x ^^^ y) = crcN k x ^^^ crcN k y
  | 0, x, y => rfl
  | k + 1, x, y => by
    show crcN k (crcB (x ^^^ y)) = crcN k (crcB x) ^^^ crcN k (crcB y)
    rw [crcB_xor, crcN_xor k]
theorem crcB_two (z : Nat) : crcB (2 * z) = z := by
  unfold crcB
  rw [show 2 * z / 2 = z by omega, show 2 * z % 2 = 0 by omega, Nat.zero_mul, Nat.xor_zero]
theorem crcN_pow : ∀ (k z : Nat), crcN k (2 ^ k * z) = z
  | 0, z => by show 2 ^ 0 * z = z; omega
  | k + 1, z => by
    show crcN k (crcB (2 ^ (k + 1) * z)) = z
    rw [show 2 ^ (k + 1) * z = 2 * (2 ^ k * z) by rw [Nat.pow_succ]; ac_rfl, crcB_two, crcN_pow k]
theorem crcB_zero {x : Nat} (hx : x < 4294967296) (h : crcB x = 0) : x = 0 := by
  unfold crcB at h
  have h1 : x / 2 = x % 2 * 3988292384 := by
    have h2 : (x / 2 ^^^ x % 2 * 3988292384) ^^^ (x % 2 * 3988292384) = 0 ^^^ (x % 2 * 3988292384) := by rw [h]
    rw [Nat.xor_assoc, Nat.xor_self, Nat.xor_zero, Nat.zero_xor] at h2
    exact h2
  rcases Nat.mod_two_eq_zero_or_one x with h3 | h3
  · omega
  · rw [h3] at h1; omega
theorem crcN_null : ∀ (k x : Nat), x < 4294967296 → crcN k x = 0 → x = 0
  | 0, x, _, h => h
  | k + 1, x, hx, h => crcB_zero hx (crcN_null k (crcB x) (crcB_lt x hx) h)
theorem crcN_add : ∀ (a b x : Nat), crcN (a + b) x = crcN b (crcN a x)
  | 0, b, x => by rw [Nat.zero_add]; rfl
  | a + 1, b, x => by
    rw [show a + 1 + b = (a + b) + 1 by omega]
    show crcN (a + b) (crcB x) = crcN b (crcN a (crcB x))
    exact crcN_add a b _
/-- The number that bytes are, the least first. -/
def leN : List UInt8 → Nat
  | [] => 0
  | b :: l => b.toNat + 256 * leN l
theorem leN_lt : ∀ l : List UInt8, leN l < 256 ^ l.length
  | [] => by show 0 < 256 ^ 0; decide
  | b :: l => by
    have h1 := leN_lt l
    have h2 := b.toNat_lt
    show b.toNat + 256 * leN l < 256 ^ (l.length + 1)
    rw [Nat.pow_succ]
    omega
theorem xor_add256 (b z : Nat) (hb : b < 256) : b ^^^ 256 * z = b + 256 * z := by
  rw [Nat.xor_comm, show 256 * z = 2 ^ 8 * z by rfl]
  apply Nat.eq_of_testBit_eq
  intro i
  rw [Nat.testBit_xor, Nat.testBit_two_pow_mul, Nat.add_comm b, Nat.testBit_two_pow_mul_add _ hb]
  by_cases hi : i < 8
  · simp [hi, Nat.not_le.2 hi]
  · have h8 : 8 ≤ i := by omega
    have : b.testBit i = false := Nat.testBit_lt_two_pow (Nat.lt_of_lt_of_le hb (Nat.pow_le_pow_right (n := 2) (by decide) h8))
    simp [hi, h8, this]
theorem fold_leN : ∀ (l : List UInt8) (R : Nat), l.foldl crcS R = crcN (8 * l.length) (R ^^^ leN l)
  | [], R => by show R = R ^^^ 0; rw [Nat.xor_zero]
  | b :: l, R => by
    show l.foldl crcS (crcS R b) = _
    rw [fold_leN l]
    show crcN (8 * l.length) (crcN 8 (R ^^^ b.toNat) ^^^ leN l) = crcN (8 * (l.length + 1)) (R ^^^ (b.toNat + 256 * leN l))
    rw [← xor_add256 _ _ b.toNat_lt, ← Nat.xor_assoc, show 8 * (l.length + 1) = 8 + 8 * l.length by omega, crcN_add, crcN_xor 8 _ (256 * leN l), show 256 * leN l = 2 ^ 8 * leN l by rfl, crcN_pow]
theorem ones_sub (a : Nat) (ha : a < 4294967296) : 4294967295 - a = a ^^^ 4294967295 := by
  have h1 : (4294967295 : Nat) = 2 ^ 32 - 1 := rfl
  apply Nat.eq_of_testBit_eq
  intro i
  rw [show 4294967295 - a = 2 ^ 32 - (a + 1) by omega, Nat.testBit_two_pow_sub_succ ha, Nat.testBit_xor, h1, Nat.testBit_two_pow_sub_one]
  by_cases hi : i < 32
  · simp [hi]
  · have : a.testBit i = false := Nat.testBit_lt_two_pow (Nat.lt_of_lt_of_le ha (Nat.pow_le_pow_right (n := 2) (by decide) (show 32 ≤ i by omega)))
    simp [hi, this]
theorem leN_app : ∀ (a b : List UInt8), leN (a ++ b) = leN a + 256 ^ a.length * leN b
  | [], b => by simp [leN]
  | x :: a, b => by
    show x.toNat + 256 * leN (a ++ b) = x.toNat + 256 * leN a + 256 ^ (a.length + 1) * leN b
    rw [leN_app a b, Nat.pow_succ, Nat.mul_add, ← Nat.mul_assoc, Nat.mul_comm 256 (256 ^ a.length), Nat.add_assoc]
theorem leN_tail (l : List UInt8) : leN (tailL l) = crcL l := by
  have hlt : crcL l < 4294967296 := by unfold crcL; omega
  unfold tailL
  simp only [beL, List.reverse_cons, List.reverse_nil, List.nil_append, List.cons_append, leN, UInt8.toNat_ofNat']
  omega
/-- What is sealed well: the register behind all of it. -/
theorem sealed_reg (b : List UInt8) : (b ++ tailL b).foldl crcS 4294967295 = crcN 32 4294967295 := by
  rw [List.foldl_append, fold_leN (tailL b), leN_tail]
  have h := crcF_lt b 4294967295 (by decide)
  have h4 : (tailL b).length = 4 := by simp [tailL, beL]
  rw [h4]
  unfold crcL
  rw [ones_sub _ h, ← Nat.xor_assoc, Nat.xor_self, Nat.zero_xor]
/-- Two that are sealed well, as long as each other, whose difference lies within 32 bits, are the same number. -/
theorem sealed_two (a b : List UInt8) (n W : Nat) (hl : (a ++ tailL a).length = (b ++ tailL b).length) (hd : leN (b ++ tailL b) = leN (a ++ tailL a) ^^^ 2 ^ n * W) (hW : W < 4294967296) : W = 0 := by
  have h1 := sealed_reg a
  have h2 := sealed_reg b
  rw [fold_leN] at h1 h2
  rw [← h1, hl, hd, ← Nat.xor_assoc, crcN_xor _ _ (2 ^ n * W)] at h2
  have h3 : crcN (8 * (b ++ tailL b).length) (2 ^ n * W) = 0 := by
    have h4 : (crcN (8 * (b ++ tailL b).length) (4294967295 ^^^ leN (a ++ tailL a)) ^^^ crcN (8 * (b ++ tailL b).length) (2 ^ n * W)) ^^^ crcN (8 * (b ++ tailL b).length) (4294967295 ^^^ leN (a ++ tailL a)) = 0 := by rw [h2, Nat.xor_self]
    rw [Nat.xor_comm (crcN _ (4294967295 ^^^ _)), Nat.xor_assoc, Nat.xor_self, Nat.xor_zero] at h4
    exact h4
  generalize 8 * (b ++ tailL b).length = m at h3
  by_cases hm : n ≤ m
  · obtain ⟨j, rfl⟩ : ∃ j, m = n + j := ⟨m - n, by omega⟩
    rw [crcN_add, crcN_pow] at h3
    exact crcN_null j W hW h3
  · obtain ⟨j, rfl⟩ : ∃ j, n = m + j := ⟨n - m, by omega⟩
    rw [Nat.pow_add, Nat.mul_assoc, crcN_pow] at h3
    rcases Nat.mul_eq_zero.1 h3 with h | h
    · exact absurd h (Nat.ne_of_gt (Nat.pow_pos (by decide)))
    · exact h

/-- One bit turned. -/
def flipK (b : List UInt8) (k : Nat) : List UInt8 := b.set (k / 8) (b.getD (k / 8) 0 ^^^ UInt8.ofNat (2 ^ (k % 8)))
theorem flipK_len (b : List UInt8) (k : Nat) : (flipK b k).length = b.length := by unfold flipK; rw [List.length_set]
theorem mul256_xor (a b : Nat) : 256 * (a ^^^ b) = 256 * a ^^^ 256 * b := by
  apply Nat.eq_of_testBit_eq
  intro i
  rw [show (256 : Nat) = 2 ^ 8 from rfl, Nat.testBit_xor, Nat.testBit_two_pow_mul, Nat.testBit_two_pow_mul, Nat.testBit_two_pow_mul, Nat.testBit_xor]
  by_cases h : 8 ≤ i <;> simp [h]
theorem xor8 (x : UInt8) (j : Nat) (hj : j < 8) : (x ^^^ UInt8.ofNat (2 ^ j)).toNat = x.toNat ^^^ 2 ^ j := by
  rw [UInt8.toNat_xor, UInt8.toNat_ofNat', Nat.mod_eq_of_lt]
  exact Nat.pow_lt_pow_right (by decide) hj
theorem leN_flip : ∀ (b : List UInt8) (k : Nat), k < 8 * b.length → leN (flipK b k) = leN b ^^^ 2 ^ k
  | [], k, h => by simp at h
  | x :: b, k, h => by
    by_cases hk : k < 8
    · have e : flipK (x :: b) k = (x ^^^ UInt8.ofNat (2 ^ k)) :: b := by
        unfold flipK
        rw [show k / 8 = 0 by omega, show k % 8 = k by omega]
        rfl
      rw [e]
      show (x ^^^ UInt8.ofNat (2 ^ k)).toNat + 256 * leN b = (x.toNat + 256 * leN b) ^^^ 2 ^ k
      have h1 : x.toNat ^^^ 2 ^ k < 256 := Nat.xor_lt_two_pow (n := 8) x.toNat_lt (Nat.pow_lt_pow_right (by decide) hk)
      rw [xor8 x k hk, ← xor_add256 _ _ h1, ← xor_add256 _ _ x.toNat_lt]
      ac_rfl
    · obtain ⟨j, rfl⟩ : ∃ j, k = 8 + j := ⟨k - 8, by omega⟩
      have e : flipK (x :: b) (8 + j) = x :: flipK b j := by
        unfold flipK
        rw [show (8 + j) / 8 = j / 8 + 1 by omega, show (8 + j) % 8 = j % 8 by omega]
        rfl
      rw [e]
      show x.toNat + 256 * leN (flipK b j) = (x.toNat + 256 * leN b) ^^^ 2 ^ (8 + j)
      rw [leN_flip b j (by rw [List.length_cons] at h; omega), ← xor_add256 _ _ x.toNat_lt, ← xor_add256 _ _ x.toNat_lt, mul256_xor, Nat.pow_add, show (2 : Nat) ^ 8 = 256 from rfl, Nat.xor_assoc]
/-- The bits that are turned in the first i rounds, from bit n on. -/
def turnW (t n len : Nat) : Nat → Nat
  | 0 => 0
  | i + 1 => if t / 2 ^ i % 2 = 1 ∧ n + i < 8 * len then turnW t n len i ^^^ 2 ^ i else turnW t n len i
def turnL (b : List UInt8) (t n : Nat) : Nat → List UInt8
  | 0 => b
  | i + 1 => if t / 2 ^ i % 2 = 1 ∧ n + i < 8 * b.length then flipK (turnL b t n i) (n + i) else turnL b t n i
theorem turnL_len (b : List UInt8) (t n : Nat) : ∀ i, (turnL b t n i).length = b.length
  | 0 => rfl
  | i + 1 => by
    unfold turnL
    split
    · rw [flipK_len, turnL_len b t n i]
    · exact turnL_len b t n i
theorem turnW_lt (t n len : Nat) : ∀ i, turnW t n len i < 2 ^ i
  | 0 => by show 0 < 2 ^ 0; decide
  | i + 1 => by
    have h := turnW_lt t n len i
    unfold turnW
    split
    · exact Nat.xor_lt_two_pow (Nat.lt_of_lt_of_le h (Nat.pow_le_pow_right (by decide) (by omega))) (Nat.pow_lt_pow_right (by decide) (by omega))
    · exact Nat.lt_of_lt_of_le h (Nat.pow_le_pow_right (by decide) (by omega))
theorem mulpow_xor (n a b : Nat) : 2 ^ n * (a ^^^ b) = 2 ^ n * a ^^^ 2 ^ n * b := by
  apply Nat.eq_of_testBit_eq
  intro i
  rw [Nat.testBit_xor, Nat.testBit_two_pow_mul, Nat.testBit_two_pow_mul, Nat.testBit_two_pow_mul, Nat.testBit_xor]
  by_cases h : n ≤ i <;> simp [h]
theorem leN_turn (b : List UInt8) (t n : Nat) : ∀ i, leN (turnL b t n i) = leN b ^^^ 2 ^ n * turnW t n b.length i
  | 0 => by show leN b = leN b ^^^ 2 ^ n * 0; rw [Nat.mul_zero, Nat.xor_zero]
  | i + 1 => by
    have ih := leN_turn b t n i
    unfold turnL turnW
    by_cases h : t / 2 ^ i % 2 = 1 ∧ n + i < 8 * b.length
    · rw [if_pos h, if_pos h, leN_flip _ _ (by rw [turnL_len]; exact h.2), ih, mulpow_xor, Nat.pow_add, Nat.xor_assoc]
    · rw [if_neg h, if_neg h]; exact ih
/-- Whether some bit was turned. -/
def turnS (t n len : Nat) : Nat → Bool
  | 0 => false
  | i + 1 => if t / 2 ^ i % 2 = 1 ∧ n + i < 8 * len then true else turnS t n len i
theorem turnW_zero (t n len : Nat) : ∀ i, turnS t n len i = false → turnW t n len i = 0
  | 0, _ => rfl
  | i + 1, h => by
    unfold turnS at h
    unfold turnW
    split at h
    · cases h
    · rename_i hc
      rw [if_neg hc]
      exact turnW_zero t n len i h
theorem turnL_same (b : List UInt8) (t n : Nat) : ∀ i, turnS t n b.length i = false → turnL b t n i = b
  | 0, _ => rfl
  | i + 1, h => by
    unfold turnS at h
    unfold turnL
    split at h
    · cases h
    · rename_i hc
      rw [if_neg hc]
      exact turnL_same b t n i h
theorem turnW_some (t n len : Nat) : ∀ i, turnS t n len i = true → turnW t n len i ≠ 0
  | 0, h => by cases h
  | i + 1, h => by
    unfold turnS at h
    unfold turnW
    by_cases hc : t / 2 ^ i % 2 = 1 ∧ n + i < 8 * len
    · rw [if_pos hc]
      intro h0
      have h1 := turnW_lt t n len i
      have h2 : turnW t n len i = 2 ^ i := by
        have h3 : (turnW t n len i ^^^ 2 ^ i) ^^^ 2 ^ i = 0 ^^^ 2 ^ i := by rw [h0]
        rw [Nat.xor_assoc, Nat.xor_self, Nat.xor_zero, Nat.zero_xor] at h3
        exact h3
      omega
    · rw [if_neg hc] at h ⊢
      exact turnW_some t n len i h
/-- What was sealed, and some bits turned within 32 in a row, is sealed no more. -/
theorem turned_bad (b : List UInt8) (t n m : Nat) (hm : (sealL b).length = m + 4) (h : turnS t n (sealL b).length 32 = true) : ¬ tailL ((turnL (sealL b) t n 32).take m) = (turnL (sealL b) t n 32).drop m := by
  intro hc
  have hl : (turnL (sealL b) t n 32).length = m + 4 := by rw [turnL_len]; exact hm
  have e := opened_seal _ m hl hc
  have hd := leN_turn (sealL b) t n 32
  rw [e] at hd
  have h1 := sealed_two b ((turnL (sealL b) t n 32).take m) n (turnW t n (sealL b).length 32) (by
    show (sealL b).length = (sealL ((turnL (sealL b) t n 32).take m)).length
    rw [← e, turnL_len]) hd (turnW_lt t n _ 32)
  exact turnW_some t n _ 32 h h1
end Go.Proofs.YtafkbodmiblbnaaDoor
