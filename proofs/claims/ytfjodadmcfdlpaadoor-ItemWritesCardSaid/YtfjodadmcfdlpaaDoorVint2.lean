/- Varints, written and read: plain mathematics. -/
import Derived.Test.YtfjodadmcfdlpaaDoorRdr2
namespace Go.Proofs.YtfjodadmcfdlpaaDoor
open Go.RowKit
set_option linter.unusedVariables false

theorem pow7 (i : Nat) : 2 ^ (7 * (i + 1)) = 2 ^ (7 * i) * 128 := by rw [show 7 * (i + 1) = 7 * i + 7 by omega, Nat.pow_add]
theorem pow128 (i : Nat) : 2 ^ (7 * i) = 128 ^ i := by rw [Nat.pow_mul]
theorem ofNat_toNat8 (c : UInt8) : UInt8.ofNat c.toNat = c := by simp

/-- What is read was written. -/
theorem rdF_vint (f i u : Nat) (l l' : List UInt8) (r : Nat) (hf : f + i = 9) (h : rdF (f + 1) i u l = (r, l', 0)) :
    ∃ x, r = u + x * 2 ^ (7 * i) ∧ l = vintF f x ++ l' ∧ (0 < i → x ≠ 0) ∧ x < 2 * 128 ^ f := by
  induction f generalizing i u l with
  | zero =>
    obtain rfl : i = 9 := by omega
    cases l with
    | nil => simp [rdF] at h
    | cons c l =>
      rw [rdF] at h
      split at h
      · simp at h
      rename_i h1
      split at h
      · simp at h
      rename_i h2
      have hc : c.toNat = 1 := by omega
      rw [hc] at h
      simp only [Nat.reduceMod, Nat.reduceLT, if_true, Prod.mk.injEq] at h
      obtain ⟨rfl, rfl, _⟩ := h
      refine ⟨1, rfl, ?_, by simp, by decide⟩
      rw [vintF, ← hc, ofNat_toNat8]; rfl
  | succ f ih =>
    cases l with
    | nil => simp [rdF] at h
    | cons c l =>
      rw [rdF] at h
      split at h
      · simp at h
      rename_i h1
      split at h
      · simp at h
      rename_i h2
      have hc := c.toNat_lt
      have hp : 1 ≤ 128 ^ f := Nat.one_le_pow _ _ (by omega)
      have hps : 128 ^ (f + 1) = 128 ^ f * 128 := Nat.pow_succ ..
      split at h
      · rename_i h3
        simp only [Prod.mk.injEq, and_true] at h
        obtain ⟨rfl, rfl⟩ := h
        refine ⟨c.toNat, by rw [Nat.mod_eq_of_lt h3], ?_, fun hi => by omega, by omega⟩
        rw [vintF, if_pos h3, ofNat_toNat8]; rfl
      · rename_i h3
        obtain ⟨x, hr, hl, hx, hlt⟩ := ih (i + 1) _ l (by omega) h
        have hx0 := hx (by omega)
        refine ⟨c.toNat % 128 + 128 * x, ?_, ?_, by omega, by omega⟩
        · rw [hr, pow7, Nat.add_mul, Nat.add_assoc, ← Nat.mul_assoc]
          congr 2
          rw [Nat.mul_comm x, Nat.mul_right_comm, Nat.mul_comm 128 x, Nat.mul_assoc, Nat.mul_comm (128) _, Nat.mul_comm x]
          simp only [Nat.mul_comm, Nat.mul_left_comm]
        · rw [vintF, if_neg (by omega), show (c.toNat % 128 + 128 * x) % 128 + 128 = c.toNat by omega, show (c.toNat % 128 + 128 * x) / 128 = x by omega, ofNat_toNat8, hl]; rfl

theorem rdV_vint (l l' : List UInt8) (u : Nat) (h : rdV l = (u, l', 0)) : l = vint u ++ l' := by
  obtain ⟨x, hr, hl, _⟩ := rdF_vint 9 0 0 l l' u rfl h
  simp at hr
  subst hr
  exact hl

/-- What is written is read. -/
theorem rdF_back (f i u x : Nat) (l : List UInt8) (hf : f + i = 9) (hx : 0 < i → x ≠ 0) (hlt : x < 2 * 128 ^ f) :
    rdF (f + 1) i u (vintF f x ++ l) = (u + x * 2 ^ (7 * i), l, 0) := by
  induction f generalizing i u x with
  | zero =>
    obtain rfl : i = 9 := by omega
    have := hx (by omega)
    obtain rfl : x = 1 := by simp at hlt; omega
    rfl
  | succ f ih =>
    have hps : 128 ^ (f + 1) = 128 ^ f * 128 := Nat.pow_succ ..
    rw [vintF]
    split
    · rename_i h3
      have e : (UInt8.ofNat x).toNat = x := by rw [UInt8.toNat_ofNat']; omega
      rw [List.singleton_append, rdF, e, if_neg (by omega), if_neg (by omega), if_pos h3, Nat.mod_eq_of_lt h3]
    · rename_i h3
      have e : (UInt8.ofNat (x % 128 + 128)).toNat = x % 128 + 128 := by rw [UInt8.toNat_ofNat']; omega
      rw [List.cons_append, rdF, e, if_neg (by omega), if_neg (by omega), if_neg (by omega), ih (i + 1) _ (x / 128) (by omega) (by omega) (by omega), pow7]
      congr 1
      rw [show (x % 128 + 128) % 128 = x % 128 by omega, Nat.add_assoc]
      congr 1
      have : x = x % 128 + 128 * (x / 128) := by omega
      conv => rhs; rw [this, Nat.add_mul]
      congr 1
      simp only [Nat.mul_comm, Nat.mul_left_comm]
theorem rdV_back (u : Nat) (l : List UInt8) (hu : U64 u) : rdV (vint u ++ l) = (u, l, 0) := by
  have h := rdF_back 9 0 0 u l rfl (by omega) (by unfold U64 at hu; omega)
  rw [rdV, vint, h]; simp
/-- With an error there is nothing. -/
theorem rdF_err (f i u : Nat) (l : List UInt8) (h : (rdF f i u l).2.2 ≠ 0) : (rdF f i u l).1 = 0 ∧ (rdF f i u l).2.1 = [] := by
  induction f generalizing i u l with
  | zero => exact ⟨rfl, rfl⟩
  | succ f ih =>
    cases l with
    | nil => exact ⟨rfl, rfl⟩
    | cons c l =>
      rw [rdF] at h ⊢
      split
      · exact ⟨rfl, rfl⟩
      rename_i h1
      rw [if_neg h1] at h
      split
      · exact ⟨rfl, rfl⟩
      rename_i h2
      rw [if_neg h2] at h
      split
      · rename_i h3; rw [if_pos h3] at h; exact absurd rfl h
      · rename_i h3; rw [if_neg h3] at h; exact ih _ _ _ h
theorem rdV_err (l : List UInt8) (h : (rdV l).2.2 ≠ 0) : (rdV l).1 = 0 ∧ (rdV l).2.1 = [] := rdF_err 10 0 0 l h

theorem beVal_append (a : List UInt8) : ∀ b : List UInt8, beVal (a ++ b) = beVal a * 256 ^ b.length + beVal b := by
  have h : ∀ (n : Nat) (b : List UInt8), b.length = n → beVal (a ++ b) = beVal a * 256 ^ b.length + beVal b := by
    intro n
    induction n with
    | zero => intro b hb; rw [List.eq_nil_of_length_eq_zero hb]; simp [beVal]
    | succ n ih =>
      intro b hb
      have hne : b ≠ [] := by intro e; simp [e] at hb
      have h1 := ih b.dropLast (by simp [hb])
      rw [← List.dropLast_concat_getLast hne, ← List.append_assoc, beVal_snoc, h1, beVal_snoc, List.length_append, List.length_singleton, Nat.pow_succ]
      simp only [Nat.add_mul, Nat.mul_assoc, Nat.add_assoc]
  exact fun b => h _ b rfl
end Go.Proofs.YtfjodadmcfdlpaaDoor
