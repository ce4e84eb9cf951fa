/- Numbers as bits: plain arithmetic; no program is spoken of. -/
import Derived.Laws.Bits64b
import Derived.Laws.ShiftsVarLaws
import Derived.Laws.BitsLemmas
import Derived.Laws.DeepNot64
import Derived.IntWalk
namespace Go.Proofs.YtcnbmeiielkigaaDoor
open Go.RowKit

def U64 (u : Nat) : Prop := u < 18446744073709551616
def I64 (n : Int) : Prop := -9223372036854775808 ≤ n ∧ n < 9223372036854775808

def zig (n : Int) : Nat := if 0 ≤ n then 2 * n.toNat else 2 * (-n - 1).toNat + 1
def zag (u : Nat) : Int := if u % 2 = 0 then ((u / 2 : Nat) : Int) else -((u / 2 : Nat) : Int) - 1

theorem zig_u64 {n : Int} (h : I64 n) : U64 (zig n) := by unfold I64 at h; unfold U64 zig; split <;> omega
theorem zag_i64 {u : Nat} (h : U64 u) : I64 (zag u) := by unfold U64 at h; unfold I64 zag; split <;> omega
theorem zag_zig {n : Int} : zag (zig n) = n := by unfold zag zig; split <;> split <;> omega
theorem zig_zag {u : Nat} : zig (zag u) = u := by unfold zag zig; split <;> split <;> omega

theorem ones_xor (a : Nat) (h : a < 18446744073709551616) : a ^^^ 18446744073709551615 = 18446744073709551615 - a := by
  have h1 : (BitVec.ofNat 64 a ^^^ BitVec.allOnes 64).toNat = (~~~(BitVec.ofNat 64 a)).toNat := by rw [BitVec.xor_allOnes]
  rw [BitVec.toNat_xor, BitVec.toNat_not, BitVec.toNat_allOnes, BitVec.toNat_ofNat, Nat.mod_eq_of_lt (by omega)] at h1
  simpa using h1

theorem zig_eq {n : Int} (h : I64 n) : bits BinOp.xor IntKind.u64 (IntKind.u64.wrap (IntKind.u64.wrap n * 2)) (IntKind.u64.wrap (n / 9223372036854775808)) = (zig n : Nat) := by
  unfold I64 at h
  rw [IntKind.wrap_u64, IntKind.wrap_u64, IntKind.wrap_u64]
  unfold zig
  split
  · rename_i h0
    have e1 : n % 18446744073709551616 * 2 % 18446744073709551616 = ((2 * n.toNat : Nat) : Int) := by omega
    have e2 : n / 9223372036854775808 % 18446744073709551616 = ((0 : Nat) : Int) := by omega
    rw [e1, e2, bits_xor_u64_nat _ _ (by omega) (by omega), Nat.xor_zero]
  · rename_i h0
    have e1 : n % 18446744073709551616 * 2 % 18446744073709551616 = ((18446744073709551616 - 2 * (-n).toNat : Nat) : Int) := by omega
    have e2 : n / 9223372036854775808 % 18446744073709551616 = ((18446744073709551615 : Nat) : Int) := by omega
    rw [e1, e2, bits_xor_u64_nat _ _ (by omega) (by omega), ones_xor _ (by omega)]
    omega

theorem and_one (u : Nat) (h : U64 u) : bits BinOp.and IntKind.u64 (u : Int) 1 = ((u % 2 : Nat) : Int) := by
  have := bits_and_u64_nat u 1 h (by omega)
  rw [Nat.and_one_is_mod] at this
  exact this

theorem i64_minus_one (a : Nat) (ha : a < 9223372036854775808) : bits .xor .i64 (a : Int) (-1) = -1 - (a : Int) := by
  rw [← i64_not a ha]
  show IntKind.i64.wrap ((BitVec.ofInt 64 (a : Int) ^^^ BitVec.ofInt 64 (-1)).toNat : Int) = IntKind.i64.wrap ((BitVec.ofInt 64 (-1) ^^^ BitVec.ofInt 64 (a : Int)).toNat : Int)
  rw [BitVec.xor_comm]
theorem i64_zero (a : Nat) (ha : a < 9223372036854775808) : bits .xor .i64 (a : Int) 0 = (a : Int) := by
  show IntKind.i64.wrap ((BitVec.ofInt 64 (a : Int) ^^^ BitVec.ofInt 64 0).toNat : Int) = _
  have h1 : BitVec.ofInt 64 0 = 0#64 := by decide
  rw [h1, BitVec.xor_zero, BitVec.ofInt_natCast, BitVec.toNat_ofNat, Nat.mod_eq_of_lt (by omega), IntKind.wrap_i64]
  omega

theorem zag_eq {u : Nat} (h : U64 u) : bits BinOp.xor IntKind.i64 (wrap64 (u / 2)) (wrap64 (-wrap64 (bits BinOp.and IntKind.u64 (u : Int) 1))) = zag u := by
  rw [and_one u h]
  unfold U64 at h
  have e1 : wrap64 ((u : Int) / 2) = ((u / 2 : Nat) : Int) := by unfold wrap64; omega
  have e2 : wrap64 ((u % 2 : Nat) : Int) = ((u % 2 : Nat) : Int) := by unfold wrap64; omega
  rw [e1, e2]
  have e3 : wrap64 (-((u % 2 : Nat) : Int)) = (-((u % 2 : Nat) : Int)) := by unfold wrap64; omega
  rw [e3]
  unfold zag
  split
  · rename_i h0
    rw [h0]
    exact i64_zero _ (by omega)
  · rename_i h0
    rw [show u % 2 = 1 by omega]
    have := i64_minus_one (u / 2) (by omega)
    rw [show (-((1 : Nat) : Int)) = -1 from rfl, this]; omega

/-- A rotation: by k bits to the left, of 64. -/
def rotl (n r : Nat) : Nat := (n * 2 ^ r) % 2 ^ 64 ||| n / 2 ^ (64 - r)
def rot (n : Nat) (k : Int) : Nat := rotl n (k % 64).toNat
theorem rotl_u64 (n r : Nat) (h : U64 n) : U64 (rotl n r) := by
  unfold U64 rotl at *
  have h1 : n * 2 ^ r % 2 ^ 64 < 2 ^ 64 := Nat.mod_lt _ (by decide)
  have h2 : n / 2 ^ (64 - r) < 2 ^ 64 := Nat.lt_of_le_of_lt (Nat.div_le_self _ _) (by omega)
  have := Nat.or_lt_two_pow h1 h2
  omega
theorem rot_amount (k : Int) (_h : I64 k) : (IntKind.u64.wrap k).tmod 64 = ((k % 64).toNat : Nat) := by
  rw [IntKind.wrap_u64, Int.tmod_eq_emod_of_nonneg (by omega)]
  omega
theorem rot_eq (n r : Nat) (h : U64 n) : bits BinOp.or IntKind.u64 (IntKind.u64.wrap ((n : Int) * 2 ^ r)) ((n : Int) / 2 ^ (64 - r)) = (rotl n r : Nat) := by
  have h2 : n / 2 ^ (64 - r) < 2 ^ 64 := Nat.lt_of_le_of_lt (Nat.div_le_self _ _) (by unfold U64 at h; omega)
  have e1 : IntKind.u64.wrap ((n : Int) * 2 ^ r) = ((n * 2 ^ r % 2 ^ 64 : Nat) : Int) := by
    rw [IntKind.wrap_u64]; simp
  have e2 : ((n : Int) / 2 ^ (64 - r)) = ((n / 2 ^ (64 - r) : Nat) : Int) := by simp
  rw [e1, e2, bits_or_u64_nat _ _ (by have := Nat.mod_lt (n * 2 ^ r) (show 0 < 2 ^ 64 by decide); omega) (by omega)]
  rfl

/-- The lowest bits in reverse order. -/
def revF : Nat → Nat → Nat → Nat
  | 0, t, _ => t
  | c + 1, t, n => revF c (t * 2 % 2 ^ 64 ||| n % 2) (n / 2)
def rev (n : Nat) (k : Int) : Nat := revF (min (max k 0) 64).toNat 0 n
theorem revF_u64 (c t n : Nat) (h : U64 t) : U64 (revF c t n) := by
  induction c generalizing t n with
  | zero => exact h
  | succ c ih =>
    apply ih
    have h1 : t * 2 % 2 ^ 64 < 2 ^ 64 := Nat.mod_lt _ (by decide)
    have h2 : n % 2 < 2 ^ 64 := by omega
    have := Nat.or_lt_two_pow h1 h2
    unfold U64; omega
theorem rev_u64 (n : Nat) (k : Int) : U64 (rev n k) := revF_u64 _ _ _ (by unfold U64; omega)
theorem rev_step (t n : Nat) (hn : U64 n) : bits BinOp.or IntKind.u64 (IntKind.u64.wrap ((t : Int) * 2)) (bits BinOp.and IntKind.u64 (n : Int) 1) = ((t * 2 % 2 ^ 64 ||| n % 2 : Nat) : Int) := by
  rw [and_one n hn]
  have e1 : IntKind.u64.wrap ((t : Int) * 2) = ((t * 2 % 2 ^ 64 : Nat) : Int) := by rw [IntKind.wrap_u64]; simp
  rw [e1, bits_or_u64_nat _ _ (by have := Nat.mod_lt (t * 2) (show 0 < 2 ^ 64 by decide); omega) (by omega)]
end Go.Proofs.YtcnbmeiielkigaaDoor
