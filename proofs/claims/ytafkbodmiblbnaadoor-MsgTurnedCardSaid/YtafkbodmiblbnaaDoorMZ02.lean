/- Numbers as bits: plain arithmetic; no program is spoken of. -/
import Derived.Laws.Bits64b
import Derived.Laws.ShiftsVarLaws
import Derived.Laws.BitsLemmas
import Derived.Laws.DeepNot64
import Derived.IntWalk
import Derived.Deep.QuietTactic
import Derived.BigQuiet
import Derived.Test.YtafkbodmiblbnaaDoorMKit
import Derived.Test.YtafkbodmiblbnaaDoorMZ01
namespace Go.Proofs.YtafkbodmiblbnaaDoor
open Go.RowKit

def U64 (u : Nat) : Prop := u < 18446744073709551616
def I64 (n : Int) : Prop := -9223372036854775808 ≤ n ∧ n < 9223372036854775808

def zig (n : Int) : Nat := if 0 ≤ n then 2 * n.toNat else 2 * (-n - 1).toNat + 1
def zag (u : Nat) : Int := if u % 2 = 0 then ((u / 2 : Nat) : Int) else -((u / 2 : Nat) : Int) - 1

theorem zig_u64 {n : Int} (h : I64 n) : U64 (zig n) := by unfold I64 at h; unfold U64 zig; split <;> omega
theorem zag_i64 {u : Nat} (h : U64 u) : I64 (zag u) := by unfold U64 at h; unfold I64 zag; split <;> omega
theorem zag_zig {n : Int} : zag (zig n) = n := by unfold zag zig; split <;> split <;> omega
theorem zig_zag {u : Nat} : zig (zag u) = u := by unfold zag zig; split <;> split <;> omega

theorem ones_xor (a : Nat) (h : a < 18446744073709551616) : a ^^^ 18446744073709551615 = 18446744073709551615 - a := by
  have h1 : (BitVec.ofNat 64 a ^^^ BitVec.allOnes 64).toNat = (~~~(BitVec.ofNat 64 a)).toNat := by rw [BitVec.xor_allOnes]
  rw [BitVec.toNat_xor, BitVec.toNat_not, BitVec.toNat_allOnes, BitVec.toNat_ofNat, Nat.mod_eq_of_lt (by omega)] at h1
  simpa using h1

theorem zig_eq {n : Int} (h : I64 n) : bits BinOp.xor IntKind.u64 (IntKind.u64.wrap (IntKind.u64.wrap n * 2)) (IntKind.u64.wrap (n / 9223372036854775808)) = (zig n : Nat) := by
  unfold I64 at h
  rw [IntKind.wrap_u64, IntKind.wrap_u64, IntKind.wrap_u64]
  unfold zig
  split
  · rename_i h0
    have e1 : n % 18446744073709551616 * 2 % 18446744073709551616 = ((2 * n.toNat : Nat) : Int) := by omega
    have e2 : n / 9223372036854775808 % 18446744073709551616 = ((0 : Nat) : Int) := by omega
    rw [e1, e2, bits_xor_u64_nat _ _ (by omega) (by omega), Nat.xor_zero]
  · rename_i h0
    have e1 : n % 18446744073709551616 * 2 % 18446744073709551616 = ((18446744073709551616 - 2 * (-n).toNat : Nat) : Int) := by omega
    have e2 : n / 9223372036854775808 % 18446744073709551616 = ((18446744073709551615 : Nat) : Int) := by omega
    rw [e1, e2, bits_xor_u64_nat _ _ (by omega) (by omega), ones_xor _ (by omega)]
    omega

theorem and_one (u : Nat) (h : U64 u) : bits BinOp.and IntKind.u64 (u : Int) 1 = ((u % 2 : Nat) : Int) := by
  have := bits_and_u64_nat u 1 h (by omega)
  rw [Nat.and_one_is_mod] at this
  exact this

theorem i64_minus_one (a : Nat) (ha : a < 9223372036854775808) : bits .xor .i64 (a : Int) (-1) = -1 - (a : Int) := by
  rw [← i64_not a ha]
  show IntKind.i64.wrap ((BitVec.ofInt 64 (a : Int) ^^^ BitVec.ofInt 64 (-1)).toNat : Int) = IntKind.i64.wrap ((BitVec.ofInt 64 (-1) ^^^ BitVec.ofInt 64 (a : Int)).toNat : Int)
  rw [BitVec.xor_comm]
theorem i64_zero (a : Nat) (ha : a < 9223372036854775808) : bits .xor .i64 (a : Int) 0 = (a : Int) := by
  show IntKind.i64.wrap ((BitVec.ofInt 64 (a : Int) ^^^ BitVec.ofInt 64 0).toNat : Int) = _
  have h1 : BitVec.ofInt 64 0 = 0#64 := by decide
  rw [h1, BitVec.xor_zero, BitVec.ofInt_natCast, BitVec.toNat_ofNat, Nat.mod_eq_of_lt (by omega), IntKind.wrap_i64]
  omega

theorem zag_eq {u : Nat} (h : U64 u) : bits BinOp.xor IntKind.i64 (wrap64 (u / 2)) (wrap64 (-wrap64 (bits BinOp.and IntKind.u64 (u : Int) 1))) = zag u := by
  rw [and_one u h]
  unfold U64 at h
  have e1 : wrap64 ((u : Int) / 2) = ((u / 2 : Nat) : Int) := by unfold wrap64; omega
  have e2 : wrap64 ((u % 2 : Nat) : Int) = ((u % 2 : Nat) : Int) := by unfold wrap64; omega
  rw [e1, e2]
  have e3 : wrap64 (-((u % 2 : Nat) : Int)) = (-((u % 2 : Nat) : Int)) := by unfold wrap64; omega
  rw [e3]
  unfold zag
  split
  · rename_i h0
    rw [h0]
    exact i64_zero _ (by omega)
  · rename_i h0
    rw [show u % 2 = 1 by omega]
    have := i64_minus_one (u / 2) (by omega)
    rw [show (-((1 : Nat) : Int)) = -1 from rfl, this]; omega

/-- A rotation: by k bits to the left, of 64. -/
def rotl (n r : Nat) : Nat := (n * 2 ^ r) % 2 ^ 64 ||| n / 2 ^ (64 - r)
def rot (n : Nat) (k : Int) : Nat := rotl n (k % 64).toNat
theorem rotl_u64 (n r : Nat) (h : U64 n) : U64 (rotl n r) := by
  unfold U64 rotl at *
  have h1 : n * 2 ^ r % 2 ^ 64 < 2 ^ 64 := Nat.mod_lt _ (by decide)
  have h2 : n / 2 ^ (64 - r) < 2 ^ 64 := Nat.lt_of_le_of_lt (Nat.div_le_self _ _) (by omega)
  have := Nat.or_lt_two_pow h1 h2
  omega
theorem rot_amount (k : Int) (_h : I64 k) : (IntKind.u64.wrap k).tmod 64 = ((k % 64).toNat : Nat) := by
  rw [IntKind.wrap_u64, Int.tmod_eq_emod_of_nonneg (by omega)]
  omega
theorem rot_eq (n r : Nat) (h : U64 n) : bits BinOp.or IntKind.u64 (IntKind.u64.wrap ((n : Int) * 2 ^ r)) ((n : Int) / 2 ^ (64 - r)) = (rotl n r : Nat) := by
  have h2 : n / 2 ^ (64 - r) < 2 ^ 64 := Nat.lt_of_le_of_lt (Nat.div_le_self _ _) (by unfold U64 at h; omega)
  have e1 : IntKind.u64.wrap ((n : Int) * 2 ^ r) = ((n * 2 ^ r % 2 ^ 64 : Nat) : Int) := by
    rw [IntKind.wrap_u64]; simp
  have e2 : ((n : Int) / 2 ^ (64 - r)) = ((n / 2 ^ (64 - r) : Nat) : Int) := by simp
  rw [e1, e2, bits_or_u64_nat _ _ (by have := Nat.mod_lt (n * 2 ^ r) (show 0 < 2 ^ 64 by decide); omega) (by omega)]
  rfl

/-- The lowest bits in reverse order. -/
def revF : Nat → Nat → Nat → Nat
  | 0, t, _ => t
  | c + 1, t, n => revF c (t * 2 % 2 ^ 64 ||| n % 2) (n / 2)
def rev (n : Nat) (k : Int) : Nat := revF (min (max k 0) 64).toNat 0 n
theorem revF_u64 (c t n : Nat) (h : U64 t) : U64 (revF c t n) := by
  induction c generalizing t n with
  | zero => exact h
  | succ c ih =>
    apply ih
    have h1 : t * 2 % 2 ^ 64 < 2 ^ 64 := Nat.mod_lt _ (by decide)
    have h2 : n % 2 < 2 ^ 64 := by omega
    have := Nat.or_lt_two_pow h1 h2
    unfold U64; omega
theorem rev_u64 (n : Nat) (k : Int) : U64 (rev n k) := revF_u64 _ _ _ (by unfold U64; omega)
theorem rev_step (t n : Nat) (hn : U64 n) : bits BinOp.or IntKind.u64 (IntKind.u64.wrap ((t : Int) * 2)) (bits BinOp.and IntKind.u64 (n : Int) 1) = ((t * 2 % 2 ^ 64 ||| n % 2 : Nat) : Int) := by
  rw [and_one n hn]
  have e1 : IntKind.u64.wrap ((t : Int) * 2) = ((t * 2 % 2 ^ 64 : Nat) : Int) := by rw [IntKind.wrap_u64]; simp
  rw [e1, bits_or_u64_nat _ _ (by have := Nat.mod_lt (t * 2) (show 0 < 2 ^ 64 by decide); omega) (by omega)]
end Go.Proofs.YtafkbodmiblbnaaDoor
/- Contract of Bring: a number, brought to be from 0 to below n. -/
namespace Go.Proofs.YtafkbodmiblbnaaDoor
open Go.RowKit
set_option linter.unusedVariables false
theorem tmod_neg (i n : Int) (hn : 0 < n) (h : i.tmod n < 0) : i.tmod n + n = i % n := by
  have h1 := Int.tmod_add_mul_tdiv i n
  have h2 := Int.tmod_lt_of_pos i hn
  have h3 := Int.lt_tmod_of_pos i hn
  have h4 := Int.emod_add_mul_ediv i n
  have h5 := Int.emod_nonneg i (show n ≠ 0 by omega)
  have h6 := Int.emod_lt_of_pos i hn
  have e : i.tmod n + n - i % n = n * (i / n - i.tdiv n + 1) := by rw [Int.mul_add, Int.mul_sub]; omega
  have hz : i / n - i.tdiv n + 1 = 0 := by
    have a1 : n * (i / n - i.tdiv n + 1) < n * 1 := by omega
    have a2 : n * (-1) < n * (i / n - i.tdiv n + 1) := by omega
    have := Int.lt_of_mul_lt_mul_left a1 (by omega)
    have := Int.lt_of_mul_lt_mul_left a2 (by omega)
    omega
  rw [hz, Int.mul_zero] at e; omega
theorem tmod_pos (i n : Int) (hn : 0 < n) (h : ¬ i.tmod n < 0) : i.tmod n = i % n := by
  have h1 := Int.tmod_add_mul_tdiv i n
  have h2 := Int.tmod_lt_of_pos i hn
  have h4 := Int.emod_add_mul_ediv i n
  have h5 := Int.emod_nonneg i (show n ≠ 0 by omega)
  have h6 := Int.emod_lt_of_pos i hn
  have e : i.tmod n - i % n = n * (i / n - i.tdiv n) := by rw [Int.mul_sub]; omega
  have hz : i / n - i.tdiv n = 0 := by
    have a1 : n * (i / n - i.tdiv n) < n * 1 := by omega
    have a2 : n * (-1) < n * (i / n - i.tdiv n) := by omega
    have := Int.lt_of_mul_lt_mul_left a1 (by omega)
    have := Int.lt_of_mul_lt_mul_left a2 (by omega)
    omega
  rw [hz, Int.mul_zero] at e; omega
def Sm (n : Int) : Prop := 0 < n ∧ n ≤ 4611686018427387904
theorem bring_any (i n : Int) (w : World) (hn : Sm n) :
    Calls Tryd.prog 18 #[.int .i64 i, .int .i64 n] w fun e w' => e = .returned (.int .i64 (i % n)) ∧ w = w' := by
  have h0 : ¬ n = 0 := by unfold Sm at hn; omega
  have hlt : i.tmod n < n ∧ -n < i.tmod n := ⟨Int.tmod_lt_of_pos i hn.1, Int.lt_tmod_of_pos i hn.1⟩
  have hw : wrap64 (i.tmod n) = i.tmod n := by unfold Sm at hn; unfold wrap64; omega
  have hw2 : i.tmod n < 0 → wrap64 (i.tmod n + n) = i.tmod n + n := by unfold Sm at hn; intro h; unfold wrap64; omega
  by_cases hneg : i.tmod n < 0
  · have hr := tmod_neg i n hn.1 hneg
    have H := Lib.hid (show wrap64 (i.tmod n + n) = i % n by rw [hw2 hneg, hr])
    clear hr hw2 hn hlt hw
    go_enter Tryd.func18, Tryd.ntmps18
    go_wp2
    go_ret
    exact ⟨by rw [← H.out]; rfl, rfl⟩
  · have H := Lib.hid (tmod_pos i n hn.1 hneg)
    clear hw2 hn hlt hw
    go_enter Tryd.func18, Tryd.ntmps18
    go_wp2
    go_ret
    exact ⟨by rw [← H.out]; rfl, rfl⟩
end Go.Proofs.YtafkbodmiblbnaaDoor
/- Package item: numbers, names, kinds. -/
namespace Go.Proofs.YtafkbodmiblbnaaDoor
open Go.RowKit
set_option linter.unusedVariables false
set_option linter.unusedSimpArgs false
def qtyB (n : Int) : Bool := decide (1 ≤ n) && decide (n ≤ 2147483647)
def chgB (n : Int) : Bool := decide (n ≠ 0) && decide (-2147483647 ≤ n) && decide (n ≤ 2147483647)
theorem isQty_any (n : Int) (w : World) : Calls Tryd.prog 84 #[.int .i64 n] w fun e w' => e = .returned (.bool (qtyB n)) ∧ w = w' := by
  by_cases h1 : 1 ≤ n
  · by_cases h2 : n ≤ 2147483647
    · have hq : qtyB n = true := by simp [qtyB, h1, h2]
      rw [hq]
      go_enter Tryd.func84, Tryd.ntmps84
      go_wp2
      go_ret
      exact ⟨rfl, rfl⟩
    · have hq : qtyB n = false := by simp [qtyB, h2]
      rw [hq]
      go_enter Tryd.func84, Tryd.ntmps84
      go_wp2
      go_ret
      exact ⟨rfl, rfl⟩
  · have hq : qtyB n = false := by simp [qtyB, h1]
    rw [hq]
    go_enter Tryd.func84, Tryd.ntmps84
    go_wp2
    go_ret
    exact ⟨rfl, rfl⟩
theorem isChange_any (n : Int) (w : World) : Calls Tryd.prog 90 #[.int .i64 n] w fun e w' => e = .returned (.bool (chgB n)) ∧ w = w' := by
  by_cases h0 : n = 0
  · subst h0
    have hq : chgB 0 = false := rfl
    rw [hq]
    go_enter Tryd.func90, Tryd.ntmps90
    go_wp2
    go_ret
    exact ⟨rfl, rfl⟩
  · have hn : (n != 0) = true := by rw [bne_iff_ne]; exact h0
    by_cases h1 : -2147483647 ≤ n
    · by_cases h2 : n ≤ 2147483647
      · have hq : chgB n = true := by simp [chgB, h0, h1, h2]
        rw [hq]
        clear h0
        go_enter Tryd.func90, Tryd.ntmps90
        go_wp2
        go_ret
        exact ⟨rfl, rfl⟩
      · have hq : chgB n = false := by simp [chgB, h2]
        rw [hq]
        clear h0
        go_enter Tryd.func90, Tryd.ntmps90
        go_wp2
        go_ret
        exact ⟨rfl, rfl⟩
    · have hq : chgB n = false := by simp [chgB, h1]
      rw [hq]
      clear h0
      go_enter Tryd.func90, Tryd.ntmps90
      go_wp2
      go_ret
      exact ⟨rfl, rfl⟩
/-- Letters and digits. -/
def goodC (c : UInt8) : Bool := (decide (97 ≤ c.toNat) && decide (c.toNat ≤ 122)) || (decide (48 ≤ c.toNat) && decide (c.toNat ≤ 57))
def nameB (s : ByteArray) : Bool := decide (1 ≤ s.size) && decide (s.size ≤ 8) && s.data.toList.all goodC
theorem take_snoc (s : ByteArray) (k : Nat) (h : k < s.size) : s.data.toList.take (k + 1) = s.data.toList.take k ++ [s[k]] := by
  rw [List.take_succ_eq_append_getElem (by simpa using h)]; rfl
theorem goodC_bad {c : UInt8} (h : goodC c = false) : ((c.toNat : Int) < 97 ∨ 122 < (c.toNat : Int)) ∧ ((c.toNat : Int) < 48 ∨ 57 < (c.toNat : Int)) := by
  simp [goodC] at h
  omega
theorem goodC_ok {c : UInt8} (h : goodC c = true) : (97 ≤ (c.toNat : Int) ∧ (c.toNat : Int) ≤ 122) ∨ (48 ≤ (c.toNat : Int) ∧ (c.toNat : Int) ≤ 57) := by
  simp [goodC] at h
  omega
set_option maxHeartbeats 1000000 in
theorem name_any (s : ByteArray) (w : World) (hs : s.size ≤ maxLen) : Calls Tryd.prog 83 #[.string s] w fun e w' => e = .returned (.bool (nameB s)) ∧ w = w' := by
  unfold maxLen at hs
  by_cases h1 : 1 ≤ s.size
  · by_cases h2 : s.size ≤ 8
    · obtain ⟨r, hr⟩ : ∃ r, r = nameB s := ⟨_, rfl⟩
      rw [← hr]
      have HR : Hid (r = s.data.toList.all goodC) := Lib.hid (by rw [hr]; simp [nameB, h1, h2])
      clear hr
      have d1 : ¬ (s.size : Int) < 1 := by omega
      have d2 : ¬ (8 : Int) < (s.size : Int) := by omega
      go_enter Tryd.func83, Tryd.ntmps83
      go_wp2
      go_loop [15] (fun i => ∃ k : Nat, k ≤ s.size ∧ i = .int .i64 k ∧ (s.data.toList.take k).all goodC = true) (fun i => s.size - (intOf i).toNat)
      case atStart => exact ⟨0, Nat.zero_le _, rfl, by simp⟩
      case round =>
        obtain ⟨k, hk, rfl, ht⟩ := hrel
        have k0 : (0 : Int) ≤ (k : Int) := by omega
        by_cases hlt : k < s.size
        · have hd : decide (k < s.size) = true := decide_eq_true hlt
          have hts := take_snoc s k hlt
          have hb8 : s[k].toNat < 256 := s[k].toNat_lt
          cases hg : goodC s[k] with
          | true =>
            have HT : Hid ((s.data.toList.take (k + 1)).all goodC = true) := Lib.hid (by rw [hts, List.all_append, ht]; simp [hg])
            have hok := goodC_ok hg
            clear hg hts ht
            rcases hok with ⟨a1, a2⟩ | ⟨a1, a2⟩
            · have a3 : ¬ (s[k].toNat : Int) < 97 := by omega
              have a4 : ¬ (122 : Int) < (s[k].toNat : Int) := by omega
              go_wp2
              go_round
              case rel => exact ⟨k + 1, hlt, by go_num, HT.out⟩
              case measure => simp [intOf]; omega
            · have a3 : (s[k].toNat : Int) < 97 := by omega
              have a4 : ¬ (s[k].toNat : Int) < 48 := by omega
              have a5 : ¬ (57 : Int) < (s[k].toNat : Int) := by omega
              go_wp2
              go_round
              case rel => exact ⟨k + 1, hlt, by go_num, HT.out⟩
              case measure => simp [intOf]; omega
          | false =>
            have HF : Hid (r = false) := Lib.hid (by
              rw [HR.out]
              rw [List.all_eq_false]
              exact ⟨s[k], by
                have : s[k] ∈ s.data.toList := by simp [ByteArray.getElem_eq_getElem_data]
                exact this, by rw [hg]; simp⟩)
            have hbad := goodC_bad hg
            clear hg hts ht HR
            obtain ⟨b1, b2⟩ := hbad
            rcases b1 with b1 | b1 <;> rcases b2 with b2 | b2
            all_goals first | (exfalso; omega) | skip
            all_goals
              go_wp2
              go_ret
              first | exact ⟨congrArg (fun z => Ending.returned (.bool z)) HF.out.symm, rfl⟩ | (rw [HF.out]; exact ⟨rfl, rfl⟩)
        · have hd : decide (k < s.size) = false := decide_eq_false hlt
          have HF : Hid (r = true) := Lib.hid (by rw [HR.out, ← ht, List.take_of_length_le (by simp; omega)])
          clear ht HR
          go_wp2
          go_ret
          rw [HF.out]
          exact ⟨rfl, rfl⟩
    · have hq : nameB s = false := by simp [nameB, h2]
      rw [hq]
      have d1 : ¬ (s.size : Int) < 1 := by omega
      have d2 : (8 : Int) < (s.size : Int) := by omega
      go_enter Tryd.func83, Tryd.ntmps83
      go_wp2
      go_ret
      exact ⟨rfl, rfl⟩
  · have hq : nameB s = false := by simp [nameB, h1]
    rw [hq]
    have d1 : (s.size : Int) < 1 := by omega
    go_enter Tryd.func83, Tryd.ntmps83
    go_wp2
    go_ret
    exact ⟨rfl, rfl⟩
end Go.Proofs.YtafkbodmiblbnaaDoor
