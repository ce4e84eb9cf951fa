/- Texts of one bundle: Rdr, Rdr2, BitsSep, Vint2, Put, Ref01. -/
import Derived.Test.YtpknfeokfladkaaDoorBkA
import Derived.Test.YtpknfeokfladkaaDoorBkB
/- Contracts of package bits: the reader. -/
namespace Go.Proofs.YtpknfeokfladkaaDoor
open Go.RowKit
set_option linter.unusedVariables false
variable {Q : Nat → Prop}

theorem sls_nil (w : World) : SlS w (.slice none 0 0) (bv []) := .inl ⟨rfl, rfl⟩
theorem sl_nil (w : World) : Sl w (.slice none 0 0) (bv []) := (sls_nil w).sl

def endErr (rest : List UInt8) (e : Int) : Int := if e = 0 ∧ 0 < rest.length then 4 else e
/-- What a reader's Varint makes of what is left: the number, what is left behind it, the error. -/
def rdF : Nat → Nat → Nat → List UInt8 → Nat × List UInt8 × Int
  | 0, _, _, _ => (0, [], 9)
  | _ + 1, _, _, [] => (0, [], 3)
  | f + 1, i, u, c :: l =>
    if i = 9 ∧ 1 < c.toNat then (0, [], 9)
    else if c.toNat = 0 ∧ 0 < i then (0, [], 4)
    else if c.toNat < 128 then (u + c.toNat % 128 * 2 ^ (7 * i), l, 0)
    else rdF f (i + 1) (u + c.toNat % 128 * 2 ^ (7 * i)) l
def rdV (l : List UInt8) : Nat × List UInt8 × Int := rdF 10 0 0 l

theorem andNot128 (m : Nat) (hm : m < 256) : bits BinOp.andNot IntKind.u8 (m : Int) 128 = ((m % 128 : Nat) : Int) := by
  have h : ∀ a : Nat, a < 256 → bits BinOp.andNot IntKind.u8 ((a : Nat) : Int) 128 = ((a % 128 : Nat) : Int) := by decide +kernel
  exact h m hm
theorem vbits (k x m : Nat) (hx : x < 2 ^ (7 * k)) (hk : k ≤ 9) (hm : m < 256) (h9 : k = 9 → m ≤ 1) :
    bits BinOp.or IntKind.u64 (x : Int) (IntKind.u64.wrap (IntKind.u64.wrap (bits BinOp.andNot IntKind.u8 (m : Int) 128) * 2 ^ (7 * k))) = ((x + m % 128 * 2 ^ (7 * k) : Nat) : Int) := by
  have hb : m % 128 * 2 ^ (7 * k) < 2 ^ 64 := by
    by_cases h : k = 9
    · subst h
      have := h9 rfl
      have : m % 128 ≤ 1 := by omega
      calc m % 128 * 2 ^ (7 * 9) ≤ 1 * 2 ^ (7 * 9) := Nat.mul_le_mul_right _ this
        _ < 2 ^ 64 := by decide
    · have h2 : 2 ^ (7 * k) ≤ 2 ^ 56 := Nat.pow_le_pow_right (by omega) (by omega)
      calc m % 128 * 2 ^ (7 * k) ≤ 127 * 2 ^ 56 := Nat.mul_le_mul (by omega) h2
        _ < 2 ^ 64 := by decide
  have hx64 : x < 2 ^ 64 := by
    have h2 : 2 ^ (7 * k) ≤ 2 ^ 63 := Nat.pow_le_pow_right (by omega) (by omega)
    omega
  have e1 : IntKind.u64.wrap ((m % 128 : Nat) : Int) = ((m % 128 : Nat) : Int) := by rw [IntKind.wrap_u64]; omega
  have e2 : IntKind.u64.wrap (((m % 128 : Nat) : Int) * 2 ^ (7 * k)) = ((m % 128 * 2 ^ (7 * k) : Nat) : Int) := by
    have : (((m % 128 : Nat) : Int) * 2 ^ (7 * k)) = ((m % 128 * 2 ^ (7 * k) : Nat) : Int) := by simp
    rw [this, IntKind.wrap_u64]; omega
  rw [andNot128 m hm, e1, e2, bits_or_u64_nat _ _ (by omega) (by omega)]
  congr 1
  rw [Nat.or_comm, Nat.mul_comm, ← Nat.two_pow_add_eq_or_of_lt hx, Nat.add_comm]

theorem sl_from {w : World} {b off c : Nat} {rest : List UInt8} {k : Nat} (h : SlS w (.slice (some ⟨b, off, none⟩) rest.length c) (bv rest)) (hk : k ≤ rest.length) (hc : ¬ c = k) :
    SlS w (.slice (some ⟨b, off + k, none⟩) (rest.length - k) (c - k)) (bv (rest.drop k)) := by
  rcases h with ⟨h, _⟩ | ⟨b', off', cap, h, h1, h2, h3, h4⟩
  · simp at h
  · simp only [Value.slice.injEq, Option.some.injEq, Addr.mk.injEq, and_true] at h
    obtain ⟨⟨rfl, rfl⟩, _, rfl⟩ := h
    rw [bv_length] at h1
    refine .inr ⟨b, off + k, c - k, by simp [bv_length], by rw [bv_length, List.length_drop]; omega, by omega, h3, fun j u hj => ?_⟩
    rw [show off + k + j = off + (k + j) by omega]
    apply h4
    simpa [bv] using hj
theorem sl_from_cap {w : World} {b off c : Nat} {rest : List UInt8} {k : Nat} (h : SlS w (.slice (some ⟨b, off, none⟩) rest.length c) (bv rest)) (hc : c = k) (hk : k ≤ rest.length) :
    SlS w (.slice (some ⟨b, off, none⟩) (rest.length - k) 0) (bv (rest.drop k)) := by
  rcases h with ⟨h, _⟩ | ⟨b', off', cap, h, h1, h2, h3, h4⟩
  · simp at h
  · simp only [Value.slice.injEq, Option.some.injEq, Addr.mk.injEq, and_true] at h
    obtain ⟨⟨rfl, rfl⟩, _, rfl⟩ := h
    rw [bv_length] at h1
    have e : rest.drop k = [] := List.drop_eq_nil_of_le (by omega)
    rw [e]
    refine .inr ⟨b, off, 0, by simp [bv, show rest.length - k = 0 by omega], by simp [bv], by omega, h3, fun j u hj => by simp [bv] at hj⟩

theorem rdF_spec (f i u : Nat) (l : List UInt8) (hf : f + i = 10) (hu : u < 2 ^ (7 * i)) : U64 (rdF f i u l).1 ∧ (rdF f i u l).2.1.length ≤ l.length := by
  induction f generalizing i u l with
  | zero => exact ⟨by simp [rdF, U64], by simp [rdF]⟩
  | succ f ih =>
    cases l with
    | nil => exact ⟨by simp [rdF, U64], by simp [rdF]⟩
    | cons c l =>
      rw [rdF]
      split
      · exact ⟨by simp [U64], by simp⟩
      rename_i h1
      split
      · exact ⟨by simp [U64], by simp⟩
      have hc := c.toNat_lt
      have hp : 2 ^ (7 * (i + 1)) = 2 ^ (7 * i) * 128 := by rw [show 7 * (i + 1) = 7 * i + 7 by omega, Nat.pow_add]
      have h5 : c.toNat % 128 * 2 ^ (7 * i) ≤ 127 * 2 ^ (7 * i) := Nat.mul_le_mul_right _ (by omega)
      split
      · rename_i h3
        refine ⟨?_, by simp⟩
        show u + c.toNat % 128 * 2 ^ (7 * i) < 18446744073709551616
        by_cases h9 : i = 9
        · subst h9
          have : c.toNat % 128 * 2 ^ (7 * 9) ≤ 1 * 2 ^ (7 * 9) := Nat.mul_le_mul_right _ (by omega)
          omega
        · have h2 : 2 ^ (7 * i) ≤ 2 ^ 56 := Nat.pow_le_pow_right (by omega) (by omega)
          omega
      · obtain ⟨a, b⟩ := ih (i + 1) (u + c.toNat % 128 * 2 ^ (7 * i)) l (by omega) (by rw [hp]; omega)
        exact ⟨a, by simp; omega⟩
theorem rdV_u64 (l : List UInt8) : U64 (rdV l).1 := (rdF_spec 10 0 0 l rfl (by decide)).1
theorem rdV_len (l : List UInt8) : (rdV l).2.1.length ≤ l.length := (rdF_spec 10 0 0 l rfl (by decide)).2

/-- The reader's Varint, whatever its error. -/
def rdVe (rest : List UInt8) (e : Int) : Nat × List UInt8 × Int := if e = 0 then rdV rest else (0, rest, e)
end Go.Proofs.YtpknfeokfladkaaDoor

/- Contracts of package bits: the reader's Text and Num. -/
namespace Go.Proofs.YtpknfeokfladkaaDoor
open Go.RowKit
set_option linter.unusedVariables false
variable {Q : Nat → Prop}

/-- What a reader's Text makes of what is left. -/
def rdT (l : List UInt8) : List UInt8 × List UInt8 × Int :=
  if (rdV l).2.2 ≠ 0 then ([], (rdV l).2.1, (rdV l).2.2)
  else if (rdV l).2.1.length < (rdV l).1 then ([], [], 3)
  else ((rdV l).2.1.take (rdV l).1, (rdV l).2.1.drop (rdV l).1, 0)

theorem sl_form {w : World} {a : Option Addr} {l : List UInt8} {c : Nat} (h : SlS w (.slice a l.length c) (bv l)) :
    (a = none ∧ l = [] ∧ c = 0) ∨ ∃ b off, a = some ⟨b, off, none⟩ ∧ l.length ≤ c := by
  rcases h with ⟨h, h2⟩ | ⟨b, off, cap, h, h1, _⟩
  · simp only [Value.slice.injEq] at h
    exact .inl ⟨h.1, (bv_nil_iff l).1 h2, h.2.2⟩
  · simp only [Value.slice.injEq] at h
    obtain ⟨rfl, _, rfl⟩ := h
    exact .inr ⟨b, off, rfl, by rw [bv_length] at h1; exact h1⟩

theorem sl_take {w : World} {b off c : Nat} {l : List UInt8} {u : Nat} (h : SlS w (.slice (some ⟨b, off, none⟩) l.length c) (bv l)) (hu : u ≤ l.length) :
    SlS w (.slice (some ⟨b, off, none⟩) u c) (bv (l.take u)) := by
  rcases h with ⟨h, _⟩ | ⟨b', off', cap, h, h1, h2, h3, h4⟩
  · simp at h
  · simp only [Value.slice.injEq, Option.some.injEq, Addr.mk.injEq, and_true] at h
    obtain ⟨⟨rfl, rfl⟩, _, rfl⟩ := h
    rw [bv_length] at h1
    refine .inr ⟨b, off, c, by rw [bv_length, List.length_take, Nat.min_eq_left hu], by rw [bv_length, List.length_take]; omega, h2, h3, fun j u' hj => h4 j u' ?_⟩
    rw [bv, List.map_take, List.getElem?_take] at hj
    split at hj
    · exact hj
    · cases hj

theorem sl_pre {w : World} {a : Option Addr} {c : Nat} {l : List UInt8} {u : Nat} (h : Sl w (.slice a l.length c) (bv l)) (hu : u ≤ l.length) : Sl w (.slice a u c) (bv (l.take u)) := by
  rcases h with h | ⟨x, c', hv, hx⟩
  · rcases sl_form h with ⟨rfl, rfl, rfl⟩ | ⟨b, off, rfl, _⟩
    · obtain rfl : u = 0 := by simpa using hu
      exact sl_nil w
    · exact (sl_take h hu).sl
  · obtain rfl := (bv_nil_iff l).1 hx
    obtain rfl : u = 0 := by simpa using hu
    exact .inr ⟨x, c', hv, by simp [bv]⟩

/-- The reader's Text, whatever its error. -/
def rdTe (rest : List UInt8) (e : Int) : List UInt8 × List UInt8 × Int := if e = 0 then rdT rest else ([], rest, e)
/-- What a reader's Num makes of what is left. -/
def beVal (l : List UInt8) : Nat := l.foldl (fun x c => x * 256 + c.toNat) 0
theorem beVal_snoc (l : List UInt8) (c : UInt8) : beVal (l ++ [c]) = beVal l * 256 + c.toNat := by simp [beVal]
theorem beVal_lt (l : List UInt8) : beVal l < 256 ^ l.length := by
  have h : ∀ (n : Nat) (l : List UInt8), l.length = n → beVal l < 256 ^ n := by
    intro n
    induction n with
    | zero => intro l h; rw [List.eq_nil_of_length_eq_zero h]; simp [beVal]
    | succ n ih =>
      intro l h
      have hne : l ≠ [] := by intro e; simp [e] at h
      rw [← List.dropLast_concat_getLast hne, beVal_snoc, Nat.pow_succ]
      have h1 := ih l.dropLast (by simp [h])
      have := (l.getLast hne).toNat_lt
      omega
  exact h _ l rfl
theorem num_step (x m : Nat) (hx : x < 256 ^ 7) (hm : m < 256) : bits BinOp.or IntKind.u64 (IntKind.u64.wrap ((x : Int) * 256)) (m : Int) = ((x * 256 + m : Nat) : Int) := by
  have e1 : IntKind.u64.wrap ((x : Int) * 256) = ((x * 256 : Nat) : Int) := by rw [IntKind.wrap_u64]; omega
  rw [e1, bits_or_u64_nat _ _ (by omega) (by omega)]
  have := Nat.two_pow_add_eq_or_of_lt (i := 8) (b := m) (by omega) x
  rw [show x * 256 = 2 ^ 8 * x by omega, ← this]
def rdN (c : Nat) (l : List UInt8) : Nat × List UInt8 × Int := if l.length < c then (0, [], 3) else (beVal (l.take c), l.drop c, 0)

end Go.Proofs.YtpknfeokfladkaaDoor

/- Package bits, for things that lie beside each other: what is written, the reader. -/
namespace Go.Proofs.YtpknfeokfladkaaDoor
open Go.RowKit
set_option linter.unusedVariables false
/-- The reader's Num of 8 bits, whatever its error. -/
def rdNe (rest : List UInt8) (e : Int) : Nat × List UInt8 × Int := if e = 0 then rdN 1 rest else (0, rest, e)
end Go.Proofs.YtpknfeokfladkaaDoor

/- Varints, written and read: plain mathematics. -/
namespace Go.Proofs.YtpknfeokfladkaaDoor
open Go.RowKit
set_option linter.unusedVariables false

theorem pow7 (i : Nat) : 2 ^ (7 * (i + 1)) = 2 ^ (7 * i) * 128 := by rw [show 7 * (i + 1) = 7 * i + 7 by omega, Nat.pow_add]
theorem pow128 (i : Nat) : 2 ^ (7 * i) = 128 ^ i := by rw [Nat.pow_mul]
theorem ofNat_toNat8 (c : UInt8) : UInt8.ofNat c.toNat = c := by simp

/-- What is read was written. -/
theorem rdF_vint (f i u : Nat) (l l' : List UInt8) (r : Nat) (hf : f + i = 9) (h : rdF (f + 1) i u l = (r, l', 0)) :
    ∃ x, r = u + x * 2 ^ (7 * i) ∧ l = vintF f x ++ l' ∧ (0 < i → x ≠ 0) ∧ x < 2 * 128 ^ f := by
  induction f generalizing i u l with
  | zero =>
    obtain rfl : i = 9 := by omega
    cases l with
    | nil => simp [rdF] at h
    | cons c l =>
      rw [rdF] at h
      split at h
      · simp at h
      rename_i h1
      split at h
      · simp at h
      rename_i h2
      have hc : c.toNat = 1 := by omega
      rw [hc] at h
      simp only [Nat.reduceMod, Nat.reduceLT, if_true, Prod.mk.injEq] at h
      obtain ⟨rfl, rfl, _⟩ := h
      refine ⟨1, rfl, ?_, by simp, by decide⟩
      rw [vintF, ← hc, ofNat_toNat8]; rfl
  | succ f ih =>
    cases l with
    | nil => simp [rdF] at h
    | cons c l =>
      rw [rdF] at h
      split at h
      · simp at h
      rename_i h1
      split at h
      · simp at h
      rename_i h2
      have hc := c.toNat_lt
      have hp : 1 ≤ 128 ^ f := Nat.one_le_pow _ _ (by omega)
      have hps : 128 ^ (f + 1) = 128 ^ f * 128 := Nat.pow_succ ..
      split at h
      · rename_i h3
        simp only [Prod.mk.injEq, and_true] at h
        obtain ⟨rfl, rfl⟩ := h
        refine ⟨c.toNat, by rw [Nat.mod_eq_of_lt h3], ?_, fun hi => by omega, by omega⟩
        rw [vintF, if_pos h3, ofNat_toNat8]; rfl
      · rename_i h3
        obtain ⟨x, hr, hl, hx, hlt⟩ := ih (i + 1) _ l (by omega) h
        have hx0 := hx (by omega)
        refine ⟨c.toNat % 128 + 128 * x, ?_, ?_, by omega, by omega⟩
        · rw [hr, pow7, Nat.add_mul, Nat.add_assoc, ← Nat.mul_assoc]
          congr 2
          rw [Nat.mul_comm x, Nat.mul_right_comm, Nat.mul_comm 128 x, Nat.mul_assoc, Nat.mul_comm (128) _, Nat.mul_comm x]
          simp only [Nat.mul_comm, Nat.mul_left_comm]
        · rw [vintF, if_neg (by omega), show (c.toNat % 128 + 128 * x) % 128 + 128 = c.toNat by omega, show (c.toNat % 128 + 128 * x) / 128 = x by omega, ofNat_toNat8, hl]; rfl

theorem rdV_vint (l l' : List UInt8) (u : Nat) (h : rdV l = (u, l', 0)) : l = vint u ++ l' := by
  obtain ⟨x, hr, hl, _⟩ := rdF_vint 9 0 0 l l' u rfl h
  simp at hr
  subst hr
  exact hl

/-- What is written is read. -/
theorem rdF_back (f i u x : Nat) (l : List UInt8) (hf : f + i = 9) (hx : 0 < i → x ≠ 0) (hlt : x < 2 * 128 ^ f) :
    rdF (f + 1) i u (vintF f x ++ l) = (u + x * 2 ^ (7 * i), l, 0) := by
  induction f generalizing i u x with
  | zero =>
    obtain rfl : i = 9 := by omega
    have := hx (by omega)
    obtain rfl : x = 1 := by simp at hlt; omega
    rfl
  | succ f ih =>
    have hps : 128 ^ (f + 1) = 128 ^ f * 128 := Nat.pow_succ ..
    rw [vintF]
    split
    · rename_i h3
      have e : (UInt8.ofNat x).toNat = x := by rw [UInt8.toNat_ofNat']; omega
      rw [List.singleton_append, rdF, e, if_neg (by omega), if_neg (by omega), if_pos h3, Nat.mod_eq_of_lt h3]
    · rename_i h3
      have e : (UInt8.ofNat (x % 128 + 128)).toNat = x % 128 + 128 := by rw [UInt8.toNat_ofNat']; omega
      rw [List.cons_append, rdF, e, if_neg (by omega), if_neg (by omega), if_neg (by omega), ih (i + 1) _ (x / 128) (by omega) (by omega) (by omega), pow7]
      congr 1
      rw [show (x % 128 + 128) % 128 = x % 128 by omega, Nat.add_assoc]
      congr 1
      have : x = x % 128 + 128 * (x / 128) := by omega
      conv => rhs; rw [this, Nat.add_mul]
      congr 1
      simp only [Nat.mul_comm, Nat.mul_left_comm]
theorem rdV_back (u : Nat) (l : List UInt8) (hu : U64 u) : rdV (vint u ++ l) = (u, l, 0) := by
  have h := rdF_back 9 0 0 u l rfl (by omega) (by unfold U64 at hu; omega)
  rw [rdV, vint, h]; simp
/-- With an error there is nothing. -/
theorem rdF_err (f i u : Nat) (l : List UInt8) (h : (rdF f i u l).2.2 ≠ 0) : (rdF f i u l).1 = 0 ∧ (rdF f i u l).2.1 = [] := by
  induction f generalizing i u l with
  | zero => exact ⟨rfl, rfl⟩
  | succ f ih =>
    cases l with
    | nil => exact ⟨rfl, rfl⟩
    | cons c l =>
      rw [rdF] at h ⊢
      split
      · exact ⟨rfl, rfl⟩
      rename_i h1
      rw [if_neg h1] at h
      split
      · exact ⟨rfl, rfl⟩
      rename_i h2
      rw [if_neg h2] at h
      split
      · rename_i h3; rw [if_pos h3] at h; exact absurd rfl h
      · rename_i h3; rw [if_neg h3] at h; exact ih _ _ _ h
theorem rdV_err (l : List UInt8) (h : (rdV l).2.2 ≠ 0) : (rdV l).1 = 0 ∧ (rdV l).2.1 = [] := rdF_err 10 0 0 l h

theorem beVal_append (a : List UInt8) : ∀ b : List UInt8, beVal (a ++ b) = beVal a * 256 ^ b.length + beVal b := by
  have h : ∀ (n : Nat) (b : List UInt8), b.length = n → beVal (a ++ b) = beVal a * 256 ^ b.length + beVal b := by
    intro n
    induction n with
    | zero => intro b hb; rw [List.eq_nil_of_length_eq_zero hb]; simp [beVal]
    | succ n ih =>
      intro b hb
      have hne : b ≠ [] := by intro e; simp [e] at hb
      have h1 := ih b.dropLast (by simp [hb])
      rw [← List.dropLast_concat_getLast hne, ← List.append_assoc, beVal_snoc, h1, beVal_snoc, List.length_append, List.length_singleton, Nat.pow_succ]
      simp only [Nat.add_mul, Nat.mul_assoc, Nat.add_assoc]
  exact fun b => h _ b rfl
end Go.Proofs.YtpknfeokfladkaaDoor

/- Contract of bits.Put. -/
namespace Go.Proofs.YtpknfeokfladkaaDoor
open Go.RowKit
set_option linter.unusedVariables false

/-- The lowest c bytes of a number, the most significant first. -/
def beL : Nat → Nat → List UInt8
  | 0, _ => []
  | c + 1, n => UInt8.ofNat (n / 256 ^ c) :: beL c n
theorem beL_len (c n : Nat) : (beL c n).length = c := by induction c with | zero => rfl | succ c ih => simp [beL, ih]

def zeros (c : Nat) : Array Value := Array.replicate c (.int .u8 0)
theorem be_byte (n j : Nat) : (n : Int) / 2 ^ (8 * j) % 256 = (UInt8.ofNat (n / 256 ^ j)).toNat := by
  have h : (2 : Nat) ^ (8 * j) = 256 ^ j := by rw [Nat.pow_mul]
  rw [UInt8.toNat_ofNat', ← h]
  simp
theorem be_set (c j n : Nat) (hj : j < c) (cur : Array Value) (h : cur.toList = List.replicate (c - j) (.int .u8 0) ++ bv (beL j n)) :
    (cur.setIfInBounds (c - 1 - j) (.int .u8 ((n : Int) / 2 ^ (8 * j) % 256))).toList = List.replicate (c - (j + 1)) (.int .u8 0) ++ bv (beL (j + 1) n) := by
  rw [Array.toList_setIfInBounds, h, be_byte, show c - j = (c - (j + 1)) + 1 by omega, List.replicate_succ', List.append_assoc, List.set_append_right _ _ (by simp; omega)]
  simp [beL, bv, show c - 1 - j - (c - (j + 1)) = 0 by omega]
theorem be_cell {wr : World} {g c j n : Nat} {e : TypeId} (hj : j < c) {cur : Array Value} (hg : wr.heap[g]? = some (.cells cur e (0, 0))) (h : cur.toList = List.replicate (c - j) (.int .u8 0) ++ bv (beL j n)) :
    wr.cell? ⟨g, c - 1 - j, none⟩ = some (.int .u8 0) ∧ wr.frozen? ⟨g, c - 1 - j, none⟩ = false := by
  constructor
  · rw [cell_of_row wr _ _ cur _ _ hg, ← Array.getElem?_toList, h, List.getElem?_append_left (by simp; omega), List.getElem?_replicate, if_pos (by omega)]
  · unfold World.frozen?; rw [hg]; simp

theorem make1 (w : World) : (Instr.makeSlice 74 (.int .i64 1) (.int .i64 1)).run Tryd.prog w =
    .ok (.slice (some ⟨w.heap.size, 0, none⟩) 1 1) (w.alloc (.cells (zeros 1) 5)) := by kernel_rfl

theorem make2 (w : World) : (Instr.makeSlice 74 (.int .i64 2) (.int .i64 2)).run Tryd.prog w =
    .ok (.slice (some ⟨w.heap.size, 0, none⟩) 2 2) (w.alloc (.cells (zeros 2) 5)) := by kernel_rfl

theorem make4 (w : World) : (Instr.makeSlice 74 (.int .i64 4) (.int .i64 4)).run Tryd.prog w =
    .ok (.slice (some ⟨w.heap.size, 0, none⟩) 4 4) (w.alloc (.cells (zeros 4) 5)) := by kernel_rfl

theorem make8 (w : World) : (Instr.makeSlice 74 (.int .i64 8) (.int .i64 8)).run Tryd.prog w =
    .ok (.slice (some ⟨w.heap.size, 0, none⟩) 8 8) (w.alloc (.cells (zeros 8) 5)) := by kernel_rfl

end Go.Proofs.YtpknfeokfladkaaDoor

/- Contracts of the document's answer for layer 1: the functions that write. -/
namespace Go.Proofs.YtpknfeokfladkaaDoor
open Go.RowKit
set_option linter.unusedVariables false

theorem ret_int {k : IntKind} {a b : Int} (h : a = b) : Ending.returned (.int k a) = .returned (.int k b) := by rw [h]

theorem rzig_neg {n : Int} (h : I64 n) (h0 : n < 0) : IntKind.u64.wrap (IntKind.u64.wrap (2 * IntKind.u64.wrap (wrap64 (-wrap64 (n + 1)))) + 1) = (zig n : Nat) := by
  simp only [IntKind.wrap_u64]; unfold wrap64 zig; unfold I64 at h; rw [if_neg (by omega)]; omega
theorem rzig_pos {n : Int} (h : I64 n) (h0 : ¬ n < 0) : IntKind.u64.wrap (2 * IntKind.u64.wrap n) = (zig n : Nat) := by
  simp only [IntKind.wrap_u64]; unfold zig; unfold I64 at h; rw [if_pos (by omega)]; omega
theorem rzag_even {u : Nat} (h : U64 u) (h0 : u % 2 = 0) : wrap64 (IntKind.u64.wrap ((u : Int) / 2)) = zag u := by
  simp only [IntKind.wrap_u64]; unfold wrap64 zag; unfold U64 at h; rw [if_pos h0]; omega
theorem rzag_odd {u : Nat} (h : U64 u) (h0 : ¬ u % 2 = 0) : wrap64 (wrap64 (-wrap64 (IntKind.u64.wrap ((u : Int) / 2))) - 1) = zag u := by
  simp only [IntKind.wrap_u64]; unfold wrap64 zag; unfold U64 at h; rw [if_neg h0]; omega
/-- One step of a rotation. -/
theorem rotl_step (n i : Nat) (hn : U64 n) (hi : i < 64) : IntKind.u64.wrap (IntKind.u64.wrap (((rotl n i : Nat) : Int) * 2) + IntKind.u64.wrap (((rotl n i : Nat) : Int) / 9223372036854775808)) = ((rotl n (i + 1) : Nat) : Int) := by
  have hx : U64 (rotl n i) := rotl_u64 n i hn
  have e : rotl (rotl n i) 1 = rotl n (i + 1) := by
    have hu1 : U64 (rotl (rotl n i) 1) := rotl_u64 _ _ hx
    have hu2 : U64 (rotl n (i + 1)) := rotl_u64 _ _ hn
    by_cases h63 : i = 63
    · subst h63
      have h64 : rotl n 64 = n := by
        unfold rotl; simp
      rw [h64]
      apply eq_of_bits hu1 hn
      intro j hj
      have a1 := rotl_at (rotl n 63) 1 ((j + 63) % 64) hx (by omega) (by omega)
      rw [show ((j + 63) % 64 + 1) % 64 = j by omega] at a1
      rw [a1, rotl_at n 63 j hn (by omega) hj]
    · apply eq_of_bits hu1 hu2
      intro j hj
      have a1 := rotl_at (rotl n i) 1 ((j + 63) % 64) hx (by omega) (by omega)
      rw [show ((j + 63) % 64 + 1) % 64 = j by omega] at a1
      have a2 := rotl_at n i ((j + 63 - i) % 64) hn hi (by omega)
      rw [show ((j + 63 - i) % 64 + i) % 64 = (j + 63) % 64 by omega] at a2
      have a3 := rotl_at n (i + 1) ((j + 63 - i) % 64) hn (by omega) (by omega)
      rw [show ((j + 63 - i) % 64 + (i + 1)) % 64 = j by omega] at a3
      rw [a1, a2, a3]
  rw [← e]
  generalize rotl n i = x at *
  have h2 : rotl x 1 = x * 2 % 2 ^ 64 + x / 2 ^ 63 := by
    unfold rotl
    unfold U64 at hx
    have h3 : x * 2 % 2 ^ 64 = 2 ^ 1 * (x % 2 ^ 63) := by omega
    rw [show 64 - 1 = 63 from rfl, Nat.pow_one, h3, ← Nat.two_pow_add_eq_or_of_lt (i := 1) (b := x / 2 ^ 63) (by omega)]
  rw [h2]
  unfold U64 at hx
  simp only [IntKind.wrap_u64]
  omega
theorem revF_step (t n i : Nat) (ht : t < 2 ^ i) (hi : i < 64) (hn : U64 n) : IntKind.u64.wrap (IntKind.u64.wrap (2 * (t : Int)) + (n : Int) % 2) = ((t * 2 % 2 ^ 64 ||| n % 2 : Nat) : Int) := by
  have hp : 2 ^ i ≤ 2 ^ 63 := Nat.pow_le_pow_right (by omega) (by omega)
  have e : t * 2 % 2 ^ 64 ||| n % 2 = t * 2 + n % 2 := by
    rw [Nat.mod_eq_of_lt (by omega), Nat.mul_comm]
    exact (Nat.two_pow_add_eq_or_of_lt (i := 1) (b := n % 2) (by omega) t).symm
  rw [e]
  simp only [IntKind.wrap_u64]; omega
end Go.Proofs.YtpknfeokfladkaaDoor
