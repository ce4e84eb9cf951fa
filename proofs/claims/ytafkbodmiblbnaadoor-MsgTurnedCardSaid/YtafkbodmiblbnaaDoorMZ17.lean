/- Contracts of the document's answer for layer 1: the functions that write. -/
import Derived.Test.YtafkbodmiblbnaaDoorMZ16
import Derived.Test.YtafkbodmiblbnaaDoorMZ02
import Derived.Test.YtafkbodmiblbnaaDoorMZ15
import Derived.Test.YtafkbodmiblbnaaDoorMItem5
import Derived.Test.YtafkbodmiblbnaaDoorMZ09
namespace Go.Proofs.YtafkbodmiblbnaaDoor
open Go.RowKit
set_option linter.unusedVariables false

theorem ret_int {k : IntKind} {a b : Int} (h : a = b) : Ending.returned (.int k a) = .returned (.int k b) := by rw [h]

theorem rzig_neg {n : Int} (h : I64 n) (h0 : n < 0) : IntKind.u64.wrap (IntKind.u64.wrap (2 * IntKind.u64.wrap (wrap64 (-wrap64 (n + 1)))) + 1) = (zig n : Nat) := by
  simp only [IntKind.wrap_u64]; unfold wrap64 zig; unfold I64 at h; rw [if_neg (by omega)]; omega
theorem rzig_pos {n : Int} (h : I64 n) (h0 : ¬ n < 0) : IntKind.u64.wrap (2 * IntKind.u64.wrap n) = (zig n : Nat) := by
  simp only [IntKind.wrap_u64]; unfold zig; unfold I64 at h; rw [if_pos (by omega)]; omega
theorem rzag_even {u : Nat} (h : U64 u) (h0 : u % 2 = 0) : wrap64 (IntKind.u64.wrap ((u : Int) / 2)) = zag u := by
  simp only [IntKind.wrap_u64]; unfold wrap64 zag; unfold U64 at h; rw [if_pos h0]; omega
theorem rzag_odd {u : Nat} (h : U64 u) (h0 : ¬ u % 2 = 0) : wrap64 (wrap64 (-wrap64 (IntKind.u64.wrap ((u : Int) / 2))) - 1) = zag u := by
  simp only [IntKind.wrap_u64]; unfold wrap64 zag; unfold U64 at h; rw [if_neg h0]; omega
/-- One step of a rotation. -/
theorem rotl_step (n i : Nat) (hn : U64 n) (hi : i < 64) : IntKind.u64.wrap (IntKind.u64.wrap (((rotl n i : Nat) : Int) * 2) + IntKind.u64.wrap (((rotl n i : Nat) : Int) / 9223372036854775808)) = ((rotl n (i + 1) : Nat) : Int) := by
  have hx : U64 (rotl n i) := rotl_u64 n i hn
  have e : rotl (rotl n i) 1 = rotl n (i + 1) := by
    have hu1 : U64 (rotl (rotl n i) 1) := rotl_u64 _ _ hx
    have hu2 : U64 (rotl n (i + 1)) := rotl_u64 _ _ hn
    by_cases h63 : i = 63
    · subst h63
      have h64 : rotl n 64 = n := by
        unfold rotl; simp
      rw [h64]
      apply eq_of_bits hu1 hn
      intro j hj
      have a1 := rotl_at (rotl n 63) 1 ((j + 63) % 64) hx (by omega) (by omega)
      rw [show ((j + 63) % 64 + 1) % 64 = j by omega] at a1
      rw [a1, rotl_at n 63 j hn (by omega) hj]
    · apply eq_of_bits hu1 hu2
      intro j hj
      have a1 := rotl_at (rotl n i) 1 ((j + 63) % 64) hx (by omega) (by omega)
      rw [show ((j + 63) % 64 + 1) % 64 = j by omega] at a1
      have a2 := rotl_at n i ((j + 63 - i) % 64) hn hi (by omega)
      rw [show ((j + 63 - i) % 64 + i) % 64 = (j + 63) % 64 by omega] at a2
      have a3 := rotl_at n (i + 1) ((j + 63 - i) % 64) hn (by omega) (by omega)
      rw [show ((j + 63 - i) % 64 + (i + 1)) % 64 = j by omega] at a3
      rw [a1, a2, a3]
  rw [← e]
  generalize rotl n i = x at *
  have h2 : rotl x 1 = x * 2 % 2 ^ 64 + x / 2 ^ 63 := by
    unfold rotl
    unfold U64 at hx
    have h3 : x * 2 % 2 ^ 64 = 2 ^ 1 * (x % 2 ^ 63) := by omega
    rw [show 64 - 1 = 63 from rfl, Nat.pow_one, h3, ← Nat.two_pow_add_eq_or_of_lt (i := 1) (b := x / 2 ^ 63) (by omega)]
  rw [h2]
  unfold U64 at hx
  simp only [IntKind.wrap_u64]
  omega
theorem revF_step (t n i : Nat) (ht : t < 2 ^ i) (hi : i < 64) (hn : U64 n) : IntKind.u64.wrap (IntKind.u64.wrap (2 * (t : Int)) + (n : Int) % 2) = ((t * 2 % 2 ^ 64 ||| n % 2 : Nat) : Int) := by
  have hp : 2 ^ i ≤ 2 ^ 63 := Nat.pow_le_pow_right (by omega) (by omega)
  have e : t * 2 % 2 ^ 64 ||| n % 2 = t * 2 + n % 2 := by
    rw [Nat.mod_eq_of_lt (by omega), Nat.mul_comm]
    exact (Nat.two_pow_add_eq_or_of_lt (i := 1) (b := n % 2) (by omega) t).symm
  rw [e]
  simp only [IntKind.wrap_u64]; omega
end Go.Proofs.YtafkbodmiblbnaaDoor
/- Package item: BytesRes. -/
namespace Go.Proofs.YtafkbodmiblbnaaDoor
open Go.RowKit
set_option linter.unusedVariables false
set_option linter.unusedSimpArgs false
def resBs (c a b : Int) : List UInt8 := [UInt8.ofNat c.toNat] ++ vint a.toNat ++ vint b.toNat
theorem rc {w0 w : World} {bq : Nat} {c a b : Int} {L : List Thing} (h : Sep w0 (Cl bq #[.int .i64 c, .int .i64 a, .int .i64 b] 34 :: L) w) : w.cell? ⟨bq, 0, none⟩ = some (.int .i64 c) ∧ w.cell? ⟨bq, 1, none⟩ = some (.int .i64 a) ∧ w.cell? ⟨bq, 2, none⟩ = some (.int .i64 b) := cells3 h
set_option maxRecDepth 100000 in
set_option maxHeartbeats 1000000 in
theorem bytesRes_bad {w0 w : World} {L : List Thing} (c a b : Int) (h : Sep w0 L w) (hb : resB c a b = false) :
    Calls Tryd.prog 53 #[.agg #[.int .i64 c, .int .i64 a, .int .i64 b]] w fun e w' => e = .returned (.tuple #[.slice none 0 0, .int .i64 2]) ∧ Sep w0 L w' := by
  have h1 := h.alloc (.cells #[.int .i64 c, .int .i64 a, .int .i64 b] 34)
  obtain ⟨c0, c1, c2⟩ := rc h1
  have HC := Lib.hid (res_any c a b (w.alloc (.cells #[.int .i64 c, .int .i64 a, .int .i64 b] 34)))
  rw [hb] at HC
  have H2 := Lib.hid (h1.alloc0 (.cells #[.int .i64 c, .int .i64 a, .int .i64 b] 34)).drop
  clear h h1 hb
  go_enter Tryd.func53, Tryd.ntmps53
  go_wp2_with fail
  refine HC.out.mono ?_
  rintro r0 w1 ⟨rfl, rfl⟩
  unfold okE
  go_wp2_with fail
  go_ret2
  exact ⟨rfl, H2.out⟩
set_option maxRecDepth 100000 in
set_option maxHeartbeats 8000000 in
theorem bytesRes_ok {w0 w : World} {L : List Thing} (c a b : Int) (h : Sep w0 L w) (hb : resB c a b = true) :
    Calls Tryd.prog 53 #[.agg #[.int .i64 c, .int .i64 a, .int .i64 b]] w fun e w' => ∃ u, e = .returned (.tuple #[u, .int .i64 0]) ∧ Sep w0 (By u (resBs c a b) :: L) w' := by
  have hs := of_decide_eq_true hb
  obtain ⟨s0, s1, s2, s3, s4, s5⟩ := hs
  have h1 := h.alloc (.cells #[.int .i64 c, .int .i64 a, .int .i64 b] 34)
  obtain ⟨c0, c1, c2⟩ := rc h1
  have HC := Lib.hid (res_any c a b (w.alloc (.cells #[.int .i64 c, .int .i64 a, .int .i64 b] 34)))
  rw [hb] at HC
  have h2 := h1.alloc0 (.cells #[.int .i64 c, .int .i64 a, .int .i64 b] 34)
  obtain ⟨bx, hbx⟩ : ∃ z, z = w.heap.size := ⟨_, rfl⟩
  have H2 := Lib.hid h2
  obtain ⟨d0, d1, d2⟩ := rc h2
  clear h h1 h2 hb
  go_enter Tryd.func53, Tryd.ntmps53
  go_wp2_with fail
  refine HC.out.mono ?_
  rintro r0 w1 ⟨rfl, rfl⟩
  unfold okE
  clear c0 c1 c2
  go_wp2_with fail
  generalize (w.alloc (.cells #[.int .i64 c, .int .i64 a, .int .i64 b] 34)).alloc (.cells #[.int .i64 c, .int .i64 a, .int .i64 b] 34) = wa at *
  rw [← hbx] at H2 d0 d1 d2 ⊢
  clear hbx
  have e0 : IntKind.u8.wrap c = c := by rw [IntKind.wrap_u8]; omega
  have e1 : IntKind.u64.wrap a = a := by rw [IntKind.wrap_u64]; omega
  have e2 : IntKind.u64.wrap b = b := by rw [IntKind.wrap_u64]; omega
  have h3 := (H2.out.alloc (.cells #[.int .u8 c] 5)).drew
  obtain ⟨x0, x1, x2⟩ := rc h3.sw2
  have h4 := h3.asRow 1 rfl (by unfold maxLen; omega)
  rw [byte1 s0 (by omega)] at h4
  have HV := Lib.hid (vint_conv _ _ a h4 s2 (by omega) (by simp))
  clear h3 h4
  go_region_law (first
    | (go_simp; go_at_call 24; ((with_reducible refine Calls.mono HV.out ?_); rintro r9 w9 ⟨u9, rfl, h5⟩; obtain ⟨y0, y1, y2⟩ := rc (Sep.sw2 h5); have HV2 := Lib.hid (vint_conv _ _ b h5 s3 (by omega) (by have := vint_len a.toNat; simp; omega)); clear h5))
    | (go_simp; go_at_call 24; ((with_reducible refine Calls.mono HV2.out ?_); rintro r9 w10 ⟨u10, rfl, h6⟩; have H6 := Lib.hid (Sep.drop (Sep.sw2 h6)); clear h6)))
  all_goals
    go_wp2_with fail
    go_ret2
    exact ⟨u10, rfl, H6.out⟩
end Go.Proofs.YtafkbodmiblbnaaDoor
/- Varints, written and read: plain mathematics. -/
namespace Go.Proofs.YtafkbodmiblbnaaDoor
open Go.RowKit
set_option linter.unusedVariables false

theorem pow7 (i : Nat) : 2 ^ (7 * (i + 1)) = 2 ^ (7 * i) * 128 := by rw [show 7 * (i + 1) = 7 * i + 7 by omega, Nat.pow_add]
theorem pow128 (i : Nat) : 2 ^ (7 * i) = 128 ^ i := by rw [Nat.pow_mul]
theorem ofNat_toNat8 (c : UInt8) : UInt8.ofNat c.toNat = c := by simp

/-- What is read was written. -/
theorem rdF_vint (f i u : Nat) (l l' : List UInt8) (r : Nat) (hf : f + i = 9) (h : rdF (f + 1) i u l = (r, l', 0)) :
    ∃ x, r = u + x * 2 ^ (7 * i) ∧ l = vintF f x ++ l' ∧ (0 < i → x ≠ 0) ∧ x < 2 * 128 ^ f := by
  induction f generalizing i u l with
  | zero =>
    obtain rfl : i = 9 := by omega
    cases l with
    | nil => simp [rdF] at h
    | cons c l =>
      rw [rdF] at h
      split at h
      · simp at h
      rename_i h1
      split at h
      · simp at h
      rename_i h2
      have hc : c.toNat = 1 := by omega
      rw [hc] at h
      simp only [Nat.reduceMod, Nat.reduceLT, if_true, Prod.mk.injEq] at h
      obtain ⟨rfl, rfl, _⟩ := h
      refine ⟨1, rfl, ?_, by simp, by decide⟩
      rw [vintF, ← hc, ofNat_toNat8]; rfl
  | succ f ih =>
    cases l with
    | nil => simp [rdF] at h
    | cons c l =>
      rw [rdF] at h
      split at h
      · simp at h
      rename_i h1
      split at h
      · simp at h
      rename_i h2
      have hc := c.toNat_lt
      have hp : 1 ≤ 128 ^ f := Nat.one_le_pow _ _ (by omega)
      have hps : 128 ^ (f + 1) = 128 ^ f * 128 := Nat.pow_succ ..
      split at h
      · rename_i h3
        simp only [Prod.mk.injEq, and_true] at h
        obtain ⟨rfl, rfl⟩ := h
        refine ⟨c.toNat, by rw [Nat.mod_eq_of_lt h3], ?_, fun hi => by omega, by omega⟩
        rw [vintF, if_pos h3, ofNat_toNat8]; rfl
      · rename_i h3
        obtain ⟨x, hr, hl, hx, hlt⟩ := ih (i + 1) _ l (by omega) h
        have hx0 := hx (by omega)
        refine ⟨c.toNat % 128 + 128 * x, ?_, ?_, by omega, by omega⟩
        · rw [hr, pow7, Nat.add_mul, Nat.add_assoc, ← Nat.mul_assoc]
          congr 2
          rw [Nat.mul_comm x, Nat.mul_right_comm, Nat.mul_comm 128 x, Nat.mul_assoc, Nat.mul_comm (128) _, Nat.mul_comm x]
          simp only [Nat.mul_comm, Nat.mul_left_comm]
        · rw [vintF, if_neg (by omega), show (c.toNat % 128 + 128 * x) % 128 + 128 = c.toNat by omega, show (c.toNat % 128 + 128 * x) / 128 = x by omega, ofNat_toNat8, hl]; rfl

theorem rdV_vint (l l' : List UInt8) (u : Nat) (h : rdV l = (u, l', 0)) : l = vint u ++ l' := by
  obtain ⟨x, hr, hl, _⟩ := rdF_vint 9 0 0 l l' u rfl h
  simp at hr
  subst hr
  exact hl

/-- What is written is read. -/
theorem rdF_back (f i u x : Nat) (l : List UInt8) (hf : f + i = 9) (hx : 0 < i → x ≠ 0) (hlt : x < 2 * 128 ^ f) :
    rdF (f + 1) i u (vintF f x ++ l) = (u + x * 2 ^ (7 * i), l, 0) := by
  induction f generalizing i u x with
  | zero =>
    obtain rfl : i = 9 := by omega
    have := hx (by omega)
    obtain rfl : x = 1 := by simp at hlt; omega
    rfl
  | succ f ih =>
    have hps : 128 ^ (f + 1) = 128 ^ f * 128 := Nat.pow_succ ..
    rw [vintF]
    split
    · rename_i h3
      have e : (UInt8.ofNat x).toNat = x := by rw [UInt8.toNat_ofNat']; omega
      rw [List.singleton_append, rdF, e, if_neg (by omega), if_neg (by omega), if_pos h3, Nat.mod_eq_of_lt h3]
    · rename_i h3
      have e : (UInt8.ofNat (x % 128 + 128)).toNat = x % 128 + 128 := by rw [UInt8.toNat_ofNat']; omega
      rw [List.cons_append, rdF, e, if_neg (by omega), if_neg (by omega), if_neg (by omega), ih (i + 1) _ (x / 128) (by omega) (by omega) (by omega), pow7]
      congr 1
      rw [show (x % 128 + 128) % 128 = x % 128 by omega, Nat.add_assoc]
      congr 1
      have : x = x % 128 + 128 * (x / 128) := by omega
      conv => rhs; rw [this, Nat.add_mul]
      congr 1
      simp only [Nat.mul_comm, Nat.mul_left_comm]
theorem rdV_back (u : Nat) (l : List UInt8) (hu : U64 u) : rdV (vint u ++ l) = (u, l, 0) := by
  have h := rdF_back 9 0 0 u l rfl (by omega) (by unfold U64 at hu; omega)
  rw [rdV, vint, h]; simp
/-- With an error there is nothing. -/
theorem rdF_err (f i u : Nat) (l : List UInt8) (h : (rdF f i u l).2.2 ≠ 0) : (rdF f i u l).1 = 0 ∧ (rdF f i u l).2.1 = [] := by
  induction f generalizing i u l with
  | zero => exact ⟨rfl, rfl⟩
  | succ f ih =>
    cases l with
    | nil => exact ⟨rfl, rfl⟩
    | cons c l =>
      rw [rdF] at h ⊢
      split
      · exact ⟨rfl, rfl⟩
      rename_i h1
      rw [if_neg h1] at h
      split
      · exact ⟨rfl, rfl⟩
      rename_i h2
      rw [if_neg h2] at h
      split
      · rename_i h3; rw [if_pos h3] at h; exact absurd rfl h
      · rename_i h3; rw [if_neg h3] at h; exact ih _ _ _ h
theorem rdV_err (l : List UInt8) (h : (rdV l).2.2 ≠ 0) : (rdV l).1 = 0 ∧ (rdV l).2.1 = [] := rdF_err 10 0 0 l h

theorem beVal_append (a : List UInt8) : ∀ b : List UInt8, beVal (a ++ b) = beVal a * 256 ^ b.length + beVal b := by
  have h : ∀ (n : Nat) (b : List UInt8), b.length = n → beVal (a ++ b) = beVal a * 256 ^ b.length + beVal b := by
    intro n
    induction n with
    | zero => intro b hb; rw [List.eq_nil_of_length_eq_zero hb]; simp [beVal]
    | succ n ih =>
      intro b hb
      have hne : b ≠ [] := by intro e; simp [e] at hb
      have h1 := ih b.dropLast (by simp [hb])
      rw [← List.dropLast_concat_getLast hne, ← List.append_assoc, beVal_snoc, h1, beVal_snoc, List.length_append, List.length_singleton, Nat.pow_succ]
      simp only [Nat.add_mul, Nat.mul_assoc, Nat.add_assoc]
  exact fun b => h _ b rfl
end Go.Proofs.YtafkbodmiblbnaaDoor
