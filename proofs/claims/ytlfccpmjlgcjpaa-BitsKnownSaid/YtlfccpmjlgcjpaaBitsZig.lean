/- The walk of BitsZig: zigzag there and back; numbers nearer to 0 have no longer varints; a varint is as short as it can be. -/
import Derived.Test.YtlfccpmjlgcjpaaWorks
namespace Go.Proofs.Ytlfccpmjlgcjpaa
open Go.RowKit
set_option linter.unusedVariables false

theorem vintF_mono (f a b : Nat) (h : a ≤ b) : (vintF f a).length ≤ (vintF f b).length := by
  induction f generalizing a b with
  | zero => exact Nat.le_refl _
  | succ f ih =>
    rw [vintF, vintF]
    split
    · split
      · exact Nat.le_refl _
      · simp
    · split
      · omega
      · simp only [List.length_cons]
        have := ih (a / 128) (b / 128) (Nat.div_le_div_right h)
        omega
theorem vint_mono {a b : Nat} (h : a ≤ b) : (vint a).length ≤ (vint b).length := vintF_mono 9 a b h
theorem vintF_size (f x : Nat) (h : x < 2 * 128 ^ f) : 1 ≤ (vintF f x).length ∧ ((vintF f x).length ≤ f → x < 128 ^ (vintF f x).length) ∧ (1 < (vintF f x).length → 128 ^ ((vintF f x).length - 1) ≤ x) := by
  induction f generalizing x with
  | zero => simp [vintF]
  | succ f ih =>
    have hps : 128 ^ (f + 1) = 128 ^ f * 128 := Nat.pow_succ ..
    rw [vintF]
    split
    · rename_i hx
      simp only [List.length_singleton]
      exact ⟨by omega, fun _ => by omega, by omega⟩
    · rename_i hx
      obtain ⟨h1, h2, h3⟩ := ih (x / 128) (by omega)
      simp only [List.length_cons]
      generalize (vintF f (x / 128)).length = k at *
      refine ⟨by omega, fun hk => ?_, fun _ => ?_⟩
      · have := h2 (by omega)
        rw [Nat.pow_succ]; omega
      · by_cases hk : 1 < k
        · have := h3 hk
          rw [show k + 1 - 1 = (k - 1) + 1 by omega, Nat.pow_succ]; omega
        · obtain rfl : k = 1 := by omega
          simp; omega
theorem vint_size (u : Nat) (h : U64 u) : ∃ k, (vint u).length = k ∧ 1 ≤ k ∧ k ≤ 10 ∧ (k < 10 → u / 2 ^ (7 * k) = 0) ∧ (1 < k → ¬ u / 2 ^ (7 * (k - 1)) = 0) := by
  obtain ⟨h1, h2, h3⟩ := vintF_size 9 u (by unfold U64 at h; omega)
  refine ⟨_, rfl, h1, vint_len u, fun hk => ?_, fun hk => ?_⟩
  · have := h2 (by unfold vint at hk; omega)
    rw [Nat.pow_mul]
    exact Nat.div_eq_of_lt this
  · have h4 := h3 hk
    rw [Nat.pow_mul]
    have : 1 ≤ u / (2 ^ 7) ^ ((vint u).length - 1) := (Nat.le_div_iff_mul_le (Nat.pow_pos (by decide))).2 (by rw [Nat.one_mul]; exact h4)
    omega


def far (n : Int) : Int := if n < 0 then wrap64 (-wrap64 (n + 1)) else n
theorem far_lt {n m : Int} (hn : I64 n) (hm : I64 m) (h : far n < far m) : (vint (zig n)).length ≤ (vint (zig m)).length := by
  apply vint_mono
  unfold I64 at *
  unfold far wrap64 at h
  unfold zig
  split at h <;> split at h <;> split <;> split <;> omega

set_option maxHeartbeats 1000000 in
theorem zig_walk_nn (n : Int) (u : Nat) (m : Int) (w : World) (hn : I64 n) (hu : U64 u) (hm : I64 m) (h1 : n < 0) (h2 : m < 0) :
    Calls Try.prog 5 #[.int .i64 n, .int .u64 u, .int .i64 m] w fun e w' => e = .returned (.bool true) ∧ Below w.heap.size w w' := by
  have hfar := far_lt hn hm
  rw [show far n = wrap64 (-wrap64 (n + 1)) from if_pos h1, show far m = wrap64 (-wrap64 (m + 1)) from if_pos h2] at hfar
  obtain ⟨k, hk, hk1, hk10, hk2, hk3⟩ := vint_size u hu
  have Hfar := Lib.hid hfar
  have Hk := Lib.hid hk
  have Hk2 := Lib.hid hk2
  have Hk3 := Lib.hid hk3
  clear hfar hk hk2 hk3
  by_cases hlt : wrap64 (-wrap64 (n + 1)) < wrap64 (-wrap64 (m + 1))
  · have hle : ¬ (vint (zig m)).length < (vint (zig n)).length := by have := Hfar.out hlt; omega
    go_enter Try.func5, Try.ntmps5
    go_wp2_with fail
    refine (zig_any n _ hn).mono ?_
    rintro r0 w3 ⟨rfl, rfl⟩
    go_wp2_with fail
    refine (zag_any (zig n) _ (zig_u64 hn)).mono ?_
    rw [zag_zig]
    rintro r0 w3 ⟨rfl, rfl⟩
    go_wp2_with fail
    refine (zag_any u _ hu).mono ?_
    rintro r0 w3 ⟨rfl, rfl⟩
    go_wp2_with fail
    refine (zig_any (zag u) _ (zag_i64 hu)).mono ?_
    rw [zig_zag]
    rintro r0 w3 ⟨rfl, rfl⟩
    go_wp2_with fail
    refine (int_any _ [] n _ (sl_nil _) hn (by decide)).mono ?_
    rintro r0 w3 ⟨⟨v3, rfl, ho3⟩, hb3⟩
    rw [List.nil_append] at ho3
    obtain ⟨a3, c3, rfl⟩ := ho3.sl.len
    rw [bv_length]
    clear ho3
    go_wp2_with fail
    refine (int_any _ [] m _ (sl_nil _) hm (by decide)).mono ?_
    rintro r0 w4 ⟨⟨v4, rfl, ho4⟩, hb4⟩
    rw [List.nil_append] at ho4
    obtain ⟨a4, c4, rfl⟩ := ho4.sl.len
    rw [bv_length]
    clear ho4
    have hb := below_step hb3 hb4
    go_wp2_with fail
    refine (varint_any _ [] u _ (sl_nil _) hu (by decide)).mono ?_
    rintro r0 w5 ⟨⟨v5, rfl, ho5⟩, hb5⟩
    rw [List.nil_append] at ho5
    obtain ⟨a5, c5, rfl⟩ := ho5.sl.len
    rw [bv_length, Hk.out]
    clear ho5
    have hb := below_step hb hb5
    have hk : (k = 1) ∨ (1 < k ∧ k < 10) ∨ k = 10 := by omega
    clear hb3 hb4 hb5 hle hlt h1 h2
    rcases hk with hk | ⟨hka, hkb⟩ | hk
    · subst hk
      have q1 : (u : Int) / 128 = 0 := by have := Hk2.out (by omega); simp at this; omega
      clear Hk2 Hk3
      go_wp2_with (go_at_call 27; refine (works_any _).mono ?_; rintro r0 w6 ⟨rfl, hb6⟩)
      go_ret
      exact ⟨rfl, below_step hb hb6⟩
    · have q1 : (u : Int) / 2 ^ (7 * k) = 0 := by exact_mod_cast Hk2.out hkb
      have q2 : ((u : Int) / 2 ^ (7 * (k - 1)) == 0) = false := by rw [beq_eq_false_iff_ne]; exact_mod_cast Hk3.out hka
      clear Hk2 Hk3
      go_wp2_with (go_at_call 27; refine (works_any _).mono ?_; rintro r0 w6 ⟨rfl, hb6⟩)
      go_ret
      exact ⟨rfl, below_step hb hb6⟩
    · subst hk
      have q2 : ((u : Int) / 9223372036854775808 == 0) = false := by rw [beq_eq_false_iff_ne]; have := Hk3.out (by omega); simp at this; omega
      clear Hk2 Hk3
      go_wp2_with (go_at_call 27; refine (works_any _).mono ?_; rintro r0 w6 ⟨rfl, hb6⟩)
      go_ret
      exact ⟨rfl, below_step hb hb6⟩
  · have hle : True := trivial
    go_enter Try.func5, Try.ntmps5
    go_wp2_with fail
    refine (zig_any n _ hn).mono ?_
    rintro r0 w3 ⟨rfl, rfl⟩
    go_wp2_with fail
    refine (zag_any (zig n) _ (zig_u64 hn)).mono ?_
    rw [zag_zig]
    rintro r0 w3 ⟨rfl, rfl⟩
    go_wp2_with fail
    refine (zag_any u _ hu).mono ?_
    rintro r0 w3 ⟨rfl, rfl⟩
    go_wp2_with fail
    refine (zig_any (zag u) _ (zag_i64 hu)).mono ?_
    rw [zig_zag]
    rintro r0 w3 ⟨rfl, rfl⟩
    go_wp2_with fail
    refine (varint_any _ [] u _ (sl_nil _) hu (by decide)).mono ?_
    rintro r0 w5 ⟨⟨v5, rfl, ho5⟩, hb⟩
    rw [List.nil_append] at ho5
    obtain ⟨a5, c5, rfl⟩ := ho5.sl.len
    rw [bv_length, Hk.out]
    clear ho5
    have hk : (k = 1) ∨ (1 < k ∧ k < 10) ∨ k = 10 := by omega
    clear hlt h1 h2
    rcases hk with hk | ⟨hka, hkb⟩ | hk
    · subst hk
      have q1 : (u : Int) / 128 = 0 := by have := Hk2.out (by omega); simp at this; omega
      clear Hk2 Hk3
      go_wp2_with (go_at_call 27; refine (works_any _).mono ?_; rintro r0 w6 ⟨rfl, hb6⟩)
      go_ret
      exact ⟨rfl, below_step hb hb6⟩
    · have q1 : (u : Int) / 2 ^ (7 * k) = 0 := by exact_mod_cast Hk2.out hkb
      have q2 : ((u : Int) / 2 ^ (7 * (k - 1)) == 0) = false := by rw [beq_eq_false_iff_ne]; exact_mod_cast Hk3.out hka
      clear Hk2 Hk3
      go_wp2_with (go_at_call 27; refine (works_any _).mono ?_; rintro r0 w6 ⟨rfl, hb6⟩)
      go_ret
      exact ⟨rfl, below_step hb hb6⟩
    · subst hk
      have q2 : ((u : Int) / 9223372036854775808 == 0) = false := by rw [beq_eq_false_iff_ne]; have := Hk3.out (by omega); simp at this; omega
      clear Hk2 Hk3
      go_wp2_with (go_at_call 27; refine (works_any _).mono ?_; rintro r0 w6 ⟨rfl, hb6⟩)
      go_ret
      exact ⟨rfl, below_step hb hb6⟩

set_option maxHeartbeats 1000000 in
theorem zig_walk_np (n : Int) (u : Nat) (m : Int) (w : World) (hn : I64 n) (hu : U64 u) (hm : I64 m) (h1 : n < 0) (h2 : ¬ m < 0) :
    Calls Try.prog 5 #[.int .i64 n, .int .u64 u, .int .i64 m] w fun e w' => e = .returned (.bool true) ∧ Below w.heap.size w w' := by
  have hfar := far_lt hn hm
  rw [show far n = wrap64 (-wrap64 (n + 1)) from if_pos h1, show far m = m from if_neg h2] at hfar
  obtain ⟨k, hk, hk1, hk10, hk2, hk3⟩ := vint_size u hu
  have Hfar := Lib.hid hfar
  have Hk := Lib.hid hk
  have Hk2 := Lib.hid hk2
  have Hk3 := Lib.hid hk3
  clear hfar hk hk2 hk3
  by_cases hlt : wrap64 (-wrap64 (n + 1)) < m
  · have hle : ¬ (vint (zig m)).length < (vint (zig n)).length := by have := Hfar.out hlt; omega
    go_enter Try.func5, Try.ntmps5
    go_wp2_with fail
    refine (zig_any n _ hn).mono ?_
    rintro r0 w3 ⟨rfl, rfl⟩
    go_wp2_with fail
    refine (zag_any (zig n) _ (zig_u64 hn)).mono ?_
    rw [zag_zig]
    rintro r0 w3 ⟨rfl, rfl⟩
    go_wp2_with fail
    refine (zag_any u _ hu).mono ?_
    rintro r0 w3 ⟨rfl, rfl⟩
    go_wp2_with fail
    refine (zig_any (zag u) _ (zag_i64 hu)).mono ?_
    rw [zig_zag]
    rintro r0 w3 ⟨rfl, rfl⟩
    go_wp2_with fail
    refine (int_any _ [] n _ (sl_nil _) hn (by decide)).mono ?_
    rintro r0 w3 ⟨⟨v3, rfl, ho3⟩, hb3⟩
    rw [List.nil_append] at ho3
    obtain ⟨a3, c3, rfl⟩ := ho3.sl.len
    rw [bv_length]
    clear ho3
    go_wp2_with fail
    refine (int_any _ [] m _ (sl_nil _) hm (by decide)).mono ?_
    rintro r0 w4 ⟨⟨v4, rfl, ho4⟩, hb4⟩
    rw [List.nil_append] at ho4
    obtain ⟨a4, c4, rfl⟩ := ho4.sl.len
    rw [bv_length]
    clear ho4
    have hb := below_step hb3 hb4
    go_wp2_with fail
    refine (varint_any _ [] u _ (sl_nil _) hu (by decide)).mono ?_
    rintro r0 w5 ⟨⟨v5, rfl, ho5⟩, hb5⟩
    rw [List.nil_append] at ho5
    obtain ⟨a5, c5, rfl⟩ := ho5.sl.len
    rw [bv_length, Hk.out]
    clear ho5
    have hb := below_step hb hb5
    have hk : (k = 1) ∨ (1 < k ∧ k < 10) ∨ k = 10 := by omega
    clear hb3 hb4 hb5 hle hlt h1 h2
    rcases hk with hk | ⟨hka, hkb⟩ | hk
    · subst hk
      have q1 : (u : Int) / 128 = 0 := by have := Hk2.out (by omega); simp at this; omega
      clear Hk2 Hk3
      go_wp2_with (go_at_call 27; refine (works_any _).mono ?_; rintro r0 w6 ⟨rfl, hb6⟩)
      go_ret
      exact ⟨rfl, below_step hb hb6⟩
    · have q1 : (u : Int) / 2 ^ (7 * k) = 0 := by exact_mod_cast Hk2.out hkb
      have q2 : ((u : Int) / 2 ^ (7 * (k - 1)) == 0) = false := by rw [beq_eq_false_iff_ne]; exact_mod_cast Hk3.out hka
      clear Hk2 Hk3
      go_wp2_with (go_at_call 27; refine (works_any _).mono ?_; rintro r0 w6 ⟨rfl, hb6⟩)
      go_ret
      exact ⟨rfl, below_step hb hb6⟩
    · subst hk
      have q2 : ((u : Int) / 9223372036854775808 == 0) = false := by rw [beq_eq_false_iff_ne]; have := Hk3.out (by omega); simp at this; omega
      clear Hk2 Hk3
      go_wp2_with (go_at_call 27; refine (works_any _).mono ?_; rintro r0 w6 ⟨rfl, hb6⟩)
      go_ret
      exact ⟨rfl, below_step hb hb6⟩
  · have hle : True := trivial
    go_enter Try.func5, Try.ntmps5
    go_wp2_with fail
    refine (zig_any n _ hn).mono ?_
    rintro r0 w3 ⟨rfl, rfl⟩
    go_wp2_with fail
    refine (zag_any (zig n) _ (zig_u64 hn)).mono ?_
    rw [zag_zig]
    rintro r0 w3 ⟨rfl, rfl⟩
    go_wp2_with fail
    refine (zag_any u _ hu).mono ?_
    rintro r0 w3 ⟨rfl, rfl⟩
    go_wp2_with fail
    refine (zig_any (zag u) _ (zag_i64 hu)).mono ?_
    rw [zig_zag]
    rintro r0 w3 ⟨rfl, rfl⟩
    go_wp2_with fail
    refine (varint_any _ [] u _ (sl_nil _) hu (by decide)).mono ?_
    rintro r0 w5 ⟨⟨v5, rfl, ho5⟩, hb⟩
    rw [List.nil_append] at ho5
    obtain ⟨a5, c5, rfl⟩ := ho5.sl.len
    rw [bv_length, Hk.out]
    clear ho5
    have hk : (k = 1) ∨ (1 < k ∧ k < 10) ∨ k = 10 := by omega
    clear hlt h1 h2
    rcases hk with hk | ⟨hka, hkb⟩ | hk
    · subst hk
      have q1 : (u : Int) / 128 = 0 := by have := Hk2.out (by omega); simp at this; omega
      clear Hk2 Hk3
      go_wp2_with (go_at_call 27; refine (works_any _).mono ?_; rintro r0 w6 ⟨rfl, hb6⟩)
      go_ret
      exact ⟨rfl, below_step hb hb6⟩
    · have q1 : (u : Int) / 2 ^ (7 * k) = 0 := by exact_mod_cast Hk2.out hkb
      have q2 : ((u : Int) / 2 ^ (7 * (k - 1)) == 0) = false := by rw [beq_eq_false_iff_ne]; exact_mod_cast Hk3.out hka
      clear Hk2 Hk3
      go_wp2_with (go_at_call 27; refine (works_any _).mono ?_; rintro r0 w6 ⟨rfl, hb6⟩)
      go_ret
      exact ⟨rfl, below_step hb hb6⟩
    · subst hk
      have q2 : ((u : Int) / 9223372036854775808 == 0) = false := by rw [beq_eq_false_iff_ne]; have := Hk3.out (by omega); simp at this; omega
      clear Hk2 Hk3
      go_wp2_with (go_at_call 27; refine (works_any _).mono ?_; rintro r0 w6 ⟨rfl, hb6⟩)
      go_ret
      exact ⟨rfl, below_step hb hb6⟩

set_option maxHeartbeats 1000000 in
theorem zig_walk_pn (n : Int) (u : Nat) (m : Int) (w : World) (hn : I64 n) (hu : U64 u) (hm : I64 m) (h1 : ¬ n < 0) (h2 : m < 0) :
    Calls Try.prog 5 #[.int .i64 n, .int .u64 u, .int .i64 m] w fun e w' => e = .returned (.bool true) ∧ Below w.heap.size w w' := by
  have hfar := far_lt hn hm
  rw [show far n = n from if_neg h1, show far m = wrap64 (-wrap64 (m + 1)) from if_pos h2] at hfar
  obtain ⟨k, hk, hk1, hk10, hk2, hk3⟩ := vint_size u hu
  have Hfar := Lib.hid hfar
  have Hk := Lib.hid hk
  have Hk2 := Lib.hid hk2
  have Hk3 := Lib.hid hk3
  clear hfar hk hk2 hk3
  by_cases hlt : n < wrap64 (-wrap64 (m + 1))
  · have hle : ¬ (vint (zig m)).length < (vint (zig n)).length := by have := Hfar.out hlt; omega
    go_enter Try.func5, Try.ntmps5
    go_wp2_with fail
    refine (zig_any n _ hn).mono ?_
    rintro r0 w3 ⟨rfl, rfl⟩
    go_wp2_with fail
    refine (zag_any (zig n) _ (zig_u64 hn)).mono ?_
    rw [zag_zig]
    rintro r0 w3 ⟨rfl, rfl⟩
    go_wp2_with fail
    refine (zag_any u _ hu).mono ?_
    rintro r0 w3 ⟨rfl, rfl⟩
    go_wp2_with fail
    refine (zig_any (zag u) _ (zag_i64 hu)).mono ?_
    rw [zig_zag]
    rintro r0 w3 ⟨rfl, rfl⟩
    go_wp2_with fail
    refine (int_any _ [] n _ (sl_nil _) hn (by decide)).mono ?_
    rintro r0 w3 ⟨⟨v3, rfl, ho3⟩, hb3⟩
    rw [List.nil_append] at ho3
    obtain ⟨a3, c3, rfl⟩ := ho3.sl.len
    rw [bv_length]
    clear ho3
    go_wp2_with fail
    refine (int_any _ [] m _ (sl_nil _) hm (by decide)).mono ?_
    rintro r0 w4 ⟨⟨v4, rfl, ho4⟩, hb4⟩
    rw [List.nil_append] at ho4
    obtain ⟨a4, c4, rfl⟩ := ho4.sl.len
    rw [bv_length]
    clear ho4
    have hb := below_step hb3 hb4
    go_wp2_with fail
    refine (varint_any _ [] u _ (sl_nil _) hu (by decide)).mono ?_
    rintro r0 w5 ⟨⟨v5, rfl, ho5⟩, hb5⟩
    rw [List.nil_append] at ho5
    obtain ⟨a5, c5, rfl⟩ := ho5.sl.len
    rw [bv_length, Hk.out]
    clear ho5
    have hb := below_step hb hb5
    have hk : (k = 1) ∨ (1 < k ∧ k < 10) ∨ k = 10 := by omega
    clear hb3 hb4 hb5 hle hlt h1 h2
    rcases hk with hk | ⟨hka, hkb⟩ | hk
    · subst hk
      have q1 : (u : Int) / 128 = 0 := by have := Hk2.out (by omega); simp at this; omega
      clear Hk2 Hk3
      go_wp2_with (go_at_call 27; refine (works_any _).mono ?_; rintro r0 w6 ⟨rfl, hb6⟩)
      go_ret
      exact ⟨rfl, below_step hb hb6⟩
    · have q1 : (u : Int) / 2 ^ (7 * k) = 0 := by exact_mod_cast Hk2.out hkb
      have q2 : ((u : Int) / 2 ^ (7 * (k - 1)) == 0) = false := by rw [beq_eq_false_iff_ne]; exact_mod_cast Hk3.out hka
      clear Hk2 Hk3
      go_wp2_with (go_at_call 27; refine (works_any _).mono ?_; rintro r0 w6 ⟨rfl, hb6⟩)
      go_ret
      exact ⟨rfl, below_step hb hb6⟩
    · subst hk
      have q2 : ((u : Int) / 9223372036854775808 == 0) = false := by rw [beq_eq_false_iff_ne]; have := Hk3.out (by omega); simp at this; omega
      clear Hk2 Hk3
      go_wp2_with (go_at_call 27; refine (works_any _).mono ?_; rintro r0 w6 ⟨rfl, hb6⟩)
      go_ret
      exact ⟨rfl, below_step hb hb6⟩
  · have hle : True := trivial
    go_enter Try.func5, Try.ntmps5
    go_wp2_with fail
    refine (zig_any n _ hn).mono ?_
    rintro r0 w3 ⟨rfl, rfl⟩
    go_wp2_with fail
    refine (zag_any (zig n) _ (zig_u64 hn)).mono ?_
    rw [zag_zig]
    rintro r0 w3 ⟨rfl, rfl⟩
    go_wp2_with fail
    refine (zag_any u _ hu).mono ?_
    rintro r0 w3 ⟨rfl, rfl⟩
    go_wp2_with fail
    refine (zig_any (zag u) _ (zag_i64 hu)).mono ?_
    rw [zig_zag]
    rintro r0 w3 ⟨rfl, rfl⟩
    go_wp2_with fail
    refine (varint_any _ [] u _ (sl_nil _) hu (by decide)).mono ?_
    rintro r0 w5 ⟨⟨v5, rfl, ho5⟩, hb⟩
    rw [List.nil_append] at ho5
    obtain ⟨a5, c5, rfl⟩ := ho5.sl.len
    rw [bv_length, Hk.out]
    clear ho5
    have hk : (k = 1) ∨ (1 < k ∧ k < 10) ∨ k = 10 := by omega
    clear hlt h1 h2
    rcases hk with hk | ⟨hka, hkb⟩ | hk
    · subst hk
      have q1 : (u : Int) / 128 = 0 := by have := Hk2.out (by omega); simp at this; omega
      clear Hk2 Hk3
      go_wp2_with (go_at_call 27; refine (works_any _).mono ?_; rintro r0 w6 ⟨rfl, hb6⟩)
      go_ret
      exact ⟨rfl, below_step hb hb6⟩
    · have q1 : (u : Int) / 2 ^ (7 * k) = 0 := by exact_mod_cast Hk2.out hkb
      have q2 : ((u : Int) / 2 ^ (7 * (k - 1)) == 0) = false := by rw [beq_eq_false_iff_ne]; exact_mod_cast Hk3.out hka
      clear Hk2 Hk3
      go_wp2_with (go_at_call 27; refine (works_any _).mono ?_; rintro r0 w6 ⟨rfl, hb6⟩)
      go_ret
      exact ⟨rfl, below_step hb hb6⟩
    · subst hk
      have q2 : ((u : Int) / 9223372036854775808 == 0) = false := by rw [beq_eq_false_iff_ne]; have := Hk3.out (by omega); simp at this; omega
      clear Hk2 Hk3
      go_wp2_with (go_at_call 27; refine (works_any _).mono ?_; rintro r0 w6 ⟨rfl, hb6⟩)
      go_ret
      exact ⟨rfl, below_step hb hb6⟩

set_option maxHeartbeats 1000000 in
theorem zig_walk_pp (n : Int) (u : Nat) (m : Int) (w : World) (hn : I64 n) (hu : U64 u) (hm : I64 m) (h1 : ¬ n < 0) (h2 : ¬ m < 0) :
    Calls Try.prog 5 #[.int .i64 n, .int .u64 u, .int .i64 m] w fun e w' => e = .returned (.bool true) ∧ Below w.heap.size w w' := by
  have hfar := far_lt hn hm
  rw [show far n = n from if_neg h1, show far m = m from if_neg h2] at hfar
  obtain ⟨k, hk, hk1, hk10, hk2, hk3⟩ := vint_size u hu
  have Hfar := Lib.hid hfar
  have Hk := Lib.hid hk
  have Hk2 := Lib.hid hk2
  have Hk3 := Lib.hid hk3
  clear hfar hk hk2 hk3
  by_cases hlt : n < m
  · have hle : ¬ (vint (zig m)).length < (vint (zig n)).length := by have := Hfar.out hlt; omega
    go_enter Try.func5, Try.ntmps5
    go_wp2_with fail
    refine (zig_any n _ hn).mono ?_
    rintro r0 w3 ⟨rfl, rfl⟩
    go_wp2_with fail
    refine (zag_any (zig n) _ (zig_u64 hn)).mono ?_
    rw [zag_zig]
    rintro r0 w3 ⟨rfl, rfl⟩
    go_wp2_with fail
    refine (zag_any u _ hu).mono ?_
    rintro r0 w3 ⟨rfl, rfl⟩
    go_wp2_with fail
    refine (zig_any (zag u) _ (zag_i64 hu)).mono ?_
    rw [zig_zag]
    rintro r0 w3 ⟨rfl, rfl⟩
    go_wp2_with fail
    refine (int_any _ [] n _ (sl_nil _) hn (by decide)).mono ?_
    rintro r0 w3 ⟨⟨v3, rfl, ho3⟩, hb3⟩
    rw [List.nil_append] at ho3
    obtain ⟨a3, c3, rfl⟩ := ho3.sl.len
    rw [bv_length]
    clear ho3
    go_wp2_with fail
    refine (int_any _ [] m _ (sl_nil _) hm (by decide)).mono ?_
    rintro r0 w4 ⟨⟨v4, rfl, ho4⟩, hb4⟩
    rw [List.nil_append] at ho4
    obtain ⟨a4, c4, rfl⟩ := ho4.sl.len
    rw [bv_length]
    clear ho4
    have hb := below_step hb3 hb4
    go_wp2_with fail
    refine (varint_any _ [] u _ (sl_nil _) hu (by decide)).mono ?_
    rintro r0 w5 ⟨⟨v5, rfl, ho5⟩, hb5⟩
    rw [List.nil_append] at ho5
    obtain ⟨a5, c5, rfl⟩ := ho5.sl.len
    rw [bv_length, Hk.out]
    clear ho5
    have hb := below_step hb hb5
    have hk : (k = 1) ∨ (1 < k ∧ k < 10) ∨ k = 10 := by omega
    clear hb3 hb4 hb5 hle hlt h1 h2
    rcases hk with hk | ⟨hka, hkb⟩ | hk
    · subst hk
      have q1 : (u : Int) / 128 = 0 := by have := Hk2.out (by omega); simp at this; omega
      clear Hk2 Hk3
      go_wp2_with (go_at_call 27; refine (works_any _).mono ?_; rintro r0 w6 ⟨rfl, hb6⟩)
      go_ret
      exact ⟨rfl, below_step hb hb6⟩
    · have q1 : (u : Int) / 2 ^ (7 * k) = 0 := by exact_mod_cast Hk2.out hkb
      have q2 : ((u : Int) / 2 ^ (7 * (k - 1)) == 0) = false := by rw [beq_eq_false_iff_ne]; exact_mod_cast Hk3.out hka
      clear Hk2 Hk3
      go_wp2_with (go_at_call 27; refine (works_any _).mono ?_; rintro r0 w6 ⟨rfl, hb6⟩)
      go_ret
      exact ⟨rfl, below_step hb hb6⟩
    · subst hk
      have q2 : ((u : Int) / 9223372036854775808 == 0) = false := by rw [beq_eq_false_iff_ne]; have := Hk3.out (by omega); simp at this; omega
      clear Hk2 Hk3
      go_wp2_with (go_at_call 27; refine (works_any _).mono ?_; rintro r0 w6 ⟨rfl, hb6⟩)
      go_ret
      exact ⟨rfl, below_step hb hb6⟩
  · have hle : True := trivial
    go_enter Try.func5, Try.ntmps5
    go_wp2_with fail
    refine (zig_any n _ hn).mono ?_
    rintro r0 w3 ⟨rfl, rfl⟩
    go_wp2_with fail
    refine (zag_any (zig n) _ (zig_u64 hn)).mono ?_
    rw [zag_zig]
    rintro r0 w3 ⟨rfl, rfl⟩
    go_wp2_with fail
    refine (zag_any u _ hu).mono ?_
    rintro r0 w3 ⟨rfl, rfl⟩
    go_wp2_with fail
    refine (zig_any (zag u) _ (zag_i64 hu)).mono ?_
    rw [zig_zag]
    rintro r0 w3 ⟨rfl, rfl⟩
    go_wp2_with fail
    refine (varint_any _ [] u _ (sl_nil _) hu (by decide)).mono ?_
    rintro r0 w5 ⟨⟨v5, rfl, ho5⟩, hb⟩
    rw [List.nil_append] at ho5
    obtain ⟨a5, c5, rfl⟩ := ho5.sl.len
    rw [bv_length, Hk.out]
    clear ho5
    have hk : (k = 1) ∨ (1 < k ∧ k < 10) ∨ k = 10 := by omega
    clear hlt h1 h2
    rcases hk with hk | ⟨hka, hkb⟩ | hk
    · subst hk
      have q1 : (u : Int) / 128 = 0 := by have := Hk2.out (by omega); simp at this; omega
      clear Hk2 Hk3
      go_wp2_with (go_at_call 27; refine (works_any _).mono ?_; rintro r0 w6 ⟨rfl, hb6⟩)
      go_ret
      exact ⟨rfl, below_step hb hb6⟩
    · have q1 : (u : Int) / 2 ^ (7 * k) = 0 := by exact_mod_cast Hk2.out hkb
      have q2 : ((u : Int) / 2 ^ (7 * (k - 1)) == 0) = false := by rw [beq_eq_false_iff_ne]; exact_mod_cast Hk3.out hka
      clear Hk2 Hk3
      go_wp2_with (go_at_call 27; refine (works_any _).mono ?_; rintro r0 w6 ⟨rfl, hb6⟩)
      go_ret
      exact ⟨rfl, below_step hb hb6⟩
    · subst hk
      have q2 : ((u : Int) / 9223372036854775808 == 0) = false := by rw [beq_eq_false_iff_ne]; have := Hk3.out (by omega); simp at this; omega
      clear Hk2 Hk3
      go_wp2_with (go_at_call 27; refine (works_any _).mono ?_; rintro r0 w6 ⟨rfl, hb6⟩)
      go_ret
      exact ⟨rfl, below_step hb hb6⟩

theorem zig_walk (n : Int) (u : Nat) (m : Int) (w : World) (hn : I64 n) (hu : U64 u) (hm : I64 m) :
    Calls Try.prog 5 #[.int .i64 n, .int .u64 u, .int .i64 m] w fun e w' => e = .returned (.bool true) ∧ Below w.heap.size w w' := by
  by_cases h1 : n < 0 <;> by_cases h2 : m < 0
  · exact zig_walk_nn n u m w hn hu hm h1 h2
  · exact zig_walk_np n u m w hn hu hm h1 h2
  · exact zig_walk_pn n u m w hn hu hm h1 h2
  · exact zig_walk_pp n u m w hn hu hm h1 h2
end Go.Proofs.Ytlfccpmjlgcjpaa
