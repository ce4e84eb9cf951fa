/- The walk of BitsTurns: rotations and reversals there and back. -/
import Derived.Test.YtnepbjcegbabnaaWorks
import Derived.Test.YtnepbjcegbabnaaBring
import Derived.Test.YtnepbjcegbabnaaTurnMath
import Derived.Deep.QuietTactic
import Derived.BigQuiet
import Derived.Deep.RegionWith
namespace Go.Proofs.Ytnepbjcegbabnaa
open Go.RowKit
set_option linter.unusedVariables false
def K64 (k : Int) : Prop := -9223372036854775808 < k ∧ k < 9223372036854775808
set_option maxHeartbeats 1000000 in
theorem turns_walk (n : Nat) (k : Int) (w : World) (hn : U64 n) (hk : K64 k) (hkb : (k == -9223372036854775808) = false) (hneg : wrap64 (-k) = -k) :
    Calls Try.prog 7 #[.int .u64 n, .int .i64 k] w fun e w' => e = .returned (.bool true) ∧ Below w.heap.size w w' := by
  have hk1 : I64 k := by unfold K64 at hk; unfold I64; omega
  have hk2 : I64 (-k) := by unfold K64 at hk; unfold I64; omega
  go_enter Try.func7, Try.ntmps7
  go_wp2_with fail
  refine (rotate_any n k _ hn hk1).mono ?_
  rintro r0 w1 ⟨rfl, rfl⟩
  go_wp2_with fail
  refine (rotate_any (rot n k) (-k) _ (rotl_u64 _ _ hn) hk2).mono ?_
  rw [rot_back n k hn]
  rintro r0 w1 ⟨rfl, rfl⟩
  go_wp2_with fail
  refine (reverse_any n 64 _ hn).mono ?_
  rintro r0 w1 ⟨rfl, rfl⟩
  go_wp2_with fail
  refine (reverse_any (rev n 64) 64 _ (rev_u64 _ _)).mono ?_
  rw [rev_rev n hn]
  rintro r0 w1 ⟨rfl, rfl⟩
  go_wp2_with fail
  refine (rotate_any n 64 _ hn (by unfold I64; omega)).mono ?_
  rw [rot_64 n hn]
  rintro r0 w1 ⟨rfl, rfl⟩
  go_wp2_with fail
  refine (bring_any k 65 _ (by unfold Sm; omega)).mono ?_
  rintro r0 w1 ⟨rfl, rfl⟩
  obtain ⟨v, hv, hv65⟩ : ∃ v : Nat, k % 65 = v ∧ v < 65 := ⟨(k % 65).toNat, by omega, by omega⟩
  rw [hv]
  clear hv
  go_wp2_with fail
  refine (reverse_any n v _ hn).mono ?_
  rintro r0 w1 ⟨rfl, rfl⟩
  go_wp2_with fail
  go_loopw [7] (fun i wr => ∃ j : Nat, j ≤ 64 ∧ i = .int .i64 j ∧ Below w.heap.size w wr) (fun i _ => 64 - (intOf i).toNat)
  case atStart => exact ⟨0, by omega, rfl, Below.refl _ _⟩
  case round =>
    obtain ⟨j, hj, rfl, hb⟩ := hrel
    by_cases hj64 : j < 64
    · obtain ⟨q, hq, hq64⟩ : ∃ q : Nat, k % 64 = q ∧ q < 64 := ⟨(k % 64).toNat, by omega, by omega⟩
      have hrb : ((bits BinOp.and IntKind.u64 (((rot n k : Nat) : Int) / 2 ^ ((j + q) % 64)) 1) != (bits BinOp.and IntKind.u64 ((n : Int) / 2 ^ j) 1)) = false := by
        rw [bit_at (rot n k) _ (rotl_u64 _ _ hn), bit_at n _ hn, bne_eq_false_iff_eq]
        have := rotl_at n q j hn hq64 hj64
        unfold rot
        rw [show (k % 64).toNat = q by omega, this]
      have b1 : ∀ wx : World, Calls Try.prog 36 #[.int .i64 k, .int .i64 64] wx fun e w' => e = .returned (.int .i64 (q : Nat)) ∧ w' = wx := fun wx => by
        have := bring_any k 64 wx (by unfold Sm; omega)
        rw [hq] at this; exact this.mono fun _ _ h => ⟨h.1, h.2.symm⟩
      have b2 : ∀ wx : World, Calls Try.prog 36 #[.int .i64 ((j : Int) + q), .int .i64 64] wx fun e w' => e = .returned (.int .i64 (((j + q) % 64 : Nat) : Int)) ∧ w' = wx := fun wx => by
        have := bring_any ((j : Int) + q) 64 wx (by unfold Sm; omega)
        rw [show ((j : Int) + q) % 64 = (((j + q) % 64 : Nat) : Int) by omega] at this; exact this.mono fun _ _ h => ⟨h.1, h.2.symm⟩
      have r1 : ∀ wx : World, Calls Try.prog 23 #[.int .u64 n, .int .i64 k] wx fun e w' => e = .returned (.int .u64 (rot n k : Nat)) ∧ w' = wx := fun wx => (rotate_any n k wx hn hk1).mono fun _ _ h => ⟨h.1, h.2.symm⟩
      have hs : IntKind.i64.wrap ((j : Int) + q) = (j : Int) + q := IntWalk.i64_in _ (by omega)
      have B1 := Lib.hid b1
      have B2 := Lib.hid b2
      have R1 := Lib.hid r1
      clear b1 b2 r1 hq
      have hp64 : (j + q) % 64 ≤ 64 := by omega
      generalize (j + q) % 64 = p at *
      rw [← Nat.min_eq_left hp64] at hrb
      clear hp64
      by_cases hjv : j < v
      · have hvb : ((bits BinOp.and IntKind.u64 (((rev n v : Nat) : Int) / 2 ^ j) 1) != (bits BinOp.and IntKind.u64 ((n : Int) / 2 ^ (v - 1 - j)) 1)) = false := by
          rw [bit_at (rev n v) _ (rev_u64 _ _), bit_at n _ hn, bne_eq_false_iff_eq, rev_bit n v j (by omega)]
          simp [hjv]
        clear hkb hneg
        go_wp2_with fail
        go_quiet (first | (go_at_call 23; exact Calls.quiet_of_same (R1.out _)) | (go_at_call_of 36 (Value.int .i64 k); exact Calls.quiet_of_same (B1.out _)) | (go_at_call 36; exact Calls.quiet_of_same (B2.out _)))
        clear hs
        go_wp2_with fail
        go_roundw
        case rel => exact ⟨j + 1, by omega, by go_num, below_drewN hb _⟩
        case measure => simp [intOf]; omega
      · have hvb : ((bits BinOp.and IntKind.u64 (((rev n v : Nat) : Int) / 2 ^ j) 1) != 0) = false := by
          rw [bit_at (rev n v) _ (rev_u64 _ _), bne_eq_false_iff_eq, rev_bit n v j (by omega)]
          simp [hjv]
        clear hkb hneg
        go_wp2_with fail
        go_quiet (first | (go_at_call 23; exact Calls.quiet_of_same (R1.out _)) | (go_at_call_of 36 (Value.int .i64 k); exact Calls.quiet_of_same (B1.out _)) | (go_at_call 36; exact Calls.quiet_of_same (B2.out _)))
        clear hs
        go_wp2_with fail
        go_roundw
        case rel => exact ⟨j + 1, by omega, by go_num, below_drewN hb _⟩
        case measure => simp [intOf]; omega
    · go_wp2_with (go_at_call 27; refine (works_any _).mono ?_; rintro r0 w6 ⟨rfl, hb6⟩)
      go_ret
      exact ⟨rfl, below_step hb hb6⟩
set_option maxHeartbeats 1000000 in
theorem turns_walk_min (n : Nat) (w : World) (hn : U64 n) :
    Calls Try.prog 7 #[.int .u64 n, .int .i64 (-9223372036854775808)] w fun e w' => e = .returned (.bool true) ∧ Below w.heap.size w w' := by
  have hk1 : I64 0 := by unfold I64; omega
  go_enter Try.func7, Try.ntmps7
  go_wp2_with fail
  refine (rotate_any n 0 _ hn hk1).mono ?_
  rintro r0 w1 ⟨rfl, rfl⟩
  go_wp2_with fail
  refine (rotate_any (rot n 0) 0 _ (rotl_u64 _ _ hn) hk1).mono ?_
  rw [show rot (rot n 0) 0 = n from rot_back n 0 hn]
  rintro r0 w1 ⟨rfl, rfl⟩
  go_wp2_with fail
  refine (reverse_any n 64 _ hn).mono ?_
  rintro r0 w1 ⟨rfl, rfl⟩
  go_wp2_with fail
  refine (reverse_any (rev n 64) 64 _ (rev_u64 _ _)).mono ?_
  rw [rev_rev n hn]
  rintro r0 w1 ⟨rfl, rfl⟩
  go_wp2_with fail
  refine (rotate_any n 64 _ hn (by unfold I64; omega)).mono ?_
  rw [rot_64 n hn]
  rintro r0 w1 ⟨rfl, rfl⟩
  go_wp2_with fail
  refine (bring_any 0 65 _ (by unfold Sm; omega)).mono ?_
  rintro r0 w1 ⟨rfl, rfl⟩
  obtain ⟨v, hv, hv65⟩ : ∃ v : Nat, (0 : Int) % 65 = v ∧ v < 65 := ⟨0, rfl, by omega⟩
  rw [hv]
  clear hv
  go_wp2_with fail
  refine (reverse_any n v _ hn).mono ?_
  rintro r0 w1 ⟨rfl, rfl⟩
  go_wp2_with fail
  go_loopw [7] (fun i wr => ∃ j : Nat, j ≤ 64 ∧ i = .int .i64 j ∧ Below w.heap.size w wr) (fun i _ => 64 - (intOf i).toNat)
  case atStart => exact ⟨0, by omega, rfl, Below.refl _ _⟩
  case round =>
    obtain ⟨j, hj, rfl, hb⟩ := hrel
    by_cases hj64 : j < 64
    · obtain ⟨q, hq, hq64⟩ : ∃ q : Nat, (0 : Int) % 64 = q ∧ q < 64 := ⟨0, rfl, by omega⟩
      have hrb : ((bits BinOp.and IntKind.u64 (((rot n 0 : Nat) : Int) / 2 ^ ((j + q) % 64)) 1) != (bits BinOp.and IntKind.u64 ((n : Int) / 2 ^ j) 1)) = false := by
        rw [bit_at (rot n 0) _ (rotl_u64 _ _ hn), bit_at n _ hn, bne_eq_false_iff_eq]
        have := rotl_at n q j hn hq64 hj64
        unfold rot
        rw [show ((0 : Int) % 64).toNat = q by omega, this]
      have b1 : ∀ wx : World, Calls Try.prog 36 #[.int .i64 0, .int .i64 64] wx fun e w' => e = .returned (.int .i64 (q : Nat)) ∧ w' = wx := fun wx => by
        have := bring_any 0 64 wx (by unfold Sm; omega)
        rw [hq] at this; exact this.mono fun _ _ h => ⟨h.1, h.2.symm⟩
      have b2 : ∀ wx : World, Calls Try.prog 36 #[.int .i64 ((j : Int) + q), .int .i64 64] wx fun e w' => e = .returned (.int .i64 (((j + q) % 64 : Nat) : Int)) ∧ w' = wx := fun wx => by
        have := bring_any ((j : Int) + q) 64 wx (by unfold Sm; omega)
        rw [show ((j : Int) + q) % 64 = (((j + q) % 64 : Nat) : Int) by omega] at this; exact this.mono fun _ _ h => ⟨h.1, h.2.symm⟩
      have r1 : ∀ wx : World, Calls Try.prog 23 #[.int .u64 n, .int .i64 0] wx fun e w' => e = .returned (.int .u64 (rot n 0 : Nat)) ∧ w' = wx := fun wx => (rotate_any n 0 wx hn hk1).mono fun _ _ h => ⟨h.1, h.2.symm⟩
      have hs : IntKind.i64.wrap ((j : Int) + q) = (j : Int) + q := IntWalk.i64_in _ (by omega)
      have B1 := Lib.hid b1
      have B2 := Lib.hid b2
      have R1 := Lib.hid r1
      clear b1 b2 r1 hq
      have hp64 : (j + q) % 64 ≤ 64 := by omega
      generalize (j + q) % 64 = p at *
      rw [← Nat.min_eq_left hp64] at hrb
      clear hp64
      by_cases hjv : j < v
      · have hvb : ((bits BinOp.and IntKind.u64 (((rev n v : Nat) : Int) / 2 ^ j) 1) != (bits BinOp.and IntKind.u64 ((n : Int) / 2 ^ (v - 1 - j)) 1)) = false := by
          rw [bit_at (rev n v) _ (rev_u64 _ _), bit_at n _ hn, bne_eq_false_iff_eq, rev_bit n v j (by omega)]
          simp [hjv]
        go_wp2_with fail
        go_quiet (first | (go_at_call 23; exact Calls.quiet_of_same (R1.out _)) | (go_at_call_of 36 (Value.int .i64 0); exact Calls.quiet_of_same (B1.out _)) | (go_at_call 36; exact Calls.quiet_of_same (B2.out _)))
        clear hs
        go_wp2_with fail
        go_roundw
        case rel => exact ⟨j + 1, by omega, by go_num, below_drewN hb _⟩
        case measure => simp [intOf]; omega
      · have hvb : ((bits BinOp.and IntKind.u64 (((rev n v : Nat) : Int) / 2 ^ j) 1) != 0) = false := by
          rw [bit_at (rev n v) _ (rev_u64 _ _), bne_eq_false_iff_eq, rev_bit n v j (by omega)]
          simp [hjv]
        go_wp2_with fail
        go_quiet (first | (go_at_call 23; exact Calls.quiet_of_same (R1.out _)) | (go_at_call_of 36 (Value.int .i64 0); exact Calls.quiet_of_same (B1.out _)) | (go_at_call 36; exact Calls.quiet_of_same (B2.out _)))
        clear hs
        go_wp2_with fail
        go_roundw
        case rel => exact ⟨j + 1, by omega, by go_num, below_drewN hb _⟩
        case measure => simp [intOf]; omega
    · go_wp2_with (go_at_call 27; refine (works_any _).mono ?_; rintro r0 w6 ⟨rfl, hb6⟩)
      go_ret
      exact ⟨rfl, below_step hb hb6⟩

theorem turns_all (n : Nat) (k : Int) (w : World) (hn : U64 n) (hk : I64 k) :
    Calls Try.prog 7 #[.int .u64 n, .int .i64 k] w fun e w' => e = .returned (.bool true) ∧ Below w.heap.size w w' := by
  by_cases h : k = -9223372036854775808
  · subst h; exact turns_walk_min n w hn
  · refine turns_walk n k w hn (by unfold I64 at hk; unfold K64; omega) (beq_eq_false_iff_ne.2 h) ?_
    unfold I64 at hk; unfold wrap64; omega
end Go.Proofs.Ytnepbjcegbabnaa
