/- How many bits are set. -/
import Derived.Test.YtdemconpdjgimaaDoorQuorumP
import Derived.Laws.Bits64b
import Derived.Laws.BitsLemmas
namespace Go.Proofs.YtdemconpdjgimaaDoor
open Go.RowKit
set_option linter.unusedVariables false
def popc (s : Nat) : Nat := s % 2 + s / 2 % 2 + s / 4 % 2 + s / 8 % 2 + s / 16 % 2 + s / 32 % 2 + s / 64 % 2 + s / 128 % 2 + s / 256 % 2 + s / 512 % 2 + s / 1024 % 2 + s / 2048 % 2 + s / 4096 % 2 + s / 8192 % 2 + s / 16384 % 2
def pc1 (x : Nat) : Nat := (x / 2 &&& 6148914691236517205) + (x &&& 6148914691236517205)
def pc2 (x : Nat) : Nat := (x / 4 &&& 3689348814741910323) + (x &&& 3689348814741910323)
def pc3 (x : Nat) : Nat := (x / 16 + x) &&& 1085102592571150095
def pcE (x : Nat) : Nat := let a := pc3 (pc2 (pc1 x)); let b := a + a / 256; let c := b + b / 65536; (c + c / 4294967296) &&& 127
def pcChk : Nat → Nat → Bool
  | 0, _ => true
  | f + 1, x => Nat.beq (pcE x) (popc x) && pcChk f (Nat.succ x)
theorem pcChk_spec (f : Nat) : ∀ x y, pcChk f x = true → x ≤ y → y < x + f → pcE y = popc y := by
  induction f with
  | zero => intro x y _ h1 h2; omega
  | succ f ih =>
    intro x y h h1 h2
    simp only [pcChk, Bool.and_eq_true] at h
    by_cases he : y = x
    · subst he; exact Nat.eq_of_beq_eq_true h.1
    · exact ih (Nat.succ x) y h.2 (by omega) (by omega)
set_option maxRecDepth 100000 in
theorem pcPart0 : pcChk 2048 0 = true := by kernel_rfl
set_option maxRecDepth 100000 in
theorem pcPart1 : pcChk 2048 2048 = true := by kernel_rfl
set_option maxRecDepth 100000 in
theorem pcPart2 : pcChk 2048 4096 = true := by kernel_rfl
set_option maxRecDepth 100000 in
theorem pcPart3 : pcChk 2048 6144 = true := by kernel_rfl
set_option maxRecDepth 100000 in
theorem pcPart4 : pcChk 2048 8192 = true := by kernel_rfl
set_option maxRecDepth 100000 in
theorem pcPart5 : pcChk 2048 10240 = true := by kernel_rfl
set_option maxRecDepth 100000 in
theorem pcPart6 : pcChk 2048 12288 = true := by kernel_rfl
set_option maxRecDepth 100000 in
theorem pcPart7 : pcChk 2048 14336 = true := by kernel_rfl
set_option maxRecDepth 100000 in
theorem pcPart8 : pcChk 2048 16384 = true := by kernel_rfl
set_option maxRecDepth 100000 in
theorem pcPart9 : pcChk 2048 18432 = true := by kernel_rfl
set_option maxRecDepth 100000 in
theorem pcPart10 : pcChk 2048 20480 = true := by kernel_rfl
set_option maxRecDepth 100000 in
theorem pcPart11 : pcChk 2048 22528 = true := by kernel_rfl
set_option maxRecDepth 100000 in
theorem pcPart12 : pcChk 2048 24576 = true := by kernel_rfl
set_option maxRecDepth 100000 in
theorem pcPart13 : pcChk 2048 26624 = true := by kernel_rfl
set_option maxRecDepth 100000 in
theorem pcPart14 : pcChk 2048 28672 = true := by kernel_rfl
set_option maxRecDepth 100000 in
theorem pcPart15 : pcChk 2048 30720 = true := by kernel_rfl
theorem pc_eq (x : Nat) (h : x < 32768) : pcE x = popc x := by
  have hx : (0 ≤ x ∧ x < 2048) ∨ (2048 ≤ x ∧ x < 4096) ∨ (4096 ≤ x ∧ x < 6144) ∨ (6144 ≤ x ∧ x < 8192) ∨ (8192 ≤ x ∧ x < 10240) ∨ (10240 ≤ x ∧ x < 12288) ∨ (12288 ≤ x ∧ x < 14336) ∨ (14336 ≤ x ∧ x < 16384) ∨ (16384 ≤ x ∧ x < 18432) ∨ (18432 ≤ x ∧ x < 20480) ∨ (20480 ≤ x ∧ x < 22528) ∨ (22528 ≤ x ∧ x < 24576) ∨ (24576 ≤ x ∧ x < 26624) ∨ (26624 ≤ x ∧ x < 28672) ∨ (28672 ≤ x ∧ x < 30720) ∨ (30720 ≤ x ∧ x < 32768) := by omega
  rcases hx with ⟨h1, h2⟩ | ⟨h1, h2⟩ | ⟨h1, h2⟩ | ⟨h1, h2⟩ | ⟨h1, h2⟩ | ⟨h1, h2⟩ | ⟨h1, h2⟩ | ⟨h1, h2⟩ | ⟨h1, h2⟩ | ⟨h1, h2⟩ | ⟨h1, h2⟩ | ⟨h1, h2⟩ | ⟨h1, h2⟩ | ⟨h1, h2⟩ | ⟨h1, h2⟩ | ⟨h1, h2⟩
  · exact pcChk_spec _ _ _ pcPart0 h1 h2
  · exact pcChk_spec _ _ _ pcPart1 h1 h2
  · exact pcChk_spec _ _ _ pcPart2 h1 h2
  · exact pcChk_spec _ _ _ pcPart3 h1 h2
  · exact pcChk_spec _ _ _ pcPart4 h1 h2
  · exact pcChk_spec _ _ _ pcPart5 h1 h2
  · exact pcChk_spec _ _ _ pcPart6 h1 h2
  · exact pcChk_spec _ _ _ pcPart7 h1 h2
  · exact pcChk_spec _ _ _ pcPart8 h1 h2
  · exact pcChk_spec _ _ _ pcPart9 h1 h2
  · exact pcChk_spec _ _ _ pcPart10 h1 h2
  · exact pcChk_spec _ _ _ pcPart11 h1 h2
  · exact pcChk_spec _ _ _ pcPart12 h1 h2
  · exact pcChk_spec _ _ _ pcPart13 h1 h2
  · exact pcChk_spec _ _ _ pcPart14 h1 h2
  · exact pcChk_spec _ _ _ pcPart15 h1 h2
theorem and64 (a c : Nat) (ha : a < 18446744073709551616) (hc : c < 18446744073709551616) : bits BinOp.and IntKind.u64 (a : Int) (c : Int) = ((a &&& c : Nat) : Int) := bits_and_u64_nat a c ha hc
theorem andI (a c : Nat) (ha : a < 9223372036854775808) (hc : c < 9223372036854775808) : bits BinOp.and IntKind.i64 (a : Int) (c : Int) = ((a &&& c : Nat) : Int) := by
  have hx : a &&& c ≤ a := Nat.and_le_left
  have h1 : (BitVec.ofInt 64 (a : Int)).toNat = a := by
    rw [BitVec.ofInt_natCast, BitVec.toNat_ofNat]; exact Nat.mod_eq_of_lt (by omega)
  have h2 : (BitVec.ofInt 64 (c : Int)).toNat = c := by
    rw [BitVec.ofInt_natCast, BitVec.toNat_ofNat]; exact Nat.mod_eq_of_lt (by omega)
  show IntKind.i64.wrap ((BitVec.ofInt 64 (a : Int) &&& BitVec.ofInt 64 (c : Int)).toNat : Int) = _
  rw [BitVec.toNat_and, h1, h2]
  exact IntWalk.i64_in _ (by omega)
set_option maxRecDepth 100000 in
theorem ones64_any (x : Nat) (w : World) (hx : x < 32768) : Calls Tryd.prog 66 #[.int .u64 x] w fun e w' => e = .returned (.int .i64 (popc x : Nat)) ∧ w = w' := by
  rw [← pc_eq x hx]
  obtain ⟨y1, hy1, by1⟩ : ∃ y, y = pc1 x ∧ y ≤ 65536 := ⟨_, rfl, by unfold pc1; have h1 := Nat.and_le_left (n := x / 2) (m := 6148914691236517205); have h2 := Nat.and_le_left (n := x) (m := 6148914691236517205); omega⟩
  obtain ⟨y2, hy2, by2⟩ : ∃ y, y = pc2 y1 ∧ y ≤ 131072 := ⟨_, rfl, by unfold pc2; have h1 := Nat.and_le_left (n := y1 / 4) (m := 3689348814741910323); have h2 := Nat.and_le_left (n := y1) (m := 3689348814741910323); omega⟩
  obtain ⟨y3, hy3, by3⟩ : ∃ y, y = pc3 y2 ∧ y ≤ 262144 := ⟨_, rfl, by unfold pc3; have h1 := Nat.and_le_left (n := y2 / 16 + y2) (m := 1085102592571150095); omega⟩
  have e1 : IntKind.u64.wrap (bits BinOp.and IntKind.u64 ((x : Int) / 2) 6148914691236517205 + bits BinOp.and IntKind.u64 (x : Int) 6148914691236517205) = (y1 : Int) := by
    have a1 := and64 (x / 2) 6148914691236517205 (by omega) (by omega)
    have a2 := and64 x 6148914691236517205 (by omega) (by omega)
    rw [show ((x / 2 : Nat) : Int) = (x : Int) / 2 by omega] at a1
    rw [show ((6148914691236517205 : Nat) : Int) = 6148914691236517205 from rfl] at a1 a2
    rw [a1, a2, IntKind.wrap_u64, hy1]
    unfold pc1 at *
    omega
  have e2 : IntKind.u64.wrap (bits BinOp.and IntKind.u64 ((y1 : Int) / 4) 3689348814741910323 + bits BinOp.and IntKind.u64 (y1 : Int) 3689348814741910323) = (y2 : Int) := by
    have a1 := and64 (y1 / 4) 3689348814741910323 (by omega) (by omega)
    have a2 := and64 y1 3689348814741910323 (by omega) (by omega)
    rw [show ((y1 / 4 : Nat) : Int) = (y1 : Int) / 4 by omega] at a1
    rw [show ((3689348814741910323 : Nat) : Int) = 3689348814741910323 from rfl] at a1 a2
    rw [a1, a2, IntKind.wrap_u64, hy2]
    unfold pc2 at *
    omega
  have e3 : bits BinOp.and IntKind.u64 (IntKind.u64.wrap ((y2 : Int) / 16 + (y2 : Int))) 1085102592571150095 = (y3 : Int) := by
    have a1 := and64 (y2 / 16 + y2) 1085102592571150095 (by omega) (by omega)
    rw [show ((1085102592571150095 : Nat) : Int) = 1085102592571150095 from rfl] at a1
    rw [IntKind.wrap_u64, show ((y2 : Int) / 16 + (y2 : Int)) % 18446744073709551616 = ((y2 / 16 + y2 : Nat) : Int) by omega, a1, hy3]
    rfl
  have e3' : bits BinOp.and IntKind.u64 ((y2 : Int) / 16 + (y2 : Int)) 1085102592571150095 = (y3 : Int) := by
    have a1 := and64 (y2 / 16 + y2) 1085102592571150095 (by omega) (by omega)
    rw [show ((1085102592571150095 : Nat) : Int) = 1085102592571150095 from rfl] at a1
    rw [show ((y2 : Int) / 16 + (y2 : Int)) = ((y2 / 16 + y2 : Nat) : Int) by omega, a1, hy3]
    rfl
  have b3 : (y3 : Int) ≤ 262144 := by omega
  have HX : Hid (pcE x = (y3 + y3 / 256 + (y3 + y3 / 256) / 65536 + (y3 + y3 / 256 + (y3 + y3 / 256) / 65536) / 4294967296) &&& 127) := Lib.hid (by unfold pcE; rw [← hy1, ← hy2, ← hy3])
  have e9 : bits BinOp.and IntKind.i64 ((y3 : Int) + (y3 : Int) / 256 + ((y3 : Int) + (y3 : Int) / 256) / 65536 + ((y3 : Int) + (y3 : Int) / 256 + ((y3 : Int) + (y3 : Int) / 256) / 65536) / 4294967296) 127 = (pcE x : Int) := by
    rw [HX.out]
    have a1 := andI (y3 + y3 / 256 + (y3 + y3 / 256) / 65536 + (y3 + y3 / 256 + (y3 + y3 / 256) / 65536) / 4294967296) 127 (by omega) (by omega)
    rw [← a1]
    congr 1
  clear hy1 hy2 hy3 by1 by2 by3 hx
  go_enter Tryd.func66, Tryd.ntmps66
  go_wp2
  go_ret
  exact ⟨rfl, rfl⟩
theorem ones_any (x : Nat) (w : World) (hx : x < 32768) : Calls Tryd.prog 49 #[.int .u64 x] w fun e w' => e = .returned (.int .i64 (popc x : Nat)) ∧ w = w' := by
  have H := Lib.hid (ones64_any x w hx)
  clear hx
  go_enter Tryd.func49, Tryd.ntmps49
  go_wp2_with fail
  refine H.out.mono ?_
  rintro r0 w1 ⟨rfl, rfl⟩
  go_wp2_with fail
  go_ret
  exact ⟨rfl, rfl⟩
end Go.Proofs.YtdemconpdjgimaaDoor
