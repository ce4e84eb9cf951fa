/- Contracts of package bits: the functions that write. -/
import Derived.Test.YtcnbmeiielkigaaGreatDoorMZ08
import Derived.Test.YtcnbmeiielkigaaGreatDoorMZ01
namespace Go.Proofs.YtcnbmeiielkigaaGreatDoor
open Go.RowKit
set_option linter.unusedVariables false

/-- The varint of a number: groups of seven bits, the least first. -/
def vintF : Nat → Nat → List UInt8
 | 0, u => [UInt8.ofNat u]
 | f + 1, u => if u < 128 then [UInt8.ofNat u] else UInt8.ofNat (u % 128 + 128) :: vintF f (u / 128)
def vint (u : Nat) : List UInt8 := vintF 9 u
/-- Where a varint stands: k groups are written, x is left. -/
def VintAt (u k x : Nat) (pre : List UInt8) : Prop := k ≤ 9 ∧ pre.length = k ∧ x < 2 * 128 ^ (9 - k) ∧ pre ++ vintF (9 - k) x = vint u
theorem VintAt.zero {u : Nat} (h : U64 u) : VintAt u 0 u [] := ⟨by omega, rfl, by unfold U64 at h; omega, rfl⟩
theorem VintAt.last {u k x : Nat} {pre : List UInt8} (h : VintAt u k x pre) (hx : x < 128) : pre ++ [UInt8.ofNat x] = vint u := by
 obtain ⟨h1, h2, h3, h4⟩ := h
 rw [← h4]
 congr 1
 cases 9 - k with
 | zero => rfl
 | succ n => rw [vintF, if_pos hx]
theorem VintAt.u64 {u k x : Nat} {pre : List UInt8} (h : VintAt u k x pre) : U64 x := by
 unfold U64
 obtain ⟨h1, h2, h3, h4⟩ := h
 have : 128 ^ (9 - k) ≤ 128 ^ 9 := Nat.pow_le_pow_right (by omega) (by omega)
 omega

end Go.Proofs.YtcnbmeiielkigaaGreatDoor
/- Contracts of package bits: the reader. -/
namespace Go.Proofs.YtcnbmeiielkigaaGreatDoor
open Go.RowKit
set_option linter.unusedVariables false
variable {Q : Nat → Prop}

theorem sls_nil (w : World) : SlS w (.slice none 0 0) (bv []) := .inl ⟨rfl, rfl⟩
theorem sl_nil (w : World) : Sl w (.slice none 0 0) (bv []) := (sls_nil w).sl

end Go.Proofs.YtcnbmeiielkigaaGreatDoor
