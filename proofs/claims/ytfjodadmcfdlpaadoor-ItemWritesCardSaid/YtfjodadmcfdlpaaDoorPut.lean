/- Contract of bits.Put. -/
import Derived.Test.YtfjodadmcfdlpaaDoorBits
namespace Go.Proofs.YtfjodadmcfdlpaaDoor
open Go.RowKit
set_option linter.unusedVariables false

/-- The lowest c bytes of a number, the most significant first. -/
def beL : Nat → Nat → List UInt8
  | 0, _ => []
  | c + 1, n => UInt8.ofNat (n / 256 ^ c) :: beL c n
theorem beL_len (c n : Nat) : (beL c n).length = c := by induction c with | zero => rfl | succ c ih => simp [beL, ih]

def zeros (c : Nat) : Array Value := Array.replicate c (.int .u8 0)
theorem be_byte (n j : Nat) : (n : Int) / 2 ^ (8 * j) % 256 = (UInt8.ofNat (n / 256 ^ j)).toNat := by
  have h : (2 : Nat) ^ (8 * j) = 256 ^ j := by rw [Nat.pow_mul]
  rw [UInt8.toNat_ofNat', ← h]
  simp
theorem be_set (c j n : Nat) (hj : j < c) (cur : Array Value) (h : cur.toList = List.replicate (c - j) (.int .u8 0) ++ bv (beL j n)) :
    (cur.setIfInBounds (c - 1 - j) (.int .u8 ((n : Int) / 2 ^ (8 * j) % 256))).toList = List.replicate (c - (j + 1)) (.int .u8 0) ++ bv (beL (j + 1) n) := by
  rw [Array.toList_setIfInBounds, h, be_byte, show c - j = (c - (j + 1)) + 1 by omega, List.replicate_succ', List.append_assoc, List.set_append_right _ _ (by simp; omega)]
  simp [beL, bv, show c - 1 - j - (c - (j + 1)) = 0 by omega]
theorem be_cell {wr : World} {g c j n : Nat} {e : TypeId} (hj : j < c) {cur : Array Value} (hg : wr.heap[g]? = some (.cells cur e (0, 0))) (h : cur.toList = List.replicate (c - j) (.int .u8 0) ++ bv (beL j n)) :
    wr.cell? ⟨g, c - 1 - j, none⟩ = some (.int .u8 0) ∧ wr.frozen? ⟨g, c - 1 - j, none⟩ = false := by
  constructor
  · rw [cell_of_row wr _ _ cur _ _ hg, ← Array.getElem?_toList, h, List.getElem?_append_left (by simp; omega), List.getElem?_replicate, if_pos (by omega)]
  · unfold World.frozen?; rw [hg]; simp

theorem make1 (w : World) : (Instr.makeSlice 28 (.int .i64 1) (.int .i64 1)).run Tryd.prog w =
    .ok (.slice (some ⟨w.heap.size, 0, none⟩) 1 1) (w.alloc (.cells (zeros 1) 5)) := by kernel_rfl

theorem make2 (w : World) : (Instr.makeSlice 28 (.int .i64 2) (.int .i64 2)).run Tryd.prog w =
    .ok (.slice (some ⟨w.heap.size, 0, none⟩) 2 2) (w.alloc (.cells (zeros 2) 5)) := by kernel_rfl

theorem make4 (w : World) : (Instr.makeSlice 28 (.int .i64 4) (.int .i64 4)).run Tryd.prog w =
    .ok (.slice (some ⟨w.heap.size, 0, none⟩) 4 4) (w.alloc (.cells (zeros 4) 5)) := by kernel_rfl

theorem make8 (w : World) : (Instr.makeSlice 28 (.int .i64 8) (.int .i64 8)).run Tryd.prog w =
    .ok (.slice (some ⟨w.heap.size, 0, none⟩) 8 8) (w.alloc (.cells (zeros 8) 5)) := by kernel_rfl

end Go.Proofs.YtfjodadmcfdlpaaDoor
