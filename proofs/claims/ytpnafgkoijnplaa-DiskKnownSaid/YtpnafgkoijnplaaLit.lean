/- A literal of bytes in new memory. -/
import Derived.Test.YtpnafgkoijnplaaKit
namespace Go.Proofs.Ytpnafgkoijnplaa
open Go.RowKit
theorem sl_lit (w : World) (cs : Array Value) (l : List UInt8) (h : cs.toList = bv l) (hl : l.length ≤ 1000) (e : TypeId) : Sl (w.alloc (.cells cs e)) (.slice (some ⟨w.heap.size, 0, none⟩) l.length l.length) (bv l) := by
  have hs : cs.size = l.length := by rw [← Array.length_toList, h, bv_length]
  have ho := World.ownsRow_lit (base := w.heap.size) (e := e) (size := 1) w cs l.length (Nat.le_refl _) (by unfold maxLen; omega) (by omega)
  rw [h] at ho
  have ho' : Own (w.alloc (.cells cs e)) w.heap.size e (.slice (some ⟨w.heap.size, 0, none⟩) l.length l.length) (bv l) := by
    show World.ownsRow _ _ _ _ _ (bv l).length _
    rw [bv_length]; exact ho
  exact ho'.sl
end Go.Proofs.Ytpnafgkoijnplaa
