/- Calls that came in. -/
import Derived.Test.YtpnafgkoijnplaaOpenRows
namespace Go.Proofs.Ytpnafgkoijnplaa
open Go.RowKit
set_option linter.unusedVariables false
/-- A call that came in. -/
def DoC (w : World) (cs : List Value) : Prop := ∃ (kd n : Int) (a : Option Addr) (c : Nat) (l : List UInt8) (raw : Bool), cs = [.int .i64 kd, .int .i64 n, .slice a l.length c, .bool raw] ∧ l.length ≤ c ∧ c ≤ maxLen ∧ Sl w (.slice a l.length c) (bv l)
theorem doC_of {w : World} {cs : List Value} (h : RdC Try.prog w 29 cs) : DoC w cs := by
  obtain ⟨hl, hf⟩ := h.struct Try.underlying29
  rw [show Try.prog.cellsOf 29 = 4 by kernel_rfl] at hl
  match cs, hl with
  | [u0, u1, u2, u3], _ =>
    have g0 := hf _ (List.mem_cons_self ..)
    have g1 := hf _ (List.mem_cons_of_mem _ (List.mem_cons_self ..))
    have g2 := hf _ (List.mem_cons_of_mem _ (List.mem_cons_of_mem _ (List.mem_cons_self ..)))
    have g3 := hf _ (List.mem_cons_of_mem _ (List.mem_cons_of_mem _ (List.mem_cons_of_mem _ (List.mem_cons_self ..))))
    simp only [show Try.prog.cellsOf 3 = 1 by kernel_rfl, show Try.prog.cellsOf 27 = 1 by kernel_rfl, show Try.prog.cellsOf 4 = 1 by kernel_rfl, List.drop_zero, List.drop_succ_cons, List.take_succ_cons, List.take_zero] at g0 g1 g2 g3
    obtain ⟨kd, e0, _⟩ := g0.int Try.underlying3
    obtain ⟨n, e1, _⟩ := g1.int Try.underlying3
    obtain ⟨a, c, l, e2, h1, h2, h3⟩ := g2.bytes Try.underlying27 Try.underlying5 (by kernel_rfl)
    obtain ⟨b, e3⟩ := g3.bool Try.underlying4
    simp only [List.cons.injEq, and_true] at e0 e1 e3
    subst e0 e1 e2 e3
    exact ⟨kd, n, a, c, l, b, rfl, h1, h2, h3⟩
/-- Calls that came in. -/
def Dos (w : World) (a : Option Addr) (len : Nat) : Prop := ∀ i, i < len → ∃ b off, a = some ⟨b, off, none⟩ ∧ b < w.heap.size ∧ ∃ cs : List Value, (∀ j (hj : j < cs.length), w.cell? ⟨b, off + i * 4 + j, none⟩ = some cs[j]) ∧ DoC w cs
end Go.Proofs.Ytpnafgkoijnplaa
