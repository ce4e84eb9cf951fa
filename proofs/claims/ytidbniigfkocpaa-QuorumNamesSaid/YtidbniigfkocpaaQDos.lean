/- Calls of a tally or of acks that came in. -/
import Derived.Test.YtidbniigfkocpaaOpenRows
import Derived.Test.YtidbniigfkocpaaQuorum
namespace Go.Proofs.Ytidbniigfkocpaa
open Go.RowKit
set_option linter.unusedVariables false
theorem i64_of {n : Int} (h : (Lit.int .i64 n).wf = true) : I64 n := by
  simp [Lit.wf, IntKind.min, IntKind.max, IntKind.signed, IntKind.bits] at h
  exact ⟨by omega, by omega⟩
/-- A call that came in. -/
def DoC (cs : List Value) : Prop := ∃ (x : Bal) (who op : Int), cs = [.int .i64 x.1.1, .int .i64 x.1.2.1, .int .i64 x.1.2.2.1, .int .i64 x.1.2.2.2.1, .int .i64 x.1.2.2.2.2, .int .i64 who, .int .i64 op] ∧ I64 who ∧ I64 op
theorem doC_of {w : World} {cs : List Value} (h : RdC Try.prog w 36 cs) : DoC cs := by
  obtain ⟨hl, hf⟩ := h.struct Try.underlying36
  rw [show Try.prog.cellsOf 36 = 7 by kernel_rfl] at hl
  match cs, hl with
  | [u0, u1, u2, u3, u4, u5, u6], _ =>
    have g0 := hf _ (List.mem_cons_self ..)
    have g1 := hf _ (List.mem_cons_of_mem _ (List.mem_cons_self ..))
    have g2 := hf _ (List.mem_cons_of_mem _ (List.mem_cons_of_mem _ (List.mem_cons_self ..)))
    simp only [intCells, balCells, List.drop_zero, List.drop_succ_cons, List.take_succ_cons, List.take_zero] at g0 g1 g2
    obtain ⟨who, e1, w1⟩ := g1.int Try.underlying3
    obtain ⟨op, e2, w2⟩ := g2.int Try.underlying3
    obtain ⟨_, hf0⟩ := g0.struct Try.underlying34
    have k0 := hf0 _ (List.mem_cons_self ..)
    have k1 := hf0 _ (List.mem_cons_of_mem _ (List.mem_cons_self ..))
    have k2 := hf0 _ (List.mem_cons_of_mem _ (List.mem_cons_of_mem _ (List.mem_cons_self ..)))
    simp only [intCells, resCells, List.drop_zero, List.drop_succ_cons, List.take_succ_cons, List.take_zero] at k0 k1 k2
    obtain ⟨v, f0, x0⟩ := k0.int Try.underlying3
    obtain ⟨o, f1, x1⟩ := k1.int Try.underlying3
    obtain ⟨_, hf2⟩ := k2.struct Try.underlying32
    have m0 := hf2 _ (List.mem_cons_self ..)
    have m1 := hf2 _ (List.mem_cons_of_mem _ (List.mem_cons_self ..))
    have m2 := hf2 _ (List.mem_cons_of_mem _ (List.mem_cons_of_mem _ (List.mem_cons_self ..)))
    simp only [intCells, List.drop_zero, List.drop_succ_cons, List.take_succ_cons, List.take_zero] at m0 m1 m2
    obtain ⟨c, f2, x2⟩ := m0.int Try.underlying3
    obtain ⟨a, f3, x3⟩ := m1.int Try.underlying3
    obtain ⟨b, f4, x4⟩ := m2.int Try.underlying3
    simp only [List.cons.injEq, and_true] at e1 e2 f0 f1 f2 f3 f4
    subst e1 e2 f0 f1 f2 f3 f4
    exact ⟨⟨(v, o, c, a, b), i64_of x0, i64_of x1, i64_of x2, i64_of x3, i64_of x4⟩, who, op, rfl, i64_of w1, i64_of w2⟩
/-- Calls that came in. -/
def Dos (w : World) (a : Option Addr) (len : Nat) : Prop := ∀ i, i < len → ∃ b off, a = some ⟨b, off, none⟩ ∧ b < w.heap.size ∧ ∃ cs : List Value, (∀ j (hj : j < cs.length), w.cell? ⟨b, off + i * 7 + j, none⟩ = some cs[j]) ∧ DoC cs
theorem Dos.at {w : World} {a : Option Addr} {len : Nat} (h : Dos w a len) {i : Nat} (hi : i < len) : ∃ b off, a = some ⟨b, off, none⟩ ∧ ∃ (x : Bal) (who op : Int), I64 who ∧ I64 op ∧ ∀ wz, Below w.heap.size w wz →
    wz.cell? ⟨b, off + i * 7, none⟩ = some (.int .i64 x.1.1) ∧ wz.cell? ⟨b, off + i * 7 + 1, none⟩ = some (.int .i64 x.1.2.1) ∧ wz.cell? ⟨b, off + i * 7 + 2, none⟩ = some (.int .i64 x.1.2.2.1) ∧ wz.cell? ⟨b, off + i * 7 + 3, none⟩ = some (.int .i64 x.1.2.2.2.1) ∧ wz.cell? ⟨b, off + i * 7 + 4, none⟩ = some (.int .i64 x.1.2.2.2.2) ∧
      wz.cell? ⟨b, off + i * 7 + 5, none⟩ = some (.int .i64 who) ∧ wz.cell? ⟨b, off + i * 7 + 6, none⟩ = some (.int .i64 op) := by
  obtain ⟨b, off, ha, hb, cs, hc, x, who, op, rfl, h1, h2⟩ := h i hi
  refine ⟨b, off, ha, x, who, op, h1, h2, fun wz hz => ?_⟩
  have q : ∀ j (hj : j < 7), wz.cell? ⟨b, off + i * 7 + j, none⟩ = _ := fun j hj => (hz.cell (p := ⟨b, off + i * 7 + j, none⟩) hb).trans (hc j hj)
  exact ⟨q 0 (by omega), q 1 (by omega), q 2 (by omega), q 3 (by omega), q 4 (by omega), q 5 (by omega), q 6 (by omega)⟩
end Go.Proofs.Ytidbniigfkocpaa
