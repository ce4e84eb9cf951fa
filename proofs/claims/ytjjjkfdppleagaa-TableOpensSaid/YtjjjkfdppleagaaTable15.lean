/- Seats that came in. -/
import Derived.Test.YtjjjkfdppleagaaTable14
import Derived.Test.YtjjjkfdppleagaaBkB
namespace Go.Proofs.Ytjjjkfdppleagaa
open Go Go.RowKit
set_option linter.unusedVariables false
set_option maxRecDepth 100000 in
theorem seat_of {w : World} {cs : List Value} (h : RdC Try.prog w 31 cs) : ∃ c n o k a b : Int, cs = [.int .i64 c, .int .i64 n, .int .i64 o, .int .i64 k, .int .i64 a, .int .i64 b] := by
  obtain ⟨hl, hf⟩ := h.struct Try.underlying31
  rw [show Try.prog.cellsOf 31 = 6 by kernel_rfl] at hl
  match cs, hl with
  | [u0, u1, u2, u3, u4, u5], _ =>
    have g0 := hf _ (List.mem_cons_self ..)
    have g1 := hf _ (List.mem_cons_of_mem _ (List.mem_cons_self ..))
    have g2 := hf _ (List.mem_cons_of_mem _ (List.mem_cons_of_mem _ (List.mem_cons_self ..)))
    have g3 := hf _ (List.mem_cons_of_mem _ (List.mem_cons_of_mem _ (List.mem_cons_of_mem _ (List.mem_cons_self ..))))
    rw [show Try.prog.cellsOf 3 = 1 by kernel_rfl] at g0 g1 g2
    rw [show Try.prog.cellsOf 29 = 3 by kernel_rfl] at g3
    simp only [List.drop_zero, List.drop_succ_cons, List.take_succ_cons, List.take_zero] at g0 g1 g2 g3
    obtain ⟨c, e0, _⟩ := g0.int Try.underlying3
    obtain ⟨n, e1, _⟩ := g1.int Try.underlying3
    obtain ⟨o, e2, _⟩ := g2.int Try.underlying3
    obtain ⟨_, hf3⟩ := g3.struct Try.underlying29
    have q0 := hf3 _ (List.mem_cons_self ..)
    have q1 := hf3 _ (List.mem_cons_of_mem _ (List.mem_cons_self ..))
    have q2 := hf3 _ (List.mem_cons_of_mem _ (List.mem_cons_of_mem _ (List.mem_cons_self ..)))
    rw [show Try.prog.cellsOf 3 = 1 by kernel_rfl] at q0 q1 q2
    simp only [List.drop_zero, List.drop_succ_cons, List.take_succ_cons, List.take_zero] at q0 q1 q2
    obtain ⟨k, e3, _⟩ := q0.int Try.underlying3
    obtain ⟨a, e4, _⟩ := q1.int Try.underlying3
    obtain ⟨b, e5, _⟩ := q2.int Try.underlying3
    simp only [List.cons.injEq, and_true] at e0 e1 e2 e3 e4 e5
    exact ⟨c, n, o, k, a, b, by rw [e0, e1, e2, e3, e4, e5]⟩
theorem seats_of {w : World} {v : Value} (h : RdC Try.prog w 45 [v]) : ∃ (a : Option Addr) (len cap : Nat), v = .slice a len cap ∧ len ≤ cap ∧ cap ≤ maxLen ∧ ∀ i, i < len → ∃ b off, a = some ⟨b, off, none⟩ ∧ b < w.heap.size ∧
    ∃ c n o k x y : Int, ∀ j z, [.int .i64 c, .int .i64 n, .int .i64 o, .int .i64 k, .int .i64 x, .int .i64 y][j]? = some z → w.cell? ⟨b, off + i * 6 + j, none⟩ = some z := by
  obtain ⟨a, len, cap, rfl, h1, h2, h3⟩ := h.rows Try.underlying45 (show Try.prog.cellsOf 31 = 6 by kernel_rfl) (by decide)
  refine ⟨a, len, cap, rfl, h1, h2, fun i hi => ?_⟩
  obtain ⟨b, off, hab, hb, cs, hl, hc, hr⟩ := h3 i hi
  obtain ⟨c, n, o, k, x, y, rfl⟩ := seat_of hr
  exact ⟨b, off, hab, hb, c, n, o, k, x, y, fun j z hj => by
    obtain ⟨h9, rfl⟩ := List.getElem?_eq_some_iff.1 hj
    exact hc j h9⟩
end Go.Proofs.Ytjjjkfdppleagaa
