/- Stage 18's laws: logs that came in. -/
import Derived.Test.YthgndegjiodopaaDoorCho21
import Derived.Test.YthgndegjiodopaaDoorOpenRows
namespace Go.Proofs.YthgndegjiodopaaDoor
open Go Go.RowKit
set_option linter.unusedVariables false
set_option linter.unusedSimpArgs false
theorem lgC_of {w : World} {cs : List Value} (h : RdC Tryd.prog w 63 cs) : ∃ x : Lg, cs = [.int .i64 x.1, .int .i64 x.2.1, .int .i64 x.2.2] := by
  obtain ⟨hl, hf⟩ := h.struct Tryd.underlying63
  rw [show Tryd.prog.cellsOf 63 = 3 by kernel_rfl] at hl
  match cs, hl with
  | [u0, u1, u2], _ =>
    have g0 := hf _ (List.mem_cons_self ..)
    have g1 := hf _ (List.mem_cons_of_mem _ (List.mem_cons_self ..))
    have g2 := hf _ (List.mem_cons_of_mem _ (List.mem_cons_of_mem _ (List.mem_cons_self ..)))
    simp only [intCells, List.drop_zero, List.drop_succ_cons, List.take_succ_cons, List.take_zero] at g0 g1 g2
    obtain ⟨a, e0, -⟩ := g0.int Tryd.underlying3
    obtain ⟨b, e1, -⟩ := g1.int Tryd.underlying3
    obtain ⟨c, e2, -⟩ := g2.int Tryd.underlying3
    simp only [List.cons.injEq, and_true] at e0 e1 e2
    exact ⟨(a, b, c), by rw [e0, e1, e2]⟩
theorem ints3 {w : World} {v : Value} (h : Av Tryd.prog w 23 v) : ∃ x y z : Int, v = .agg #[.int .i64 x, .int .i64 y, .int .i64 z] := by
  obtain ⟨cs, rfl, h⟩ := h
  obtain ⟨hl, ha⟩ := h.array Tryd.underlying23
  rw [show Tryd.prog.cellsOf 23 = 3 by kernel_rfl] at hl
  rw [show Tryd.prog.cellsOf 3 = 1 by kernel_rfl] at ha
  obtain ⟨l⟩ := cs
  match l, hl with
  | [u, v, t], _ =>
    obtain ⟨x, hx, -⟩ := (ha 0 (by omega)).int Tryd.underlying3
    obtain ⟨y, hy, -⟩ := (ha 1 (by omega)).int Tryd.underlying3
    obtain ⟨z, hz, -⟩ := (ha 2 (by omega)).int Tryd.underlying3
    simp at hx hy hz
    subst hx hy hz
    exact ⟨x, y, z, rfl⟩
theorem lgs_of {w : World} {v : Value} (h : RdC Tryd.prog w 22 [v]) : ∃ (a : Option Addr) (n c : Nat) (ls : List Lg), v = .slice a n c ∧ ls.length = n ∧ LgS w a ls := by
  obtain ⟨a, n, c, rfl, h1, h2, h3⟩ := h.rows (c := 3) Tryd.underlying22 (by kernel_rfl) (by decide)
  have hex : ∀ i : Nat, ∃ x : Lg, i < n → ∃ b off, a = some ⟨b, off, none⟩ ∧ b < w.heap.size ∧ w.cell? ⟨b, off + i * 3, none⟩ = some (.int .i64 x.1) ∧ w.cell? ⟨b, off + i * 3 + 1, none⟩ = some (.int .i64 x.2.1) ∧ w.cell? ⟨b, off + i * 3 + 2, none⟩ = some (.int .i64 x.2.2) := by
    intro i
    by_cases hi : i < n
    · obtain ⟨b, off, e, hb, cs, hl, hc, hr⟩ := h3 i hi
      obtain ⟨x, rfl⟩ := lgC_of hr
      exact ⟨x, fun _ => ⟨b, off, e, hb, hc 0 (by simp), hc 1 (by simp), hc 2 (by simp)⟩⟩
    · exact ⟨(0, 0, 0), fun h => absurd h hi⟩
  refine ⟨a, n, c, (List.range n).map fun i => Classical.choose (hex i), rfl, by simp, fun i hi => ?_⟩
  have hin : i < n := by simpa using hi
  have := Classical.choose_spec (hex i) hin
  rw [List.getElem_map, List.getElem_range]
  exact this
end Go.Proofs.YthgndegjiodopaaDoor
