/- Entries that came in. -/
import Derived.Test.YtcicclghgbdgnaaDoorEn1
import Derived.Test.YtcicclghgbdgnaaDoorBkG
namespace Go.Proofs.YtcicclghgbdgnaaDoor
open Go.RowKit
set_option linter.unusedVariables false
theorem en_of {w : World} {cs : List Value} (h : RdC Tryd.prog w 26 cs) : ∃ (c m k : Int) (s : KS) (o n : Int) (v : Value) (ls : List Ln), cs = [.int .i64 c, .int .i64 m, .int .i64 k, .string s.1, .int .i64 o, .int .i64 n, v] ∧ LnS w v ls := by
  obtain ⟨hl, hf⟩ := h.struct Tryd.underlying26
  rw [show Tryd.prog.cellsOf 26 = 7 by kernel_rfl] at hl
  match cs, hl with
  | [u0, u1, u2, u3, u4, u5, u6], _ =>
    have g0 := hf _ (List.mem_cons_self ..)
    have g1 := hf _ (List.mem_cons_of_mem _ (List.mem_cons_self ..))
    have g2 := hf _ (List.mem_cons_of_mem _ (List.mem_cons_of_mem _ (List.mem_cons_self ..)))
    rw [show Tryd.prog.cellsOf 3 = 1 by kernel_rfl] at g0 g1
    rw [show Tryd.prog.cellsOf 24 = 5 by kernel_rfl] at g2
    simp only [List.drop_zero, List.drop_succ_cons, List.take_succ_cons, List.take_zero] at g0 g1 g2
    obtain ⟨c, e0, _⟩ := g0.int Tryd.underlying3
    obtain ⟨m, e1, _⟩ := g1.int Tryd.underlying3
    obtain ⟨k, s, o, n, v, ls, e2, hv, _⟩ := op_of g2
    simp only [List.cons.injEq, and_true] at e0 e1 e2
    obtain ⟨e2, e3, e4, e5, e6⟩ := e2
    exact ⟨c, m, k, s, o, n, v, ls, by rw [e0, e1, e2, e3, e4, e5, e6], hv⟩
theorem Av.en {w : World} {v : Value} (h : Av Tryd.prog w 26 v) : ∃ (c m k : Int) (s : KS) (o n : Int) (u : Value) (ls : List Ln), v = .agg #[.int .i64 c, .int .i64 m, .int .i64 k, .string s.1, .int .i64 o, .int .i64 n, u] ∧ LnS w u ls := by
  obtain ⟨cs, rfl, h⟩ := h
  obtain ⟨c, m, k, s, o, n, u, ls, e, h⟩ := en_of h
  exact ⟨c, m, k, s, o, n, u, ls, congrArg Value.agg (Array.toList_inj.1 e), h⟩
end Go.Proofs.YtcicclghgbdgnaaDoor
