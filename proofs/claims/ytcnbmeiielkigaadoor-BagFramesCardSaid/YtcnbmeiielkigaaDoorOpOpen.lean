/- Ops, results and lines that came in. -/
import Derived.Test.YtcnbmeiielkigaaDoorOpenRows
import Derived.Test.YtcnbmeiielkigaaDoorItem2
namespace Go.Proofs.YtcnbmeiielkigaaDoor
open Go.RowKit
set_option linter.unusedVariables false
theorem RdC.str {P : Program} {w : World} {t : TypeId} {cs : List Value} (ht : P.underlying t = some .string) (h : RdC P w t cs) : ∃ s : KS, cs = [.string s.1] := by
  obtain ⟨H, enc, base, spare, held, fuel, x, hf⟩ := h
  cases fuel with
  | zero => simp [DataW.trod] at hf
  | succ m =>
    rw [DataW.trod_step] at hf
    unfold DataW.trodStep at hf
    simp only [ht] at hf
    split at hf
    all_goals first | (exfalso; simp_all; done) | skip
    rename_i s _
    split at hf
    · rename_i hs
      exact ⟨⟨s, hs⟩, rfl⟩
    · cases hf
theorem lineCells : Tryd.prog.cellsOf 90 = 2 := by kernel_rfl
theorem ln_of {w : World} {cs : List Value} (h : RdC Tryd.prog w 90 cs) : ∃ l : Ln, cs = [.string l.1.1, .int .i64 l.2] := by
  obtain ⟨hl, hf⟩ := h.struct Tryd.underlying90
  rw [lineCells] at hl
  match cs, hl with
  | [u0, u1], _ =>
    have g0 := hf _ (List.mem_cons_self ..)
    have g1 := hf _ (List.mem_cons_of_mem _ (List.mem_cons_self ..))
    rw [show Tryd.prog.cellsOf 9 = 1 by kernel_rfl] at g0
    rw [show Tryd.prog.cellsOf 3 = 1 by kernel_rfl] at g1
    simp only [List.drop_zero, List.drop_succ_cons, List.take_succ_cons, List.take_zero] at g0 g1
    obtain ⟨s, e0⟩ := g0.str Tryd.underlying9
    obtain ⟨n, e1, _⟩ := g1.int Tryd.underlying3
    simp only [List.cons.injEq, and_true] at e0 e1
    exact ⟨(s, n), by rw [e0, e1]⟩
theorem lns_of {w : World} {v : Value} (h : RdC Tryd.prog w 31 [v]) : ∃ ls : List Ln, LnS w v ls := by
  obtain ⟨a, len, cap, rfl, h1, h2, h3⟩ := h.rows Tryd.underlying31 lineCells (by decide)
  by_cases h0 : len = 0
  · subst h0
    rcases a with _ | a
    · rcases h.slice Tryd.underlying31 with h4 | ⟨a, _, _, h4, _⟩
      · simp only [List.cons.injEq, and_true, Value.slice.injEq] at h4
        exact ⟨[], .inl ⟨none, cap, rfl, fun _ => h4.2.2, rfl⟩⟩
      · simp only [List.cons.injEq, and_true, Value.slice.injEq] at h4
        cases h4.1
    · exact ⟨[], .inl ⟨some a, cap, rfl, (fun h => nomatch h), rfl⟩⟩
  · obtain ⟨b, off, rfl, hb, -⟩ := h3 0 (by omega)
    have hc : ∀ i, i < len → ∃ l : Ln, w.cell? ⟨b, off + i * 2, none⟩ = some (.string l.1.1) ∧ w.cell? ⟨b, off + i * 2 + 1, none⟩ = some (.int .i64 l.2) := fun i hi => by
      obtain ⟨b', off', hab, _, cs, hl, hc, hr⟩ := h3 i hi
      simp only [Option.some.injEq, Addr.mk.injEq, and_true] at hab
      obtain ⟨rfl, rfl⟩ := hab
      obtain ⟨l, rfl⟩ := ln_of hr
      exact ⟨l, hc 0 (by simp), hc 1 (by simp)⟩
    have hpick : ∀ i : Nat, ∃ l : Ln, i < len → w.cell? ⟨b, off + i * 2, none⟩ = some (.string l.1.1) ∧ w.cell? ⟨b, off + i * 2 + 1, none⟩ = some (.int .i64 l.2) := fun i => by
      by_cases hi : i < len
      · obtain ⟨l, h⟩ := hc i hi; exact ⟨l, fun _ => h⟩
      · exact ⟨(⟨⟨#[]⟩, Nat.zero_le _⟩, 0), fun h => absurd h hi⟩
    obtain ⟨f, hf⟩ := Classical.axiomOfChoice hpick
    refine ⟨(List.range len).map f, .inr ⟨b, off, cap, by simp, by simpa using h1, h2, hb, fun i hi => ?_⟩⟩
    have hi' : i < len := by simpa using hi
    rw [List.getElem_map, List.getElem_range]
    exact hf i hi'
theorem op_of {w : World} {cs : List Value} (h : RdC Tryd.prog w 33 cs) : ∃ (k : Int) (s : KS) (o n : Int) (v : Value) (ls : List Ln), cs = [.int .i64 k, .string s.1, .int .i64 o, .int .i64 n, v] ∧ LnS w v ls ∧ (Lit.int .i64 k).wf = true ∧ (Lit.int .i64 o).wf = true ∧ (Lit.int .i64 n).wf = true := by
  obtain ⟨hl, hf⟩ := h.struct Tryd.underlying33
  rw [show Tryd.prog.cellsOf 33 = 5 by kernel_rfl] at hl
  match cs, hl with
  | [u0, u1, u2, u3, u4], _ =>
    have g0 := hf _ (List.mem_cons_self ..)
    have g1 := hf _ (List.mem_cons_of_mem _ (List.mem_cons_self ..))
    have g2 := hf _ (List.mem_cons_of_mem _ (List.mem_cons_of_mem _ (List.mem_cons_self ..)))
    have g3 := hf _ (List.mem_cons_of_mem _ (List.mem_cons_of_mem _ (List.mem_cons_of_mem _ (List.mem_cons_self ..))))
    have g4 := hf _ (List.mem_cons_of_mem _ (List.mem_cons_of_mem _ (List.mem_cons_of_mem _ (List.mem_cons_of_mem _ (List.mem_cons_self ..)))))
    rw [show Tryd.prog.cellsOf 9 = 1 by kernel_rfl] at g1
    rw [show Tryd.prog.cellsOf 3 = 1 by kernel_rfl] at g0 g2 g3
    rw [show Tryd.prog.cellsOf 31 = 1 by kernel_rfl] at g4
    simp only [List.drop_zero, List.drop_succ_cons, List.take_succ_cons, List.take_zero] at g0 g1 g2 g3 g4
    obtain ⟨k, e0, w0⟩ := g0.int Tryd.underlying3
    obtain ⟨s, e1⟩ := g1.str Tryd.underlying9
    obtain ⟨o, e2, w2⟩ := g2.int Tryd.underlying3
    obtain ⟨n, e3, w3⟩ := g3.int Tryd.underlying3
    obtain ⟨ls, e4⟩ := lns_of g4
    simp only [List.cons.injEq, and_true] at e0 e1 e2 e3
    exact ⟨k, s, o, n, u4, ls, by rw [e0, e1, e2, e3], e4, w0, w2, w3⟩
theorem Av.op {w : World} {v : Value} (h : Av Tryd.prog w 33 v) : ∃ (k : Int) (s : KS) (o n : Int) (u : Value) (ls : List Ln), v = .agg #[.int .i64 k, .string s.1, .int .i64 o, .int .i64 n, u] ∧ LnS w u ls ∧ (Lit.int .i64 k).wf = true ∧ (Lit.int .i64 o).wf = true ∧ (Lit.int .i64 n).wf = true := by
  obtain ⟨cs, rfl, h⟩ := h
  obtain ⟨k, s, o, n, u, ls, e, h⟩ := op_of h
  exact ⟨k, s, o, n, u, ls, congrArg Value.agg (Array.toList_inj.1 e), h⟩
theorem Av.res {w : World} {v : Value} (h : Av Tryd.prog w 37 v) : ∃ c a b : Int, v = .agg #[.int .i64 c, .int .i64 a, .int .i64 b] := by
  obtain ⟨cs, rfl, h⟩ := h
  obtain ⟨hl, hf⟩ := h.struct Tryd.underlying37
  rw [show Tryd.prog.cellsOf 37 = 3 by kernel_rfl] at hl
  obtain ⟨l, hcs⟩ : ∃ l, l = cs.toList := ⟨_, rfl⟩
  rw [← hcs] at hl hf
  match l, hl with
  | [u0, u1, u2], _ =>
    have g0 := hf _ (List.mem_cons_self ..)
    have g1 := hf _ (List.mem_cons_of_mem _ (List.mem_cons_self ..))
    have g2 := hf _ (List.mem_cons_of_mem _ (List.mem_cons_of_mem _ (List.mem_cons_self ..)))
    rw [show Tryd.prog.cellsOf 3 = 1 by kernel_rfl] at g0 g1 g2
    simp only [List.drop_zero, List.drop_succ_cons, List.take_succ_cons, List.take_zero] at g0 g1 g2
    obtain ⟨c, e0, _⟩ := g0.int Tryd.underlying3
    obtain ⟨a, e1, _⟩ := g1.int Tryd.underlying3
    obtain ⟨b, e2, _⟩ := g2.int Tryd.underlying3
    simp only [List.cons.injEq, and_true] at e0 e1 e2
    subst e0 e1 e2
    exact ⟨c, a, b, congrArg Value.agg (Array.toList_inj.1 hcs.symm)⟩
end Go.Proofs.YtcnbmeiielkigaaDoor
