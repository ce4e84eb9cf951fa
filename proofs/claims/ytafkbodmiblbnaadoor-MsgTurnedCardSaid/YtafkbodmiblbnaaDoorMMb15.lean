/- Stage 5: the statements' parameter. -/
import Derived.Test.YtafkbodmiblbnaaDoorMMb14
import Derived.Test.YtafkbodmiblbnaaDoorMZ43
namespace Go.Proofs.YtafkbodmiblbnaaDoor
open Go Go.RowKit
set_option linter.unusedVariables false
set_option linter.unusedSimpArgs false
theorem iv_of {P : Program} {w : World} {t : TypeId} (ht : P.underlying t = some (.int .i64)) : ∀ vs : List Value, (∀ u ∈ vs, RdC P w t [u]) → ∃ l : List Int, vs = iv l
  | [], _ => ⟨[], rfl⟩
  | v :: vs, h => by
    obtain ⟨l, rfl⟩ := iv_of ht vs fun u hu => h u (List.mem_cons_of_mem _ hu)
    obtain ⟨n, e, -⟩ := (h v (List.mem_cons_self ..)).int ht
    simp only [List.cons.injEq, and_true] at e
    exact ⟨n :: l, by rw [e]; rfl⟩
set_option maxRecDepth 100000 in
theorem sd5_of {w : World} {v : Value} (h : Av Tryd.prog w 26 v) : ∃ s, v = .agg (sdC s) ∧ SdS w s := by
  obtain ⟨cs, rfl, h⟩ := h
  obtain ⟨hl, hf⟩ := h.struct Tryd.underlying26
  rw [show Tryd.prog.cellsOf 26 = 9 by kernel_rfl] at hl
  obtain ⟨cs⟩ := cs
  match cs, hl with
  | [u0, u1, u2, u3, u4, u5, u6, u7, u8], _ =>
    have g0 := hf _ (List.mem_cons_self ..)
    have g1 := hf _ (List.mem_cons_of_mem _ (List.mem_cons_self ..))
    have g2 := hf _ (List.mem_cons_of_mem _ (List.mem_cons_of_mem _ (List.mem_cons_self ..)))
    have g3 := hf _ (List.mem_cons_of_mem _ (List.mem_cons_of_mem _ (List.mem_cons_of_mem _ (List.mem_cons_self ..))))
    have g4 := hf _ (List.mem_cons_of_mem _ (List.mem_cons_of_mem _ (List.mem_cons_of_mem _ (List.mem_cons_of_mem _ (List.mem_cons_self ..)))))
    have g5 := hf _ (List.mem_cons_of_mem _ (List.mem_cons_of_mem _ (List.mem_cons_of_mem _ (List.mem_cons_of_mem _ (List.mem_cons_of_mem _ (List.mem_cons_self ..))))))
    rw [show Tryd.prog.cellsOf 3 = 1 by kernel_rfl] at g0 g1 g2
    rw [show Tryd.prog.cellsOf 22 = 4 by kernel_rfl] at g3
    rw [show Tryd.prog.cellsOf 23 = 1 by kernel_rfl] at g4
    rw [show Tryd.prog.cellsOf 24 = 1 by kernel_rfl] at g5
    simp only [List.drop_zero, List.drop_succ_cons, List.take_succ_cons, List.take_zero] at g0 g1 g2 g3 g4 g5
    obtain ⟨k, e0, -⟩ := g0.int Tryd.underlying3
    obtain ⟨f, e1, -⟩ := g1.int Tryd.underlying3
    obtain ⟨t, e2, -⟩ := g2.int Tryd.underlying3
    obtain ⟨-, hf3⟩ := g3.array Tryd.underlying22
    have a0 := hf3 0 (by decide)
    have a1 := hf3 1 (by decide)
    have a2 := hf3 2 (by decide)
    have a3 := hf3 3 (by decide)
    rw [show Tryd.prog.cellsOf 3 = 1 by kernel_rfl] at a0 a1 a2 a3
    simp only [Nat.zero_mul, Nat.one_mul, Nat.reduceMul, List.drop_zero, List.drop_succ_cons, List.take_succ_cons, List.take_zero] at a0 a1 a2 a3
    obtain ⟨n0, e3, -⟩ := a0.int Tryd.underlying3
    obtain ⟨n1, e4, -⟩ := a1.int Tryd.underlying3
    obtain ⟨n2, e5, -⟩ := a2.int Tryd.underlying3
    obtain ⟨n3, e6, -⟩ := a3.int Tryd.underlying3
    obtain ⟨ea, ec, vs, hev, -, -, hsl, hel⟩ := g4.cells1 Tryd.underlying23 (by kernel_rfl)
    obtain ⟨es, rfl⟩ := iv_of Tryd.underlying3 vs hel
    obtain ⟨ca, cc, l, hcv, -, -, hsl2⟩ := g5.bytes Tryd.underlying24 Tryd.underlying5 (by kernel_rfl)
    simp only [List.cons.injEq, and_true] at e0 e1 e2 e3 e4 e5 e6
    subst e0 e1 e2 e3 e4 e5 e6 hev hcv
    exact ⟨⟨k, f, t, n0, n1, n2, n3, es, .slice ea (iv es).length ec, l, .slice ca l.length cc⟩, rfl, hsl, hsl2⟩
theorem back05_in (v : Value) (w : World) (h : Av Tryd.prog w 26 v) (hk : KindsAt w ∧ MKindsAt w) :
    Calls Tryd.prog 3 #[v] w fun e w' => e = .returned (.bool true) ∧ Below w.heap.size w w' := by
  obtain ⟨s, rfl, hs⟩ := sd5_of h
  exact back05_any s w hs hk
end Go.Proofs.YtafkbodmiblbnaaDoor
