/- A new table. -/
import Derived.Test.YtjjjkfdppleagaaTable11
namespace Go.Proofs.Ytjjjkfdppleagaa
open Go Go.RowKit
set_option linter.unusedVariables false
set_option linter.unusedSimpArgs false
def T0 : List SW := List.replicate 8 SW.zero
theorem builtT : Try.prog.built 73 [(0, .bool true)] = some (tabCells T0) := by kernel_rfl
theorem wpList_build_run {P : Program} {ops : Array Oper} {rest : List Oper} {o : Oper} {a : Act} {w : World} {Q : Exit → Act → World → Prop} (hg : o.guard = none) (t : TypeId) (parts : Array (Nat × Operand)) (ho : o.op = .build t parts) (cells : Array Value)
    (hc : P.built t (parts.map fun (i, x) => (i, a.eval x)).toList = some cells) (h : wpList P ops Q rest (a.put o.dst (.agg cells)) w) : wpList P ops Q (o :: rest) a w :=
  wpList_plain hg fun K hK => by
    unfold Oper.wp
    rw [exec_build t parts ho cells hc]
    exact hK _ _ h
set_option maxRecDepth 100000 in
theorem tnew_any {w0 w : World} {L : List Thing} (h : Sep w0 L w) : Calls Try.prog 9 #[] w fun e w' => ∃ g, e = .returned (.pointer (some ⟨g, 0, none⟩)) ∧ Sep w0 (TabT g T0 :: L) w' := by
  have h1 := h.alloc (.cells (tabCells T0) 73)
  have H1 := Lib.hid h1
  clear h h1
  obtain ⟨cs, hcs⟩ : ∃ z, z = tabCells T0 := ⟨_, rfl⟩
  have HB := Lib.hid builtT
  rw [← hcs] at H1 HB
  go_enter Try.func9, Try.ntmps9
  go_wp2_with (refine wpList_build_run rfl 73 #[(0, .const (.bool true))] rfl cs (by rw [Array.toList_map]; exact HB.out) ?_)
  go_ret
  exact ⟨_, rfl, by have h9 := H1.out; rw [hcs] at h9; exact h9⟩
end Go.Proofs.Ytjjjkfdppleagaa
