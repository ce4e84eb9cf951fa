/- Literals of entries; Top and Base beside other things. -/
import Derived.Test.YtpknfeokfladkaaDoorPipe3
import Derived.Test.YtpknfeokfladkaaDoorPipe4
import Derived.Test.YtpknfeokfladkaaDoorPipe5
import Derived.Test.YtpknfeokfladkaaDoorPipe6
namespace Go.Proofs.YtpknfeokfladkaaDoor
open Go.RowKit
set_option linter.unusedVariables false
set_option linter.unusedSimpArgs false
def nilV : Value := .slice none 0 0
theorem lnK (w : World) : LnS w nilV [] := .inl ⟨none, 0, rfl, fun _ => rfl, rfl⟩
theorem Sep.clEn {w0 w : World} {b n : Nat} {ps : List (EnM × Value)} {L : List Thing} (h : Sep w0 (Cl b (enCs ps).toArray 34 :: L) w) (hl : ∀ i (hi : i < ps.length), LnS w ps[i].2 ps[i].1.p.ls) (hn : ps.length = n) (h1 : n ≤ 1000) : EnS w (.slice (some ⟨b, 0, none⟩) n n) ps := by
  subst hn
  refine .inr ⟨b, 0, ps.length, rfl, Nat.le_refl _, by unfold maxLen; omega, h.blk_lt.2, fun i hi => ⟨?_, hl i hi⟩⟩
  have k : ∀ j u, j < 7 → (enC ps[i].1 ps[i].2).toList[j]? = some u → w.cell? ⟨b, 0 + i * 7 + j, none⟩ = some u := fun j u hj hu => by
    rw [Nat.zero_add]
    refine h.cell ?_
    rw [List.getElem?_toArray, enCs_at ps i hi j hj]
    exact hu
  exact ⟨k 0 _ (by omega) rfl, k 1 _ (by omega) rfl, k 2 _ (by omega) rfl, k 3 _ (by omega) rfl, k 4 _ (by omega) rfl, k 5 _ (by omega) rfl, k 6 _ (by omega) rfl⟩
/-- A literal of asked entries. -/
theorem Sep.clAsk {w0 w : World} {b n : Nat} {es : List EnM} {L : List Thing} (h : Sep w0 (Cl b (enCs (es.map fun e => (e, Value.slice none 0 0))).toArray 34 :: L) w) (hl : ∀ e ∈ es, e.p.ls = []) (hn : es.length = n) (h1 : n ≤ 1000) : EnS w (.slice (some ⟨b, 0, none⟩) n n) (es.map fun e => (e, Value.slice none 0 0)) := by
  refine h.clEn (fun i hi => ?_) (by rw [List.length_map]; exact hn) h1
  rw [List.getElem_map]
  rw [hl _ (List.getElem_mem _)]
  exact lnK w
theorem top_any {w0 w : World} {g : Nat} {b : Int} {ps : List (EnM × Value)} {L : List Thing} (h : Sep w0 (PipeT g b ps :: L) w) (h0 : 0 ≤ b) (h1 : b ≤ 4611686018427380000) (hl : ps.length ≤ 1000000) :
    Calls Tryd.prog 29 #[.pointer (some ⟨g, 0, none⟩)] w fun e w' => e = .returned (.int .i64 (b + ps.length)) ∧ Sep w0 (PipeT g b ps :: L) w' := by
  obtain ⟨pv, h2⟩ := h.pipeOpen
  obtain ⟨pa, pc, rfl, hpc, -⟩ := h2.sw2.peForm
  exact (top_c h2.pc h0 (by omega) hl).mono fun e w' ⟨h3, k, h4⟩ => ⟨h3, h4 ▸ h.drewN k⟩
theorem base_any {w0 w : World} {g : Nat} {b : Int} {ps : List (EnM × Value)} {L : List Thing} (h : Sep w0 (PipeT g b ps :: L) w) :
    Calls Tryd.prog 28 #[.pointer (some ⟨g, 0, none⟩)] w fun e w' => e = .returned (.int .i64 b) ∧ Sep w0 (PipeT g b ps :: L) w' := by
  obtain ⟨pv, h2⟩ := h.pipeOpen
  obtain ⟨pa, pc, rfl, hpc, -⟩ := h2.sw2.peForm
  exact (base_c h2.pc).mono fun e w' ⟨h3, h4⟩ => ⟨h3, h4 ▸ h⟩
theorem buildE3 (w : World) (c0_0 c0_1 c0_2 c0_3 c0_4 c0_5 c0_6 c1_0 c1_1 c1_2 c1_3 c1_4 c1_5 c1_6 c2_0 c2_1 c2_2 c2_3 c2_4 c2_5 c2_6 : Value) :
    (Instr.buildSlice 35 3 #[(0, .agg #[c0_0, c0_1, c0_2, c0_3, c0_4, c0_5, c0_6]), (1, .agg #[c1_0, c1_1, c1_2, c1_3, c1_4, c1_5, c1_6]), (2, .agg #[c2_0, c2_1, c2_2, c2_3, c2_4, c2_5, c2_6])]).run Tryd.prog w = .ok (.slice (some ⟨w.heap.size, 0, none⟩) 3 3) (w.alloc (.cells #[c0_0, c0_1, c0_2, c0_3, c0_4, c0_5, c0_6, c1_0, c1_1, c1_2, c1_3, c1_4, c1_5, c1_6, c2_0, c2_1, c2_2, c2_3, c2_4, c2_5, c2_6] 34)) := by
  simp [go_sem]
theorem wpList_buildE3 {w : World} {ops : Array Oper} {rest : List Oper} {o : Oper} {a : Act} {Q : Exit → Act → World → Prop} (hgd : o.guard = none) (x0 x1 x2 : Operand)
    (ho : o.op = .buildSlice 35 3 #[(0, x0), (1, x1), (2, x2)]) {c0_0 c0_1 c0_2 c0_3 c0_4 c0_5 c0_6 c1_0 c1_1 c1_2 c1_3 c1_4 c1_5 c1_6 c2_0 c2_1 c2_2 c2_3 c2_4 c2_5 c2_6 : Value} (h0 : a.eval x0 = .agg #[c0_0, c0_1, c0_2, c0_3, c0_4, c0_5, c0_6]) (h1 : a.eval x1 = .agg #[c1_0, c1_1, c1_2, c1_3, c1_4, c1_5, c1_6]) (h2 : a.eval x2 = .agg #[c2_0, c2_1, c2_2, c2_3, c2_4, c2_5, c2_6]) {l : Array Value} (hl : #[c0_0, c0_1, c0_2, c0_3, c0_4, c0_5, c0_6, c1_0, c1_1, c1_2, c1_3, c1_4, c1_5, c1_6, c2_0, c2_1, c2_2, c2_3, c2_4, c2_5, c2_6] = l)
    (h : wpList Tryd.prog ops Q rest (a.put o.dst (.slice (some ⟨w.heap.size, 0, none⟩) 3 3)) (w.alloc (.cells l 34))) : wpList Tryd.prog ops Q (o :: rest) a w := by
  subst hl
  refine wpList_plain hgd fun K hK => ?_
  unfold Oper.wp
  simp [execOp, ho, h0, h1, h2, buildE3, Result.andThen]
  exact hK _ _ h
theorem opwp_buildE3 {w : World} {o : Oper} {a : Act} {K : Act → World → Prop} {Q : Exit → Act → World → Prop} (x0 x1 x2 : Operand)
    (ho : o.op = .buildSlice 35 3 #[(0, x0), (1, x1), (2, x2)]) {c0_0 c0_1 c0_2 c0_3 c0_4 c0_5 c0_6 c1_0 c1_1 c1_2 c1_3 c1_4 c1_5 c1_6 c2_0 c2_1 c2_2 c2_3 c2_4 c2_5 c2_6 : Value} (h0 : a.eval x0 = .agg #[c0_0, c0_1, c0_2, c0_3, c0_4, c0_5, c0_6]) (h1 : a.eval x1 = .agg #[c1_0, c1_1, c1_2, c1_3, c1_4, c1_5, c1_6]) (h2 : a.eval x2 = .agg #[c2_0, c2_1, c2_2, c2_3, c2_4, c2_5, c2_6]) {l : Array Value} (hl : #[c0_0, c0_1, c0_2, c0_3, c0_4, c0_5, c0_6, c1_0, c1_1, c1_2, c1_3, c1_4, c1_5, c1_6, c2_0, c2_1, c2_2, c2_3, c2_4, c2_5, c2_6] = l)
    (h : K (a.put o.dst (.slice (some ⟨w.heap.size, 0, none⟩) 3 3)) (w.alloc (.cells l 34))) : Oper.wp Tryd.prog o a w K Q := by
  subst hl
  unfold Oper.wp
  simp [execOp, ho, h0, h1, h2, buildE3, Result.andThen]
  exact h
theorem buildE2 (w : World) (c0_0 c0_1 c0_2 c0_3 c0_4 c0_5 c0_6 c1_0 c1_1 c1_2 c1_3 c1_4 c1_5 c1_6 : Value) :
    (Instr.buildSlice 35 2 #[(0, .agg #[c0_0, c0_1, c0_2, c0_3, c0_4, c0_5, c0_6]), (1, .agg #[c1_0, c1_1, c1_2, c1_3, c1_4, c1_5, c1_6])]).run Tryd.prog w = .ok (.slice (some ⟨w.heap.size, 0, none⟩) 2 2) (w.alloc (.cells #[c0_0, c0_1, c0_2, c0_3, c0_4, c0_5, c0_6, c1_0, c1_1, c1_2, c1_3, c1_4, c1_5, c1_6] 34)) := by
  simp [go_sem]
theorem wpList_buildE2 {w : World} {ops : Array Oper} {rest : List Oper} {o : Oper} {a : Act} {Q : Exit → Act → World → Prop} (hgd : o.guard = none) (x0 x1 : Operand)
    (ho : o.op = .buildSlice 35 2 #[(0, x0), (1, x1)]) {c0_0 c0_1 c0_2 c0_3 c0_4 c0_5 c0_6 c1_0 c1_1 c1_2 c1_3 c1_4 c1_5 c1_6 : Value} (h0 : a.eval x0 = .agg #[c0_0, c0_1, c0_2, c0_3, c0_4, c0_5, c0_6]) (h1 : a.eval x1 = .agg #[c1_0, c1_1, c1_2, c1_3, c1_4, c1_5, c1_6]) {l : Array Value} (hl : #[c0_0, c0_1, c0_2, c0_3, c0_4, c0_5, c0_6, c1_0, c1_1, c1_2, c1_3, c1_4, c1_5, c1_6] = l)
    (h : wpList Tryd.prog ops Q rest (a.put o.dst (.slice (some ⟨w.heap.size, 0, none⟩) 2 2)) (w.alloc (.cells l 34))) : wpList Tryd.prog ops Q (o :: rest) a w := by
  subst hl
  refine wpList_plain hgd fun K hK => ?_
  unfold Oper.wp
  simp [execOp, ho, h0, h1, buildE2, Result.andThen]
  exact hK _ _ h
theorem opwp_buildE2 {w : World} {o : Oper} {a : Act} {K : Act → World → Prop} {Q : Exit → Act → World → Prop} (x0 x1 : Operand)
    (ho : o.op = .buildSlice 35 2 #[(0, x0), (1, x1)]) {c0_0 c0_1 c0_2 c0_3 c0_4 c0_5 c0_6 c1_0 c1_1 c1_2 c1_3 c1_4 c1_5 c1_6 : Value} (h0 : a.eval x0 = .agg #[c0_0, c0_1, c0_2, c0_3, c0_4, c0_5, c0_6]) (h1 : a.eval x1 = .agg #[c1_0, c1_1, c1_2, c1_3, c1_4, c1_5, c1_6]) {l : Array Value} (hl : #[c0_0, c0_1, c0_2, c0_3, c0_4, c0_5, c0_6, c1_0, c1_1, c1_2, c1_3, c1_4, c1_5, c1_6] = l)
    (h : K (a.put o.dst (.slice (some ⟨w.heap.size, 0, none⟩) 2 2)) (w.alloc (.cells l 34))) : Oper.wp Tryd.prog o a w K Q := by
  subst hl
  unfold Oper.wp
  simp [execOp, ho, h0, h1, buildE2, Result.andThen]
  exact h
theorem buildE1 (w : World) (c0_0 c0_1 c0_2 c0_3 c0_4 c0_5 c0_6 : Value) :
    (Instr.buildSlice 35 1 #[(0, .agg #[c0_0, c0_1, c0_2, c0_3, c0_4, c0_5, c0_6])]).run Tryd.prog w = .ok (.slice (some ⟨w.heap.size, 0, none⟩) 1 1) (w.alloc (.cells #[c0_0, c0_1, c0_2, c0_3, c0_4, c0_5, c0_6] 34)) := by
  simp [go_sem]
theorem wpList_buildE1 {w : World} {ops : Array Oper} {rest : List Oper} {o : Oper} {a : Act} {Q : Exit → Act → World → Prop} (hgd : o.guard = none) (x0 : Operand)
    (ho : o.op = .buildSlice 35 1 #[(0, x0)]) {c0_0 c0_1 c0_2 c0_3 c0_4 c0_5 c0_6 : Value} (h0 : a.eval x0 = .agg #[c0_0, c0_1, c0_2, c0_3, c0_4, c0_5, c0_6]) {l : Array Value} (hl : #[c0_0, c0_1, c0_2, c0_3, c0_4, c0_5, c0_6] = l)
    (h : wpList Tryd.prog ops Q rest (a.put o.dst (.slice (some ⟨w.heap.size, 0, none⟩) 1 1)) (w.alloc (.cells l 34))) : wpList Tryd.prog ops Q (o :: rest) a w := by
  subst hl
  refine wpList_plain hgd fun K hK => ?_
  unfold Oper.wp
  simp [execOp, ho, h0, buildE1, Result.andThen]
  exact hK _ _ h
theorem opwp_buildE1 {w : World} {o : Oper} {a : Act} {K : Act → World → Prop} {Q : Exit → Act → World → Prop} (x0 : Operand)
    (ho : o.op = .buildSlice 35 1 #[(0, x0)]) {c0_0 c0_1 c0_2 c0_3 c0_4 c0_5 c0_6 : Value} (h0 : a.eval x0 = .agg #[c0_0, c0_1, c0_2, c0_3, c0_4, c0_5, c0_6]) {l : Array Value} (hl : #[c0_0, c0_1, c0_2, c0_3, c0_4, c0_5, c0_6] = l)
    (h : K (a.put o.dst (.slice (some ⟨w.heap.size, 0, none⟩) 1 1)) (w.alloc (.cells l 34))) : Oper.wp Tryd.prog o a w K Q := by
  subst hl
  unfold Oper.wp
  simp [execOp, ho, h0, buildE1, Result.andThen]
  exact h
end Go.Proofs.YtpknfeokfladkaaDoor
