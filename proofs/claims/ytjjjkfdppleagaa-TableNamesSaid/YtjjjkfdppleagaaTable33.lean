/- The literals of the closed statement: bad seats, odd ones, rows of bytes. -/
import Derived.Test.YtjjjkfdppleagaaTable32
namespace Go.Proofs.Ytjjjkfdppleagaa
open Go Go.RowKit
set_option linter.unusedVariables false
set_option linter.unusedSimpArgs false

theorem buildBad (w : World) (c0_0 c0_1 c0_2 c0_3 c0_4 c0_5 c1_0 c1_1 c1_2 c1_3 c1_4 c1_5 c2_0 c2_1 c2_2 c2_3 c2_4 c2_5 c3_0 c3_1 c3_2 c3_3 c3_4 c3_5 c4_0 c4_1 c4_2 c4_3 c4_4 c4_5 c5_0 c5_1 c5_2 c5_3 c5_4 c5_5 c6_0 c6_1 c6_2 c6_3 c6_4 c6_5 c7_0 c7_1 c7_2 c7_3 c7_4 c7_5 : Value) :
    (Instr.buildSlice 45 8 #[(0, .agg #[c0_0, c0_1, c0_2, c0_3, c0_4, c0_5]), (1, .agg #[c1_0, c1_1, c1_2, c1_3, c1_4, c1_5]), (2, .agg #[c2_0, c2_1, c2_2, c2_3, c2_4, c2_5]), (3, .agg #[c3_0, c3_1, c3_2, c3_3, c3_4, c3_5]), (4, .agg #[c4_0, c4_1, c4_2, c4_3, c4_4, c4_5]), (5, .agg #[c5_0, c5_1, c5_2, c5_3, c5_4, c5_5]), (6, .agg #[c6_0, c6_1, c6_2, c6_3, c6_4, c6_5]), (7, .agg #[c7_0, c7_1, c7_2, c7_3, c7_4, c7_5])]).run Try.prog w = .ok (.slice (some ⟨w.heap.size, 0, none⟩) 8 8) (w.alloc (.cells #[c0_0, c0_1, c0_2, c0_3, c0_4, c0_5, c1_0, c1_1, c1_2, c1_3, c1_4, c1_5, c2_0, c2_1, c2_2, c2_3, c2_4, c2_5, c3_0, c3_1, c3_2, c3_3, c3_4, c3_5, c4_0, c4_1, c4_2, c4_3, c4_4, c4_5, c5_0, c5_1, c5_2, c5_3, c5_4, c5_5, c6_0, c6_1, c6_2, c6_3, c6_4, c6_5, c7_0, c7_1, c7_2, c7_3, c7_4, c7_5] 31)) := by
  simp [go_sem]
theorem wpList_buildBad {w : World} {ops : Array Oper} {rest : List Oper} {o : Oper} {a : Act} {Q : Exit → Act → World → Prop} (hgd : o.guard = none) (x0 x1 x2 x3 x4 x5 x6 x7 : Operand)
    (ho : o.op = .buildSlice 45 8 #[(0, x0), (1, x1), (2, x2), (3, x3), (4, x4), (5, x5), (6, x6), (7, x7)]) {c0_0 c0_1 c0_2 c0_3 c0_4 c0_5 c1_0 c1_1 c1_2 c1_3 c1_4 c1_5 c2_0 c2_1 c2_2 c2_3 c2_4 c2_5 c3_0 c3_1 c3_2 c3_3 c3_4 c3_5 c4_0 c4_1 c4_2 c4_3 c4_4 c4_5 c5_0 c5_1 c5_2 c5_3 c5_4 c5_5 c6_0 c6_1 c6_2 c6_3 c6_4 c6_5 c7_0 c7_1 c7_2 c7_3 c7_4 c7_5 : Value} (h0 : a.eval x0 = .agg #[c0_0, c0_1, c0_2, c0_3, c0_4, c0_5]) (h1 : a.eval x1 = .agg #[c1_0, c1_1, c1_2, c1_3, c1_4, c1_5]) (h2 : a.eval x2 = .agg #[c2_0, c2_1, c2_2, c2_3, c2_4, c2_5]) (h3 : a.eval x3 = .agg #[c3_0, c3_1, c3_2, c3_3, c3_4, c3_5]) (h4 : a.eval x4 = .agg #[c4_0, c4_1, c4_2, c4_3, c4_4, c4_5]) (h5 : a.eval x5 = .agg #[c5_0, c5_1, c5_2, c5_3, c5_4, c5_5]) (h6 : a.eval x6 = .agg #[c6_0, c6_1, c6_2, c6_3, c6_4, c6_5]) (h7 : a.eval x7 = .agg #[c7_0, c7_1, c7_2, c7_3, c7_4, c7_5]) {l : Array Value} (hl : #[c0_0, c0_1, c0_2, c0_3, c0_4, c0_5, c1_0, c1_1, c1_2, c1_3, c1_4, c1_5, c2_0, c2_1, c2_2, c2_3, c2_4, c2_5, c3_0, c3_1, c3_2, c3_3, c3_4, c3_5, c4_0, c4_1, c4_2, c4_3, c4_4, c4_5, c5_0, c5_1, c5_2, c5_3, c5_4, c5_5, c6_0, c6_1, c6_2, c6_3, c6_4, c6_5, c7_0, c7_1, c7_2, c7_3, c7_4, c7_5] = l)
    (h : wpList Try.prog ops Q rest (a.put o.dst (.slice (some ⟨w.heap.size, 0, none⟩) 8 8)) (w.alloc (.cells l 31))) : wpList Try.prog ops Q (o :: rest) a w := by
  subst hl
  refine wpList_plain hgd fun K hK => ?_
  unfold Oper.wp
  simp [execOp, ho, h0, h1, h2, h3, h4, h5, h6, h7, buildBad, Result.andThen]
  exact hK _ _ h
theorem buildOdd (w : World) (c0_0 c0_1 c0_2 c0_3 c0_4 c0_5 c0_6 c1_0 c1_1 c1_2 c1_3 c1_4 c1_5 c1_6 c2_0 c2_1 c2_2 c2_3 c2_4 c2_5 c2_6 c3_0 c3_1 c3_2 c3_3 c3_4 c3_5 c3_6 : Value) :
    (Instr.buildSlice 66 4 #[(0, .agg #[c0_0, c0_1, c0_2, c0_3, c0_4, c0_5, c0_6]), (1, .agg #[c1_0, c1_1, c1_2, c1_3, c1_4, c1_5, c1_6]), (2, .agg #[c2_0, c2_1, c2_2, c2_3, c2_4, c2_5, c2_6]), (3, .agg #[c3_0, c3_1, c3_2, c3_3, c3_4, c3_5, c3_6])]).run Try.prog w = .ok (.slice (some ⟨w.heap.size, 0, none⟩) 4 4) (w.alloc (.cells #[c0_0, c0_1, c0_2, c0_3, c0_4, c0_5, c0_6, c1_0, c1_1, c1_2, c1_3, c1_4, c1_5, c1_6, c2_0, c2_1, c2_2, c2_3, c2_4, c2_5, c2_6, c3_0, c3_1, c3_2, c3_3, c3_4, c3_5, c3_6] 33)) := by
  simp [go_sem]
theorem wpList_buildOdd {w : World} {ops : Array Oper} {rest : List Oper} {o : Oper} {a : Act} {Q : Exit → Act → World → Prop} (hgd : o.guard = none) (x0 x1 x2 x3 : Operand)
    (ho : o.op = .buildSlice 66 4 #[(0, x0), (1, x1), (2, x2), (3, x3)]) {c0_0 c0_1 c0_2 c0_3 c0_4 c0_5 c0_6 c1_0 c1_1 c1_2 c1_3 c1_4 c1_5 c1_6 c2_0 c2_1 c2_2 c2_3 c2_4 c2_5 c2_6 c3_0 c3_1 c3_2 c3_3 c3_4 c3_5 c3_6 : Value} (h0 : a.eval x0 = .agg #[c0_0, c0_1, c0_2, c0_3, c0_4, c0_5, c0_6]) (h1 : a.eval x1 = .agg #[c1_0, c1_1, c1_2, c1_3, c1_4, c1_5, c1_6]) (h2 : a.eval x2 = .agg #[c2_0, c2_1, c2_2, c2_3, c2_4, c2_5, c2_6]) (h3 : a.eval x3 = .agg #[c3_0, c3_1, c3_2, c3_3, c3_4, c3_5, c3_6]) {l : Array Value} (hl : #[c0_0, c0_1, c0_2, c0_3, c0_4, c0_5, c0_6, c1_0, c1_1, c1_2, c1_3, c1_4, c1_5, c1_6, c2_0, c2_1, c2_2, c2_3, c2_4, c2_5, c2_6, c3_0, c3_1, c3_2, c3_3, c3_4, c3_5, c3_6] = l)
    (h : wpList Try.prog ops Q rest (a.put o.dst (.slice (some ⟨w.heap.size, 0, none⟩) 4 4)) (w.alloc (.cells l 33))) : wpList Try.prog ops Q (o :: rest) a w := by
  subst hl
  refine wpList_plain hgd fun K hK => ?_
  unfold Oper.wp
  simp [execOp, ho, h0, h1, h2, h3, buildOdd, Result.andThen]
  exact hK _ _ h
theorem buildB1 (w : World) (c0 : Int) :
    (Instr.buildSlice 52 1 #[(0, .int .u8 c0)]).run Try.prog w = .ok (.slice (some ⟨w.heap.size, 0, none⟩) 1 1) (w.alloc (.cells #[.int .u8 c0] 5)) := by
  simp [go_sem]
theorem wpList_buildB1 {w : World} {ops : Array Oper} {rest : List Oper} {o : Oper} {a : Act} {Q : Exit → Act → World → Prop} (hgd : o.guard = none) (x0 : Operand)
    (ho : o.op = .buildSlice 52 1 #[(0, x0)]) {c0 : Int} (h0 : a.eval x0 = .int .u8 c0) {l : Array Value} (hl : #[.int .u8 c0] = l)
    (h : wpList Try.prog ops Q rest (a.put o.dst (.slice (some ⟨w.heap.size, 0, none⟩) 1 1)) (w.alloc (.cells l 5))) : wpList Try.prog ops Q (o :: rest) a w := by
  subst hl
  refine wpList_plain hgd fun K hK => ?_
  unfold Oper.wp
  simp [execOp, ho, h0, buildB1, Result.andThen]
  exact hK _ _ h
theorem buildB2 (w : World) (c0 c1 : Int) :
    (Instr.buildSlice 52 2 #[(0, .int .u8 c0), (1, .int .u8 c1)]).run Try.prog w = .ok (.slice (some ⟨w.heap.size, 0, none⟩) 2 2) (w.alloc (.cells #[.int .u8 c0, .int .u8 c1] 5)) := by
  simp [go_sem]
theorem wpList_buildB2 {w : World} {ops : Array Oper} {rest : List Oper} {o : Oper} {a : Act} {Q : Exit → Act → World → Prop} (hgd : o.guard = none) (x0 x1 : Operand)
    (ho : o.op = .buildSlice 52 2 #[(0, x0), (1, x1)]) {c0 c1 : Int} (h0 : a.eval x0 = .int .u8 c0) (h1 : a.eval x1 = .int .u8 c1) {l : Array Value} (hl : #[.int .u8 c0, .int .u8 c1] = l)
    (h : wpList Try.prog ops Q rest (a.put o.dst (.slice (some ⟨w.heap.size, 0, none⟩) 2 2)) (w.alloc (.cells l 5))) : wpList Try.prog ops Q (o :: rest) a w := by
  subst hl
  refine wpList_plain hgd fun K hK => ?_
  unfold Oper.wp
  simp [execOp, ho, h0, h1, buildB2, Result.andThen]
  exact hK _ _ h
theorem buildB7 (w : World) (c0 c1 c2 c3 c4 c5 c6 : Int) :
    (Instr.buildSlice 52 7 #[(0, .int .u8 c0), (1, .int .u8 c1), (2, .int .u8 c2), (3, .int .u8 c3), (4, .int .u8 c4), (5, .int .u8 c5), (6, .int .u8 c6)]).run Try.prog w = .ok (.slice (some ⟨w.heap.size, 0, none⟩) 7 7) (w.alloc (.cells #[.int .u8 c0, .int .u8 c1, .int .u8 c2, .int .u8 c3, .int .u8 c4, .int .u8 c5, .int .u8 c6] 5)) := by
  simp [go_sem]
theorem wpList_buildB7 {w : World} {ops : Array Oper} {rest : List Oper} {o : Oper} {a : Act} {Q : Exit → Act → World → Prop} (hgd : o.guard = none) (x0 x1 x2 x3 x4 x5 x6 : Operand)
    (ho : o.op = .buildSlice 52 7 #[(0, x0), (1, x1), (2, x2), (3, x3), (4, x4), (5, x5), (6, x6)]) {c0 c1 c2 c3 c4 c5 c6 : Int} (h0 : a.eval x0 = .int .u8 c0) (h1 : a.eval x1 = .int .u8 c1) (h2 : a.eval x2 = .int .u8 c2) (h3 : a.eval x3 = .int .u8 c3) (h4 : a.eval x4 = .int .u8 c4) (h5 : a.eval x5 = .int .u8 c5) (h6 : a.eval x6 = .int .u8 c6) {l : Array Value} (hl : #[.int .u8 c0, .int .u8 c1, .int .u8 c2, .int .u8 c3, .int .u8 c4, .int .u8 c5, .int .u8 c6] = l)
    (h : wpList Try.prog ops Q rest (a.put o.dst (.slice (some ⟨w.heap.size, 0, none⟩) 7 7)) (w.alloc (.cells l 5))) : wpList Try.prog ops Q (o :: rest) a w := by
  subst hl
  refine wpList_plain hgd fun K hK => ?_
  unfold Oper.wp
  simp [execOp, ho, h0, h1, h2, h3, h4, h5, h6, buildB7, Result.andThen]
  exact hK _ _ h
theorem buildB9 (w : World) (c0 c1 c2 c3 c4 c5 c6 c7 c8 : Int) :
    (Instr.buildSlice 52 9 #[(0, .int .u8 c0), (1, .int .u8 c1), (2, .int .u8 c2), (3, .int .u8 c3), (4, .int .u8 c4), (5, .int .u8 c5), (6, .int .u8 c6), (7, .int .u8 c7), (8, .int .u8 c8)]).run Try.prog w = .ok (.slice (some ⟨w.heap.size, 0, none⟩) 9 9) (w.alloc (.cells #[.int .u8 c0, .int .u8 c1, .int .u8 c2, .int .u8 c3, .int .u8 c4, .int .u8 c5, .int .u8 c6, .int .u8 c7, .int .u8 c8] 5)) := by
  simp [go_sem]
theorem wpList_buildB9 {w : World} {ops : Array Oper} {rest : List Oper} {o : Oper} {a : Act} {Q : Exit → Act → World → Prop} (hgd : o.guard = none) (x0 x1 x2 x3 x4 x5 x6 x7 x8 : Operand)
    (ho : o.op = .buildSlice 52 9 #[(0, x0), (1, x1), (2, x2), (3, x3), (4, x4), (5, x5), (6, x6), (7, x7), (8, x8)]) {c0 c1 c2 c3 c4 c5 c6 c7 c8 : Int} (h0 : a.eval x0 = .int .u8 c0) (h1 : a.eval x1 = .int .u8 c1) (h2 : a.eval x2 = .int .u8 c2) (h3 : a.eval x3 = .int .u8 c3) (h4 : a.eval x4 = .int .u8 c4) (h5 : a.eval x5 = .int .u8 c5) (h6 : a.eval x6 = .int .u8 c6) (h7 : a.eval x7 = .int .u8 c7) (h8 : a.eval x8 = .int .u8 c8) {l : Array Value} (hl : #[.int .u8 c0, .int .u8 c1, .int .u8 c2, .int .u8 c3, .int .u8 c4, .int .u8 c5, .int .u8 c6, .int .u8 c7, .int .u8 c8] = l)
    (h : wpList Try.prog ops Q rest (a.put o.dst (.slice (some ⟨w.heap.size, 0, none⟩) 9 9)) (w.alloc (.cells l 5))) : wpList Try.prog ops Q (o :: rest) a w := by
  subst hl
  refine wpList_plain hgd fun K hK => ?_
  unfold Oper.wp
  simp [execOp, ho, h0, h1, h2, h3, h4, h5, h6, h7, h8, buildB9, Result.andThen]
  exact hK _ _ h
theorem buildB15 (w : World) (c0 c1 c2 c3 c4 c5 c6 c7 c8 c9 c10 c11 c12 c13 c14 : Int) :
    (Instr.buildSlice 52 15 #[(0, .int .u8 c0), (1, .int .u8 c1), (2, .int .u8 c2), (3, .int .u8 c3), (4, .int .u8 c4), (5, .int .u8 c5), (6, .int .u8 c6), (7, .int .u8 c7), (8, .int .u8 c8), (9, .int .u8 c9), (10, .int .u8 c10), (11, .int .u8 c11), (12, .int .u8 c12), (13, .int .u8 c13), (14, .int .u8 c14)]).run Try.prog w = .ok (.slice (some ⟨w.heap.size, 0, none⟩) 15 15) (w.alloc (.cells #[.int .u8 c0, .int .u8 c1, .int .u8 c2, .int .u8 c3, .int .u8 c4, .int .u8 c5, .int .u8 c6, .int .u8 c7, .int .u8 c8, .int .u8 c9, .int .u8 c10, .int .u8 c11, .int .u8 c12, .int .u8 c13, .int .u8 c14] 5)) := by
  simp [go_sem]
theorem wpList_buildB15 {w : World} {ops : Array Oper} {rest : List Oper} {o : Oper} {a : Act} {Q : Exit → Act → World → Prop} (hgd : o.guard = none) (x0 x1 x2 x3 x4 x5 x6 x7 x8 x9 x10 x11 x12 x13 x14 : Operand)
    (ho : o.op = .buildSlice 52 15 #[(0, x0), (1, x1), (2, x2), (3, x3), (4, x4), (5, x5), (6, x6), (7, x7), (8, x8), (9, x9), (10, x10), (11, x11), (12, x12), (13, x13), (14, x14)]) {c0 c1 c2 c3 c4 c5 c6 c7 c8 c9 c10 c11 c12 c13 c14 : Int} (h0 : a.eval x0 = .int .u8 c0) (h1 : a.eval x1 = .int .u8 c1) (h2 : a.eval x2 = .int .u8 c2) (h3 : a.eval x3 = .int .u8 c3) (h4 : a.eval x4 = .int .u8 c4) (h5 : a.eval x5 = .int .u8 c5) (h6 : a.eval x6 = .int .u8 c6) (h7 : a.eval x7 = .int .u8 c7) (h8 : a.eval x8 = .int .u8 c8) (h9 : a.eval x9 = .int .u8 c9) (h10 : a.eval x10 = .int .u8 c10) (h11 : a.eval x11 = .int .u8 c11) (h12 : a.eval x12 = .int .u8 c12) (h13 : a.eval x13 = .int .u8 c13) (h14 : a.eval x14 = .int .u8 c14) {l : Array Value} (hl : #[.int .u8 c0, .int .u8 c1, .int .u8 c2, .int .u8 c3, .int .u8 c4, .int .u8 c5, .int .u8 c6, .int .u8 c7, .int .u8 c8, .int .u8 c9, .int .u8 c10, .int .u8 c11, .int .u8 c12, .int .u8 c13, .int .u8 c14] = l)
    (h : wpList Try.prog ops Q rest (a.put o.dst (.slice (some ⟨w.heap.size, 0, none⟩) 15 15)) (w.alloc (.cells l 5))) : wpList Try.prog ops Q (o :: rest) a w := by
  subst hl
  refine wpList_plain hgd fun K hK => ?_
  unfold Oper.wp
  simp [execOp, ho, h0, h1, h2, h3, h4, h5, h6, h7, h8, h9, h10, h11, h12, h13, h14, buildB15, Result.andThen]
  exact hK _ _ h
theorem buildRows (w : World) (a0 a1 a2 a3 a4 a5 a6 a7 a8 a9 : Option Addr) (l0 l1 l2 l3 l4 l5 l6 l7 l8 l9 : Nat) :
    (Instr.buildSlice 69 10 #[(0, .slice a0 l0 l0), (1, .slice a1 l1 l1), (2, .slice a2 l2 l2), (3, .slice a3 l3 l3), (4, .slice a4 l4 l4), (5, .slice a5 l5 l5), (6, .slice a6 l6 l6), (7, .slice a7 l7 l7), (8, .slice a8 l8 l8), (9, .slice a9 l9 l9)]).run Try.prog w = .ok (.slice (some ⟨w.heap.size, 0, none⟩) 10 10) (w.alloc (.cells #[.slice a0 l0 l0, .slice a1 l1 l1, .slice a2 l2 l2, .slice a3 l3 l3, .slice a4 l4 l4, .slice a5 l5 l5, .slice a6 l6 l6, .slice a7 l7 l7, .slice a8 l8 l8, .slice a9 l9 l9] 52)) := by
  simp [go_sem]
theorem wpList_buildRows {w : World} {ops : Array Oper} {rest : List Oper} {o : Oper} {a : Act} {Q : Exit → Act → World → Prop} (hgd : o.guard = none) (x0 x1 x2 x3 x4 x5 x6 x7 x8 x9 : Operand)
    (ho : o.op = .buildSlice 69 10 #[(0, x0), (1, x1), (2, x2), (3, x3), (4, x4), (5, x5), (6, x6), (7, x7), (8, x8), (9, x9)]) {a0 a1 a2 a3 a4 a5 a6 a7 a8 a9 : Option Addr} {l0 l1 l2 l3 l4 l5 l6 l7 l8 l9 : Nat} (h0 : a.eval x0 = .slice a0 l0 l0) (h1 : a.eval x1 = .slice a1 l1 l1) (h2 : a.eval x2 = .slice a2 l2 l2) (h3 : a.eval x3 = .slice a3 l3 l3) (h4 : a.eval x4 = .slice a4 l4 l4) (h5 : a.eval x5 = .slice a5 l5 l5) (h6 : a.eval x6 = .slice a6 l6 l6) (h7 : a.eval x7 = .slice a7 l7 l7) (h8 : a.eval x8 = .slice a8 l8 l8) (h9 : a.eval x9 = .slice a9 l9 l9) {l : Array Value} (hl : #[.slice a0 l0 l0, .slice a1 l1 l1, .slice a2 l2 l2, .slice a3 l3 l3, .slice a4 l4 l4, .slice a5 l5 l5, .slice a6 l6 l6, .slice a7 l7 l7, .slice a8 l8 l8, .slice a9 l9 l9] = l)
    (h : wpList Try.prog ops Q rest (a.put o.dst (.slice (some ⟨w.heap.size, 0, none⟩) 10 10)) (w.alloc (.cells l 52))) : wpList Try.prog ops Q (o :: rest) a w := by
  subst hl
  refine wpList_plain hgd fun K hK => ?_
  unfold Oper.wp
  simp [execOp, ho, h0, h1, h2, h3, h4, h5, h6, h7, h8, h9, buildRows, Result.andThen]
  exact hK _ _ h
theorem buildWant (w : World) (c0 c1 c2 c3 c4 c5 c6 c7 c8 c9 : Int) :
    (Instr.buildSlice 70 10 #[(0, .int .i64 c0), (1, .int .i64 c1), (2, .int .i64 c2), (3, .int .i64 c3), (4, .int .i64 c4), (5, .int .i64 c5), (6, .int .i64 c6), (7, .int .i64 c7), (8, .int .i64 c8), (9, .int .i64 c9)]).run Try.prog w = .ok (.slice (some ⟨w.heap.size, 0, none⟩) 10 10) (w.alloc (.cells #[.int .i64 c0, .int .i64 c1, .int .i64 c2, .int .i64 c3, .int .i64 c4, .int .i64 c5, .int .i64 c6, .int .i64 c7, .int .i64 c8, .int .i64 c9] 37)) := by
  simp [go_sem]
theorem wpList_buildWant {w : World} {ops : Array Oper} {rest : List Oper} {o : Oper} {a : Act} {Q : Exit → Act → World → Prop} (hgd : o.guard = none) (x0 x1 x2 x3 x4 x5 x6 x7 x8 x9 : Operand)
    (ho : o.op = .buildSlice 70 10 #[(0, x0), (1, x1), (2, x2), (3, x3), (4, x4), (5, x5), (6, x6), (7, x7), (8, x8), (9, x9)]) {c0 c1 c2 c3 c4 c5 c6 c7 c8 c9 : Int} (h0 : a.eval x0 = .int .i64 c0) (h1 : a.eval x1 = .int .i64 c1) (h2 : a.eval x2 = .int .i64 c2) (h3 : a.eval x3 = .int .i64 c3) (h4 : a.eval x4 = .int .i64 c4) (h5 : a.eval x5 = .int .i64 c5) (h6 : a.eval x6 = .int .i64 c6) (h7 : a.eval x7 = .int .i64 c7) (h8 : a.eval x8 = .int .i64 c8) (h9 : a.eval x9 = .int .i64 c9) {l : Array Value} (hl : #[.int .i64 c0, .int .i64 c1, .int .i64 c2, .int .i64 c3, .int .i64 c4, .int .i64 c5, .int .i64 c6, .int .i64 c7, .int .i64 c8, .int .i64 c9] = l)
    (h : wpList Try.prog ops Q rest (a.put o.dst (.slice (some ⟨w.heap.size, 0, none⟩) 10 10)) (w.alloc (.cells l 37))) : wpList Try.prog ops Q (o :: rest) a w := by
  subst hl
  refine wpList_plain hgd fun K hK => ?_
  unfold Oper.wp
  simp [execOp, ho, h0, h1, h2, h3, h4, h5, h6, h7, h8, h9, buildWant, Result.andThen]
  exact hK _ _ h
def BAD : List SW := [⟨false, -1, 1, 1, 0, 0, 0⟩, ⟨false, 8, 1, 1, 0, 0, 0⟩, ⟨false, 0, 0, 1, 0, 0, 0⟩, ⟨false, 0, 2147483648, 1, 0, 0, 0⟩, ⟨false, 0, 1, 0, 0, 0, 0⟩, ⟨false, 0, 1, 9007199254740992, 0, 0, 0⟩, ⟨false, 0, 1, 1, 7, 0, 0⟩, ⟨false, 0, 1, 1, 0, -1, 0⟩]
theorem bad_all (k : Nat) (hk : k < BAD.length) : clientOk BAD[k].c BAD[k].n BAD[k].o BAD[k].k BAD[k].a BAD[k].b = false := by
  have h : BAD.all (fun s => !clientOk s.c s.n s.o s.k s.a s.b) = true := by kernel_rfl
  have h9 := List.all_eq_true.1 h _ (List.getElem_mem hk)
  simpa using h9
def ODD : List SW := [⟨true, 0, 0, 0, 0, 0, 0⟩, ⟨true, 1, 1, 1, 0, 0, 0⟩, ⟨true, 0, 2147483647, 1, 0, 0, 0⟩, ⟨false, 0, 1, 0, 0, 0, 0⟩]
def fullS (i : Nat) : SW := ⟨true, i, 2147483647, 9007199254740991, 6, 2147483647, 2147483647⟩
def tabAt (k : Nat) : List SW := (List.range 8).map fun i => if i < k ∧ i < 6 then fullS i else SW.zero
theorem tabAt_len (k : Nat) : (tabAt k).length = 8 := by unfold tabAt; simp
theorem tabAt_0 : tabAt 0 = T0 := by kernel_rfl
theorem full_ok (k : Nat) (hk : k < 8) : clientOk k 2147483647 9007199254740991 6 2147483647 2147483647 = true := by
  match k, hk with
  | 0, _ => show _ = _; kernel_rfl
  | 1, _ => show _ = _; kernel_rfl
  | 2, _ => show _ = _; kernel_rfl
  | 3, _ => show _ = _; kernel_rfl
  | 4, _ => show _ = _; kernel_rfl
  | 5, _ => show _ = _; kernel_rfl
  | 6, _ => show _ = _; kernel_rfl
  | 7, _ => show _ = _; kernel_rfl
theorem tabAt_put (k : Nat) (hk : k < 6) : (tabAt k)[k]? = some SW.zero ∧ judgeV (tabAt k) k 2147483647 = 1 ∧ (tabAt k).set k ⟨true, k, 2147483647, 9007199254740991, 6, 2147483647, 2147483647⟩ = tabAt (k + 1) := by
  match k, hk with
  | 0, _ => exact ⟨by kernel_rfl, by kernel_rfl, by kernel_rfl⟩
  | 1, _ => exact ⟨by kernel_rfl, by kernel_rfl, by kernel_rfl⟩
  | 2, _ => exact ⟨by kernel_rfl, by kernel_rfl, by kernel_rfl⟩
  | 3, _ => exact ⟨by kernel_rfl, by kernel_rfl, by kernel_rfl⟩
  | 4, _ => exact ⟨by kernel_rfl, by kernel_rfl, by kernel_rfl⟩
  | 5, _ => exact ⟨by kernel_rfl, by kernel_rfl, by kernel_rfl⟩
theorem tabAt_full (k : Nat) (hk : k < 8) (h6 : 6 ≤ k) : judgeV (tabAt k) k 2147483647 = 4 ∧ tabAt k = tabAt (k + 1) := by
  match k, hk, h6 with
  | 6, _, _ => exact ⟨by kernel_rfl, by kernel_rfl⟩
  | 7, _, _ => exact ⟨by kernel_rfl, by kernel_rfl⟩
def T8 : List SW := tabAt 8
theorem odd_all (k : Nat) (hk : k < ODD.length) : precV ODD[k] (seatAt T8 0) = false := by
  have h : ODD.all (fun s => !precV s (seatAt T8 0)) = true := by kernel_rfl
  have h9 := List.all_eq_true.1 h _ (List.getElem_mem hk)
  simpa using h9
theorem had8 : (seatAt T8 0).had = true := by kernel_rfl
theorem had8_6 : (seatAt T8 6).had = false := by kernel_rfl
theorem had8_m : (seatAt T8 (-1)).had = false := by kernel_rfl
def T9 : List SW := T8.set 5 SW.zero
theorem len9 : (seatsOf T9).length = 5 := by kernel_rfl
theorem judge9 : judgeV T9 7 1 = 1 := by kernel_rfl
theorem prec9 : T8[5]? = some (fullS 5) ∧ (fullS 5).had = true ∧ precV SW.zero (fullS 5) = true := ⟨by kernel_rfl, by kernel_rfl, by kernel_rfl⟩
def ROWS : List (List UInt8) := [[], [7], [1], [1, 3, 5, 9, 3, 0, 1], [1, 3, 5, 9, 4, 0, 1, 2, 0], [1, 8, 5, 9, 3, 0, 1, 2], [0, 0], [2, 3, 5, 9, 3, 0, 1, 2, 3, 6, 9, 3, 0, 1, 2], [1, 3, 5, 9, 3, 9, 1, 2], [0]]
def WANT : List Int := [3, 4, 3, 3, 4, 4, 4, 4, 4, 0]
theorem rows_want (k : Nat) (hk : k < 10) : (opnT (ROWS.getD k [])).2 = WANT.getD k 0 := by
  match k, hk with
  | 0, _ => show _ = _; kernel_rfl
  | 1, _ => show _ = _; kernel_rfl
  | 2, _ => show _ = _; kernel_rfl
  | 3, _ => show _ = _; kernel_rfl
  | 4, _ => show _ = _; kernel_rfl
  | 5, _ => show _ = _; kernel_rfl
  | 6, _ => show _ = _; kernel_rfl
  | 7, _ => show _ = _; kernel_rfl
  | 8, _ => show _ = _; kernel_rfl
  | 9, _ => show _ = _; kernel_rfl
theorem rows_len (k : Nat) (hk : k < 10) : (ROWS.getD k []).length ≤ 1000000 := by
  match k, hk with
  | 0, _ => exact (by decide)
  | 1, _ => exact (by decide)
  | 2, _ => exact (by decide)
  | 3, _ => exact (by decide)
  | 4, _ => exact (by decide)
  | 5, _ => exact (by decide)
  | 6, _ => exact (by decide)
  | 7, _ => exact (by decide)
  | 8, _ => exact (by decide)
  | 9, _ => exact (by decide)
/-- Open, by its error only. -/
theorem topen_e {w : World} (v : Value) (b : List UInt8) (hv : Sl w v (bv b)) (hl : b.length ≤ 1000000) :
    Calls Try.prog 29 #[v] w fun e w' => ∃ p, e = .returned (.tuple #[.pointer p, .int .i64 (opnT b).2]) ∧ Below w.heap.size w w' := by
  refine (topen_any v b (Sep.start w) hv hl).mono ?_
  rintro e w1 (⟨T, g, h1, rfl, h2⟩ | ⟨er, h1, -, rfl, h2⟩)
  · exact ⟨_, by rw [h1], h2.low⟩
  · exact ⟨_, by rw [h1], h2.low⟩

end Go.Proofs.Ytjjjkfdppleagaa