/- Literals of ops and of lines; bytes that are laid. -/
import Derived.Test.YtfjodadmcfdlpaaDoorItem26
import Derived.Test.YtfjodadmcfdlpaaDoorItem27
namespace Go.Proofs.YtfjodadmcfdlpaaDoor
open Go.RowKit
set_option linter.unusedVariables false
set_option linter.unusedSimpArgs false
/-- An op as it stands in a row. -/
structure OpL where
  k : Int
  s : KS
  o : Int
  n : Int
  v : Value
  ls : List Ln
def OpL.cells (p : OpL) : List Value := [.int .i64 p.k, .string p.s.1, .int .i64 p.o, .int .i64 p.n, p.v]
def opLs (l : List OpL) : List Value := l.flatMap OpL.cells
theorem opLs_get (l : List OpL) (i j : Nat) (hi : i < l.length) (hj : j < 5) : (opLs l)[i * 5 + j]? = (l[i]).cells[j]? := by
  induction l generalizing i with
  | nil => simp at hi
  | cons d ds ih =>
    unfold opLs at *
    rw [List.flatMap_cons]
    cases i with
    | zero => rw [Nat.zero_mul, Nat.zero_add, List.getElem?_append_left (by simp [OpL.cells]; omega)]; rfl
    | succ i =>
      have hl : (OpL.cells d).length = 5 := rfl
      rw [List.getElem?_append_right (by rw [hl]; omega), hl, show (i + 1) * 5 + j - 5 = i * 5 + j by omega, ih i (by simpa using hi)]
      rfl
def Op5 (w : World) (b i : Nat) (p : OpL) : Prop := w.cell? ⟨b, i, none⟩ = some (.int .i64 p.k) ∧ w.cell? ⟨b, i + 1, none⟩ = some (.string p.s.1) ∧ w.cell? ⟨b, i + 2, none⟩ = some (.int .i64 p.o) ∧ w.cell? ⟨b, i + 3, none⟩ = some (.int .i64 p.n) ∧ w.cell? ⟨b, i + 4, none⟩ = some p.v
theorem Sep.op5 {w0 w : World} {b : Nat} {l : List OpL} {L : List Thing} (h : Sep w0 (Cl b (opLs l).toArray 24 :: L) w) (i : Nat) (hi : i < l.length) : Op5 w b (i * 5) l[i] := by
  have g : ∀ j, j < 5 → (opLs l).toArray[i * 5 + j]? = (l[i]).cells[j]? := fun j hj => by rw [List.getElem?_toArray]; exact opLs_get l i j hi hj
  exact ⟨h.cell (g 0 (by omega)), h.cell (g 1 (by omega)), h.cell (g 2 (by omega)), h.cell (g 3 (by omega)), h.cell (g 4 (by omega))⟩
theorem kn_cells {w0 w : World} {b : Nat} {l : List OpL} {L : List Thing} {k : Int} {s : KS} {o n : Int} {v : Value} {ls : List Ln} (h : Sep w0 (Cl b (opLs l).toArray 24 :: L) w) (i : Nat) (hi : i < l.length) (he : l[i] = ⟨k, s, o, n, v, ls⟩) :
    w.cell? ⟨b, i * 5, none⟩ = some (.int .i64 k) ∧ w.cell? ⟨b, i * 5 + 1, none⟩ = some (.string s.1) ∧ w.cell? ⟨b, i * 5 + 2, none⟩ = some (.int .i64 o) ∧ w.cell? ⟨b, i * 5 + 3, none⟩ = some (.int .i64 n) ∧ w.cell? ⟨b, i * 5 + 4, none⟩ = some v := by
  have := h.op5 i hi
  rw [he] at this
  exact this
theorem kn_cells0 {w0 w : World} {b : Nat} {l : List OpL} {L : List Thing} {k : Int} {s : KS} {o n : Int} {v : Value} {ls : List Ln} (h : Sep w0 (Cl b (opLs l).toArray 24 :: L) w) (hi : 0 < l.length) (he : l[0] = ⟨k, s, o, n, v, ls⟩) :
    w.cell? ⟨b, 0, none⟩ = some (.int .i64 k) ∧ w.cell? ⟨b, 1, none⟩ = some (.string s.1) ∧ w.cell? ⟨b, 2, none⟩ = some (.int .i64 o) ∧ w.cell? ⟨b, 3, none⟩ = some (.int .i64 n) ∧ w.cell? ⟨b, 4, none⟩ = some v := by
  have := h.op5 0 hi
  rw [he] at this
  exact this
theorem kn_ln {w : World} {p : OpL} {k : Int} {s : KS} {o n : Int} {v : Value} {ls : List Ln} (h : LnS w p.v p.ls) (he : p = ⟨k, s, o, n, v, ls⟩) : LnS w v ls := by subst he; exact h
/-- A block of lines, read. -/
theorem Sep.lnCl {w0 w : World} {b n : Nat} {ls : List Ln} {xs : Array Value} {L : List Thing} (h : Sep w0 (Cl b xs 39 :: L) w) (hx : xs.toList = lnCells ls) (hn : ls.length = n) (hl : n ≤ 1000) : LnS w (.slice (some ⟨b, 0, none⟩) n n) ls := by
  subst hn
  have hg : ∀ j : Nat, xs[j]? = (lnCells ls)[j]? := fun j => by rw [← hx, Array.getElem?_toList]
  refine .inr ⟨b, 0, ls.length, rfl, Nat.le_refl _, by unfold maxLen; omega, h.blk_lt.2, fun i hi => ⟨?_, ?_⟩⟩
  · rw [Nat.zero_add]; exact h.cell ((hg _).trans (lnCells_at ls i hi).1)
  · rw [Nat.zero_add]; exact h.cell ((hg _).trans (lnCells_at ls i hi).2)
theorem lnS_nil (w : World) : LnS w (.slice none 0 0) [] := .inl ⟨none, 0, rfl, fun _ => rfl, rfl⟩
/-- A block of bytes, read. -/
theorem Sep.litSl {w0 w : World} {g n : Nat} {xs : Array Value} {L : List Thing} (l : List UInt8) (h : Sep w0 (Cl g xs 5 :: L) w) (hx : xs.toList = bv l) (hn : l.length = n) (h1 : n ≤ 1000) : Sl w (.slice (some ⟨g, 0, none⟩) n n) (bv l) := by
  subst hn
  have hs : xs.size = l.length := by rw [← Array.length_toList, hx, bv_length]
  have h2 := h.asRow l.length hs (by unfold maxLen; omega)
  rw [hx] at h2
  have h3 : Sep w0 (By (.slice (some ⟨g, 0, none⟩) l.length l.length) l :: L) w := h2
  exact h3.sl
def sA : KS := ⟨⟨#[97]⟩, by decide⟩
def five : List Ln := [(sA, 1), (⟨⟨#[98]⟩, by decide⟩, 1), (⟨⟨#[99]⟩, by decide⟩, 1), (⟨⟨#[100]⟩, by decide⟩, 1), (⟨⟨#[101]⟩, by decide⟩, 1)]
def gd (g : Nat) : Value := .slice (some ⟨g, 0, none⟩) 1 1
def knOps (kind n : Int) (g x : Nat) : List OpL := [⟨kind, sA, 0, n, .slice none 0 0, []⟩, ⟨kind, sZ, 0, n, .slice none 0 0, []⟩, ⟨kind, sZ, n, 0, .slice none 0 0, []⟩, ⟨kind, sZ, n, 5, gd g, [(sA, 1)]⟩, ⟨kind, sZ, 5, n, gd g, [(sA, 1)]⟩, ⟨kind, sZ, 5, 5, gd x, [(sA, n)]⟩, ⟨kind, sA, n, 0, .slice none 0 0, []⟩, ⟨n, sZ, 0, 0, .slice none 0 0, []⟩]
theorem knOps_ln {kind n : Int} {g x : Nat} {w : World} (hg : LnS w (gd g) [(sA, 1)]) (hx : LnS w (gd x) [(sA, n)]) (i : Nat) (hi : i < (knOps kind n g x).length) : LnS w (knOps kind n g x)[i].v (knOps kind n g x)[i].ls := by
  have h8 : i < 8 := hi
  have hz := lnS_nil w
  rcases (show i = 0 ∨ i = 1 ∨ i = 2 ∨ i = 3 ∨ i = 4 ∨ i = 5 ∨ i = 6 ∨ i = 7 by omega) with rfl | rfl | rfl | rfl | rfl | rfl | rfl | rfl
  · exact hz
  · exact hz
  · exact hz
  · exact hg
  · exact hg
  · exact hx
  · exact hz
  · exact hz
theorem get_int (l : List Int) (a : Array Value) (h : a.toList = l.map (Value.int .i64)) (i : Nat) (hi : i < l.length) : ∃ z : Int, a[i]? = some (.int .i64 z) := by
  refine ⟨l[i], ?_⟩
  rw [← Array.getElem?_toList, h, List.getElem?_map, List.getElem?_eq_getElem hi]; rfl
theorem get_str (l : List KS) (a : Array Value) (h : a.toList = l.map (fun s => Value.string s.1)) (i : Nat) (hi : i < l.length) : ∃ s : KS, a[i]? = some (.string s.1) := by
  refine ⟨l[i], ?_⟩
  rw [← Array.getElem?_toList, h, List.getElem?_map, List.getElem?_eq_getElem hi]; rfl
theorem build8 (w : World) (c0_0 c0_1 c0_2 c0_3 c0_4 c1_0 c1_1 c1_2 c1_3 c1_4 c2_0 c2_1 c2_2 c2_3 c2_4 c3_0 c3_1 c3_2 c3_3 c3_4 c4_0 c4_1 c4_2 c4_3 c4_4 c5_0 c5_1 c5_2 c5_3 c5_4 c6_0 c6_1 c6_2 c6_3 c6_4 c7_0 c7_1 c7_2 c7_3 c7_4 : Value) :
    (Instr.buildSlice 52 8 #[(0, .agg #[c0_0, c0_1, c0_2, c0_3, c0_4]), (1, .agg #[c1_0, c1_1, c1_2, c1_3, c1_4]), (2, .agg #[c2_0, c2_1, c2_2, c2_3, c2_4]), (3, .agg #[c3_0, c3_1, c3_2, c3_3, c3_4]), (4, .agg #[c4_0, c4_1, c4_2, c4_3, c4_4]), (5, .agg #[c5_0, c5_1, c5_2, c5_3, c5_4]), (6, .agg #[c6_0, c6_1, c6_2, c6_3, c6_4]), (7, .agg #[c7_0, c7_1, c7_2, c7_3, c7_4])]).run Tryd.prog w = .ok (.slice (some ⟨w.heap.size, 0, none⟩) 8 8) (w.alloc (.cells #[c0_0, c0_1, c0_2, c0_3, c0_4, c1_0, c1_1, c1_2, c1_3, c1_4, c2_0, c2_1, c2_2, c2_3, c2_4, c3_0, c3_1, c3_2, c3_3, c3_4, c4_0, c4_1, c4_2, c4_3, c4_4, c5_0, c5_1, c5_2, c5_3, c5_4, c6_0, c6_1, c6_2, c6_3, c6_4, c7_0, c7_1, c7_2, c7_3, c7_4] 24)) := by
  simp [go_sem]
theorem wpList_build8 {w : World} {ops : Array Oper} {rest : List Oper} {o : Oper} {a : Act} {Q : Exit → Act → World → Prop} (hgd : o.guard = none) (x0 x1 x2 x3 x4 x5 x6 x7 : Operand)
    (ho : o.op = .buildSlice 52 8 #[(0, x0), (1, x1), (2, x2), (3, x3), (4, x4), (5, x5), (6, x6), (7, x7)]) {c0_0 c0_1 c0_2 c0_3 c0_4 c1_0 c1_1 c1_2 c1_3 c1_4 c2_0 c2_1 c2_2 c2_3 c2_4 c3_0 c3_1 c3_2 c3_3 c3_4 c4_0 c4_1 c4_2 c4_3 c4_4 c5_0 c5_1 c5_2 c5_3 c5_4 c6_0 c6_1 c6_2 c6_3 c6_4 c7_0 c7_1 c7_2 c7_3 c7_4 : Value} (h0 : a.eval x0 = .agg #[c0_0, c0_1, c0_2, c0_3, c0_4]) (h1 : a.eval x1 = .agg #[c1_0, c1_1, c1_2, c1_3, c1_4]) (h2 : a.eval x2 = .agg #[c2_0, c2_1, c2_2, c2_3, c2_4]) (h3 : a.eval x3 = .agg #[c3_0, c3_1, c3_2, c3_3, c3_4]) (h4 : a.eval x4 = .agg #[c4_0, c4_1, c4_2, c4_3, c4_4]) (h5 : a.eval x5 = .agg #[c5_0, c5_1, c5_2, c5_3, c5_4]) (h6 : a.eval x6 = .agg #[c6_0, c6_1, c6_2, c6_3, c6_4]) (h7 : a.eval x7 = .agg #[c7_0, c7_1, c7_2, c7_3, c7_4]) {l : Array Value} (hl : #[c0_0, c0_1, c0_2, c0_3, c0_4, c1_0, c1_1, c1_2, c1_3, c1_4, c2_0, c2_1, c2_2, c2_3, c2_4, c3_0, c3_1, c3_2, c3_3, c3_4, c4_0, c4_1, c4_2, c4_3, c4_4, c5_0, c5_1, c5_2, c5_3, c5_4, c6_0, c6_1, c6_2, c6_3, c6_4, c7_0, c7_1, c7_2, c7_3, c7_4] = l)
    (h : wpList Tryd.prog ops Q rest (a.put o.dst (.slice (some ⟨w.heap.size, 0, none⟩) 8 8)) (w.alloc (.cells l 24))) : wpList Tryd.prog ops Q (o :: rest) a w := by
  subst hl
  refine wpList_plain hgd fun K hK => ?_
  unfold Oper.wp
  simp [execOp, ho, h0, h1, h2, h3, h4, h5, h6, h7, build8, Result.andThen]
  exact hK _ _ h
theorem opwp_build8 {w : World} {o : Oper} {a : Act} {K : Act → World → Prop} {Q : Exit → Act → World → Prop} (x0 x1 x2 x3 x4 x5 x6 x7 : Operand)
    (ho : o.op = .buildSlice 52 8 #[(0, x0), (1, x1), (2, x2), (3, x3), (4, x4), (5, x5), (6, x6), (7, x7)]) {c0_0 c0_1 c0_2 c0_3 c0_4 c1_0 c1_1 c1_2 c1_3 c1_4 c2_0 c2_1 c2_2 c2_3 c2_4 c3_0 c3_1 c3_2 c3_3 c3_4 c4_0 c4_1 c4_2 c4_3 c4_4 c5_0 c5_1 c5_2 c5_3 c5_4 c6_0 c6_1 c6_2 c6_3 c6_4 c7_0 c7_1 c7_2 c7_3 c7_4 : Value} (h0 : a.eval x0 = .agg #[c0_0, c0_1, c0_2, c0_3, c0_4]) (h1 : a.eval x1 = .agg #[c1_0, c1_1, c1_2, c1_3, c1_4]) (h2 : a.eval x2 = .agg #[c2_0, c2_1, c2_2, c2_3, c2_4]) (h3 : a.eval x3 = .agg #[c3_0, c3_1, c3_2, c3_3, c3_4]) (h4 : a.eval x4 = .agg #[c4_0, c4_1, c4_2, c4_3, c4_4]) (h5 : a.eval x5 = .agg #[c5_0, c5_1, c5_2, c5_3, c5_4]) (h6 : a.eval x6 = .agg #[c6_0, c6_1, c6_2, c6_3, c6_4]) (h7 : a.eval x7 = .agg #[c7_0, c7_1, c7_2, c7_3, c7_4]) {l : Array Value} (hl : #[c0_0, c0_1, c0_2, c0_3, c0_4, c1_0, c1_1, c1_2, c1_3, c1_4, c2_0, c2_1, c2_2, c2_3, c2_4, c3_0, c3_1, c3_2, c3_3, c3_4, c4_0, c4_1, c4_2, c4_3, c4_4, c5_0, c5_1, c5_2, c5_3, c5_4, c6_0, c6_1, c6_2, c6_3, c6_4, c7_0, c7_1, c7_2, c7_3, c7_4] = l)
    (h : K (a.put o.dst (.slice (some ⟨w.heap.size, 0, none⟩) 8 8)) (w.alloc (.cells l 24))) : Oper.wp Tryd.prog o a w K Q := by
  subst hl
  unfold Oper.wp
  simp [execOp, ho, h0, h1, h2, h3, h4, h5, h6, h7, build8, Result.andThen]
  exact h
theorem build5 (w : World) (c0_0 c0_1 c1_0 c1_1 c2_0 c2_1 c3_0 c3_1 c4_0 c4_1 : Value) :
    (Instr.buildSlice 22 5 #[(0, .agg #[c0_0, c0_1]), (1, .agg #[c1_0, c1_1]), (2, .agg #[c2_0, c2_1]), (3, .agg #[c3_0, c3_1]), (4, .agg #[c4_0, c4_1])]).run Tryd.prog w = .ok (.slice (some ⟨w.heap.size, 0, none⟩) 5 5) (w.alloc (.cells #[c0_0, c0_1, c1_0, c1_1, c2_0, c2_1, c3_0, c3_1, c4_0, c4_1] 39)) := by
  simp [go_sem]
theorem wpList_build5 {w : World} {ops : Array Oper} {rest : List Oper} {o : Oper} {a : Act} {Q : Exit → Act → World → Prop} (hgd : o.guard = none) (x0 x1 x2 x3 x4 : Operand)
    (ho : o.op = .buildSlice 22 5 #[(0, x0), (1, x1), (2, x2), (3, x3), (4, x4)]) {c0_0 c0_1 c1_0 c1_1 c2_0 c2_1 c3_0 c3_1 c4_0 c4_1 : Value} (h0 : a.eval x0 = .agg #[c0_0, c0_1]) (h1 : a.eval x1 = .agg #[c1_0, c1_1]) (h2 : a.eval x2 = .agg #[c2_0, c2_1]) (h3 : a.eval x3 = .agg #[c3_0, c3_1]) (h4 : a.eval x4 = .agg #[c4_0, c4_1]) {l : Array Value} (hl : #[c0_0, c0_1, c1_0, c1_1, c2_0, c2_1, c3_0, c3_1, c4_0, c4_1] = l)
    (h : wpList Tryd.prog ops Q rest (a.put o.dst (.slice (some ⟨w.heap.size, 0, none⟩) 5 5)) (w.alloc (.cells l 39))) : wpList Tryd.prog ops Q (o :: rest) a w := by
  subst hl
  refine wpList_plain hgd fun K hK => ?_
  unfold Oper.wp
  simp [execOp, ho, h0, h1, h2, h3, h4, build5, Result.andThen]
  exact hK _ _ h
theorem opwp_build5 {w : World} {o : Oper} {a : Act} {K : Act → World → Prop} {Q : Exit → Act → World → Prop} (x0 x1 x2 x3 x4 : Operand)
    (ho : o.op = .buildSlice 22 5 #[(0, x0), (1, x1), (2, x2), (3, x3), (4, x4)]) {c0_0 c0_1 c1_0 c1_1 c2_0 c2_1 c3_0 c3_1 c4_0 c4_1 : Value} (h0 : a.eval x0 = .agg #[c0_0, c0_1]) (h1 : a.eval x1 = .agg #[c1_0, c1_1]) (h2 : a.eval x2 = .agg #[c2_0, c2_1]) (h3 : a.eval x3 = .agg #[c3_0, c3_1]) (h4 : a.eval x4 = .agg #[c4_0, c4_1]) {l : Array Value} (hl : #[c0_0, c0_1, c1_0, c1_1, c2_0, c2_1, c3_0, c3_1, c4_0, c4_1] = l)
    (h : K (a.put o.dst (.slice (some ⟨w.heap.size, 0, none⟩) 5 5)) (w.alloc (.cells l 39))) : Oper.wp Tryd.prog o a w K Q := by
  subst hl
  unfold Oper.wp
  simp [execOp, ho, h0, h1, h2, h3, h4, build5, Result.andThen]
  exact h
theorem build2 (w : World) (c0_0 c0_1 c1_0 c1_1 : Value) :
    (Instr.buildSlice 22 2 #[(0, .agg #[c0_0, c0_1]), (1, .agg #[c1_0, c1_1])]).run Tryd.prog w = .ok (.slice (some ⟨w.heap.size, 0, none⟩) 2 2) (w.alloc (.cells #[c0_0, c0_1, c1_0, c1_1] 39)) := by
  simp [go_sem]
theorem wpList_build2 {w : World} {ops : Array Oper} {rest : List Oper} {o : Oper} {a : Act} {Q : Exit → Act → World → Prop} (hgd : o.guard = none) (x0 x1 : Operand)
    (ho : o.op = .buildSlice 22 2 #[(0, x0), (1, x1)]) {c0_0 c0_1 c1_0 c1_1 : Value} (h0 : a.eval x0 = .agg #[c0_0, c0_1]) (h1 : a.eval x1 = .agg #[c1_0, c1_1]) {l : Array Value} (hl : #[c0_0, c0_1, c1_0, c1_1] = l)
    (h : wpList Tryd.prog ops Q rest (a.put o.dst (.slice (some ⟨w.heap.size, 0, none⟩) 2 2)) (w.alloc (.cells l 39))) : wpList Tryd.prog ops Q (o :: rest) a w := by
  subst hl
  refine wpList_plain hgd fun K hK => ?_
  unfold Oper.wp
  simp [execOp, ho, h0, h1, build2, Result.andThen]
  exact hK _ _ h
theorem opwp_build2 {w : World} {o : Oper} {a : Act} {K : Act → World → Prop} {Q : Exit → Act → World → Prop} (x0 x1 : Operand)
    (ho : o.op = .buildSlice 22 2 #[(0, x0), (1, x1)]) {c0_0 c0_1 c1_0 c1_1 : Value} (h0 : a.eval x0 = .agg #[c0_0, c0_1]) (h1 : a.eval x1 = .agg #[c1_0, c1_1]) {l : Array Value} (hl : #[c0_0, c0_1, c1_0, c1_1] = l)
    (h : K (a.put o.dst (.slice (some ⟨w.heap.size, 0, none⟩) 2 2)) (w.alloc (.cells l 39))) : Oper.wp Tryd.prog o a w K Q := by
  subst hl
  unfold Oper.wp
  simp [execOp, ho, h0, h1, build2, Result.andThen]
  exact h
theorem build10 (w : World) (c0_0 c1_0 c2_0 c3_0 c4_0 c5_0 c6_0 c7_0 c8_0 c9_0 : Int) :
    (Instr.buildSlice 28 10 #[(0, (.int .u8 c0_0)), (1, (.int .u8 c1_0)), (2, (.int .u8 c2_0)), (3, (.int .u8 c3_0)), (4, (.int .u8 c4_0)), (5, (.int .u8 c5_0)), (6, (.int .u8 c6_0)), (7, (.int .u8 c7_0)), (8, (.int .u8 c8_0)), (9, (.int .u8 c9_0))]).run Tryd.prog w = .ok (.slice (some ⟨w.heap.size, 0, none⟩) 10 10) (w.alloc (.cells #[.int .u8 c0_0, .int .u8 c1_0, .int .u8 c2_0, .int .u8 c3_0, .int .u8 c4_0, .int .u8 c5_0, .int .u8 c6_0, .int .u8 c7_0, .int .u8 c8_0, .int .u8 c9_0] 5)) := by
  simp [go_sem]
theorem wpList_build10 {w : World} {ops : Array Oper} {rest : List Oper} {o : Oper} {a : Act} {Q : Exit → Act → World → Prop} (hgd : o.guard = none) (x0 x1 x2 x3 x4 x5 x6 x7 x8 x9 : Operand)
    (ho : o.op = .buildSlice 28 10 #[(0, x0), (1, x1), (2, x2), (3, x3), (4, x4), (5, x5), (6, x6), (7, x7), (8, x8), (9, x9)]) {c0_0 c1_0 c2_0 c3_0 c4_0 c5_0 c6_0 c7_0 c8_0 c9_0 : Int} (h0 : a.eval x0 = (.int .u8 c0_0)) (h1 : a.eval x1 = (.int .u8 c1_0)) (h2 : a.eval x2 = (.int .u8 c2_0)) (h3 : a.eval x3 = (.int .u8 c3_0)) (h4 : a.eval x4 = (.int .u8 c4_0)) (h5 : a.eval x5 = (.int .u8 c5_0)) (h6 : a.eval x6 = (.int .u8 c6_0)) (h7 : a.eval x7 = (.int .u8 c7_0)) (h8 : a.eval x8 = (.int .u8 c8_0)) (h9 : a.eval x9 = (.int .u8 c9_0)) {l : Array Value} (hl : #[.int .u8 c0_0, .int .u8 c1_0, .int .u8 c2_0, .int .u8 c3_0, .int .u8 c4_0, .int .u8 c5_0, .int .u8 c6_0, .int .u8 c7_0, .int .u8 c8_0, .int .u8 c9_0] = l)
    (h : wpList Tryd.prog ops Q rest (a.put o.dst (.slice (some ⟨w.heap.size, 0, none⟩) 10 10)) (w.alloc (.cells l 5))) : wpList Tryd.prog ops Q (o :: rest) a w := by
  subst hl
  refine wpList_plain hgd fun K hK => ?_
  unfold Oper.wp
  simp [execOp, ho, h0, h1, h2, h3, h4, h5, h6, h7, h8, h9, build10, Result.andThen]
  exact hK _ _ h
theorem opwp_build10 {w : World} {o : Oper} {a : Act} {K : Act → World → Prop} {Q : Exit → Act → World → Prop} (x0 x1 x2 x3 x4 x5 x6 x7 x8 x9 : Operand)
    (ho : o.op = .buildSlice 28 10 #[(0, x0), (1, x1), (2, x2), (3, x3), (4, x4), (5, x5), (6, x6), (7, x7), (8, x8), (9, x9)]) {c0_0 c1_0 c2_0 c3_0 c4_0 c5_0 c6_0 c7_0 c8_0 c9_0 : Int} (h0 : a.eval x0 = (.int .u8 c0_0)) (h1 : a.eval x1 = (.int .u8 c1_0)) (h2 : a.eval x2 = (.int .u8 c2_0)) (h3 : a.eval x3 = (.int .u8 c3_0)) (h4 : a.eval x4 = (.int .u8 c4_0)) (h5 : a.eval x5 = (.int .u8 c5_0)) (h6 : a.eval x6 = (.int .u8 c6_0)) (h7 : a.eval x7 = (.int .u8 c7_0)) (h8 : a.eval x8 = (.int .u8 c8_0)) (h9 : a.eval x9 = (.int .u8 c9_0)) {l : Array Value} (hl : #[.int .u8 c0_0, .int .u8 c1_0, .int .u8 c2_0, .int .u8 c3_0, .int .u8 c4_0, .int .u8 c5_0, .int .u8 c6_0, .int .u8 c7_0, .int .u8 c8_0, .int .u8 c9_0] = l)
    (h : K (a.put o.dst (.slice (some ⟨w.heap.size, 0, none⟩) 10 10)) (w.alloc (.cells l 5))) : Oper.wp Tryd.prog o a w K Q := by
  subst hl
  unfold Oper.wp
  simp [execOp, ho, h0, h1, h2, h3, h4, h5, h6, h7, h8, h9, build10, Result.andThen]
  exact h
end Go.Proofs.YtfjodadmcfdlpaaDoor
