/- Rows of messages; loads and stores of whole structs. -/
import Derived.Test.YtcnbmeiielkigaaDoorPx2
import Derived.Test.YtcnbmeiielkigaaDoorRowsN
import Derived.Deep.MidRow
namespace Go.Proofs.YtcnbmeiielkigaaDoor
open Go Go.RowKit
set_option linter.unusedVariables false
set_option linter.unusedSimpArgs false
theorem Sep.frozen {w0 w : World} {g : Nat} {xs : Array Value} {t : TypeId} {L : List Thing} (h : Sep w0 (Cl g xs t :: L) w) (o : Nat) : w.frozen? ⟨g, o, none⟩ = false := by
  unfold World.frozen?; rw [h.blk]; simp
theorem wpList_load_run {P : Program} {ops : Array Oper} {rest : List Oper} {o : Oper} {a : Act} {w : World} {Q : Exit → Act → World → Prop} (hg : o.guard = none) (t : TypeId) (x : Operand) (hop : o.op = .load t x) (p v : Value) (hx : a.eval x = p)
    (hr : (Instr.loadAt t p).run P w = .ok v w) (hK : wpList P ops Q rest (a.put o.dst v) w) : wpList P ops Q (o :: rest) a w := by
  refine wpList_plain hg fun K hK' => ?_
  unfold Oper.wp
  simp [execOp, hop, hx, hr, Result.andThen]
  exact hK' _ _ hK
theorem opwp_load_run {P : Program} {o : Oper} {a : Act} {w : World} {K : Act → World → Prop} {Q : Exit → Act → World → Prop} (t : TypeId) (x : Operand) (hop : o.op = .load t x) (p v : Value) (hx : a.eval x = p)
    (hr : (Instr.loadAt t p).run P w = .ok v w) (hK : K (a.put o.dst v) w) : Oper.wp P o a w K Q := by
  unfold Oper.wp
  simp [execOp, hop, hx, hr, Result.andThen]
  exact hK
theorem Sep.loadW {w0 w : World} {b : Nat} {cs : Array Value} {t : TypeId} {L : List Thing} {P : Program} {d : TypeDesc} (h : Sep w0 (Cl b cs t :: L) w) (ty : TypeId) (hu : P.underlying ty = some d) (hd : d.isRow = true) (hi : (P.info? ty).map (·.size) = some cs.size) : (Instr.loadAt ty (.pointer (some ⟨b, 0, none⟩))).run P w = .ok (.agg cs) w := by
  have h1 := run_loadAt_mid (P := P) w b 0 ty cs.toList d (fun j v hj => by rw [Nat.zero_add]; exact h.cell (by simpa using hj)) hu hd (by simpa using hi)
  simpa using h1
theorem Sep.loadMs {w0 w : World} {b : Nat} {m : MsM} {lv cv ev : Value} {L : List Thing} (h : Sep w0 (Cl b (msC m lv cv ev) 43 :: L) w) : (Instr.loadAt 43 (.pointer (some ⟨b, 0, none⟩))).run Tryd.prog w = .ok (.agg (msC m lv cv ev)) w :=
  h.loadW 43 Tryd.underlying43 rfl (by kernel_rfl)
/-- Several cells in a row, written. -/
def writeAt (xs : Array Value) : Nat → List Value → Array Value
  | _, [] => xs
  | o, v :: r => writeAt (xs.setIfInBounds o v) (o + 1) r
theorem writeAt_get : ∀ (vs : List Value) (xs : Array Value) (o j : Nat), (writeAt xs o vs)[j]? = if o ≤ j ∧ j < o + vs.length ∧ j < xs.size then vs[j - o]? else xs[j]?
  | [], xs, o, j => by simp only [writeAt, List.length_nil]; rw [if_neg (by omega)]
  | v :: r, xs, o, j => by
    rw [writeAt, writeAt_get r, Array.size_setIfInBounds, Array.getElem?_setIfInBounds, List.length_cons]
    by_cases h1 : o = j
    · subst h1
      rw [if_neg (by omega), if_pos rfl]
      by_cases h2 : o < xs.size
      · rw [if_pos h2, if_pos ⟨Nat.le_refl _, by omega, h2⟩]; simp
      · rw [if_neg h2, if_neg (by omega), Array.getElem?_eq_none (by omega)]
    · rw [if_neg h1]
      by_cases h3 : o + 1 ≤ j ∧ j < o + 1 + r.length ∧ j < xs.size
      · rw [if_pos h3, if_pos (by omega), show j - o = (j - (o + 1)) + 1 by omega, List.getElem?_cons_succ]
      · rw [if_neg h3, if_neg (by omega)]
theorem Sep.setCells {w0 : World} {g : Nat} {t : TypeId} {L : List Thing} : ∀ (vs : List Value) (xs : Array Value) (o : Nat) (w : World), Sep w0 (Cl g xs t :: L) w → Sep w0 (Cl g (writeAt xs o vs) t :: L) (w.setCells g o vs)
  | [], _, _, _, h => h
  | v :: r, xs, o, w, h => Sep.setCells r _ (o + 1) _ (h.setCell o v)
theorem writeAt_all (Z cs : Array Value) (h : Z.size = cs.size) : writeAt Z 0 cs.toList = cs := by
  apply Array.ext_getElem?
  intro j
  rw [writeAt_get, Array.length_toList, h]
  by_cases hj : j < cs.size
  · rw [if_pos ⟨Nat.zero_le _, by omega, hj⟩, Nat.sub_zero, Array.getElem?_toList]
  · rw [if_neg (by omega), Array.getElem?_eq_none (by omega), Array.getElem?_eq_none (by omega)]
theorem Sep.storeW {w0 w : World} {b : Nat} {Z : Array Value} {t : TypeId} {L : List Thing} (h : Sep w0 (Cl b Z t :: L) w) (cs : Array Value) (hZ : Z.size = cs.size) : Sep w0 (Cl b cs t :: L) (w.setCells b 0 cs.toList) := by
  have h1 := Sep.setCells cs.toList Z 0 _ h
  rw [writeAt_all Z cs hZ] at h1
  exact h1
theorem Sep.thereW {w0 w : World} {b : Nat} {Z : Array Value} {t : TypeId} {L : List Thing} (h : Sep w0 (Cl b Z t :: L) w) (n : Nat) (hZ : Z.size = n) : w.there b 0 n := fun j hj => by
  refine ⟨?_, h.frozen _⟩
  rw [h.cell (o := 0 + j) (Array.getElem?_eq_getElem (by omega))]
  rfl
theorem results_cell {P : Program} {fn : Func} {t : Tmp} {ty : TypeId} (h : fn.results = #[.cell t ty]) {tmps : Array Value} {w : World} {ad : Addr} {v : Value} (ht : tmps.getD t undef = .pointer (some ad)) (hl : (loadVar ty ad).run P w = .ok v w) : (results fn tmps).run P w = .ok v w := by
  rw [Array.getD_eq_getD_getElem?] at ht
  simp [results, h, ht, asAddr, hl]
theorem Sep.loadV {w0 w : World} {b : Nat} {cs : Array Value} {t : TypeId} {L : List Thing} {P : Program} {d : TypeDesc} (h : Sep w0 (Cl b cs t :: L) w) (ty : TypeId) (hu : P.underlying ty = some d) (hd : d.isRow = true) (hi : (P.info? ty).map (·.size) = some cs.size) : (loadVar ty ⟨b, 0, none⟩).run P w = .ok (.agg cs) w := by
  have h1 := run_loadVar_mid (P := P) w b 0 ty cs.toList d (fun j v hj => by rw [Nat.zero_add]; exact h.cell (by simpa using hj)) hu hd (by simpa using hi)
  simpa using h1
/-- Messages' cells, one behind the other. -/
def msCs (rows : List (Array Value)) : List Value := rows.flatMap Array.toList
def Rows22 (rows : List (Array Value)) : Prop := ∀ c ∈ rows, c.size = 22
theorem msCs_len : ∀ {rows : List (Array Value)}, Rows22 rows → (msCs rows).length = rows.length * 22
  | [], _ => rfl
  | c :: rows, h => by
    have h1 := msCs_len (rows := rows) fun x hx => h x (List.mem_cons_of_mem _ hx)
    have h2 := h c (List.mem_cons_self ..)
    unfold msCs at *
    rw [List.flatMap_cons, List.length_append, h1, List.length_cons, Array.length_toList, h2]
    omega
theorem msCs_at : ∀ {rows : List (Array Value)}, Rows22 rows → ∀ (i : Nat) (hi : i < rows.length) (j : Nat), j < 22 → (msCs rows)[i * 22 + j]? = (rows[i])[j]?
  | c :: rows, h, 0, _, j, hj => by
    have h2 := h c (List.mem_cons_self ..)
    unfold msCs
    rw [List.flatMap_cons, Nat.zero_mul, Nat.zero_add, List.getElem?_append_left (by rw [Array.length_toList, h2]; exact hj)]
    simp
  | c :: rows, h, i + 1, hi, j, hj => by
    have h2 := h c (List.mem_cons_self ..)
    have h1 := msCs_at (rows := rows) (fun x hx => h x (List.mem_cons_of_mem _ hx)) i (by simpa using hi) j hj
    unfold msCs at *
    rw [List.flatMap_cons, List.getElem?_append_right (by rw [Array.length_toList, h2]; omega), Array.length_toList, h2, show (i + 1) * 22 + j - 22 = i * 22 + j by omega, h1]
    rfl
theorem msCs_app (a b : List (Array Value)) : msCs (a ++ b) = msCs a ++ msCs b := by simp [msCs]
/-- A slice of messages of one's own. -/
abbrev MsR (v : Value) (rows : List (Array Value)) : Thing := Rn 22 43 v rows.length (msCs rows)
theorem infoMs : (Tryd.prog.info? 43).map (fun i => (i.size, decide (i.bytes ≤ 256), i.zero.map (fun z => z.cells.size))) = some (22, true, some 22) := by kernel_rfl
theorem append_ms {w0 w : World} {v : Value} {rows : List (Array Value)} {c : Array Value} {b : Nat} {L : List Thing} (ty : TypeId) (h : Sep w0 (Cl b c 43 :: MsR v rows :: L) w) (hc : c.size = 22) (h1 : ∀ u ∈ c.toList, u.oneCell' = true) (hl : rows.length ≤ 10000000) :
    ∃ a k w', (Builtin.append_ #[58, 58] ty #[v, .slice (some ⟨b, 0, none⟩) 1 1]).run Tryd.prog w = .ok (.slice a (rows.length + 1) k) w' ∧ Sep w0 (MsR (.slice a (rows.length + 1) k) (rows ++ [c]) :: L) w' := by
  obtain ⟨i, hi, he⟩ := Option.map_eq_some_iff.1 infoMs
  simp only [Prod.mk.injEq, decide_eq_true_eq] at he
  obtain ⟨z, hz, hz2⟩ := Option.map_eq_some_iff.1 he.2.2
  have hcs : ∀ j u', c.toList[j]? = some u' → w.cell? ⟨b, 0 + j, none⟩ = some u' := fun j u' hj => by
    rw [Nat.zero_add]
    exact h.cell (by simpa using hj)
  obtain ⟨v', w', hr, h2⟩ := append_rn (P := Tryd.prog) (ty := ty) (m := 1) (c := 1) Tryd.underlying58 hi hz he.1 he.2.1 hz2 (by decide) h.sw2 (news := c.toList) (by rw [Array.length_toList, hc]) hcs h1 (by omega)
  obtain ⟨a, k, rfl, -⟩ := h2.rnForm
  refine ⟨a, k, w', hr, ?_⟩
  have h3 := h2.sw2.drop
  have e : msCs rows ++ c.toList = msCs (rows ++ [c]) := by rw [msCs_app]; simp [msCs]
  rw [e] at h3
  show Sep w0 (Rn 22 43 (.slice a (rows.length + 1) k) (rows ++ [c]).length (msCs (rows ++ [c])) :: _) w'
  rw [List.length_append, List.length_singleton]
  exact h3
theorem buildM (w : World) (v0 v1 v2 v3 v4 v5 v6 v7 v8 v9 v10 v11 v12 v13 v14 v15 v16 v17 v18 v19 v20 v21 : Value) :
    (Instr.buildSlice 58 1 #[(0, .agg #[v0, v1, v2, v3, v4, v5, v6, v7, v8, v9, v10, v11, v12, v13, v14, v15, v16, v17, v18, v19, v20, v21])]).run Tryd.prog w = .ok (.slice (some ⟨w.heap.size, 0, none⟩) 1 1) (w.alloc (.cells #[v0, v1, v2, v3, v4, v5, v6, v7, v8, v9, v10, v11, v12, v13, v14, v15, v16, v17, v18, v19, v20, v21] 43)) := by
  simp [go_sem]
theorem buildMs (w : World) (c : Array Value) (hc : c.size = 22) : (Instr.buildSlice 58 1 #[(0, .agg c)]).run Tryd.prog w = .ok (.slice (some ⟨w.heap.size, 0, none⟩) 1 1) (w.alloc (.cells c 43)) := by
  obtain ⟨l⟩ := c
  match l, hc with
  | [v0, v1, v2, v3, v4, v5, v6, v7, v8, v9, v10, v11, v12, v13, v14, v15, v16, v17, v18, v19, v20, v21], _ => exact buildM w v0 v1 v2 v3 v4 v5 v6 v7 v8 v9 v10 v11 v12 v13 v14 v15 v16 v17 v18 v19 v20 v21
theorem wpList_buildM {w : World} {ops : Array Oper} {rest : List Oper} {o : Oper} {a : Act} {Q : Exit → Act → World → Prop} (hgd : o.guard = none) (x : Operand)
    (ho : o.op = .buildSlice 58 1 #[(0, x)]) {c : Array Value} (hc : c.size = 22) (hx : a.eval x = .agg c)
    (h : wpList Tryd.prog ops Q rest (a.put o.dst (.slice (some ⟨w.heap.size, 0, none⟩) 1 1)) (w.alloc (.cells c 43))) : wpList Tryd.prog ops Q (o :: rest) a w := by
  refine wpList_plain hgd fun K hK => ?_
  unfold Oper.wp
  simp [execOp, ho, hx, buildMs w c hc, Result.andThen]
  exact hK _ _ h
theorem step_buildM {ops : Array Oper} {o : Oper} {a : Act} {w : World} {K : Act → World → Prop} {Q : Exit → Act → World → Prop} {E : Prop}
    (hg : o.guard = none) (x : Operand) (ho : o.op = .buildSlice 58 1 #[(0, x)]) {c : Array Value} (hc : c.size = 22) (hx : a.eval x = .agg c) (hK : K (a.put o.dst (.slice (some ⟨w.heap.size, 0, none⟩) 1 1)) (w.alloc (.cells c 43))) :
    if Region.wanted o (yielded ops a.tmps) = true then Oper.wp Tryd.prog o a w K Q else E := by
  have hw : Region.wanted o (yielded ops a.tmps) = true := by simp [Region.wanted, hg]
  rw [if_pos hw]
  unfold Oper.wp
  simp [execOp, ho, hx, buildMs w c hc, Result.andThen]
  exact hK
theorem wpList_append_r {P : Program} {w : World} {ops : Array Oper} {rest : List Oper} {o : Oper} {a : Act} {Q : Exit → Act → World → Prop} (hgd : o.guard = none) (s x : Operand) (t u : TypeId)
    (ho : o.op = .call { callee := .builtin .append, args := #[s, x], argTypes := #[t, u] }) {v y v' : Value} {w' : World} (hs : a.eval s = v) (hx : a.eval x = y)
    (hr : (Builtin.append_ #[t, u] o.type #[v, y]).run P w = .ok v' w') (h : wpList P ops Q rest (a.put o.dst v') w') : wpList P ops Q (o :: rest) a w := by
  refine wpList_plain hgd fun K hK => ?_
  unfold Oper.wp
  simp [execOp, ho, resolve, invoke, builtin, hs, hx, hr, Result.andThen]
  exact hK _ _ h
def StopP (p : Prop) : Prop := p
theorem stopP {p : Prop} (h : StopP p) : p := h
theorem NilL.one {v : Value} (h : NilL v) : v.oneCell' = true := by obtain ⟨a, c, rfl, -⟩ := h; rfl
theorem Sep.asRn {w0 w : World} {g : Nat} {xs : Array Value} {e : TypeId} {L : List Thing} (h : Sep w0 (Cl g xs e :: L) w) (n sz : Nat) (hn : xs.size = n * sz) (hl : n ≤ maxLen) : Sep w0 (Rn sz e (.slice (some ⟨g, 0, none⟩) n n) n xs.toList :: L) w := by
  refine h.imp (loc_rn _ _ _ _ _) fun F hF => ⟨⟨0, ?_, .inr ⟨g, n, xs, rfl, Nat.zero_le _, hF.1, Nat.le_refl _, hl, by omega, ?_⟩⟩, fun k => ⟨fun hk => by rw [(hF.2 k).1 hk]; rfl, fun hk => (hF.2 k).2 (by simpa [Value.ownBlock] using hk.symm)⟩⟩
  · simp [hn]
  · apply List.take_of_length_le; simp [hn]
end Go.Proofs.YtcnbmeiielkigaaDoor
