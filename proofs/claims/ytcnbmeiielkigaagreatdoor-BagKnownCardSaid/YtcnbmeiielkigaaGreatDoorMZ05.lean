/- Rows of messages; loads and stores of whole structs. -/
import Derived.Deep.MidRow
import Derived.ArgAppend
import Derived.Deep.RegionHeld3
import Derived.Test.YtcnbmeiielkigaaGreatDoorMPx2
import Derived.Test.YtcnbmeiielkigaaGreatDoorMZ02
namespace Go.Proofs.YtcnbmeiielkigaaGreatDoor
open Go Go.RowKit
set_option linter.unusedVariables false
set_option linter.unusedSimpArgs false
theorem Sep.frozen {w0 w : World} {g : Nat} {xs : Array Value} {t : TypeId} {L : List Thing} (h : Sep w0 (Cl g xs t :: L) w) (o : Nat) : w.frozen? ⟨g, o, none⟩ = false := by
 unfold World.frozen?; rw [h.blk]; simp
theorem wpList_load_run {P : Program} {ops : Array Oper} {rest : List Oper} {o : Oper} {a : Act} {w : World} {Q : Exit → Act → World → Prop} (hg : o.guard = none) (t : TypeId) (x : Operand) (hop : o.op = .load t x) (p v : Value) (hx : a.eval x = p)
  (hr : (Instr.loadAt t p).run P w = .ok v w) (hK : wpList P ops Q rest (a.put o.dst v) w) : wpList P ops Q (o :: rest) a w := by
 refine wpList_plain hg fun K hK' => ?_
 unfold Oper.wp
 simp [execOp, hop, hx, hr, Result.andThen]
 exact hK' _ _ hK
theorem opwp_load_run {P : Program} {o : Oper} {a : Act} {w : World} {K : Act → World → Prop} {Q : Exit → Act → World → Prop} (t : TypeId) (x : Operand) (hop : o.op = .load t x) (p v : Value) (hx : a.eval x = p)
  (hr : (Instr.loadAt t p).run P w = .ok v w) (hK : K (a.put o.dst v) w) : Oper.wp P o a w K Q := by
 unfold Oper.wp
 simp [execOp, hop, hx, hr, Result.andThen]
 exact hK
theorem Sep.loadW {w0 w : World} {b : Nat} {cs : Array Value} {t : TypeId} {L : List Thing} {P : Program} {d : TypeDesc} (h : Sep w0 (Cl b cs t :: L) w) (ty : TypeId) (hu : P.underlying ty = some d) (hd : d.isRow = true) (hi : (P.info? ty).map (·.size) = some cs.size) : (Instr.loadAt ty (.pointer (some ⟨b, 0, none⟩))).run P w = .ok (.agg cs) w := by
 have h1 := run_loadAt_mid (P := P) w b 0 ty cs.toList d (fun j v hj => by rw [Nat.zero_add]; exact h.cell (by simpa using hj)) hu hd (by simpa using hi)
 simpa using h1
/-- Several cells in a row, written. -/
def writeAt (xs : Array Value) : Nat → List Value → Array Value
 | _, [] => xs
 | o, v :: r => writeAt (xs.setIfInBounds o v) (o + 1) r
theorem writeAt_get : ∀ (vs : List Value) (xs : Array Value) (o j : Nat), (writeAt xs o vs)[j]? = if o ≤ j ∧ j < o + vs.length ∧ j < xs.size then vs[j - o]? else xs[j]?
 | [], xs, o, j => by simp only [writeAt, List.length_nil]; rw [if_neg (by omega)]
 | v :: r, xs, o, j => by
  rw [writeAt, writeAt_get r, Array.size_setIfInBounds, Array.getElem?_setIfInBounds, List.length_cons]
  by_cases h1 : o = j
  ·subst h1
   rw [if_neg (by omega), if_pos rfl]
   by_cases h2 : o < xs.size
   ·rw [if_pos h2, if_pos ⟨Nat.le_refl _, by omega, h2⟩]; simp
   ·rw [if_neg h2, if_neg (by omega), Array.getElem?_eq_none (by omega)]
  ·rw [if_neg h1]
   by_cases h3 : o + 1 ≤ j ∧ j < o + 1 + r.length ∧ j < xs.size
   ·rw [if_pos h3, if_pos (by omega), show j - o = (j - (o + 1)) + 1 by omega, List.getElem?_cons_succ]
   ·rw [if_neg h3, if_neg (by omega)]
theorem Sep.setCells {w0 : World} {g : Nat} {t : TypeId} {L : List Thing} : ∀ (vs : List Value) (xs : Array Value) (o : Nat) (w : World), Sep w0 (Cl g xs t :: L) w → Sep w0 (Cl g (writeAt xs o vs) t :: L) (w.setCells g o vs)
 | [], _, _, _, h => h
 | v :: r, xs, o, w, h => Sep.setCells r _ (o + 1) _ (h.setCell o v)
theorem writeAt_all (Z cs : Array Value) (h : Z.size = cs.size) : writeAt Z 0 cs.toList = cs := by
 apply Array.ext_getElem?
 intro j
 rw [writeAt_get, Array.length_toList, h]
 by_cases hj : j < cs.size
 ·rw [if_pos ⟨Nat.zero_le _, by omega, hj⟩, Nat.sub_zero, Array.getElem?_toList]
 ·rw [if_neg (by omega), Array.getElem?_eq_none (by omega), Array.getElem?_eq_none (by omega)]
theorem Sep.storeW {w0 w : World} {b : Nat} {Z : Array Value} {t : TypeId} {L : List Thing} (h : Sep w0 (Cl b Z t :: L) w) (cs : Array Value) (hZ : Z.size = cs.size) : Sep w0 (Cl b cs t :: L) (w.setCells b 0 cs.toList) := by
 have h1 := Sep.setCells cs.toList Z 0 _ h
 rw [writeAt_all Z cs hZ] at h1
 exact h1
theorem Sep.thereW {w0 w : World} {b : Nat} {Z : Array Value} {t : TypeId} {L : List Thing} (h : Sep w0 (Cl b Z t :: L) w) (n : Nat) (hZ : Z.size = n) : w.there b 0 n := fun j hj => by
 refine ⟨?_, h.frozen _⟩
 rw [h.cell (o := 0 + j) (Array.getElem?_eq_getElem (by omega))]
 rfl
theorem results_cell {P : Program} {fn : Func} {t : Tmp} {ty : TypeId} (h : fn.results = #[.cell t ty]) {tmps : Array Value} {w : World} {ad : Addr} {v : Value} (ht : tmps.getD t undef = .pointer (some ad)) (hl : (loadVar ty ad).run P w = .ok v w) : (results fn tmps).run P w = .ok v w := by
 rw [Array.getD_eq_getD_getElem?] at ht
 simp [results, h, ht, asAddr, hl]
theorem Sep.loadV {w0 w : World} {b : Nat} {cs : Array Value} {t : TypeId} {L : List Thing} {P : Program} {d : TypeDesc} (h : Sep w0 (Cl b cs t :: L) w) (ty : TypeId) (hu : P.underlying ty = some d) (hd : d.isRow = true) (hi : (P.info? ty).map (·.size) = some cs.size) : (loadVar ty ⟨b, 0, none⟩).run P w = .ok (.agg cs) w := by
 have h1 := run_loadVar_mid (P := P) w b 0 ty cs.toList d (fun j v hj => by rw [Nat.zero_add]; exact h.cell (by simpa using hj)) hu hd (by simpa using hi)
 simpa using h1
/-- Messages' cells, one behind the other. -/
def msCs (rows : List (Array Value)) : List Value := rows.flatMap Array.toList
def Rows22 (rows : List (Array Value)) : Prop := ∀ c ∈ rows, c.size = 22
theorem msCs_len : ∀ {rows : List (Array Value)}, Rows22 rows → (msCs rows).length = rows.length * 22
 | [], _ => rfl
 | c :: rows, h => by
  have h1 := msCs_len (rows := rows) fun x hx => h x (List.mem_cons_of_mem _ hx)
  have h2 := h c (List.mem_cons_self ..)
  unfold msCs at *
  rw [List.flatMap_cons, List.length_append, h1, List.length_cons, Array.length_toList, h2]
  omega
theorem msCs_at : ∀ {rows : List (Array Value)}, Rows22 rows → ∀ (i : Nat) (hi : i < rows.length) (j : Nat), j < 22 → (msCs rows)[i * 22 + j]? = (rows[i])[j]?
 | c :: rows, h, 0, _, j, hj => by
  have h2 := h c (List.mem_cons_self ..)
  unfold msCs
  rw [List.flatMap_cons, Nat.zero_mul, Nat.zero_add, List.getElem?_append_left (by rw [Array.length_toList, h2]; exact hj)]
  simp
 | c :: rows, h, i + 1, hi, j, hj => by
  have h2 := h c (List.mem_cons_self ..)
  have h1 := msCs_at (rows := rows) (fun x hx => h x (List.mem_cons_of_mem _ hx)) i (by simpa using hi) j hj
  unfold msCs at *
  rw [List.flatMap_cons, List.getElem?_append_right (by rw [Array.length_toList, h2]; omega), Array.length_toList, h2, show (i + 1) * 22 + j - 22 = i * 22 + j by omega, h1]
  rfl
theorem msCs_app (a b : List (Array Value)) : msCs (a ++ b) = msCs a ++ msCs b := by simp [msCs]
/-- A slice of messages of one's own. -/
abbrev MsR (v : Value) (rows : List (Array Value)) : Thing := Rn 22 40 v rows.length (msCs rows)
theorem infoMs : (Tryz.prog.info? 40).map (fun i => (i.size, decide (i.bytes ≤ 256), i.zero.map (fun z => z.cells.size))) = some (22, true, some 22) := by kernel_rfl
theorem append_ms {w0 w : World} {v : Value} {rows : List (Array Value)} {c : Array Value} {b : Nat} {L : List Thing} (ty : TypeId) (h : Sep w0 (Cl b c 40 :: MsR v rows :: L) w) (hc : c.size = 22) (h1 : ∀ u ∈ c.toList, u.oneCell' = true) (hl : rows.length ≤ 10000000) :
  ∃ a k w', (Builtin.append_ #[44, 44] ty #[v, .slice (some ⟨b, 0, none⟩) 1 1]).run Tryz.prog w = .ok (.slice a (rows.length + 1) k) w' ∧ Sep w0 (MsR (.slice a (rows.length + 1) k) (rows ++ [c]) :: L) w' := by
 obtain ⟨i, hi, he⟩ := Option.map_eq_some_iff.1 infoMs
 simp only [Prod.mk.injEq, decide_eq_true_eq] at he
 obtain ⟨z, hz, hz2⟩ := Option.map_eq_some_iff.1 he.2.2
 have hcs : ∀ j u', c.toList[j]? = some u' → w.cell? ⟨b, 0 + j, none⟩ = some u' := fun j u' hj => by
  rw [Nat.zero_add]
  exact h.cell (by simpa using hj)
 obtain ⟨v', w', hr, h2⟩ := append_rn (P := Tryz.prog) (ty := ty) (m := 1) (c := 1) Tryz.underlying44 hi hz he.1 he.2.1 hz2 (by decide) h.sw2 (news := c.toList) (by rw [Array.length_toList, hc]) hcs h1 (by omega)
 obtain ⟨a, k, rfl, -⟩ := h2.rnForm
 refine ⟨a, k, w', hr, ?_⟩
 have h3 := h2.sw2.drop
 have e : msCs rows ++ c.toList = msCs (rows ++ [c]) := by rw [msCs_app]; simp [msCs]
 rw [e] at h3
 show Sep w0 (Rn 22 40 (.slice a (rows.length + 1) k) (rows ++ [c]).length (msCs (rows ++ [c])) :: _) w'
 rw [List.length_append, List.length_singleton]
 exact h3
theorem buildM (w : World) (v0 v1 v2 v3 v4 v5 v6 v7 v8 v9 v10 v11 v12 v13 v14 v15 v16 v17 v18 v19 v20 v21 : Value) :
  (Instr.buildSlice 44 1 #[(0, .agg #[v0, v1, v2, v3, v4, v5, v6, v7, v8, v9, v10, v11, v12, v13, v14, v15, v16, v17, v18, v19, v20, v21])]).run Tryz.prog w = .ok (.slice (some ⟨w.heap.size, 0, none⟩) 1 1) (w.alloc (.cells #[v0, v1, v2, v3, v4, v5, v6, v7, v8, v9, v10, v11, v12, v13, v14, v15, v16, v17, v18, v19, v20, v21] 40)) := by
 simp [go_sem]
theorem buildMs (w : World) (c : Array Value) (hc : c.size = 22) : (Instr.buildSlice 44 1 #[(0, .agg c)]).run Tryz.prog w = .ok (.slice (some ⟨w.heap.size, 0, none⟩) 1 1) (w.alloc (.cells c 40)) := by
 obtain ⟨l⟩ := c
 match l, hc with
 | [v0, v1, v2, v3, v4, v5, v6, v7, v8, v9, v10, v11, v12, v13, v14, v15, v16, v17, v18, v19, v20, v21], _ => exact buildM w v0 v1 v2 v3 v4 v5 v6 v7 v8 v9 v10 v11 v12 v13 v14 v15 v16 v17 v18 v19 v20 v21
theorem wpList_buildM {w : World} {ops : Array Oper} {rest : List Oper} {o : Oper} {a : Act} {Q : Exit → Act → World → Prop} (hgd : o.guard = none) (x : Operand)
  (ho : o.op = .buildSlice 44 1 #[(0, x)]) {c : Array Value} (hc : c.size = 22) (hx : a.eval x = .agg c)
  (h : wpList Tryz.prog ops Q rest (a.put o.dst (.slice (some ⟨w.heap.size, 0, none⟩) 1 1)) (w.alloc (.cells c 40))) : wpList Tryz.prog ops Q (o :: rest) a w := by
 refine wpList_plain hgd fun K hK => ?_
 unfold Oper.wp
 simp [execOp, ho, hx, buildMs w c hc, Result.andThen]
 exact hK _ _ h
theorem step_buildM {ops : Array Oper} {o : Oper} {a : Act} {w : World} {K : Act → World → Prop} {Q : Exit → Act → World → Prop} {E : Prop}
  (hg : o.guard = none) (x : Operand) (ho : o.op = .buildSlice 44 1 #[(0, x)]) {c : Array Value} (hc : c.size = 22) (hx : a.eval x = .agg c) (hK : K (a.put o.dst (.slice (some ⟨w.heap.size, 0, none⟩) 1 1)) (w.alloc (.cells c 40))) :
  if Region.wanted o (yielded ops a.tmps) = true then Oper.wp Tryz.prog o a w K Q else E := by
 have hw : Region.wanted o (yielded ops a.tmps) = true := by simp [Region.wanted, hg]
 rw [if_pos hw]
 unfold Oper.wp
 simp [execOp, ho, hx, buildMs w c hc, Result.andThen]
 exact hK
theorem wpList_append_r {P : Program} {w : World} {ops : Array Oper} {rest : List Oper} {o : Oper} {a : Act} {Q : Exit → Act → World → Prop} (hgd : o.guard = none) (s x : Operand) (t u : TypeId)
  (ho : o.op = .call { callee := .builtin .append, args := #[s, x], argTypes := #[t, u] }) {v y v' : Value} {w' : World} (hs : a.eval s = v) (hx : a.eval x = y)
  (hr : (Builtin.append_ #[t, u] o.type #[v, y]).run P w = .ok v' w') (h : wpList P ops Q rest (a.put o.dst v') w') : wpList P ops Q (o :: rest) a w := by
 refine wpList_plain hgd fun K hK => ?_
 unfold Oper.wp
 simp [execOp, ho, resolve, invoke, builtin, hs, hx, hr, Result.andThen]
 exact hK _ _ h
def StopP (p : Prop) : Prop := p
theorem stopP {p : Prop} (h : StopP p) : p := h
theorem NilL.one {v : Value} (h : NilL v) : v.oneCell' = true := by obtain ⟨a, c, rfl, -⟩ := h; rfl
end Go.Proofs.YtcnbmeiielkigaaGreatDoor
/- Slices of one's own whose elements take several cells, and which may begin anywhere in their block (what 'l = l[1:]' leaves). -/
namespace Go.Proofs.YtcnbmeiielkigaaGreatDoor
open Go Go.RowKit
set_option linter.unusedVariables false
set_option linter.unusedSimpArgs false
/-- n elements of sz cells each, from some cell of a block on; or nothing, without room. -/
def Ro (sz : Nat) (e : TypeId) (v : Value) (n : Nat) (xs : List Value) : Thing := fun w F => xs.length = n * sz ∧
 ((∃ a, v = .slice a 0 0 ∧ n = 0) ∨
  ∃ g off c cur, v = .slice (some ⟨g, off, none⟩) n c ∧ n ≤ c ∧ 0 < c ∧ c ≤ maxLen ∧ w.heap[g]? = some (.cells cur e (0, 0)) ∧ off + c * sz ≤ cur.size ∧ (∀ j, j < n * sz → cur[off + j]? = xs[j]?) ∧ ∀ k, F k ↔ k = g)
theorem loc_ro (sz : Nat) (e : TypeId) (v : Value) (n : Nat) (xs : List Value) : Loc (Ro sz e v n xs) := by
 rintro w w' F ⟨h1, h2⟩ hs hk
 refine ⟨h1, ?_⟩
 rcases h2 with h2 | ⟨g, off, c, cur, hv, a1, a2, a3, a4, a5, a6, a7⟩
 ·exact .inl h2
 ·exact .inr ⟨g, off, c, cur, hv, a1, a2, a3, by rw [hk g ((a7 g).2 rfl)]; exact a4, a5, a6, a7⟩
theorem ro_of_rn {sz n : Nat} {e : TypeId} {v : Value} {xs : List Value} {w : World} {F : Nat → Prop} (h : Rn sz e v n xs w F) : Ro sz e v n xs w F := by
 obtain ⟨⟨base, h1, h2⟩, h3⟩ := h
 refine ⟨h1, ?_⟩
 rcases h2 with ⟨rfl, rfl⟩ | ⟨g, c, cur, rfl, hb, a1, a2, a3, a4, a5⟩
 ·exact .inl ⟨none, rfl, rfl⟩
 ·have hF : ∀ k, F k ↔ k = g := fun k => (h3 k).trans ⟨fun h => by simpa [Value.ownBlock] using h.symm, fun h => by simp [Value.ownBlock, h]⟩
  by_cases h0 : 0 < c
  ·refine .inr ⟨g, 0, c, cur, rfl, a2, h0, a3, a1, by omega, fun j hj => ?_, hF⟩
   rw [Nat.zero_add]
   have h5 : (cur.toList.take (n * sz))[j]? = xs[j]? := by rw [a5]
   rw [List.getElem?_take, if_pos hj] at h5
   simpa using h5
  ·exact .inl ⟨some ⟨g, 0, none⟩, by rw [show n = 0 by omega, show c = 0 by omega], by omega⟩
theorem Sep.roOf {w0 w : World} {sz n : Nat} {e : TypeId} {v : Value} {xs : List Value} {L : List Thing} (h : Sep w0 (Rn sz e v n xs :: L) w) : Sep w0 (Ro sz e v n xs :: L) w := h.imp (loc_ro _ _ _ _ _) fun F hF => ro_of_rn hF
theorem Sep.roLen {w0 w : World} {sz n : Nat} {e : TypeId} {v : Value} {xs : List Value} {L : List Thing} (h : Sep w0 (Ro sz e v n xs :: L) w) : xs.length = n * sz := by obtain ⟨F, hF, _⟩ := h.head; exact hF.1
/-- What it is: nothing without room, or a part of a block. -/
theorem Sep.roOpen {w0 w : World} {sz n : Nat} {e : TypeId} {v : Value} {xs : List Value} {L : List Thing} (h : Sep w0 (Ro sz e v n xs :: L) w) :
  (∃ a, v = .slice a 0 0 ∧ n = 0 ∧ xs = []) ∨ ∃ g off c cur, v = .slice (some ⟨g, off, none⟩) n c ∧ n ≤ c ∧ 0 < c ∧ c ≤ maxLen ∧ off + c * sz ≤ cur.size ∧ (∀ j, j < n * sz → cur[off + j]? = xs[j]?) ∧ Sep w0 (Cl g cur e :: L) w := by
 obtain ⟨F, hF, -⟩ := h.head
 rcases hF.2 with ⟨a, hv, hn⟩ | ⟨g, off, c, cur, hv, a1, a2, a3, a4, a5, a6, a7⟩
 ·exact .inl ⟨a, hv, hn, List.eq_nil_of_length_eq_zero (by rw [hF.1, hn, Nat.zero_mul])⟩
 ·refine .inr ⟨g, off, c, cur, hv, a1, a2, a3, a5, a6, ?_⟩
  refine h.imp (loc_blk _ _) fun F' hF' => ?_
  rcases hF'.2 with ⟨a, hv', hn⟩ | ⟨g', off', c', cur', hv', b1, b2, b3, b4, b5, b6, b7⟩
  ·rw [hv] at hv'; cases hv'; omega
  ·rw [hv] at hv'
   simp only [Value.slice.injEq, Option.some.injEq, Addr.mk.injEq] at hv'
   obtain ⟨⟨rfl, rfl, -⟩, -, rfl⟩ := hv'
   rw [a4] at b4
   cases b4
   exact ⟨a4, b7⟩
theorem Sep.roClose {w0 w : World} {sz n g off c : Nat} {e : TypeId} {cur : Array Value} {xs : List Value} {L : List Thing} (h : Sep w0 (Cl g cur e :: L) w) (hl : xs.length = n * sz) (h1 : n ≤ c) (h2 : 0 < c) (h3 : c ≤ maxLen) (h4 : off + c * sz ≤ cur.size) (h5 : ∀ j, j < n * sz → cur[off + j]? = xs[j]?) :
  Sep w0 (Ro sz e (.slice (some ⟨g, off, none⟩) n c) n xs :: L) w := h.imp (loc_ro _ _ _ _ _) fun F hF => ⟨hl, .inr ⟨g, off, c, cur, rfl, h1, h2, h3, hF.1, h4, h5, hF.2⟩⟩
theorem Sep.roNone {w0 w : World} {sz : Nat} {e : TypeId} {a : Option Addr} {A : Thing} {L : List Thing} (h : Sep w0 (A :: L) w) : Sep w0 (Ro sz e (.slice a 0 0) 0 [] :: L) w := h.imp (loc_ro _ _ _ _ _) fun F hF => ⟨by simp, .inl ⟨a, rfl, rfl⟩⟩
theorem Sep.roForm {w0 w : World} {sz n : Nat} {e : TypeId} {v : Value} {xs : List Value} {L : List Thing} (h : Sep w0 (Ro sz e v n xs :: L) w) : ∃ a c, v = .slice a n c ∧ n ≤ c ∧ c ≤ maxLen ∧ xs.length = n * sz ∧
  (0 < n → ∃ b off, a = some ⟨b, off, none⟩ ∧ b < w.heap.size ∧ ∀ j (hj : j < xs.length), w.cell? ⟨b, off + j, none⟩ = some xs[j]) := by
 have hl := h.roLen
 rcases h.roOpen with ⟨a, rfl, rfl, rfl⟩ | ⟨g, off, c, cur, rfl, h1, h2, h3, h4, h5, h6⟩
 ·exact ⟨a, 0, rfl, Nat.le_refl _, Nat.zero_le _, by simp, fun h => by omega⟩
 ·exact ⟨_, _, rfl, h1, h3, hl, fun _ => ⟨g, off, rfl, h6.blk_lt.2, fun j hj => h6.cell (by rw [h5 j (by omega), List.getElem?_eq_getElem hj])⟩⟩
/-- Cells of it are written, one behind the other. -/
theorem writeAt_size : ∀ (vs : List Value) (xs : Array Value) (o : Nat), (writeAt xs o vs).size = xs.size
 | [], _, _ => rfl
 | v :: vs, xs, o => by unfold writeAt; rw [writeAt_size vs]; simp
/-- 'append' of m elements that stand in a row of cells, onto it. -/
theorem append_ro {P : Program} {w0 w : World} {t ty e : TypeId} {i : TypeInfo} {z : Value} {sz : Nat} (ht : P.underlying t = some (.slice e)) (hi : P.info? e = some i) (hz : i.zero = some z)
  (hsize : i.size = sz) (hby : i.bytes ≤ 256) (hzs : z.cells.size = sz) (hpos : 0 < sz) {v : Value} {n m c b off : Nat} {xs news : List Value} {L : List Thing} (h : Sep w0 (Ro sz e v n xs :: L) w)
  (hl : news.length = m * sz) (hm0 : 0 < m) (hnews : ∀ j u, news[j]? = some u → w.cell? ⟨b, off + j, none⟩ = some u) (h1 : ∀ u ∈ news, u.oneCell' = true) (hlen : n + m ≤ 549755813888) :
  ∃ v' w', (Builtin.append_ #[t, t] ty #[v, .slice (some ⟨b, off, none⟩) m c]).run P w = .ok v' w' ∧ Sep w0 (Ro sz e v' (n + m) (xs ++ news) :: L) w' := by
 have hxl := h.roLen
 have hm : n + m ≤ maxLen := by unfold maxLen; omega
 have hbb : (n + m) * i.bytes ≤ 140737488355328 := by
  calc (n + m) * i.bytes ≤ 549755813888 * 256 := Nat.mul_le_mul hlen hby
   _ = 140737488355328 := by omega
 have hadd : ∀ b off j, (⟨b, off, none⟩ : Addr).add j = ⟨b, off + j, none⟩ := fun b off j => by unfold Addr.add; split <;> simp_all
 have hnews' : ∀ j u, news[j]? = some u → w.cell? ((⟨b, off, none⟩ : Addr).add j) = some u := fun j u hj => by rw [hadd]; exact hnews j u hj
 have grown : ∀ v' w', w'.ownsRow w.heap.size e sz v' (n + m) (xs ++ news) → w.grownBy w' none → Sep w0 (Ro sz e v' (n + m) (xs ++ news) :: L) w' := fun v' w' ho hg =>
  Sep.roOf (h.drop.new (A := Rn sz e v' (n + m) (xs ++ news)) (loc_rn _ _ _ _ _) (below_grown hg (Nat.le_refl _) (by intro k hk; cases hk)) (F := fun k => v'.ownBlock = some k) ⟨⟨_, ho⟩, fun _ => Iff.rfl⟩ fun k hk => ownsRow_lt ho k hk)
 rcases h.roOpen with ⟨a, rfl, rfl, rfl⟩ | ⟨g, o, cc, cur, rfl, a1, a2, a3, a4, a5, h6⟩
 ·cases a with
  | none =>
   obtain ⟨v', w', hr, ho, hg, hn, hat⟩ := run_append_own_at (P := P) w w.heap.size t ty e i z sz i.bytes ht hi hz hsize rfl hzs hpos (.slice none 0 0) 0 [] (World.ownsRow_nil w _ e sz) ⟨b, off, none⟩ m c news hl hnews' h1 hm hbb (Nat.le_refl _)
   exact ⟨v', w', hr, grown v' w' ho hg⟩
  | some a =>
   obtain ⟨v', w', hr, ho, hg⟩ := run_append_arg_grows (P := P) w t ty e i z sz i.bytes ht hi hz hsize rfl hzs hpos a 0 0 [] (by simp) (fun j u hj => by simp at hj) ⟨b, off, none⟩ m c news hl hnews' (by omega) hm hbb
   exact ⟨v', w', hr, grown v' w' ho hg⟩
 ·by_cases hroom : n + m ≤ cc
  ·have hnm : (n + m) * sz ≤ cc * sz := Nat.mul_le_mul_right _ hroom
   rw [Nat.add_mul] at hnm
   subst hsize
   have hr := run_append_room_cells (P := P) w t ty e i ht hi g o n cc ⟨b, off, none⟩ m c news hl hnews' h1 hroom (fun j hj => by
    rw [h6.cell (x := cur[o + n * i.size + j]'(by omega)) (Array.getElem?_eq_getElem (by omega))]; rfl) (fun j hj => h6.frozen _)
   refine ⟨_, _, hr, ?_⟩
   have h7 := Sep.setCells news cur (o + n * i.size) w h6
   refine h7.roClose (by rw [List.length_append, hxl, hl, Nat.add_mul]) hroom a2 a3 (by rw [writeAt_size]; exact a4) fun j hj => ?_
   rw [Nat.add_mul] at hj
   rw [writeAt_get]
   by_cases hjn : j < n * i.size
   ·rw [if_neg (by omega), a5 j hjn, List.getElem?_append_left (by omega)]
   ·rw [if_pos (by omega), List.getElem?_append_right (by omega), hxl]
    congr 1; omega
  ·obtain ⟨v', w', hr, ho, hg⟩ := run_append_arg_grows (P := P) w t ty e i z sz i.bytes ht hi hz hsize rfl hzs hpos ⟨g, o, none⟩ n cc xs hxl (fun j u hj => by
    rw [hadd]
    obtain ⟨hj1, hj2⟩ := List.getElem?_eq_some_iff.1 hj
    exact h6.cell (by rw [a5 j (by omega), hj])) ⟨b, off, none⟩ m c news hl hnews' (by omega) hm hbb
   exact ⟨v', w', hr, grown v' w' ho hg⟩
end Go.Proofs.YtcnbmeiielkigaaGreatDoor
/- Messages without lists, copied. -/
namespace Go.Proofs.YtcnbmeiielkigaaGreatDoor
open Go Go.RowKit
set_option linter.unusedVariables false
set_option linter.unusedSimpArgs false
theorem Sep.nilOf {w0 w : World} {sz : Nat} {e : TypeId} {v : Value} {xs : List Value} {L : List Thing} (h : Sep w0 (Rn sz e v 0 xs :: L) w) : NilL v := by
 rcases h.rn.2 with ⟨rfl, _⟩ | ⟨g, c, cur, rfl, _⟩
 ·exact nil0
 ·exact ⟨_, _, rfl, fun h => by cases h⟩
theorem Sep.thereAt {w0 w : World} {b : Nat} {Z : Array Value} {t : TypeId} {L : List Thing} (h : Sep w0 (Cl b Z t :: L) w) (o n : Nat) (hZ : o + n ≤ Z.size) : w.there b o n := fun j hj => by
 refine ⟨?_, h.frozen _⟩
 rw [h.cell (o := o + j) (Array.getElem?_eq_getElem (by omega))]
 rfl
theorem icopyz_any {w0 w : World} {L : List Thing} {v : Value} (h : Sep w0 L w) (hv : NilL v) : Calls Tryz.prog 78 #[opZV v] w fun e w' => ∃ u, NilL u ∧ e = .returned (opZV u) ∧ Sep w0 L w' :=
 (copy_any 0 zS 0 0 v [] h (hv.ln w) (by simp)).mono fun e w' ⟨u, he, h2⟩ => ⟨u, h2.nilOf, he, h2.drop⟩
set_option maxRecDepth 100000 in
set_option maxHeartbeats 4000000 in
theorem ecopyz_any {w0 w : World} {L : List Thing} {v : Value} (c m : Int) (h : Sep w0 L w) (hv : NilL v) : Calls Tryz.prog 49 #[.agg (enZC c m v)] w fun e w' => ∃ u, NilL u ∧ e = .returned (.agg (enZC c m u)) ∧ Sep w0 L w' := by
 have h1 := (h.alloc (.cells (enZC c m v) 32)).alloc (.cells #[.int .i64 0, .int .i64 0, .int .i64 0, .string ⟨#[]⟩, .int .i64 0, .int .i64 0, .slice none 0 0] 32)
 rw [show (w.alloc (.cells (enZC c m v) 32)).heap.size = w.heap.size + 1 by simp] at h1
 have HC := Lib.hid (icopyz_any h1 hv)
 obtain ⟨b1, hb1⟩ : ∃ z, z = w.heap.size := ⟨_, rfl⟩
 obtain ⟨b2, hb2⟩ : ∃ z, z = w.heap.size + 1 := ⟨_, rfl⟩
 rw [← hb2, ← hb1] at HC
 unfold enZC at *
 obtain ⟨c0, c1, c2, c3, c4, c5, c6⟩ := (show _ ∧ _ ∧ _ ∧ _ ∧ _ ∧ _ ∧ _ from ⟨h1.sw2.cell (o := 0) rfl, h1.sw2.cell (o := 1) rfl, h1.sw2.cell (o := 2) rfl, h1.sw2.cell (o := 3) rfl, h1.sw2.cell (o := 4) rfl, h1.sw2.cell (o := 5) rfl, h1.sw2.cell (o := 6) rfl⟩)
 clear h h1 hv
 go_enter Tryz.func49, Tryz.ntmps49
 (try dsimp only); repeat' (first | go_values | go_skip | go_guarded | go_step | go_upon | go_back)
 rw [← hb2, ← hb1]
 refine HC.out.mono ?_
 rintro r0 w1 ⟨u, hu, rfl, h2⟩
 clear c0 c1 c2 c3 c4 c5 c6 hb1 hb2 HC
 obtain ⟨au, cu, rfl, -⟩ := id hu
 have HTH := Lib.hid (h2.sw2.thereAt 2 5 (by simp))
 have h3 := Sep.setCells [.int .i64 0, .string ⟨#[]⟩, .int .i64 0, .int .i64 0, .slice au 0 cu] _ 2 _ h2.sw2
 rw [show writeAt #[.int .i64 c, .int .i64 m, .int .i64 0, .string ⟨#[]⟩, .int .i64 0, .int .i64 0, v] 2 [.int .i64 0, .string ⟨#[]⟩, .int .i64 0, .int .i64 0, .slice au 0 cu] = #[.int .i64 c, .int .i64 m, .int .i64 0, .string ⟨#[]⟩, .int .i64 0, .int .i64 0, .slice au 0 cu] by simp [writeAt]] at h3
 obtain ⟨w2, hw2⟩ : ∃ z, z = w1.setCells b1 2 [.int .i64 0, .string ⟨#[]⟩, .int .i64 0, .int .i64 0, .slice au 0 cu] := ⟨_, rfl⟩
 rw [← hw2] at h3
 have HL := Lib.hid (h3.loadW 32 Tryz.underlying32 rfl (by kernel_rfl))
 have HT2 := Lib.hid (h3.sw2.thereAt 0 7 (by simp))
 have h4 := h3.sw2.storeW #[.int .i64 c, .int .i64 m, .int .i64 0, .string ⟨#[]⟩, .int .i64 0, .int .i64 0, .slice au 0 cu] rfl
 have HV := Lib.hid (h4.loadV 32 Tryz.underlying32 rfl (by kernel_rfl))
 have H4 := Lib.hid h4.drop.drop
 have HU := Lib.hid hu
 clear h2 h3 h4 hu
 unfold opZV
 (try dsimp only); repeat' (first | (with_reducible show wpList _ _ _ (Oper.mk _ (Op.store 30 _ _) _ _ _ _ :: _) _ _; refine stopP ?_) | go_values | go_skip | go_guarded | go_step | go_upon | go_back)
 unfold StopP
 refine wpList_store_mid rfl 30 (.tmp 6) (.tmp 5) rfl b1 2 #[.int .i64 0, .string ⟨#[]⟩, .int .i64 0, .int .i64 0, .slice au 0 cu] rfl rfl HTH.out (by kernel_rfl) (by first | kernel_rfl | assumption) ?_
 show wpList _ _ _ _ _ (w1.setCells b1 2 [.int .i64 0, .string ⟨#[]⟩, .int .i64 0, .int .i64 0, .slice au 0 cu])
 rw [← hw2]
 clear hw2 HTH
 (try dsimp only); repeat' (first | (with_reducible show wpList _ _ _ (Oper.mk _ (Op.load 32 _) _ _ _ _ :: _) _ _; refine stopP ?_) | go_values | go_skip | go_guarded | go_step | go_upon | go_back)
 unfold StopP
 have hq_ := HL.out
 refine wpList_load_run rfl 32 _ rfl _ _ rfl hq_ ?_
 clear hq_
 (try dsimp only); repeat' (first | (with_reducible show wpList _ _ _ (Oper.mk _ (Op.store 32 _ _) _ _ _ _ :: _) _ _; refine stopP ?_) | go_values | go_skip | go_guarded | go_step | go_upon | go_back)
 unfold StopP
 refine wpList_store_mid rfl 32 (.tmp 2) (.tmp 7) rfl b2 0 #[.int .i64 c, .int .i64 m, .int .i64 0, .string ⟨#[]⟩, .int .i64 0, .int .i64 0, .slice au 0 cu] rfl rfl HT2.out (by kernel_rfl) (by first | kernel_rfl | assumption) ?_
 (try dsimp only); repeat' (first | go_values | go_skip | go_guarded | go_step | go_upon | go_back)
 exact bodyPost_ret (results_cell rfl rfl HV.out) rfl ⟨_, HU.out, rfl, H4.out⟩
theorem infoE7 : (Tryz.prog.info? 32).map (fun i => (i.size, decide (i.bytes ≤ 256), i.zero.map (·.cells.size))) = some (7, true, some 7) := by kernel_rfl
theorem append_zero {P : Program} (w : World) (t ty e : TypeId) (i : TypeInfo) (ht : P.underlying t = some (.slice e)) (hi : P.info? e = some i) (b off n c : Nat) (hn : n ≤ c) (a : Addr) (k : Nat) :
  (Builtin.append_ #[t, t] ty #[.slice (some ⟨b, off, none⟩) n c, .slice (some a) 0 k]).run P w = .ok (.slice (some ⟨b, off, none⟩) n c) w :=
 run_append_room_cells (P := P) w t ty e i ht hi b off n c a 0 k [] (by simp) (fun j u hj => by simp at hj) (fun u hu => by simp at hu) (by omega) (fun j hj => by simp at hj) (fun j hj => by simp at hj)
theorem infoBy1 : (Tryz.prog.info? 5).map (·.size) = some 1 := by kernel_rfl
theorem cloneBz_any {w0 w : World} {L : List Thing} {v : Value} (h : Sep w0 L w) (hv : NilL v) : Calls Tryz.prog 79 #[v] w fun e w' => ∃ u, NilL u ∧ e = .returned u ∧ Sep w0 L w' := by
 obtain ⟨a, c, rfl, hac⟩ := hv
 cases a with
 | none =>
  have e1 := fun w => Lib.run_eql_slice_nil (P := Tryz.prog) w 35 5 none 0 c 0 0 Tryz.underlying35
  have H := Lib.hid h
  clear h hac
  go_enter Tryz.func79, Tryz.ntmps79
  (try dsimp only); repeat' (first | go_values | go_skip | go_guarded | go_step | go_upon | go_back)
  go_ret
  exact ⟨_, nil0, rfl, H.out⟩
 | some x =>
  have e1 := fun w => Lib.run_eql_slice_nil (P := Tryz.prog) w 35 5 (some x) 0 c 0 0 Tryz.underlying35
  obtain ⟨i, hi, -⟩ := Option.map_eq_some_iff.1 infoBy1
  have H1 := Lib.hid (append_zero (P := Tryz.prog) (w.alloc (.cells #[] 5)) 35 35 5 i Tryz.underlying35 hi w.heap.size 0 0 0 (Nat.le_refl _) x c)
  have H := Lib.hid (h.alloc0 (.cells #[] 5))
  clear h hac hi
  go_enter Tryz.func79, Tryz.ntmps79
  (try dsimp only); repeat' (first | (at_builtin; refine stopP ?_) | go_values | go_skip | go_guarded | go_step | go_upon | go_back)
  unfold StopP
  refine wpList_append_r rfl _ _ _ _ rfl rfl rfl H1.out ?_
  (try dsimp only); repeat' (first | go_values | go_skip | go_guarded | go_step | go_upon | go_back)
  go_ret
  exact ⟨_, ⟨_, _, rfl, fun h => by cases h⟩, rfl, H.out⟩
set_option maxRecDepth 100000 in
theorem lcopyz_any {w0 w : World} {L : List Thing} {v : Value} (h : Sep w0 L w) (hv : NilL v) : Calls Tryz.prog 80 #[v, .func (.func 49) #[] #[]] w fun e w' => ∃ u, NilL u ∧ e = .returned u ∧ Sep w0 L w' := by
 obtain ⟨a, c, rfl, hac⟩ := hv
 obtain ⟨i, hi, he⟩ := Option.map_eq_some_iff.1 infoE7
 simp only [Prod.mk.injEq, decide_eq_true_eq] at he
 obtain ⟨z, hz, hz2⟩ := Option.map_eq_some_iff.1 he.2.2
 obtain ⟨w1, hmk, hown, hgr⟩ := run_make_own (P := Tryz.prog) w w.heap.size 36 32 i z 7 Tryz.underlying36 hi hz he.1 .i64 .i64 0 (by omega) (by unfold maxLen; omega) (Nat.le_refl _)
 have HM := Lib.hid hmk
 have H := Lib.hid (h.below (show Below w.heap.size w w1 from ⟨hgr.os, hgr.tape, hgr.output, hgr.size, fun k hk => hgr.block k hk (by simp)⟩))
 clear h hac hi he hz hz2 hmk hown hgr
 go_enter Tryz.func80, Tryz.ntmps80
 (try dsimp only); repeat' (first | go_values | go_skip | go_guarded | go_step | go_upon | go_back)
 rw [show Sem.run Tryz.prog (Instr.makeSlice 36 (Value.int IntKind.i64 0) (Value.int IntKind.i64 0)) w = _ from HM.out]
 clear HM
 (try dsimp only); repeat' (first | go_values | go_skip | go_guarded | go_step | go_upon | go_back)
 go_loopw [5, 13] (fun pv i wr => pv = .slice (some ⟨w.heap.size, 0, none⟩) 0 0 ∧ i = .int .i64 0 ∧ Sep w0 L wr) (fun _ _ _ => 0)
 case atStart => exact ⟨rfl, rfl, H.out⟩
 case round =>
  obtain ⟨rfl, rfl, hs⟩ := hrel
  have HS := Lib.hid hs
  clear hs H
  (try dsimp only); repeat' (first | go_values | go_skip | go_guarded | go_step | go_upon | go_back)
  go_ret
  exact ⟨_, ⟨_, _, rfl, fun h => by cases h⟩, rfl, HS.out⟩
set_option maxRecDepth 100000 in
set_option maxHeartbeats 4000000 in
theorem cimgz_any {w0 w : World} {L : List Thing} {cv ev : Value} (h : Sep w0 L w) (hcv : NilL cv) (hev : NilL ev) : Calls Tryz.prog 50 #[.agg (imgZC cv ev)] w fun e w' => ∃ cu eu, NilL cu ∧ NilL eu ∧ e = .returned (.agg (imgZC cu eu)) ∧ Sep w0 L w' := by
 have h1 := (h.alloc (.cells (imgZC cv ev) 38)).alloc (.cells #[.int .i64 0, .slice none 0 0, .slice none 0 0, .int .i64 0] 38)
 rw [show (w.alloc (.cells (imgZC cv ev) 38)).heap.size = w.heap.size + 1 by simp] at h1
 have HC := Lib.hid (cloneBz_any h1 hcv)
 have HE : Hid (∀ wx M, Sep w0 M wx → Calls Tryz.prog 80 #[ev, .func (.func 49) #[] #[]] wx fun e w' => ∃ u, NilL u ∧ e = .returned u ∧ Sep w0 M w') := Lib.hid fun wx M hx => lcopyz_any hx hev
 obtain ⟨b1, hb1⟩ : ∃ z, z = w.heap.size := ⟨_, rfl⟩
 obtain ⟨b2, hb2⟩ : ∃ z, z = w.heap.size + 1 := ⟨_, rfl⟩
 rw [← hb2, ← hb1] at HC
 unfold imgZC at *
 have c1 := h1.sw2.cell (o := 1) rfl
 obtain ⟨ca, cc, rfl, -⟩ := hcv
 obtain ⟨ea, ec, rfl, -⟩ := hev
 clear h h1
 go_enter Tryz.func50, Tryz.ntmps50
 (try dsimp only); repeat' (first | go_values | go_skip | go_guarded | go_step | go_upon | go_back)
 rw [← hb2, ← hb1]
 refine HC.out.mono ?_
 rintro r0 w1 ⟨cu, hcu, rfl, h2⟩
 clear c1 HC hb1 hb2
 obtain ⟨au, ac, rfl, -⟩ := id hcu
 have d1 := h2.sw2.cell (o := 1) rfl
 have f1 := h2.sw2.frozen 1
 have d2 := h2.sw2.cell (o := 2) rfl
 have h3 : Sep w0 (Cl b1 #[.int .i64 0, .slice au 0 ac, .slice ea 0 ec, .int .i64 0] 38 :: _ :: L) _ := h2.sw2.setCell 1 (.slice au 0 ac)
 obtain ⟨w2, hw2⟩ : ∃ z, z = w1.setCell ⟨b1, 1, none⟩ (.slice au 0 ac) := ⟨_, rfl⟩
 rw [← hw2] at h3
 have HE2 := Lib.hid (HE.out _ _ h3)
 clear h2 h3 HE
 (try dsimp only); repeat' (first | go_values | go_skip | go_guarded | go_step | go_upon | go_back)
 rw [← hw2]
 clear hw2 d1 f1
 refine HE2.out.mono ?_
 rintro r0 w3 ⟨eu, heu, rfl, h4⟩
 clear d2 HE2
 obtain ⟨eau, eac, rfl, -⟩ := id heu
 have d1 := h4.cell (o := 2) rfl
 have f1 := h4.frozen 2
 have h5 : Sep w0 (Cl b1 #[.int .i64 0, .slice au 0 ac, .slice eau 0 eac, .int .i64 0] 38 :: _ :: L) _ := h4.setCell 2 (.slice eau 0 eac)
 obtain ⟨w4, hw4⟩ : ∃ z, z = w3.setCell ⟨b1, 2, none⟩ (.slice eau 0 eac) := ⟨_, rfl⟩
 rw [← hw4] at h5
 have HL := Lib.hid (h5.loadW 38 Tryz.underlying38 rfl (by kernel_rfl))
 have HT2 := Lib.hid (h5.sw2.thereAt 0 4 (by simp))
 have h6 := h5.sw2.storeW #[.int .i64 0, .slice au 0 ac, .slice eau 0 eac, .int .i64 0] rfl
 have HV := Lib.hid (h6.loadV 38 Tryz.underlying38 rfl (by kernel_rfl))
 have H6 := Lib.hid h6.drop.drop
 have HU := Lib.hid (And.intro hcu heu)
 clear h4 h5 h6 hcu heu
 (try dsimp only); repeat' (first | (with_reducible show wpList _ _ _ (Oper.mk _ (Op.load 38 _) _ _ _ _ :: _) _ _; refine stopP ?_) | go_values | go_skip | go_guarded | go_step | go_upon | go_back)
 rw [← hw4]
 clear hw4 d1 f1
 unfold StopP
 have hq_ := HL.out
 refine wpList_load_run rfl 38 _ rfl _ _ rfl hq_ ?_
 clear hq_
 (try dsimp only); repeat' (first | (with_reducible show wpList _ _ _ (Oper.mk _ (Op.store 38 _ _) _ _ _ _ :: _) _ _; refine stopP ?_) | go_values | go_skip | go_guarded | go_step | go_upon | go_back)
 unfold StopP
 refine wpList_store_mid rfl 38 (.tmp 2) (.tmp 11) rfl b2 0 #[.int .i64 0, .slice au 0 ac, .slice eau 0 eac, .int .i64 0] rfl rfl HT2.out (by kernel_rfl) (by first | kernel_rfl | assumption) ?_
 (try dsimp only); repeat' (first | go_values | go_skip | go_guarded | go_step | go_upon | go_back)
 exact bodyPost_ret (results_cell rfl rfl HV.out) rfl ⟨_, _, HU.out.1, HU.out.2, rfl, H6.out⟩
/-- A message's cells. -/
def MsgC (c : Array Value) (m : MsM) : Prop := ∃ lv cv ev, NilL lv ∧ NilL cv ∧ NilL ev ∧ c = msC m lv cv ev
theorem write_en (m : MsM) (lv cv ev u : Value) : writeAt (msC m lv cv ev) 7 [.int .i64 m.ec, .int .i64 m.em, .int .i64 0, .string ⟨#[]⟩, .int .i64 0, .int .i64 0, u] = msC m u cv ev := by simp [msC, writeAt]
theorem write_im (m : MsM) (lv cv ev cu eu : Value) : writeAt (msC m lv cv ev) 18 [.int .i64 0, cu, eu, .int .i64 0] = msC m lv cu eu := by simp [msC, writeAt]
set_option maxRecDepth 100000 in
set_option maxHeartbeats 16000000 in
theorem mcopyz_any {w0 w : World} {L : List Thing} (m : MsM) {c : Array Value} (h : Sep w0 L w) (hc : MsgC c m) : Calls Tryz.prog 36 #[.agg c] w fun e w' => ∃ u, MsgC u m ∧ e = .returned (.agg u) ∧ Sep w0 L w' := by
 obtain ⟨lv, cv, ev, hlv, hcv, hev, rfl⟩ := hc
 have h1 := (h.alloc (.cells (msC m lv cv ev) 40)).alloc (.cells #[.int .i64 0, .int .i64 0, .int .i64 0, .int .i64 0, .int .i64 0, .int .i64 0, .int .i64 0, .int .i64 0, .int .i64 0, .int .i64 0, .string ⟨#[]⟩, .int .i64 0, .int .i64 0, .slice none 0 0, .int .i64 0, .int .i64 0, .int .i64 0, .bool false, .int .i64 0, .slice none 0 0, .slice none 0 0, .int .i64 0] 40)
 rw [show (w.alloc (.cells (msC m lv cv ev) 40)).heap.size = w.heap.size + 1 by simp] at h1
 have HC := Lib.hid (ecopyz_any m.ec m.em h1 hlv)
 have HE : Hid (∀ wx M, Sep w0 M wx → Calls Tryz.prog 50 #[.agg (imgZC cv ev)] wx fun e w' => ∃ cu eu, NilL cu ∧ NilL eu ∧ e = .returned (.agg (imgZC cu eu)) ∧ Sep w0 M w') := Lib.hid fun wx M hx => cimgz_any hx hcv hev
 obtain ⟨b1, hb1⟩ : ∃ z, z = w.heap.size := ⟨_, rfl⟩
 obtain ⟨b2, hb2⟩ : ∃ z, z = w.heap.size + 1 := ⟨_, rfl⟩
 rw [← hb2, ← hb1] at HC
 obtain ⟨la, lc, rfl, -⟩ := hlv
 obtain ⟨ca, cc, rfl, -⟩ := hcv
 obtain ⟨ea, ec, rfl, -⟩ := hev
 unfold enZC at HC
 unfold imgZC at HE
 have d7 := h1.sw2.cell (o := 7) rfl
 have d8 := h1.sw2.cell (o := 8) rfl
 have d9 := h1.sw2.cell (o := 9) rfl
 have d10 := h1.sw2.cell (o := 10) rfl
 have d11 := h1.sw2.cell (o := 11) rfl
 have d12 := h1.sw2.cell (o := 12) rfl
 have d13 := h1.sw2.cell (o := 13) rfl
 clear h
 go_enter Tryz.func36, Tryz.ntmps36
 unfold msC at *
 (try dsimp only); repeat' (first | go_values | go_skip | go_guarded | go_step | go_upon | go_back)
 rw [← hb2, ← hb1]
 refine HC.out.mono ?_
 rintro r0 w1 ⟨u, hu, rfl, h2⟩
 clear HC h1 hb1 hb2 d7 d8 d9 d10 d11 d12 d13
 obtain ⟨au, ac, rfl, -⟩ := id hu
 have HTH := Lib.hid (h2.sw2.thereAt 7 7 (by simp))
 have h3 := Sep.setCells [.int .i64 m.ec, .int .i64 m.em, .int .i64 0, .string ⟨#[]⟩, .int .i64 0, .int .i64 0, .slice au 0 ac] _ 7 _ h2.sw2
 have hwe := write_en m (.slice la 0 lc) (.slice ca 0 cc) (.slice ea 0 ec) (.slice au 0 ac)
 unfold msC at hwe
 rw [hwe] at h3
 obtain ⟨w2, hw2⟩ : ∃ z, z = w1.setCells b1 7 [.int .i64 m.ec, .int .i64 m.em, .int .i64 0, .string ⟨#[]⟩, .int .i64 0, .int .i64 0, .slice au 0 ac] := ⟨_, rfl⟩
 rw [← hw2] at h3
 have HE2 := Lib.hid (HE.out _ _ h3)
 have i18 := h3.cell (o := 18) rfl
 have i19 := h3.cell (o := 19) rfl
 have i20 := h3.cell (o := 20) rfl
 have i21 := h3.cell (o := 21) rfl
 have HU := Lib.hid hu
 clear h2 h3 HE hwe hu
 (try dsimp only); repeat' (first | (with_reducible show wpList _ _ _ (Oper.mk _ (Op.store 32 _ _) _ _ _ _ :: _) _ _; refine stopP ?_) | go_values | go_skip | go_guarded | go_step | go_upon | go_back)
 unfold StopP
 refine wpList_store_mid rfl 32 (.tmp 6) (.tmp 5) rfl b1 7 #[.int .i64 m.ec, .int .i64 m.em, .int .i64 0, .string ⟨#[]⟩, .int .i64 0, .int .i64 0, .slice au 0 ac] rfl rfl HTH.out (by kernel_rfl) (by first | kernel_rfl | assumption) ?_
 show wpList _ _ _ _ _ (w1.setCells b1 7 [.int .i64 m.ec, .int .i64 m.em, .int .i64 0, .string ⟨#[]⟩, .int .i64 0, .int .i64 0, .slice au 0 ac])
 rw [← hw2]
 clear hw2 HTH
 (try dsimp only); repeat' (first | go_values | go_skip | go_guarded | go_step | go_upon | go_back)
 refine HE2.out.mono ?_
 rintro r0 w3 ⟨cu, eu, hcu, heu, rfl, h4⟩
 clear HE2 i18 i19 i20 i21
 obtain ⟨cau, cac, rfl, -⟩ := id hcu
 obtain ⟨eau, eac, rfl, -⟩ := id heu
 have HTH := Lib.hid (h4.thereAt 18 4 (by simp))
 have h5 := Sep.setCells [.int .i64 0, .slice cau 0 cac, .slice eau 0 eac, .int .i64 0] _ 18 _ h4
 have hwe := write_im m (.slice au 0 ac) (.slice ca 0 cc) (.slice ea 0 ec) (.slice cau 0 cac) (.slice eau 0 eac)
 unfold msC at hwe
 rw [hwe] at h5
 obtain ⟨w4, hw4⟩ : ∃ z, z = w3.setCells b1 18 [.int .i64 0, .slice cau 0 cac, .slice eau 0 eac, .int .i64 0] := ⟨_, rfl⟩
 rw [← hw4] at h5
 have h5 : Sep w0 (Cl b1 (msC m (.slice au 0 ac) (.slice cau 0 cac) (.slice eau 0 eac)) 40 :: Cl b2 #[.int .i64 0, .int .i64 0, .int .i64 0, .int .i64 0, .int .i64 0, .int .i64 0, .int .i64 0, .int .i64 0, .int .i64 0, .int .i64 0, .string ⟨#[]⟩, .int .i64 0, .int .i64 0, .slice none 0 0, .int .i64 0, .int .i64 0, .int .i64 0, .bool false, .int .i64 0, .slice none 0 0, .slice none 0 0, .int .i64 0] 40 :: L) w4 := h5
 have HL := Lib.hid (h5.loadW 40 Tryz.underlying40 rfl (by kernel_rfl))
 have HT2 := Lib.hid (h5.sw2.thereAt 0 22 (by simp))
 have h6 := h5.sw2.storeW (msC m (.slice au 0 ac) (.slice cau 0 cac) (.slice eau 0 eac)) rfl
 have HV := Lib.hid (h6.loadV 40 Tryz.underlying40 rfl (by kernel_rfl))
 have H6 := Lib.hid h6.drop.drop
 have HW := Lib.hid (show MsgC (msC m (.slice au 0 ac) (.slice cau 0 cac) (.slice eau 0 eac)) m from ⟨_, _, _, HU.out, hcu, heu, rfl⟩)
 clear h4 h5 h6 hcu heu hwe HU
 (try dsimp only); repeat' (first | (with_reducible show wpList _ _ _ (Oper.mk _ (Op.store 38 _ _) _ _ _ _ :: _) _ _; refine stopP ?_) | go_values | go_skip | go_guarded | go_step | go_upon | go_back)
 unfold StopP
 refine wpList_store_mid rfl 38 (.tmp 10) (.tmp 9) rfl b1 18 #[.int .i64 0, .slice cau 0 cac, .slice eau 0 eac, .int .i64 0] rfl rfl HTH.out (by kernel_rfl) (by first | kernel_rfl | assumption) ?_
 show wpList _ _ _ _ _ (w3.setCells b1 18 [.int .i64 0, .slice cau 0 cac, .slice eau 0 eac, .int .i64 0])
 rw [← hw4]
 clear hw4 HTH
 (try dsimp only); repeat' (first | (with_reducible show wpList _ _ _ (Oper.mk _ (Op.load 40 _) _ _ _ _ :: _) _ _; refine stopP ?_) | go_values | go_skip | go_guarded | go_step | go_upon | go_back)
 unfold StopP
 have hq_ := HL.out
 refine wpList_load_run rfl 40 _ rfl _ _ rfl hq_ ?_
 clear hq_
 (try dsimp only); repeat' (first | (with_reducible show wpList _ _ _ (Oper.mk _ (Op.store 40 _ _) _ _ _ _ :: _) _ _; refine stopP ?_) | go_values | go_skip | go_guarded | go_step | go_upon | go_back)
 unfold StopP
 refine wpList_store_mid rfl 40 (.tmp 2) (.tmp 11) rfl b2 0 (msC m (.slice au 0 ac) (.slice cau 0 cac) (.slice eau 0 eac)) rfl rfl HT2.out (by kernel_rfl) (by first | kernel_rfl | assumption) ?_
 (try dsimp only); repeat' (first | go_values | go_skip | go_guarded | go_step | go_upon | go_back)
 exact bodyPost_ret (results_cell rfl rfl HV.out) rfl ⟨_, HW.out, rfl, H6.out⟩
end Go.Proofs.YtcnbmeiielkigaaGreatDoor
/- A region that draws its order, whose loads' cells are written by one of its last operations: the condition on the world holds till one of those in T has come up. -/
namespace Go.Proofs.YtcnbmeiielkigaaGreatDoor
open Go
set_option linter.unusedVariables false
theorem nz0 {α : Type _} {xs : List α} {i : Nat} (h : i < xs.toArray.size) : xs.toArray[i] = xs[i]'(by simpa using h) := List.getElem_toArray h
theorem nz1 {α : Type _} (a : α) (ys : List α) (i : Nat) (h : i + 1 < (a :: ys).length) : (a :: ys)[i + 1] = ys[i]'(by simpa using h) := List.getElem_cons_succ a ys i h
theorem nz2 {α : Type _} (a : α) (ys : List α) (h : 0 < (a :: ys).length) : (a :: ys)[0] = a := List.getElem_cons_zero a ys h
theorem nz3 {α : Type _} (l : List α) (i : Nat) (a : α) : l.toArray.setIfInBounds i a = (l.set i a).toArray := List.setIfInBounds_toArray l i a
theorem nz4 {α : Type _} {x : α} {xs : List α} {a : α} : (x :: xs).set 0 a = a :: xs := List.set_cons_zero
theorem nz5 {α : Type _} {x : α} {xs : List α} {i : Nat} {a : α} : (x :: xs).set (i + 1) a = x :: xs.set i a := List.set_cons_succ
section
variable {P : Program} {ops : Array Oper} {Q : Exit → Act → World → Prop} {md : Region.Mode} {S : World → Prop} {T : List Nat}
/-- Whatever order is picked from here on, and S holds behind every operation that is not in T. -/
def wpAnyG (P : Program) (md : Region.Mode) (ops : Array Oper) (Q : Exit → Act → World → Prop) (S : World → Prop) (T : List Nat) : Nat → Array Bool → Act → World → Prop
 | 0, listed, a, w => Region.ready md ops listed = [] ∧ Q .normal a w
 | fuel + 1, listed, a, w =>
  (Region.ready md ops listed = [] → Q .normal a w) ∧
  ∀ i ∈ Region.ready md ops listed, wpOp P ops Q i (fun a' w' => (T.contains i = false → S w') ∧ wpAnyG P md ops Q S T fuel (listed.setIfInBounds i true) a' w') a w
theorem wpAny_of_G : ∀ (fuel : Nat) (listed : Array Bool) (a : Act) (w : World), wpAnyG P md ops Q S T fuel listed a w → wpAny P md ops Q fuel listed a w
 | 0, _, _, _, h => h
 | fuel + 1, _, _, _, h => ⟨h.1, fun i hi => wpOp_mono (fun a' w' h' => wpAny_of_G fuel _ a' w' h'.2) (h.2 i hi)⟩
/-- All of V have not come up, and each of them waits for i or for another one of V. -/
def waits (md : Region.Mode) (ops : Array Oper) (V : List Nat) (listed : Array Bool) (i : Nat) : Bool :=
 V.all fun t => !listed.getD t true && match ops[t]? with
  | some o => o.after.any fun e => Region.binds md e && (e.on == i || V.contains e.on)
  | none => false
def unlisted (V : List Nat) (listed : Array Bool) : Prop := ∀ t ∈ V, listed.getD t true = false
def chained (md : Region.Mode) (ops : Array Oper) (V : List Nat) (i : Nat) : Prop := ∀ t ∈ V, ∃ o, ops[t]? = some o ∧ ∃ e ∈ o.after, Region.binds md e = true ∧ (e.on = i ∨ e.on ∈ V)
theorem waits_spec {V : List Nat} {listed : Array Bool} {i : Nat} (h : waits md ops V listed i = true) : unlisted V listed ∧ chained md ops V i := by
 constructor
 ·intro t ht
  have := List.all_eq_true.1 h t ht
  simp only [Bool.and_eq_true, Bool.not_eq_true'] at this
  exact this.1
 ·intro t ht
  have := List.all_eq_true.1 h t ht
  simp only [Bool.and_eq_true, Bool.not_eq_true'] at this
  have h2 := this.2
  cases ho : ops[t]? with
  | none => rw [ho] at h2; cases h2
  | some o =>
   rw [ho] at h2
   obtain ⟨e, he, hb⟩ := Array.any_eq_true'.1 h2
   simp only [Bool.and_eq_true, Bool.or_eq_true, beq_iff_eq, List.contains_iff_mem] at hb
   exact ⟨o, rfl, e, he, hb.1, hb.2⟩
theorem getD_false_of_unlisted {listed : Array Bool} {k : Nat} (h0 : listed.getD k true = false) (h1 : listed.getD k false = true) : False := by
 rcases Nat.lt_or_ge k listed.size with h' | h'
 ·simp [h'] at h0 h1; rw [h0] at h1; cases h1
 ·simp [Array.getElem?_eq_none h'] at h1
theorem not_mem_of_ready {V : List Nat} {listed : Array Bool} {i j : Nat} (hu : unlisted V listed) (hc : chained md ops V i) (hi : listed.getD i true = false) (hj : j ∈ Region.ready md ops listed) : j ∉ V := by
 intro hm
 obtain ⟨o, ho, e, he, hb, hor⟩ := hc j hm
 obtain ⟨_, o', ho', hall⟩ := mem_ready.1 hj
 rw [ho] at ho'
 cases ho'
 have h1 := hall e he hb
 rcases hor with h2 | h2
 ·rw [h2] at h1; exact getD_false_of_unlisted hi h1
 ·exact getD_false_of_unlisted (hu _ h2) h1
theorem wpAnyG_first {V : List Nat} (hTV : ∀ t, t ∈ T → t ∈ V) {i : Nat} {oi : Oper} {v : Value} (hi : ops[i]? = some oi) (hsel : ∀ (j : Nat) (o : Oper) cs b, ops[j]? = some o → o.op ≠ .select cs b)
  (hQ : ∀ c a w, Q (.panic c) (a.put oi.dst v) w → Q (.panic c) a w) (hch : chained md ops V i) :
  ∀ (fuel : Nat) (listed : Array Bool) (a : Act) (w : World),
   (∀ j oj, ops[j]? = some oj → j ≠ i → listed.getD j true = false → (∀ e ∈ oj.after, Region.binds md e = true → e.on ≠ i) → oi.apart ops oj = true) →
   i ∈ Region.ready md ops listed → unlisted V listed → YieldsIf P ops S oi v a → S w →
   wpAnyG P md ops Q S T fuel (listed.setIfInBounds i true) (a.put oi.dst v) w → wpAnyG P md ops Q S T (fuel + 1) listed a w := by
 intro fuel
 induction fuel with
 | zero =>
  intro listed a w _ hr hu hy hS H
  refine ⟨fun h => (by rw [h] at hr; cases hr), fun j hj => ?_⟩
  by_cases hji : j = i
  ·subst hji; exact hy.wpOp hi hS ⟨fun _ => hS, H⟩
  ·have := ready_mono hj hji
   rw [H.1] at this
   cases this
 | succ fuel ih =>
  intro listed a w hfree hr hu hy hS H
  refine ⟨fun h => (by rw [h] at hr; cases hr), fun j hj => ?_⟩
  by_cases hji : j = i
  ·subst hji; exact hy.wpOp hi hS ⟨fun _ => hS, H⟩
  ·have h1 := H.2 j (ready_mono hj hji)
   obtain ⟨hjun, oj, hoj, hall⟩ := mem_ready.1 hj
   have hjV := not_mem_of_ready hu hch (mem_ready.1 hr).1 hj
   have hjT : T.contains j = false := by
    cases hc : T.contains j
    ·rfl
    ·exact (hjV (hTV j (by simpa using hc))).elim
   have hnot : ∀ e ∈ oj.after, Region.binds md e = true → e.on ≠ i := fun e he hb heq => by
    have h1 := hall e he hb
    rw [heq] at h1
    exact getD_false_of_unlisted (mem_ready.1 hr).1 h1
   have h2 := wpOp_putIf hoj (hfree j oj hoj hji hjun hnot) (fun cs b => hsel i oi cs b hi) (fun cs b => hsel j oj cs b hoj) hQ hy h1
   have hfree' : ∀ k ok, ops[k]? = some ok → k ≠ i → (listed.setIfInBounds j true).getD k true = false →
     (∀ e ∈ ok.after, Region.binds md e = true → e.on ≠ i) → oi.apart ops ok = true := fun k ok hk hki hun hno => by
    refine hfree k ok hk hki ?_ hno
    by_cases hjk : j = k
    ·subst hjk; exact hjun
    ·rw [getD_set_ne true hjk] at hun; exact hun
   have hu' : unlisted V (listed.setIfInBounds j true) := fun t ht => by
    rw [getD_set_ne true (fun e => by subst e; exact hjV ht)]; exact hu t ht
   refine wpOp_mono (fun a' w' h3 => ⟨h3.2.1, ih (listed.setIfInBounds j true) a' w' hfree' (ready_mono hr (Ne.symm hji)) hu' h3.1 (h3.2.1 hjT) ?_⟩) h2
   rw [Array.setIfInBounds_comm _ _ hji]
   exact h3.2.2
/-- Number i is taken first: V: what waits for it, T among it. -/
theorem wpAnyG_take {i : Nat} (V : List Nat) {oi : Oper} {v : Value} {fuel : Nat} {listed : Array Bool} {a : Act} {w : World} (hi : ops[i]? = some oi)
  (hs : Region.noSelect ops = true) (hf : Region.free md ops listed i = true) (hr : (Region.ready md ops listed).contains i = true) (hT : (T.all V.contains) = true) (hV : waits md ops V listed i = true)
  (hQ : ∀ c a w, Q (.panic c) (a.put oi.dst v) w → Q (.panic c) a w) (hy : YieldsIf P ops S oi v a) (hS : S w)
  (h : wpAnyG P md ops Q S T fuel (listed.setIfInBounds i true) (a.put oi.dst v) w) : wpAnyG P md ops Q S T (fuel + 1) listed a w :=
 wpAnyG_first (V := V) (fun t ht => by have := List.all_eq_true.1 hT t ht; simpa using this) hi (Region.noSelect_spec hs) hQ (waits_spec hV).2 fuel listed a w (Region.free_spec hi hf) (by simpa using hr) (waits_spec hV).1 hy hS h
/-- One alone may come up; behind it S is to be shown anew, but if it is in T. -/
theorem wpAnyG_one {i : Nat} {o : Oper} {fuel : Nat} {listed : Array Bool} {a : Act} {w : World} (hr : Region.ready md ops listed = [i]) (ho : ops[i]? = some o)
  (h : ∀ K' : Act → World → Prop, Shut (∀ a w, (T.contains i = false → S w) → wpAnyG P md ops Q S T fuel (listed.setIfInBounds i true) a w → K' a w) → if Region.wanted o (yielded ops a.tmps) = true then Oper.wp P o a w K' Q else K' (a.put o.dst undef) w) :
  wpAnyG P md ops Q S T (fuel + 1) listed a w := by
 refine ⟨fun h0 => (by rw [hr] at h0; cases h0), fun j hj => ?_⟩
 rw [hr] at hj
 obtain rfl := List.mem_singleton.1 hj
 exact wpOp_step ho fun K' hK => h K' fun a w h1 h2 => hK a w ⟨h1, h2⟩
/-- All that has not come up and waits for i, directly or not. -/
def after (md : Region.Mode) (ops : Array Oper) (listed : Array Bool) (i : Nat) : List Nat :=
 (List.range ops.size).foldl (fun V t => if !listed.getD t true && (match ops[t]? with | some o => o.after.any fun e => Region.binds md e && (e.on == i || V.contains e.on) | none => false) then V ++ [t] else V) []
/-- The same; what waits for it is found by itself. -/
theorem wpAnyG_take' {i : Nat} {oi : Oper} {v : Value} {fuel : Nat} {listed : Array Bool} {a : Act} {w : World} (hi : ops[i]? = some oi)
  (hs : Region.noSelect ops = true) (hf : Region.free md ops listed i = true) (hr : (Region.ready md ops listed).contains i = true) (hT : (T.all (after md ops listed i).contains && waits md ops (after md ops listed i) listed i) = true)
  (hQ : ∀ c a w, Q (.panic c) (a.put oi.dst v) w → Q (.panic c) a w) (hy : YieldsIf P ops S oi v a) (hS : S w)
  (h : wpAnyG P md ops Q S T fuel (listed.setIfInBounds i true) (a.put oi.dst v) w) : wpAnyG P md ops Q S T (fuel + 1) listed a w :=
 wpAnyG_take _ hi hs hf hr (Bool.and_eq_true_iff.1 hT).1 (Bool.and_eq_true_iff.1 hT).2 hQ hy hS h
theorem wpAnyG_tk {i : Nat} {oi : Oper} {v : Value} {fuel : Nat} {listed : Array Bool} {a : Act} {w : World} (hi : ops[i]? = some oi) (hy : YieldsIf P ops S oi v a) (hS : S w)
  (h : wpAnyG P md ops Q S T fuel (listed.setIfInBounds i true) (a.put oi.dst v) w) (hs : Region.noSelect ops = true := by kernel_rfl) (hf : Region.free md ops listed i = true := by kernel_rfl) (hr : (Region.ready md ops listed).contains i = true := by kernel_rfl)
  (hT : (T.all (after md ops listed i).contains && waits md ops (after md ops listed i) listed i) = true := by kernel_rfl) (hQ : ∀ c a w, Q (.panic c) (a.put oi.dst v) w → Q (.panic c) a w := by exact fun _ _ _ h => h) : wpAnyG P md ops Q S T (fuel + 1) listed a w :=
 wpAnyG_take' hi hs hf hr hT hQ hy hS h
theorem wpAnyG_done {listed : Array Bool} {a : Act} {w : World} (hr : Region.ready md ops listed = []) (h : Q .normal a w) : ∀ fuel, wpAnyG P md ops Q S T fuel listed a w
 | 0 => ⟨hr, h⟩
 | _ + 1 => ⟨fun _ => h, by rw [hr]; simp⟩
theorem wp_region_G (S : World → Prop) (T : List Nat) {id : Nat} {a : Act} {w : World} (hm : P.follows .mixedOrders = true)
  (hS : S w.drew) (h : S w.drew → wpAnyG P .any ops Q S T ops.size (Array.replicate ops.size false) a w.drew) : (Code.region id ops true).wp P Q a w :=
 wp_region_any hm (wpAny_of_G _ _ _ _ (h hS))
end
end Go.Proofs.YtcnbmeiielkigaaGreatDoor
