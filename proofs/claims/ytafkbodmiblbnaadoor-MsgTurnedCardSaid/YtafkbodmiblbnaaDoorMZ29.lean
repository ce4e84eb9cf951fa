/- Rows of messages; loads and stores of whole structs. -/
import Derived.Deep.MidRow
import Derived.ArgAppend
import Derived.Test.YtafkbodmiblbnaaDoorMPx2
import Derived.Test.YtafkbodmiblbnaaDoorMZ12
namespace Go.Proofs.YtafkbodmiblbnaaDoor
open Go Go.RowKit
set_option linter.unusedVariables false
set_option linter.unusedSimpArgs false
theorem Sep.frozen {w0 w : World} {g : Nat} {xs : Array Value} {t : TypeId} {L : List Thing} (h : Sep w0 (Cl g xs t :: L) w) (o : Nat) : w.frozen? ⟨g, o, none⟩ = false := by
  unfold World.frozen?; rw [h.blk]; simp
theorem wpList_load_run {P : Program} {ops : Array Oper} {rest : List Oper} {o : Oper} {a : Act} {w : World} {Q : Exit → Act → World → Prop} (hg : o.guard = none) (t : TypeId) (x : Operand) (hop : o.op = .load t x) (p v : Value) (hx : a.eval x = p)
    (hr : (Instr.loadAt t p).run P w = .ok v w) (hK : wpList P ops Q rest (a.put o.dst v) w) : wpList P ops Q (o :: rest) a w := by
  refine wpList_plain hg fun K hK' => ?_
  unfold Oper.wp
  simp [execOp, hop, hx, hr, Result.andThen]
  exact hK' _ _ hK
theorem opwp_load_run {P : Program} {o : Oper} {a : Act} {w : World} {K : Act → World → Prop} {Q : Exit → Act → World → Prop} (t : TypeId) (x : Operand) (hop : o.op = .load t x) (p v : Value) (hx : a.eval x = p)
    (hr : (Instr.loadAt t p).run P w = .ok v w) (hK : K (a.put o.dst v) w) : Oper.wp P o a w K Q := by
  unfold Oper.wp
  simp [execOp, hop, hx, hr, Result.andThen]
  exact hK
theorem Sep.loadW {w0 w : World} {b : Nat} {cs : Array Value} {t : TypeId} {L : List Thing} {P : Program} {d : TypeDesc} (h : Sep w0 (Cl b cs t :: L) w) (ty : TypeId) (hu : P.underlying ty = some d) (hd : d.isRow = true) (hi : (P.info? ty).map (·.size) = some cs.size) : (Instr.loadAt ty (.pointer (some ⟨b, 0, none⟩))).run P w = .ok (.agg cs) w := by
  have h1 := run_loadAt_mid (P := P) w b 0 ty cs.toList d (fun j v hj => by rw [Nat.zero_add]; exact h.cell (by simpa using hj)) hu hd (by simpa using hi)
  simpa using h1
theorem Sep.loadMs {w0 w : World} {b : Nat} {m : MsM} {lv cv ev : Value} {L : List Thing} (h : Sep w0 (Cl b (msC m lv cv ev) 39 :: L) w) : (Instr.loadAt 39 (.pointer (some ⟨b, 0, none⟩))).run Tryd.prog w = .ok (.agg (msC m lv cv ev)) w :=
  h.loadW 39 Tryd.underlying39 rfl (by kernel_rfl)
/-- Several cells in a row, written. -/
def writeAt (xs : Array Value) : Nat → List Value → Array Value
  | _, [] => xs
  | o, v :: r => writeAt (xs.setIfInBounds o v) (o + 1) r
theorem writeAt_get : ∀ (vs : List Value) (xs : Array Value) (o j : Nat), (writeAt xs o vs)[j]? = if o ≤ j ∧ j < o + vs.length ∧ j < xs.size then vs[j - o]? else xs[j]?
  | [], xs, o, j => by simp only [writeAt, List.length_nil]; rw [if_neg (by omega)]
  | v :: r, xs, o, j => by
    rw [writeAt, writeAt_get r, Array.size_setIfInBounds, Array.getElem?_setIfInBounds, List.length_cons]
    by_cases h1 : o = j
    · subst h1
      rw [if_neg (by omega), if_pos rfl]
      by_cases h2 : o < xs.size
      · rw [if_pos h2, if_pos ⟨Nat.le_refl _, by omega, h2⟩]; simp
      · rw [if_neg h2, if_neg (by omega), Array.getElem?_eq_none (by omega)]
    · rw [if_neg h1]
      by_cases h3 : o + 1 ≤ j ∧ j < o + 1 + r.length ∧ j < xs.size
      · rw [if_pos h3, if_pos (by omega), show j - o = (j - (o + 1)) + 1 by omega, List.getElem?_cons_succ]
      · rw [if_neg h3, if_neg (by omega)]
theorem Sep.setCells {w0 : World} {g : Nat} {t : TypeId} {L : List Thing} : ∀ (vs : List Value) (xs : Array Value) (o : Nat) (w : World), Sep w0 (Cl g xs t :: L) w → Sep w0 (Cl g (writeAt xs o vs) t :: L) (w.setCells g o vs)
  | [], _, _, _, h => h
  | v :: r, xs, o, w, h => Sep.setCells r _ (o + 1) _ (h.setCell o v)
theorem writeAt_all (Z cs : Array Value) (h : Z.size = cs.size) : writeAt Z 0 cs.toList = cs := by
  apply Array.ext_getElem?
  intro j
  rw [writeAt_get, Array.length_toList, h]
  by_cases hj : j < cs.size
  · rw [if_pos ⟨Nat.zero_le _, by omega, hj⟩, Nat.sub_zero, Array.getElem?_toList]
  · rw [if_neg (by omega), Array.getElem?_eq_none (by omega), Array.getElem?_eq_none (by omega)]
theorem Sep.storeW {w0 w : World} {b : Nat} {Z : Array Value} {t : TypeId} {L : List Thing} (h : Sep w0 (Cl b Z t :: L) w) (cs : Array Value) (hZ : Z.size = cs.size) : Sep w0 (Cl b cs t :: L) (w.setCells b 0 cs.toList) := by
  have h1 := Sep.setCells cs.toList Z 0 _ h
  rw [writeAt_all Z cs hZ] at h1
  exact h1
theorem Sep.thereW {w0 w : World} {b : Nat} {Z : Array Value} {t : TypeId} {L : List Thing} (h : Sep w0 (Cl b Z t :: L) w) (n : Nat) (hZ : Z.size = n) : w.there b 0 n := fun j hj => by
  refine ⟨?_, h.frozen _⟩
  rw [h.cell (o := 0 + j) (Array.getElem?_eq_getElem (by omega))]
  rfl
theorem results_cell {P : Program} {fn : Func} {t : Tmp} {ty : TypeId} (h : fn.results = #[.cell t ty]) {tmps : Array Value} {w : World} {ad : Addr} {v : Value} (ht : tmps.getD t undef = .pointer (some ad)) (hl : (loadVar ty ad).run P w = .ok v w) : (results fn tmps).run P w = .ok v w := by
  rw [Array.getD_eq_getD_getElem?] at ht
  simp [results, h, ht, asAddr, hl]
theorem Sep.loadV {w0 w : World} {b : Nat} {cs : Array Value} {t : TypeId} {L : List Thing} {P : Program} {d : TypeDesc} (h : Sep w0 (Cl b cs t :: L) w) (ty : TypeId) (hu : P.underlying ty = some d) (hd : d.isRow = true) (hi : (P.info? ty).map (·.size) = some cs.size) : (loadVar ty ⟨b, 0, none⟩).run P w = .ok (.agg cs) w := by
  have h1 := run_loadVar_mid (P := P) w b 0 ty cs.toList d (fun j v hj => by rw [Nat.zero_add]; exact h.cell (by simpa using hj)) hu hd (by simpa using hi)
  simpa using h1
/-- Messages' cells, one behind the other. -/
def msCs (rows : List (Array Value)) : List Value := rows.flatMap Array.toList
def Rows22 (rows : List (Array Value)) : Prop := ∀ c ∈ rows, c.size = 22
theorem msCs_len : ∀ {rows : List (Array Value)}, Rows22 rows → (msCs rows).length = rows.length * 22
  | [], _ => rfl
  | c :: rows, h => by
    have h1 := msCs_len (rows := rows) fun x hx => h x (List.mem_cons_of_mem _ hx)
    have h2 := h c (List.mem_cons_self ..)
    unfold msCs at *
    rw [List.flatMap_cons, List.length_append, h1, List.length_cons, Array.length_toList, h2]
    omega
theorem msCs_at : ∀ {rows : List (Array Value)}, Rows22 rows → ∀ (i : Nat) (hi : i < rows.length) (j : Nat), j < 22 → (msCs rows)[i * 22 + j]? = (rows[i])[j]?
  | c :: rows, h, 0, _, j, hj => by
    have h2 := h c (List.mem_cons_self ..)
    unfold msCs
    rw [List.flatMap_cons, Nat.zero_mul, Nat.zero_add, List.getElem?_append_left (by rw [Array.length_toList, h2]; exact hj)]
    simp
  | c :: rows, h, i + 1, hi, j, hj => by
    have h2 := h c (List.mem_cons_self ..)
    have h1 := msCs_at (rows := rows) (fun x hx => h x (List.mem_cons_of_mem _ hx)) i (by simpa using hi) j hj
    unfold msCs at *
    rw [List.flatMap_cons, List.getElem?_append_right (by rw [Array.length_toList, h2]; omega), Array.length_toList, h2, show (i + 1) * 22 + j - 22 = i * 22 + j by omega, h1]
    rfl
theorem msCs_app (a b : List (Array Value)) : msCs (a ++ b) = msCs a ++ msCs b := by simp [msCs]
/-- A slice of messages of one's own. -/
abbrev MsR (v : Value) (rows : List (Array Value)) : Thing := Rn 22 39 v rows.length (msCs rows)
theorem infoMs : (Tryd.prog.info? 39).map (fun i => (i.size, decide (i.bytes ≤ 256), i.zero.map (fun z => z.cells.size))) = some (22, true, some 22) := by kernel_rfl
theorem wpList_append_r {P : Program} {w : World} {ops : Array Oper} {rest : List Oper} {o : Oper} {a : Act} {Q : Exit → Act → World → Prop} (hgd : o.guard = none) (s x : Operand) (t u : TypeId)
    (ho : o.op = .call { callee := .builtin .append, args := #[s, x], argTypes := #[t, u] }) {v y v' : Value} {w' : World} (hs : a.eval s = v) (hx : a.eval x = y)
    (hr : (Builtin.append_ #[t, u] o.type #[v, y]).run P w = .ok v' w') (h : wpList P ops Q rest (a.put o.dst v') w') : wpList P ops Q (o :: rest) a w := by
  refine wpList_plain hgd fun K hK => ?_
  unfold Oper.wp
  simp [execOp, ho, resolve, invoke, builtin, hs, hx, hr, Result.andThen]
  exact hK _ _ h
def StopP (p : Prop) : Prop := p
theorem stopP {p : Prop} (h : StopP p) : p := h
theorem NilL.one {v : Value} (h : NilL v) : v.oneCell' = true := by obtain ⟨a, c, rfl, -⟩ := h; rfl
theorem Sep.asRn {w0 w : World} {g : Nat} {xs : Array Value} {e : TypeId} {L : List Thing} (h : Sep w0 (Cl g xs e :: L) w) (n sz : Nat) (hn : xs.size = n * sz) (hl : n ≤ maxLen) : Sep w0 (Rn sz e (.slice (some ⟨g, 0, none⟩) n n) n xs.toList :: L) w := by
  refine h.imp (loc_rn _ _ _ _ _) fun F hF => ⟨⟨0, ?_, .inr ⟨g, n, xs, rfl, Nat.zero_le _, hF.1, Nat.le_refl _, hl, by omega, ?_⟩⟩, fun k => ⟨fun hk => by rw [(hF.2 k).1 hk]; rfl, fun hk => (hF.2 k).2 (by simpa [Value.ownBlock] using hk.symm)⟩⟩
  · simp [hn]
  · apply List.take_of_length_le; simp [hn]
end Go.Proofs.YtafkbodmiblbnaaDoor
/- Slices of one's own whose elements take several cells, and which may begin anywhere in their block (what 'l = l[1:]' leaves). -/
namespace Go.Proofs.YtafkbodmiblbnaaDoor
open Go Go.RowKit
set_option linter.unusedVariables false
set_option linter.unusedSimpArgs false
/-- n elements of sz cells each, from some cell of a block on; or nothing, without room. -/
def Ro (sz : Nat) (e : TypeId) (v : Value) (n : Nat) (xs : List Value) : Thing := fun w F => xs.length = n * sz ∧
  ((∃ a, v = .slice a 0 0 ∧ n = 0) ∨
    ∃ g off c cur, v = .slice (some ⟨g, off, none⟩) n c ∧ n ≤ c ∧ 0 < c ∧ c ≤ maxLen ∧ w.heap[g]? = some (.cells cur e (0, 0)) ∧ off + c * sz ≤ cur.size ∧ (∀ j, j < n * sz → cur[off + j]? = xs[j]?) ∧ ∀ k, F k ↔ k = g)
theorem loc_ro (sz : Nat) (e : TypeId) (v : Value) (n : Nat) (xs : List Value) : Loc (Ro sz e v n xs) := by
  rintro w w' F ⟨h1, h2⟩ hs hk
  refine ⟨h1, ?_⟩
  rcases h2 with h2 | ⟨g, off, c, cur, hv, a1, a2, a3, a4, a5, a6, a7⟩
  · exact .inl h2
  · exact .inr ⟨g, off, c, cur, hv, a1, a2, a3, by rw [hk g ((a7 g).2 rfl)]; exact a4, a5, a6, a7⟩
theorem ro_of_rn {sz n : Nat} {e : TypeId} {v : Value} {xs : List Value} {w : World} {F : Nat → Prop} (h : Rn sz e v n xs w F) : Ro sz e v n xs w F := by
  obtain ⟨⟨base, h1, h2⟩, h3⟩ := h
  refine ⟨h1, ?_⟩
  rcases h2 with ⟨rfl, rfl⟩ | ⟨g, c, cur, rfl, hb, a1, a2, a3, a4, a5⟩
  · exact .inl ⟨none, rfl, rfl⟩
  · have hF : ∀ k, F k ↔ k = g := fun k => (h3 k).trans ⟨fun h => by simpa [Value.ownBlock] using h.symm, fun h => by simp [Value.ownBlock, h]⟩
    by_cases h0 : 0 < c
    · refine .inr ⟨g, 0, c, cur, rfl, a2, h0, a3, a1, by omega, fun j hj => ?_, hF⟩
      rw [Nat.zero_add]
      have h5 : (cur.toList.take (n * sz))[j]? = xs[j]? := by rw [a5]
      rw [List.getElem?_take, if_pos hj] at h5
      simpa using h5
    · exact .inl ⟨some ⟨g, 0, none⟩, by rw [show n = 0 by omega, show c = 0 by omega], by omega⟩
theorem Sep.roOf {w0 w : World} {sz n : Nat} {e : TypeId} {v : Value} {xs : List Value} {L : List Thing} (h : Sep w0 (Rn sz e v n xs :: L) w) : Sep w0 (Ro sz e v n xs :: L) w := h.imp (loc_ro _ _ _ _ _) fun F hF => ro_of_rn hF
theorem Sep.roLen {w0 w : World} {sz n : Nat} {e : TypeId} {v : Value} {xs : List Value} {L : List Thing} (h : Sep w0 (Ro sz e v n xs :: L) w) : xs.length = n * sz := by obtain ⟨F, hF, _⟩ := h.head; exact hF.1
/-- What it is: nothing without room, or a part of a block. -/
theorem Sep.roOpen {w0 w : World} {sz n : Nat} {e : TypeId} {v : Value} {xs : List Value} {L : List Thing} (h : Sep w0 (Ro sz e v n xs :: L) w) :
    (∃ a, v = .slice a 0 0 ∧ n = 0 ∧ xs = []) ∨ ∃ g off c cur, v = .slice (some ⟨g, off, none⟩) n c ∧ n ≤ c ∧ 0 < c ∧ c ≤ maxLen ∧ off + c * sz ≤ cur.size ∧ (∀ j, j < n * sz → cur[off + j]? = xs[j]?) ∧ Sep w0 (Cl g cur e :: L) w := by
  obtain ⟨F, hF, -⟩ := h.head
  rcases hF.2 with ⟨a, hv, hn⟩ | ⟨g, off, c, cur, hv, a1, a2, a3, a4, a5, a6, a7⟩
  · exact .inl ⟨a, hv, hn, List.eq_nil_of_length_eq_zero (by rw [hF.1, hn, Nat.zero_mul])⟩
  · refine .inr ⟨g, off, c, cur, hv, a1, a2, a3, a5, a6, ?_⟩
    refine h.imp (loc_blk _ _) fun F' hF' => ?_
    rcases hF'.2 with ⟨a, hv', hn⟩ | ⟨g', off', c', cur', hv', b1, b2, b3, b4, b5, b6, b7⟩
    · rw [hv] at hv'; cases hv'; omega
    · rw [hv] at hv'
      simp only [Value.slice.injEq, Option.some.injEq, Addr.mk.injEq] at hv'
      obtain ⟨⟨rfl, rfl, -⟩, -, rfl⟩ := hv'
      rw [a4] at b4
      cases b4
      exact ⟨a4, b7⟩
theorem Sep.roClose {w0 w : World} {sz n g off c : Nat} {e : TypeId} {cur : Array Value} {xs : List Value} {L : List Thing} (h : Sep w0 (Cl g cur e :: L) w) (hl : xs.length = n * sz) (h1 : n ≤ c) (h2 : 0 < c) (h3 : c ≤ maxLen) (h4 : off + c * sz ≤ cur.size) (h5 : ∀ j, j < n * sz → cur[off + j]? = xs[j]?) :
    Sep w0 (Ro sz e (.slice (some ⟨g, off, none⟩) n c) n xs :: L) w := h.imp (loc_ro _ _ _ _ _) fun F hF => ⟨hl, .inr ⟨g, off, c, cur, rfl, h1, h2, h3, hF.1, h4, h5, hF.2⟩⟩
theorem Sep.roNone {w0 w : World} {sz : Nat} {e : TypeId} {a : Option Addr} {A : Thing} {L : List Thing} (h : Sep w0 (A :: L) w) : Sep w0 (Ro sz e (.slice a 0 0) 0 [] :: L) w := h.imp (loc_ro _ _ _ _ _) fun F hF => ⟨by simp, .inl ⟨a, rfl, rfl⟩⟩
theorem Sep.roForm {w0 w : World} {sz n : Nat} {e : TypeId} {v : Value} {xs : List Value} {L : List Thing} (h : Sep w0 (Ro sz e v n xs :: L) w) : ∃ a c, v = .slice a n c ∧ n ≤ c ∧ c ≤ maxLen ∧ xs.length = n * sz ∧
    (0 < n → ∃ b off, a = some ⟨b, off, none⟩ ∧ b < w.heap.size ∧ ∀ j (hj : j < xs.length), w.cell? ⟨b, off + j, none⟩ = some xs[j]) := by
  have hl := h.roLen
  rcases h.roOpen with ⟨a, rfl, rfl, rfl⟩ | ⟨g, off, c, cur, rfl, h1, h2, h3, h4, h5, h6⟩
  · exact ⟨a, 0, rfl, Nat.le_refl _, Nat.zero_le _, by simp, fun h => by omega⟩
  · exact ⟨_, _, rfl, h1, h3, hl, fun _ => ⟨g, off, rfl, h6.blk_lt.2, fun j hj => h6.cell (by rw [h5 j (by omega), List.getElem?_eq_getElem hj])⟩⟩
/-- Cells of it are written, one behind the other. -/
theorem writeAt_size : ∀ (vs : List Value) (xs : Array Value) (o : Nat), (writeAt xs o vs).size = xs.size
  | [], _, _ => rfl
  | v :: vs, xs, o => by unfold writeAt; rw [writeAt_size vs]; simp
/-- 'append' of m elements that stand in a row of cells, onto it. -/
theorem append_ro {P : Program} {w0 w : World} {t ty e : TypeId} {i : TypeInfo} {z : Value} {sz : Nat} (ht : P.underlying t = some (.slice e)) (hi : P.info? e = some i) (hz : i.zero = some z)
    (hsize : i.size = sz) (hby : i.bytes ≤ 256) (hzs : z.cells.size = sz) (hpos : 0 < sz) {v : Value} {n m c b off : Nat} {xs news : List Value} {L : List Thing} (h : Sep w0 (Ro sz e v n xs :: L) w)
    (hl : news.length = m * sz) (hm0 : 0 < m) (hnews : ∀ j u, news[j]? = some u → w.cell? ⟨b, off + j, none⟩ = some u) (h1 : ∀ u ∈ news, u.oneCell' = true) (hlen : n + m ≤ 549755813888) :
    ∃ v' w', (Builtin.append_ #[t, t] ty #[v, .slice (some ⟨b, off, none⟩) m c]).run P w = .ok v' w' ∧ Sep w0 (Ro sz e v' (n + m) (xs ++ news) :: L) w' := by
  have hxl := h.roLen
  have hm : n + m ≤ maxLen := by unfold maxLen; omega
  have hbb : (n + m) * i.bytes ≤ 140737488355328 := by
    calc (n + m) * i.bytes ≤ 549755813888 * 256 := Nat.mul_le_mul hlen hby
      _ = 140737488355328 := by omega
  have hadd : ∀ b off j, (⟨b, off, none⟩ : Addr).add j = ⟨b, off + j, none⟩ := fun b off j => by unfold Addr.add; split <;> simp_all
  have hnews' : ∀ j u, news[j]? = some u → w.cell? ((⟨b, off, none⟩ : Addr).add j) = some u := fun j u hj => by rw [hadd]; exact hnews j u hj
  have grown : ∀ v' w', w'.ownsRow w.heap.size e sz v' (n + m) (xs ++ news) → w.grownBy w' none → Sep w0 (Ro sz e v' (n + m) (xs ++ news) :: L) w' := fun v' w' ho hg =>
    Sep.roOf (h.drop.new (A := Rn sz e v' (n + m) (xs ++ news)) (loc_rn _ _ _ _ _) (below_grown hg (Nat.le_refl _) (by intro k hk; cases hk)) (F := fun k => v'.ownBlock = some k) ⟨⟨_, ho⟩, fun _ => Iff.rfl⟩ fun k hk => ownsRow_lt ho k hk)
  rcases h.roOpen with ⟨a, rfl, rfl, rfl⟩ | ⟨g, o, cc, cur, rfl, a1, a2, a3, a4, a5, h6⟩
  · cases a with
    | none =>
      obtain ⟨v', w', hr, ho, hg, hn, hat⟩ := run_append_own_at (P := P) w w.heap.size t ty e i z sz i.bytes ht hi hz hsize rfl hzs hpos (.slice none 0 0) 0 [] (World.ownsRow_nil w _ e sz) ⟨b, off, none⟩ m c news hl hnews' h1 hm hbb (Nat.le_refl _)
      exact ⟨v', w', hr, grown v' w' ho hg⟩
    | some a =>
      obtain ⟨v', w', hr, ho, hg⟩ := run_append_arg_grows (P := P) w t ty e i z sz i.bytes ht hi hz hsize rfl hzs hpos a 0 0 [] (by simp) (fun j u hj => by simp at hj) ⟨b, off, none⟩ m c news hl hnews' (by omega) hm hbb
      exact ⟨v', w', hr, grown v' w' ho hg⟩
  · by_cases hroom : n + m ≤ cc
    · have hnm : (n + m) * sz ≤ cc * sz := Nat.mul_le_mul_right _ hroom
      rw [Nat.add_mul] at hnm
      subst hsize
      have hr := run_append_room_cells (P := P) w t ty e i ht hi g o n cc ⟨b, off, none⟩ m c news hl hnews' h1 hroom (fun j hj => by
        rw [h6.cell (x := cur[o + n * i.size + j]'(by omega)) (Array.getElem?_eq_getElem (by omega))]; rfl) (fun j hj => h6.frozen _)
      refine ⟨_, _, hr, ?_⟩
      have h7 := Sep.setCells news cur (o + n * i.size) w h6
      refine h7.roClose (by rw [List.length_append, hxl, hl, Nat.add_mul]) hroom a2 a3 (by rw [writeAt_size]; exact a4) fun j hj => ?_
      rw [Nat.add_mul] at hj
      rw [writeAt_get]
      by_cases hjn : j < n * i.size
      · rw [if_neg (by omega), a5 j hjn, List.getElem?_append_left (by omega)]
      · rw [if_pos (by omega), List.getElem?_append_right (by omega), hxl]
        congr 1; omega
    · obtain ⟨v', w', hr, ho, hg⟩ := run_append_arg_grows (P := P) w t ty e i z sz i.bytes ht hi hz hsize rfl hzs hpos ⟨g, o, none⟩ n cc xs hxl (fun j u hj => by
        rw [hadd]
        obtain ⟨hj1, hj2⟩ := List.getElem?_eq_some_iff.1 hj
        exact h6.cell (by rw [a5 j (by omega), hj])) ⟨b, off, none⟩ m c news hl hnews' (by omega) hm hbb
      exact ⟨v', w', hr, grown v' w' ho hg⟩
end Go.Proofs.YtafkbodmiblbnaaDoor
