/- Rows of messages; a proxy: Tick. -/
import Derived.Test.YtdemconpdjgimaaDoorPx7
import Derived.Test.YtdemconpdjgimaaDoorRowsN
namespace Go.Proofs.YtdemconpdjgimaaDoor
open Go.RowKit
set_option linter.unusedVariables false
set_option linter.unusedSimpArgs false
/-- Messages' cells, one behind the other. -/
def msCs (rows : List (Array Value)) : List Value := rows.flatMap Array.toList
def Rows22 (rows : List (Array Value)) : Prop := ∀ c ∈ rows, c.size = 22
theorem msCs_len : ∀ {rows : List (Array Value)}, Rows22 rows → (msCs rows).length = rows.length * 22
  | [], _ => rfl
  | c :: rows, h => by
    have h1 := msCs_len (rows := rows) fun x hx => h x (List.mem_cons_of_mem _ hx)
    have h2 := h c (List.mem_cons_self ..)
    unfold msCs at *
    rw [List.flatMap_cons, List.length_append, h1, List.length_cons, Array.length_toList, h2]
    omega
theorem msCs_at : ∀ {rows : List (Array Value)}, Rows22 rows → ∀ (i : Nat) (hi : i < rows.length) (j : Nat), j < 22 → (msCs rows)[i * 22 + j]? = (rows[i])[j]?
  | c :: rows, h, 0, _, j, hj => by
    have h2 := h c (List.mem_cons_self ..)
    unfold msCs
    rw [List.flatMap_cons, Nat.zero_mul, Nat.zero_add, List.getElem?_append_left (by rw [Array.length_toList, h2]; exact hj)]
    simp
  | c :: rows, h, i + 1, hi, j, hj => by
    have h2 := h c (List.mem_cons_self ..)
    have h1 := msCs_at (rows := rows) (fun x hx => h x (List.mem_cons_of_mem _ hx)) i (by simpa using hi) j hj
    unfold msCs at *
    rw [List.flatMap_cons, List.getElem?_append_right (by rw [Array.length_toList, h2]; omega), Array.length_toList, h2, show (i + 1) * 22 + j - 22 = i * 22 + j by omega, h1]
    rfl
theorem msCs_app (a b : List (Array Value)) : msCs (a ++ b) = msCs a ++ msCs b := by simp [msCs]
/-- A slice of messages of one's own. -/
abbrev MsR (v : Value) (rows : List (Array Value)) : Thing := Rn 22 44 v rows.length (msCs rows)
theorem infoMs : (Tryd.prog.info? 44).map (fun i => (i.size, decide (i.bytes ≤ 256), i.zero.map (fun z => z.cells.size))) = some (22, true, some 22) := by kernel_rfl
theorem append_ms {w0 w : World} {v : Value} {rows : List (Array Value)} {c : Array Value} {b : Nat} {L : List Thing} (ty : TypeId) (h : Sep w0 (Cl b c 44 :: MsR v rows :: L) w) (hc : c.size = 22) (h1 : ∀ u ∈ c.toList, u.oneCell' = true) (hl : rows.length ≤ 10000000) :
    ∃ a k w', (Builtin.append_ #[54, 54] ty #[v, .slice (some ⟨b, 0, none⟩) 1 1]).run Tryd.prog w = .ok (.slice a (rows.length + 1) k) w' ∧ Sep w0 (MsR (.slice a (rows.length + 1) k) (rows ++ [c]) :: L) w' := by
  obtain ⟨i, hi, he⟩ := Option.map_eq_some_iff.1 infoMs
  simp only [Prod.mk.injEq, decide_eq_true_eq] at he
  obtain ⟨z, hz, hz2⟩ := Option.map_eq_some_iff.1 he.2.2
  have hcs : ∀ j u', c.toList[j]? = some u' → w.cell? ⟨b, 0 + j, none⟩ = some u' := fun j u' hj => by
    rw [Nat.zero_add]
    exact h.cell (by simpa using hj)
  obtain ⟨v', w', hr, h2⟩ := append_rn (P := Tryd.prog) (ty := ty) (m := 1) (c := 1) Tryd.underlying54 hi hz he.1 he.2.1 hz2 (by decide) h.sw2 (news := c.toList) (by rw [Array.length_toList, hc]) hcs h1 (by omega)
  obtain ⟨a, k, rfl, -⟩ := h2.rnForm
  refine ⟨a, k, w', hr, ?_⟩
  have h3 := h2.sw2.drop
  have e : msCs rows ++ c.toList = msCs (rows ++ [c]) := by rw [msCs_app]; simp [msCs]
  rw [e] at h3
  show Sep w0 (Rn 22 44 (.slice a (rows.length + 1) k) (rows ++ [c]).length (msCs (rows ++ [c])) :: _) w'
  rw [List.length_append, List.length_singleton]
  exact h3
theorem buildM (w : World) (v0 v1 v2 v3 v4 v5 v6 v7 v8 v9 v10 v11 v12 v13 v14 v15 v16 v17 v18 v19 v20 v21 : Value) :
    (Instr.buildSlice 54 1 #[(0, .agg #[v0, v1, v2, v3, v4, v5, v6, v7, v8, v9, v10, v11, v12, v13, v14, v15, v16, v17, v18, v19, v20, v21])]).run Tryd.prog w = .ok (.slice (some ⟨w.heap.size, 0, none⟩) 1 1) (w.alloc (.cells #[v0, v1, v2, v3, v4, v5, v6, v7, v8, v9, v10, v11, v12, v13, v14, v15, v16, v17, v18, v19, v20, v21] 44)) := by
  simp [go_sem]
theorem buildMs (w : World) (c : Array Value) (hc : c.size = 22) : (Instr.buildSlice 54 1 #[(0, .agg c)]).run Tryd.prog w = .ok (.slice (some ⟨w.heap.size, 0, none⟩) 1 1) (w.alloc (.cells c 44)) := by
  obtain ⟨l⟩ := c
  match l, hc with
  | [v0, v1, v2, v3, v4, v5, v6, v7, v8, v9, v10, v11, v12, v13, v14, v15, v16, v17, v18, v19, v20, v21], _ => exact buildM w v0 v1 v2 v3 v4 v5 v6 v7 v8 v9 v10 v11 v12 v13 v14 v15 v16 v17 v18 v19 v20 v21
theorem wpList_buildM {w : World} {ops : Array Oper} {rest : List Oper} {o : Oper} {a : Act} {Q : Exit → Act → World → Prop} (hgd : o.guard = none) (x : Operand)
    (ho : o.op = .buildSlice 54 1 #[(0, x)]) {c : Array Value} (hc : c.size = 22) (hx : a.eval x = .agg c)
    (h : wpList Tryd.prog ops Q rest (a.put o.dst (.slice (some ⟨w.heap.size, 0, none⟩) 1 1)) (w.alloc (.cells c 44))) : wpList Tryd.prog ops Q (o :: rest) a w := by
  refine wpList_plain hgd fun K hK => ?_
  unfold Oper.wp
  simp [execOp, ho, hx, buildMs w c hc, Result.andThen]
  exact hK _ _ h
theorem step_buildM {ops : Array Oper} {o : Oper} {a : Act} {w : World} {K : Act → World → Prop} {Q : Exit → Act → World → Prop} {E : Prop}
    (hg : o.guard = none) (x : Operand) (ho : o.op = .buildSlice 54 1 #[(0, x)]) {c : Array Value} (hc : c.size = 22) (hx : a.eval x = .agg c) (hK : K (a.put o.dst (.slice (some ⟨w.heap.size, 0, none⟩) 1 1)) (w.alloc (.cells c 44))) :
    if Region.wanted o (yielded ops a.tmps) = true then Oper.wp Tryd.prog o a w K Q else E := by
  have hw : Region.wanted o (yielded ops a.tmps) = true := by simp [Region.wanted, hg]
  rw [if_pos hw]
  unfold Oper.wp
  simp [execOp, ho, hx, buildMs w c hc, Result.andThen]
  exact hK
theorem wpList_append_r {P : Program} {w : World} {ops : Array Oper} {rest : List Oper} {o : Oper} {a : Act} {Q : Exit → Act → World → Prop} (hgd : o.guard = none) (s x : Operand) (t u : TypeId)
    (ho : o.op = .call { callee := .builtin .append, args := #[s, x], argTypes := #[t, u] }) {v y v' : Value} {w' : World} (hs : a.eval s = v) (hx : a.eval x = y)
    (hr : (Builtin.append_ #[t, u] o.type #[v, y]).run P w = .ok v' w') (h : wpList P ops Q rest (a.put o.dst v') w') : wpList P ops Q (o :: rest) a w := by
  refine wpList_plain hgd fun K hK => ?_
  unfold Oper.wp
  simp [execOp, ho, resolve, invoke, builtin, hs, hx, hr, Result.andThen]
  exact hK _ _ h
def StopP (p : Prop) : Prop := p
theorem stopP {p : Prop} (h : StopP p) : p := h
theorem rqC_one (cl num k o : Int) (p : Int × Value) (hp : p.2.oneCell' = true) : ∀ u ∈ (rqC cl num k o p).toList, u.oneCell' = true := by
  intro u hu
  simp only [rqC, List.mem_cons, List.not_mem_nil, or_false] at hu
  rcases hu with rfl | rfl | rfl | rfl | rfl | rfl | rfl | rfl | rfl | rfl | rfl | rfl | rfl | rfl | rfl | rfl | rfl | rfl | rfl | rfl | rfl | rfl <;> first | rfl | exact hp
theorem NilL.one {v : Value} (h : NilL v) : v.oneCell' = true := by obtain ⟨a, c, rfl, -⟩ := h; rfl
/-- Requests to those. -/
def RqRows (cl num k o : Int) (ts : List Int) (rows : List (Array Value)) : Prop := ∃ vs : List Value, vs.length = ts.length ∧ (∀ v ∈ vs, NilL v) ∧ rows = (ts.zip vs).map (rqC cl num k o)
variable {w0 w : World} {g gc : Nat} {cl num view l p : Int} {k o : Int} {tp : Value} {L : List Thing} {ua : Option Addr} {uc : Nat}
theorem Sep.asRn {w0 w : World} {g : Nat} {xs : Array Value} {e : TypeId} {L : List Thing} (h : Sep w0 (Cl g xs e :: L) w) (n sz : Nat) (hn : xs.size = n * sz) (hl : n ≤ maxLen) : Sep w0 (Rn sz e (.slice (some ⟨g, 0, none⟩) n n) n xs.toList :: L) w := by
  refine h.imp (loc_rn _ _ _ _ _) fun F hF => ⟨⟨0, ?_, .inr ⟨g, n, xs, rfl, Nat.zero_le _, hF.1, Nat.le_refl _, hl, by omega, ?_⟩⟩, fun k => ⟨fun hk => by rw [(hF.2 k).1 hk]; rfl, fun hk => (hF.2 k).2 (by simpa [Value.ownBlock] using hk.symm)⟩⟩
  · simp [hn]
  · apply List.take_of_length_le; simp [hn]
set_option maxRecDepth 100000 in
theorem pxtick_idle {n : Int} {st : Bool} {lv : Value} (h : Sep w0 (PrxC g gc cl n num view false st k o lv tp :: L) w) : Calls Tryd.prog 16 #[.pointer (some ⟨g, 0, none⟩)] w fun e w' => e = .returned (.slice none 0 0) ∧ w = w' := by
  have HN := Lib.hid (pxnone_any h)
  have c5 := h.cell (o := 5) rfl
  clear h
  go_enter Tryd.func16, Tryd.ntmps16
  (try dsimp only); repeat' (first | go_values | go_skip | go_guarded | go_step | go_upon | go_back)
  refine HN.out.mono ?_
  rintro r0 w1 ⟨rfl, rfl⟩
  (try dsimp only); repeat' (first | go_values | go_skip | go_guarded | go_step | go_upon | go_back)
  go_ret
  exact ⟨rfl, rfl⟩
set_option maxRecDepth 100000 in
set_option maxHeartbeats 16000000 in
theorem pxtick_first {n : Nat} (h : Sep w0 (PrxC g gc cl n num view true false k o (.slice ua 0 uc) tp :: L) w) (hc0 : 0 ≤ cl) (hc8 : cl < 8) (hu : ua = none → uc = 0) (hv : 0 ≤ view) (hn : 1 ≤ n) (hn2 : n ≤ 15) : Calls Tryd.prog 16 #[.pointer (some ⟨g, 0, none⟩)] w fun e w' => ∃ v rows, e = .returned v ∧ rows.length = 1 ∧ RqRows cl num k o [view % n] rows ∧ Sep w0 (MsR v rows :: PrxC g gc cl n num view true true k o (.slice ua 0 uc) tp :: L) w' := by
  have HN := Lib.hid (pxnone_any h)
  have c5 := h.cell (o := 5) rfl
  have c6 := h.cell (o := 6) rfl
  have f6 := h.frozen 6
  have h1 : Sep w0 (PrxC g gc cl n num view true true k o (.slice ua 0 uc) tp :: L) (w.setCell ⟨g, 6, none⟩ (.bool true)) := h.setCell 6 (.bool true)
  obtain ⟨w1, hw1⟩ : ∃ z, z = w.setCell ⟨g, 6, none⟩ (.bool true) := ⟨_, rfl⟩
  rw [← hw1] at h1
  have d2 := h1.cell (o := 2) rfl
  have d4 := h1.cell (o := 4) rfl
  have n0 : (n : Int) ≠ 0 := by omega
  have nz : ((n : Int) == 0) = false := beq_eq_false_iff_ne.2 n0
  have ht : view.tmod (n : Int) = view % n := Int.tmod_eq_emod_of_nonneg hv
  have n1 : ¬ (n : Int) = -1 := by omega
  have nN : ¬ n = 0 := by omega
  have HR := Lib.hid (pxreq_any (view % n) h1.drew hc0 hc8 hu)
  clear h h1 hc0 hc8 hu hv hn hn2
  go_enter Tryd.func16, Tryd.ntmps16
  (try dsimp only); repeat' (first | go_values | go_skip | go_guarded | go_step | go_upon | go_back)
  refine HN.out.mono ?_
  rintro r0 w2 ⟨rfl, rfl⟩
  clear HN
  (try dsimp only); repeat' (first | go_values | go_skip | go_guarded | go_step | go_upon | go_back)
  rw [← hw1]
  clear hw1
  refine wp_region_G (fun w' => w'.cell? ⟨g, 2, none⟩ = some (.int .i64 (n : Int)) ∧ w'.cell? ⟨g, 4, none⟩ = some (.int .i64 view)) [12] (by kernel_rfl) ⟨d2, d4⟩ (fun hS => ?_)
  try dsimp only at hS
  refine wpAnyG_take' (i := 0) (v := ?v0_1tf) rfl (by kernel_rfl) (by kernel_rfl) (by kernel_rfl) (by kernel_rfl) (fun _ _ _ h => h) (Or.inl ⟨by rfl, ?hy0_1tf⟩) hS ?rest0_1tf
  case hy0_1tf => intro w hSw; (try dsimp only at hSw); go_simp; (try with_reducible rfl)
  case rest0_1tf =>
  try simp only [List.getElem_toArray, List.getElem_cons_succ, List.getElem_cons_zero, Act.put, List.setIfInBounds_toArray, List.set_cons_zero, List.set_cons_succ]
  refine wpAnyG_take' (i := 1) (v := ?v1_2tf) rfl (by kernel_rfl) (by kernel_rfl) (by kernel_rfl) (by kernel_rfl) (fun _ _ _ h => h) (Or.inl ⟨by rfl, ?hy1_2tf⟩) hS ?rest1_2tf
  case hy1_2tf => intro w hSw; (try dsimp only at hSw); go_simp; (try with_reducible rfl)
  case rest1_2tf =>
  try simp only [List.getElem_toArray, List.getElem_cons_succ, List.getElem_cons_zero, Act.put, List.setIfInBounds_toArray, List.set_cons_zero, List.set_cons_succ]
  refine wpAnyG_take' (i := 2) (v := ?v2_3tf) rfl (by kernel_rfl) (by kernel_rfl) (by kernel_rfl) (by kernel_rfl) (fun _ _ _ h => h) (Or.inl ⟨by rfl, ?hy2_3tf⟩) hS ?rest2_3tf
  case hy2_3tf => intro w hSw; (try dsimp only at hSw); go_simp; (try with_reducible rfl)
  case rest2_3tf =>
  try simp only [List.getElem_toArray, List.getElem_cons_succ, List.getElem_cons_zero, Act.put, List.setIfInBounds_toArray, List.set_cons_zero, List.set_cons_succ]
  refine wpAnyG_take' (i := 3) (v := ?v3_4tf) rfl (by kernel_rfl) (by kernel_rfl) (by kernel_rfl) (by kernel_rfl) (fun _ _ _ h => h) (Or.inl ⟨by rfl, ?hy3_4tf⟩) hS ?rest3_4tf
  case hy3_4tf => intro w hSw; (try dsimp only at hSw); go_simp; (try with_reducible rfl)
  case rest3_4tf =>
  try simp only [List.getElem_toArray, List.getElem_cons_succ, List.getElem_cons_zero, Act.put, List.setIfInBounds_toArray, List.set_cons_zero, List.set_cons_succ]
  refine wpAnyG_take' (i := 4) (v := ?v4_5tf) rfl (by kernel_rfl) (by kernel_rfl) (by kernel_rfl) (by kernel_rfl) (fun _ _ _ h => h) (Or.inl ⟨by rfl, ?hy4_5tf⟩) hS ?rest4_5tf
  case hy4_5tf => intro w hSw; (try dsimp only at hSw); go_simp; (try with_reducible rfl)
  case rest4_5tf =>
  try simp only [List.getElem_toArray, List.getElem_cons_succ, List.getElem_cons_zero, Act.put, List.setIfInBounds_toArray, List.set_cons_zero, List.set_cons_succ]
  refine wpAnyG_take' (i := 5) (v := ?v5_6tf) rfl (by kernel_rfl) (by kernel_rfl) (by kernel_rfl) (by kernel_rfl) (fun _ _ _ h => h) (Or.inl ⟨by rfl, ?hy5_6tf⟩) hS ?rest5_6tf
  case hy5_6tf => intro w hSw; (try dsimp only at hSw); go_simp; (try with_reducible rfl)
  case rest5_6tf =>
  try simp only [List.getElem_toArray, List.getElem_cons_succ, List.getElem_cons_zero, Act.put, List.setIfInBounds_toArray, List.set_cons_zero, List.set_cons_succ]
  refine wpAnyG_take' (i := 6) (v := ?v6_7tf) rfl (by kernel_rfl) (by kernel_rfl) (by kernel_rfl) (by kernel_rfl) (fun _ _ _ h => h) (Or.inl ⟨by rfl, ?hy6_7tf⟩) hS ?rest6_7tf
  case hy6_7tf => intro w hSw; (try dsimp only at hSw); go_simp; (try with_reducible rfl)
  case rest6_7tf =>
  try simp only [List.getElem_toArray, List.getElem_cons_succ, List.getElem_cons_zero, Act.put, List.setIfInBounds_toArray, List.set_cons_zero, List.set_cons_succ]
  refine wpAnyG_take' (i := 7) (v := ?v7_8tf) rfl (by kernel_rfl) (by kernel_rfl) (by kernel_rfl) (by kernel_rfl) (fun _ _ _ h => h) (Or.inl ⟨by rfl, ?hy7_8tf⟩) hS ?rest7_8tf
  case hy7_8tf => intro w hSw; (try dsimp only at hSw); go_simp; (try with_reducible rfl)
  case rest7_8tf =>
  try simp only [List.getElem_toArray, List.getElem_cons_succ, List.getElem_cons_zero, Act.put, List.setIfInBounds_toArray, List.set_cons_zero, List.set_cons_succ]
  refine wpAnyG_take' (i := 8) (v := ?v8_9tf) rfl (by kernel_rfl) (by kernel_rfl) (by kernel_rfl) (by kernel_rfl) (fun _ _ _ h => h) (Or.inl ⟨by rfl, ?hy8_9tf⟩) hS ?rest8_9tf
  case hy8_9tf => intro w hSw; (try dsimp only at hSw); go_simp; (try with_reducible rfl)
  case rest8_9tf =>
  try simp only [List.getElem_toArray, List.getElem_cons_succ, List.getElem_cons_zero, Act.put, List.setIfInBounds_toArray, List.set_cons_zero, List.set_cons_succ]
  trace_state
  refine wpAnyG_take' (i := 9) (v := ?v9_10tf) rfl (by kernel_rfl) (by kernel_rfl) (by kernel_rfl) (by kernel_rfl) (fun _ _ _ h => h) (Or.inl ⟨by rfl, ?hy9_10tf⟩) hS ?rest9_10tf
  case hy9_10tf => intro w hSw; (try dsimp only at hSw); go_simp; (try with_reducible rfl)
  case rest9_10tf =>
  try simp only [List.getElem_toArray, List.getElem_cons_succ, List.getElem_cons_zero, Act.put, List.setIfInBounds_toArray, List.set_cons_zero, List.set_cons_succ]
  refine wpAnyG_one (i := 10) (by kernel_rfl) rfl (fun K hK => ?_)
  go_simp
  refine Calls.mono HR.out ?_
  rintro r0 w4 ⟨u, ⟨va, vc, rfl, hva⟩, rfl, h4⟩
  have y2 := h4.cell (o := 2) rfl
  have y4 := h4.cell (o := 4) rfl
  have h5 : Sep w0 (Cl w4.heap.size (rqC cl num k o (view % n, .slice va 0 vc)) 44 :: PrxC g gc cl n num view true true k o (.slice ua 0 uc) tp :: L) _ := h4.alloc _
  have z2 := h5.sw2.cell (o := 2) rfl
  have z4 := h5.sw2.cell (o := 4) rfl
  have H5 := Lib.hid h5
  have HVA := Lib.hid hva
  clear h4 h5 HR
  refine hK.out _ _ (fun _ => ?hS11tf) ?rest11tf
  case hS11tf => exact ⟨y2, y4⟩
  clear K hK
  try simp only [List.getElem_toArray, List.getElem_cons_succ, List.getElem_cons_zero, Act.put, List.setIfInBounds_toArray, List.set_cons_zero, List.set_cons_succ]
  refine wpAnyG_one (i := 11) (by kernel_rfl) rfl (fun K hK => ?_)
  refine step_buildM rfl _ (by rfl) (c := rqC cl num k o (view % n, .slice va 0 vc)) rfl (by rfl) ?_
  refine hK.out _ _ (fun _ => ?hS12tf) ?rest12tf
  case hS12tf => exact ⟨z2, z4⟩
  clear K hK
  try simp only [List.getElem_toArray, List.getElem_cons_succ, List.getElem_cons_zero, Act.put, List.setIfInBounds_toArray, List.set_cons_zero, List.set_cons_succ]
  refine wpAnyG_one (i := 12) (by kernel_rfl) rfl (fun K hK => ?_)
  go_simp
  refine hK.out _ _ (fun hno => by cases hno) ?_
  clear K hK
  try simp only [List.getElem_toArray, List.getElem_cons_succ, List.getElem_cons_zero, Act.put, List.setIfInBounds_toArray, List.set_cons_zero, List.set_cons_succ]
  refine wpAnyG_done (by kernel_rfl) ?_ _
  try simp only [List.getElem_toArray, List.getElem_cons_succ, List.getElem_cons_zero, Act.put, List.setIfInBounds_toArray, List.set_cons_zero, List.set_cons_succ]
  (try dsimp only); repeat' (first | go_values | go_skip | go_guarded | go_step | go_upon | go_back)
  go_ret
  refine ⟨_, [rqC cl num k o (view % n, .slice va 0 vc)], rfl, rfl, ⟨[.slice va 0 vc], rfl, fun v hv => by rw [List.mem_singleton.1 hv]; exact ⟨va, vc, rfl, HVA.out⟩, rfl⟩, ?_⟩
  have h9 := H5.out.asRn 1 22 rfl (by decide)
  have e : msCs [rqC cl num k o (view % n, .slice va 0 vc)] = (rqC cl num k o (view % n, .slice va 0 vc)).toList := by simp [msCs]
  show Sep w0 (Rn 22 44 _ 1 (msCs _) :: _) _
  rw [e]
  exact h9
set_option maxRecDepth 100000 in
set_option maxHeartbeats 16000000 in
theorem pxtick_wait {n : Int} (h : Sep w0 (PrxC g gc cl n num view true true k o (.slice ua 0 uc) tp :: CkT gc l p :: L) w) (hl : 1 ≤ l) (hl2 : l ≤ 1000) (hp : 0 ≤ p) (hp2 : p + 1 < l) : Calls Tryd.prog 16 #[.pointer (some ⟨g, 0, none⟩)] w fun e w' => e = .returned (.slice none 0 0) ∧ Sep w0 (PrxC g gc cl n num view true true k o (.slice ua 0 uc) tp :: CkT gc l (p + 1) :: L) w' := by
  have HN := Lib.hid (pxnone_any h)
  have c5 := h.cell (o := 5) rfl
  have c6 := h.cell (o := 6) rfl
  have c0 := h.cell (o := 0) rfl
  have hk := cktick_s h.sw2 hl hl2 hp (by omega)
  rw [decide_eq_false (by omega), show min (p + 1) l = p + 1 by omega] at hk
  have HK := Lib.hid hk
  clear h hk hl hl2 hp hp2
  go_enter Tryd.func16, Tryd.ntmps16
  (try dsimp only); repeat' (first | go_values | go_skip | go_guarded | go_step | go_upon | go_back)
  refine HN.out.mono ?_
  rintro r0 w2 ⟨rfl, rfl⟩
  clear HN
  (try dsimp only); repeat' (first | go_values | go_skip | go_guarded | go_step | go_upon | go_back)
  refine HK.out.mono ?_
  rintro r0 w3 ⟨rfl, h3⟩
  have H3 := Lib.hid h3.sw2
  clear HK h3
  (try dsimp only); repeat' (first | go_values | go_skip | go_guarded | go_step | go_upon | go_back)
  go_ret
  exact ⟨rfl, H3.out⟩
set_option maxRecDepth 100000 in
set_option maxHeartbeats 16000000 in
theorem pxtick_all {n : Nat} (h : Sep w0 (PrxC g gc cl n num view true true k o (.slice ua 0 uc) tp :: CkT gc l p :: L) w) (hl : 1 ≤ l) (hl2 : l ≤ 1000) (hp : p + 1 = l) (hc0 : 0 ≤ cl) (hc8 : cl < 8) (hu : ua = none → uc = 0) (hn : n ≤ 15) : Calls Tryd.prog 16 #[.pointer (some ⟨g, 0, none⟩)] w fun e w' => ∃ v rows, e = .returned v ∧ rows.length = n ∧ RqRows cl num k o ((List.range n).map Int.ofNat) rows ∧ Sep w0 (MsR v rows :: PrxC g gc cl n num view true true k o (.slice ua 0 uc) tp :: CkT gc l 0 :: L) w' := by
  have HN := Lib.hid (pxnone_any h)
  have c5 := h.cell (o := 5) rfl
  have c6 := h.cell (o := 6) rfl
  have c0 := h.cell (o := 0) rfl
  have hk := cktick_s h.sw2 hl hl2 (by omega) (by omega)
  rw [decide_eq_true (by omega), show min (p + 1) l = l by omega] at hk
  have HK := Lib.hid hk
  have HRS : Hid (∀ wx M, Sep w0 (CkT gc l l :: M) wx → Calls Tryd.prog 25 #[.pointer (some ⟨gc, 0, none⟩)] wx fun e w' => (∃ x, e = .returned x) ∧ Sep w0 (CkT gc l 0 :: M) w') := Lib.hid fun wx M hx => ckreset_s hx hl
  have HRQ : Hid (∀ (to : Int) wx M, Sep w0 (PrxC g gc cl n num view true true k o (.slice ua 0 uc) tp :: M) wx → Calls Tryd.prog 23 #[.pointer (some ⟨g, 0, none⟩), .int .i64 to] wx fun e w' => ∃ v, NilL v ∧ e = .returned (.agg (rqC cl num k o (to, v))) ∧ Sep w0 (PrxC g gc cl n num view true true k o (.slice ua 0 uc) tp :: M) w') := Lib.hid fun to wx M hx => pxreq_any to hx hc0 hc8 hu
  have n0 : (0 : Int) ≤ (n : Int) := by omega
  have n15 : (n : Int) ≤ 15 := by omega
  clear h hk hl hl2 hp hc0 hc8 hu hn
  go_enter Tryd.func16, Tryd.ntmps16
  (try dsimp only); repeat' (first | go_values | go_skip | go_guarded | go_step | go_upon | go_back)
  refine HN.out.mono ?_
  rintro r0 w2 ⟨rfl, rfl⟩
  clear HN
  (try dsimp only); repeat' (first | go_values | go_skip | go_guarded | go_step | go_upon | go_back)
  refine HK.out.mono ?_
  rintro r0 w3 ⟨rfl, h3⟩
  have e0 := h3.sw2.cell (o := 0) rfl
  have HR := Lib.hid (HRS.out _ _ h3)
  clear HK h3 HRS c0 c5 c6
  (try dsimp only); repeat' (first | go_values | go_skip | go_guarded | go_step | go_upon | go_back)
  refine HR.out.mono ?_
  rintro r0 w4 ⟨⟨x, rfl⟩, h4⟩
  have e2 := h4.sw2.cell (o := 2) rfl
  have h5 : Sep w0 (MsR (.slice none 0 0) [] :: PrxC g gc cl n num view true true k o (.slice ua 0 uc) tp :: CkT gc l 0 :: L) w4 := (h4.sw2).rnNil 22 44
  have H5 := Lib.hid h5
  clear HR h4 h5 e0
  (try dsimp only); repeat' (first | go_values | go_skip | go_guarded | go_step | go_upon | go_back)
  go_loopw [3, 51] (fun v i wr => ∃ (j : Nat) (rows : List (Array Value)) (av : Option Addr) (cv : Nat), j ≤ n ∧ v = .slice av j cv ∧ i = .int .i64 j ∧ rows.length = j ∧ Rows22 rows ∧ RqRows cl num k o ((List.range j).map Int.ofNat) rows ∧ Sep w0 (MsR v rows :: PrxC g gc cl n num view true true k o (.slice ua 0 uc) tp :: CkT gc l 0 :: L) wr) (fun _ i _ => n - (intOf i).toNat)
  case atStart => exact ⟨0, [], none, 0, Nat.zero_le _, rfl, rfl, rfl, (fun c hc => by cases hc), ⟨[], rfl, (fun v hv => by cases hv), rfl⟩, H5.out⟩
  case round =>
    obtain ⟨j, rows, av, cv, hj, rfl, rfl, hrl, hr22, hrq, hs⟩ := hrel
    clear H5
    have j0 : (0 : Int) ≤ (j : Int) := by omega
    by_cases hjn : j < n
    · have hd : decide (j < n) = true := decide_eq_true hjn
      have hd2 : decide ((j : Int) < (n : Int)) = true := decide_eq_true (by omega)
      have j15 : (j : Int) < 15 := by omega
      have HQ := Lib.hid (HRQ.out (j : Int) _ _ hs.sw2)
      have HJ := Lib.hid (And.intro hrl (And.intro hr22 (And.intro hrq hjn)))
      clear hs hrl hr22 hrq hj hjn
      (try dsimp only); repeat' (first | go_values | go_skip | go_guarded | go_step | go_upon | go_back)
      refine HQ.out.mono ?_
      rintro r0 w5 ⟨u, hu5, rfl, h5⟩
      have h6 := h5.alloc (.cells (rqC cl num k o ((j : Int), u)) 44)
      obtain ⟨a2, c2, w8, hr, h8⟩ := append_ms (ty := 54) (h6.pickL (M := [_, _, _]) [0, 2, 1] rfl : Sep w0 (Cl w5.heap.size (rqC cl num k o ((j : Int), u)) 44 :: MsR (.slice av j cv) rows :: PrxC g gc cl n num view true true k o (.slice ua 0 uc) tp :: CkT gc l 0 :: L) _) rfl (rqC_one _ _ _ _ _ hu5.one) (by rw [HJ.out.1]; omega)
      rw [HJ.out.1] at hr h8
      have HAP := Lib.hid hr
      have H8 := Lib.hid h8
      have HU := Lib.hid hu5
      clear HQ h5 h6 hr h8 hu5
      (try dsimp only); repeat' (first | (at_builtin; refine stopP ?_) | (refine wpList_buildM rfl _ rfl (c := rqC cl num k o ((j : Int), u)) rfl rfl ?_) | go_values | go_skip | go_guarded | go_step | go_upon | go_back)
      unfold StopP
      refine wpList_append_r rfl _ _ _ _ rfl rfl rfl HAP.out ?_
      clear HAP
      (try dsimp only); repeat' (first | go_values | go_skip | go_guarded | go_step | go_upon | go_back)
      go_roundw
      case rel =>
        refine ⟨j + 1, rows ++ [rqC cl num k o ((j : Int), u)], a2, c2, HJ.out.2.2.2, rfl, by go_num, by rw [List.length_append, HJ.out.1, List.length_singleton], ?_, ?_, H8.out⟩
        · intro c hc
          rcases List.mem_append.1 hc with h1 | h1
          · exact HJ.out.2.1 c h1
          · rw [List.mem_singleton.1 h1]; rfl
        · obtain ⟨vs, h1, h2, h3⟩ := HJ.out.2.2.1
          refine ⟨vs ++ [u], by rw [List.length_append, h1]; simp, ?_, ?_⟩
          · intro v hv
            rcases List.mem_append.1 hv with h4 | h4
            · exact h2 v h4
            · rw [List.mem_singleton.1 h4]; exact HU.out
          · rw [List.range_succ, List.map_append, List.zip_append (by rw [h1]), List.map_append, ← h3]
            rfl
      case measure => have := HJ.out.2.2.2; simp [intOf]; omega
    · have hd : decide (j < n) = false := decide_eq_false hjn
      have hd2 : decide ((j : Int) < (n : Int)) = false := decide_eq_false (by omega)
      obtain rfl : j = n := by omega
      have HF := Lib.hid (And.intro hrl (And.intro hrq hs))
      clear hs hrl hr22 hrq hj hjn
      (try dsimp only); repeat' (first | go_values | go_skip | go_guarded | go_step | go_upon | go_back)
      go_ret
      exact ⟨_, rows, rfl, HF.out.1, HF.out.2.1, HF.out.2.2⟩
end Go.Proofs.YtdemconpdjgimaaDoor
