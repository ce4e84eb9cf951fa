/- Package choose: Enough, all. -/
import Derived.Test.YthgndegjiodopaaDoorCho3
namespace Go.Proofs.YthgndegjiodopaaDoor
open Go.RowKit
set_option linter.unusedVariables false
set_option linter.unusedSimpArgs false
theorem step_store_mid {P : Program} {ops : Array Oper} {op : Oper} {a : Act} {w : World} {K : Act → World → Prop} {Q : Exit → Act → World → Prop} {E : Prop} (hg : op.guard = none) (ty : TypeId) (x y : Operand) (ho : op.op = .store ty x y)
    (b o : Nat) (cells : Array Value) (hx : a.eval x = .pointer (some ⟨b, o, none⟩)) (hy : a.eval y = .agg cells)
    (ht : w.there b o cells.size) (hi : (P.info? ty).map (·.size) = some cells.size) (h1 : cells.all (·.oneCell') = true)
    (h : K (a.put op.dst undef) (w.setCells b o cells.toList)) : if Region.wanted op (yielded ops a.tmps) = true then Oper.wp P op a w K Q else E := by
  have hw : Region.wanted op (yielded ops a.tmps) = true := by simp [Region.wanted, hg]
  rw [if_pos hw]
  exact wp_store_mid ty x y ho b o cells hx hy ht hi h1 h
theorem step_update_run {P : Program} {ops : Array Oper} {op : Oper} {a : Act} {w w' : World} {K : Act → World → Prop} {Q : Exit → Act → World → Prop} {E : Prop} (hg : op.guard = none) (t : TypeId) (m x y : Operand) (ho : op.op = .mapUpdate t m x y)
    (mv xv yv : Value) (hm : a.eval m = mv) (hx : a.eval x = xv) (hy : a.eval y = yv) (hr : (Instr.mapUpdate t mv xv yv).run P w = .ok () w')
    (h : K (a.put op.dst undef) w') : if Region.wanted op (yielded ops a.tmps) = true then Oper.wp P op a w K Q else E := by
  have hw : Region.wanted op (yielded ops a.tmps) = true := by simp [Region.wanted, hg]
  rw [if_pos hw]
  unfold Oper.wp
  simp [execOp, ho, hm, hx, hy, hr, Result.andThen]
  exact h
theorem exec_lookup {P : Program} {o : Oper} {a : Act} {w : World} (m x : Operand) (t : TypeId) (c : Bool) (hop : o.op = Op.lookup t m x c) (mv xv : Value) (hm : a.eval m = mv) (hx : a.eval x = xv) {v : Value} (hr : (Instr.lookup t mv xv c).run P w = .ok v w) :
    (execOp a.eval o).run P w = Result.ok (Next.value v) w := by
  unfold execOp
  simp [hop, hm, hx, hr, Result.andThen]
theorem ov_default (q : Option OvM) : (q.map ovV).getD (ovV ovZ) = ovV (q.getD ovZ) := by cases q <;> rfl
theorem ovC_size (x : OvM) : (ovC x).size = 6 := rfl
/-- The offers of those below k, by their numbers. -/
def byFr (xs : List OvM) (k : Nat) : List OvM := (List.range k).filterMap fun (i : Nat) => getO xs (i : Int)
theorem byFr_succ (xs : List OvM) (k : Nat) : byFr xs (k + 1) = byFr xs k ++ (getO xs k).toList := by
  unfold byFr
  rw [List.range_succ, List.filterMap_append]
  cases h : getO xs (k : Int) <;> simp [h]
theorem byFr_len (xs : List OvM) : ∀ k, (byFr xs k).length ≤ k
  | 0 => by simp [byFr]
  | k + 1 => by
    rw [byFr_succ, List.length_append]
    have := byFr_len xs k
    cases getO xs (k : Int) <;> simp <;> omega
theorem getO_mem {xs : List OvM} {i : Int} {x : OvM} (h : getO xs i = some x) : x ∈ xs ∧ x.fr = i := ⟨List.mem_of_find?_eq_some h, by simpa using List.find?_some h⟩
theorem byFr_mem {xs : List OvM} {k : Nat} {x : OvM} (h : x ∈ byFr xs k) : x ∈ xs := by
  obtain ⟨i, -, hi⟩ := List.mem_filterMap.1 h
  exact (getO_mem hi).1
/-- All offers' entries lie in slices. -/
def Vs (xs : List OvM) : Prop := ∀ x ∈ xs, ∃ a c, x.v = .slice a x.ps.length c
theorem ov_one {xs : List OvM} (h : Vs xs) {x : OvM} (hx : x ∈ xs) : ∀ u ∈ (ovC x).toList, u.oneCell' = true := by
  obtain ⟨a, c, e⟩ := h x hx
  intro u hu
  simp only [ovC, e, List.mem_cons, List.not_mem_nil, or_false] at hu
  rcases hu with rfl | rfl | rfl | rfl | rfl | rfl <;> rfl
theorem ov_all {xs : List OvM} (h : Vs xs) (i : Int) : (ovC ((getO xs i).getD ovZ)).all (·.oneCell') = true := by
  cases e : getO xs i with
  | none => simp [ovC, ovZ, Value.oneCell']
  | some x =>
    rw [Array.all_eq_true]
    intro j hj
    exact ov_one h (getO_mem e).1 _ (by rw [Array.mem_toList_iff]; exact Array.getElem_mem _)
theorem exec_len {P : Program} {o : Oper} {a : Act} {w : World} (x : Operand) (t : TypeId) (hop : o.op = Op.call { callee := .builtin .len, args := #[x], argTypes := #[t] }) (xv : Value) (hx : a.eval x = xv) {v : Value} (hr : (Builtin.len_ #[t] o.type #[xv]).run P w = .ok v w) :
    (execOp a.eval o).run P w = Result.ok (Next.value v) w := by
  unfold execOp
  simp [hop, resolve, invoke, builtin, hx, hr, Result.andThen]
set_option maxRecDepth 100000 in
set_option maxHeartbeats 4000000 in
theorem oenough_any {w0 w : World} {g b : Nat} {n view : Int} {S : List (Rk × OvM)} {L : List Thing} (h : Sep w0 (OcT g b n view :: OvT b S :: L) w) (hn : IQ n) :
    Calls Tryd.prog 14 #[.pointer (some ⟨g, 0, none⟩)] w fun e w' => e = .returned (.bool (decide (enough n ≤ (S.length : Nat)))) ∧ Sep w0 (OcT g b n view :: OvT b S :: L) w' := by
  have HN := Lib.hid (onone_any h.drew)
  have HE := Lib.hid (enough_any n w.drew hn)
  have c0 := h.drew.cell (o := 0) (x := .int .i64 n) rfl
  have c2 := h.drew.cell (o := 2) (x := .map (some b)) rfl
  have HL := fun ty => map_len (P := Tryd.prog) (t := 59) Tryd.underlying59 h.drew.sw2 ty
  have H := Lib.hid h.drew
  clear h
  obtain ⟨bb, hbb⟩ : ∃ bb, decide (enough n ≤ (S.length : Nat)) = bb := ⟨_, rfl⟩
  rw [hbb]
  go_enter Tryd.func14, Tryd.ntmps14
  (try dsimp only); repeat' (first | go_values | go_skip | go_guarded | go_step | go_upon | go_back)
  refine wp_region_G (fun w' => w'.cell? ⟨g, 0, none⟩ = some (.int .i64 n) ∧ w'.cell? ⟨g, 2, none⟩ = some (.map (some b)) ∧ ∀ ty, (Builtin.len_ #[59] ty #[.map (some b)]).run Tryd.prog w' = .ok (.int .i64 (S.length : Nat)) w') [] (by kernel_rfl) ⟨c0, c2, HL⟩ (fun hS => ?_)
  try dsimp only at hS
  refine wpAnyG_take' (i := 0) (v := ?v0_1e) rfl (by kernel_rfl) (by kernel_rfl) (by kernel_rfl) (by kernel_rfl) (fun _ _ _ h => h) (Or.inl ⟨by rfl, ?hy0_1e⟩) hS ?rest0_1e
  case hy0_1e => intro w hSw; (try dsimp only at hSw); go_simp; (try with_reducible rfl)
  case rest0_1e =>
  try simp only [List.getElem_toArray, List.getElem_cons_succ, List.getElem_cons_zero, Act.put, List.setIfInBounds_toArray, List.set_cons_zero, List.set_cons_succ]
  refine wpAnyG_one (i := 1) (by kernel_rfl) rfl (fun K hK => ?_)
  go_simp
  refine Calls.mono HN.out ?_
  rintro r9 w5 ⟨rfl, rfl⟩
  (try dsimp only); repeat' (first | go_values | go_skip | go_guarded | go_step | go_upon | go_back)
  refine hK.out _ _ (fun _ => ?hS2e) ?rest2e
  case hS2e => exact ⟨c0, c2, HL⟩
  clear K hK
  try simp only [List.getElem_toArray, List.getElem_cons_succ, List.getElem_cons_zero, Act.put, List.setIfInBounds_toArray, List.set_cons_zero, List.set_cons_succ]
  refine wpAnyG_take' (i := 2) (v := ?v2_3e) rfl (by kernel_rfl) (by kernel_rfl) (by kernel_rfl) (by kernel_rfl) (fun _ _ _ h => h) (Or.inl ⟨by rfl, ?hy2_3e⟩) ⟨c0, c2, HL⟩ ?rest2_3e
  case hy2_3e => intro w hSw; (try dsimp only at hSw); go_simp; (try with_reducible rfl)
  case rest2_3e =>
  try simp only [List.getElem_toArray, List.getElem_cons_succ, List.getElem_cons_zero, Act.put, List.setIfInBounds_toArray, List.set_cons_zero, List.set_cons_succ]
  refine wpAnyG_take' (i := 3) (v := ?v3_4e) rfl (by kernel_rfl) (by kernel_rfl) (by kernel_rfl) (by kernel_rfl) (fun _ _ _ h => h) (Or.inl ⟨by rfl, ?hy3_4e⟩) ⟨c0, c2, HL⟩ ?rest3_4e
  case hy3_4e => intro w hSw; (try dsimp only at hSw); go_simp; (try with_reducible rfl)
  case rest3_4e =>
  try simp only [List.getElem_toArray, List.getElem_cons_succ, List.getElem_cons_zero, Act.put, List.setIfInBounds_toArray, List.set_cons_zero, List.set_cons_succ]
  refine wpAnyG_take' (i := 4) (v := ?v4_5e) rfl (by kernel_rfl) (by kernel_rfl) (by kernel_rfl) (by kernel_rfl) (fun _ _ _ h => h) (Or.inl ⟨by rfl, ?hy4_5e⟩) ⟨c0, c2, HL⟩ ?rest4_5e
  case hy4_5e => intro w hSw; (try dsimp only at hSw); go_simp; (try with_reducible rfl)
  case rest4_5e =>
  try simp only [List.getElem_toArray, List.getElem_cons_succ, List.getElem_cons_zero, Act.put, List.setIfInBounds_toArray, List.set_cons_zero, List.set_cons_succ]
  refine wpAnyG_take' (i := 5) (v := ?v5_6e) rfl (by kernel_rfl) (by kernel_rfl) (by kernel_rfl) (by kernel_rfl) (fun _ _ _ h => h) (Or.inl ⟨by rfl, ?hy5_6e⟩) ⟨c0, c2, HL⟩ ?rest5_6e
  case hy5_6e => intro w hSw; (try dsimp only at hSw); go_simp; (try with_reducible rfl)
  case rest5_6e =>
  try simp only [List.getElem_toArray, List.getElem_cons_succ, List.getElem_cons_zero, Act.put, List.setIfInBounds_toArray, List.set_cons_zero, List.set_cons_succ]
  refine wpAnyG_take' (i := 6) (v := ?v6_7e) rfl (by kernel_rfl) (by kernel_rfl) (by kernel_rfl) (by kernel_rfl) (fun _ _ _ h => h) (Or.inl ⟨by rfl, ?hy6_7e⟩) ⟨c0, c2, HL⟩ ?rest6_7e
  case hy6_7e => intro w hSw; (try dsimp only at hSw); go_simp; (try with_reducible rfl)
  case rest6_7e =>
  try simp only [List.getElem_toArray, List.getElem_cons_succ, List.getElem_cons_zero, Act.put, List.setIfInBounds_toArray, List.set_cons_zero, List.set_cons_succ]
  refine wpAnyG_take' (i := 7) (v := ?v7_8e) rfl (by kernel_rfl) (by kernel_rfl) (by kernel_rfl) (by kernel_rfl) (fun _ _ _ h => h) (Or.inl ⟨by rfl, ?hy7_8e⟩) ⟨c0, c2, HL⟩ ?rest7_8e
  case hy7_8e => intro w hSw; (try dsimp only at hSw); go_simp; (try with_reducible rfl)
  case rest7_8e =>
  try simp only [List.getElem_toArray, List.getElem_cons_succ, List.getElem_cons_zero, Act.put, List.setIfInBounds_toArray, List.set_cons_zero, List.set_cons_succ]
  refine wpAnyG_take' (i := 8) (v := .int .i64 (S.length : Nat)) rfl (by kernel_rfl) (by kernel_rfl) (by kernel_rfl) (by kernel_rfl) (fun _ _ _ h => h) (Or.inl ⟨by rfl, ?hye⟩) ⟨c0, c2, HL⟩ ?rese
  case hye => intro w hSw; have := hSw.2.2; exact exec_len _ _ rfl _ rfl (this _)
  case rese =>
  try simp only [List.getElem_toArray, List.getElem_cons_succ, List.getElem_cons_zero, Act.put, List.setIfInBounds_toArray, List.set_cons_zero, List.set_cons_succ]
  refine wpAnyG_take' (i := 9) (v := ?v9_10e) rfl (by kernel_rfl) (by kernel_rfl) (by kernel_rfl) (by kernel_rfl) (fun _ _ _ h => h) (Or.inl ⟨by rfl, ?hy9_10e⟩) ⟨c0, c2, HL⟩ ?rest9_10e
  case hy9_10e => intro w hSw; (try dsimp only at hSw); go_simp; (try with_reducible rfl)
  case rest9_10e =>
  try simp only [List.getElem_toArray, List.getElem_cons_succ, List.getElem_cons_zero, Act.put, List.setIfInBounds_toArray, List.set_cons_zero, List.set_cons_succ]
  refine wpAnyG_take' (i := 10) (v := ?v10_11e) rfl (by kernel_rfl) (by kernel_rfl) (by kernel_rfl) (by kernel_rfl) (fun _ _ _ h => h) (Or.inl ⟨by rfl, ?hy10_11e⟩) ⟨c0, c2, HL⟩ ?rest10_11e
  case hy10_11e => intro w hSw; (try dsimp only at hSw); go_simp; (try with_reducible rfl)
  case rest10_11e =>
  try simp only [List.getElem_toArray, List.getElem_cons_succ, List.getElem_cons_zero, Act.put, List.setIfInBounds_toArray, List.set_cons_zero, List.set_cons_succ]
  refine wpAnyG_take' (i := 11) (v := ?v11_12e) rfl (by kernel_rfl) (by kernel_rfl) (by kernel_rfl) (by kernel_rfl) (fun _ _ _ h => h) (Or.inl ⟨by rfl, ?hy11_12e⟩) ⟨c0, c2, HL⟩ ?rest11_12e
  case hy11_12e => intro w hSw; (try dsimp only at hSw); go_simp; (try with_reducible rfl)
  case rest11_12e =>
  try simp only [List.getElem_toArray, List.getElem_cons_succ, List.getElem_cons_zero, Act.put, List.setIfInBounds_toArray, List.set_cons_zero, List.set_cons_succ]
  refine wpAnyG_take' (i := 12) (v := ?v12_13e) rfl (by kernel_rfl) (by kernel_rfl) (by kernel_rfl) (by kernel_rfl) (fun _ _ _ h => h) (Or.inl ⟨by rfl, ?hy12_13e⟩) ⟨c0, c2, HL⟩ ?rest12_13e
  case hy12_13e => intro w hSw; (try dsimp only at hSw); go_simp; (try with_reducible rfl)
  case rest12_13e =>
  try simp only [List.getElem_toArray, List.getElem_cons_succ, List.getElem_cons_zero, Act.put, List.setIfInBounds_toArray, List.set_cons_zero, List.set_cons_succ]
  refine wpAnyG_one (i := 13) (by kernel_rfl) rfl (fun K hK => ?_)
  go_simp
  refine Calls.mono HE.out ?_
  rintro r9 w6 ⟨rfl, rfl⟩
  (try dsimp only); repeat' (first | go_values | go_skip | go_guarded | go_step | go_upon | go_back)
  refine hK.out _ _ (fun _ => ?hS14e) ?rest14e
  case hS14e => exact ⟨c0, c2, HL⟩
  clear K hK
  try simp only [List.getElem_toArray, List.getElem_cons_succ, List.getElem_cons_zero, Act.put, List.setIfInBounds_toArray, List.set_cons_zero, List.set_cons_succ]
  refine wpAnyG_take' (i := 14) (v := ?v14_15e) rfl (by kernel_rfl) (by kernel_rfl) (by kernel_rfl) (by kernel_rfl) (fun _ _ _ h => h) (Or.inl ⟨by rfl, ?hy14_15e⟩) ⟨c0, c2, HL⟩ ?rest14_15e
  case hy14_15e => intro w hSw; (try dsimp only at hSw); go_simp; (try with_reducible rfl)
  case rest14_15e =>
  try simp only [List.getElem_toArray, List.getElem_cons_succ, List.getElem_cons_zero, Act.put, List.setIfInBounds_toArray, List.set_cons_zero, List.set_cons_succ]
  refine wpAnyG_take' (i := 15) (v := ?v15_16e) rfl (by kernel_rfl) (by kernel_rfl) (by kernel_rfl) (by kernel_rfl) (fun _ _ _ h => h) (Or.inl ⟨by rfl, ?hy15_16e⟩) ⟨c0, c2, HL⟩ ?rest15_16e
  case hy15_16e => intro w hSw; (try dsimp only at hSw); go_simp; (try with_reducible rfl)
  case rest15_16e =>
  try simp only [List.getElem_toArray, List.getElem_cons_succ, List.getElem_cons_zero, Act.put, List.setIfInBounds_toArray, List.set_cons_zero, List.set_cons_succ]
  refine wpAnyG_take' (i := 16) (v := ?v16_17e) rfl (by kernel_rfl) (by kernel_rfl) (by kernel_rfl) (by kernel_rfl) (fun _ _ _ h => h) (Or.inl ⟨by rfl, ?hy16_17e⟩) ⟨c0, c2, HL⟩ ?rest16_17e
  case hy16_17e => intro w hSw; (try dsimp only at hSw); go_simp; (try with_reducible rfl)
  case rest16_17e =>
  try simp only [List.getElem_toArray, List.getElem_cons_succ, List.getElem_cons_zero, Act.put, List.setIfInBounds_toArray, List.set_cons_zero, List.set_cons_succ]
  refine wpAnyG_done (by kernel_rfl) ?_ _
  try simp only [List.getElem_toArray, List.getElem_cons_succ, List.getElem_cons_zero, Act.put, List.setIfInBounds_toArray, List.set_cons_zero, List.set_cons_succ]
  (try dsimp only); repeat' (first | go_values | go_skip | go_guarded | go_step | go_upon | go_back)
  go_ret
  exact ⟨rfl, H.out⟩
theorem exec_buildK {o : Oper} {a : Act} {w : World} (x y : Operand) (ho : o.op = .build 65 #[(0, x), (1, y)]) (n k : Int) (hx : a.eval x = .int .i64 n) (hy : a.eval y = .int .i64 k) :
    (execOp a.eval o).run Tryd.prog w = Result.ok (Next.value (.agg #[.int .i64 n, .int .i64 k])) w := by
  have hc : Tryd.prog.built 65 [(0, .int .i64 n), (1, .int .i64 k)] = some #[.int .i64 n, .int .i64 k] := by kernel_rfl
  unfold execOp
  simp only [ho, Sem.run_bind]
  rw [run_build w 65 _ _ (by rw [Array.toList_map]; simp only [List.map_cons, List.map_nil, hx, hy]; exact hc)]
  rfl
set_option maxRecDepth 100000 in
set_option maxHeartbeats 4000000 in
theorem oall_any {w0 w : World} {g b : Nat} {view : Int} {m : Nat} {xs : List OvM} {L : List Thing} (h : Sep w0 (OcT g b m view :: OvT b (offS m xs) :: L) w) (hm : m ≤ 15) (hq : FrQ xs) (hvs : Vs xs) :
    Calls Tryd.prog 27 #[.pointer (some ⟨g, 0, none⟩)] w fun e w' => ∃ u, e = .returned u ∧ Sep w0 (MsR u ((byFr xs m).map ovC) :: OcT g b m view :: OvT b (offS m xs) :: L) w' := by
  obtain ⟨n, hn⟩ : ∃ n : Int, n = (m : Int) := ⟨_, rfl⟩
  have n0 : 0 ≤ n := by omega
  have hnq : IQ n := ⟨by omega, by omega⟩
  rw [← hn] at h ⊢
  have c0 := h.cell (o := 0) (x := .int .i64 n) rfl
  have H := Lib.hid h
  have HQ := Lib.hid hq
  have HVS := Lib.hid hvs
  have HM := Lib.hid hm
  have HN := Lib.hid hn
  have HNQ := Lib.hid hnq
  clear h hq hvs hm hn hnq
  go_enter Tryd.func27, Tryd.ntmps27
  (try dsimp only); repeat' (first | go_values | go_skip | go_guarded | go_step | go_upon | go_back)
  go_loopw [3, 11] (fun pv i wr => ∃ (k : Nat) (av : Option Addr) (cv : Nat), k ≤ m ∧ i = .int .i64 k ∧ pv = .slice av (byFr xs k).length cv ∧ Sep w0 (MsR pv ((byFr xs k).map ovC) :: OcT g b n view :: OvT b (offS n xs) :: L) wr) (fun _ i _ => m - (intOf i).toNat)
  case atStart => exact ⟨0, none, 0, by omega, rfl, rfl, (H.out.rnNil 6 68)⟩
  case round =>
    obtain ⟨k, av, cv, hk, rfl, rfl, hs⟩ := hrel
    clear H c0
    have k0 : (0 : Int) ≤ (k : Int) := by omega
    by_cases hkm : k < m
    · have k1 : (k : Int) < n := by have := HN.out; omega
      have hd : decide ((k : Int) < n) = true := decide_eq_true k1
      have hkq : IQ (k : Int) := by have := HM.out; exact ⟨by omega, by omega⟩
      have kw : (k : Int) ≤ 15 := by have := HM.out; omega
      obtain ⟨q, hqe⟩ : ∃ q, q = (getO xs k).getD ovZ := ⟨_, rfl⟩
      obtain ⟨bb, hbb⟩ : ∃ bb, bb = (getO xs k).isSome := ⟨_, rfl⟩
      have lk : ∀ {wx : World} {M : List Thing}, Sep w0 (OvT b (offS n xs) :: M) wx → (Instr.lookup 59 (.map (some b)) (.agg #[.int .i64 n, .int .i64 k]) true).run Tryd.prog wx = .ok (.tuple #[ovV q, .bool bb]) wx := fun hx => by
        have := map_look (t := 59) rkOk Tryd.underlying59 (zeroOv _) hx (rk n k) true
        rw [mget_off HNQ.out hkq HQ.out, ov_default, ← hqe, ← hbb, rkV_rk HNQ.out hkq] at this
        exact this
      have hal : (ovC q).all (·.oneCell') = true := by rw [hqe]; exact ov_all HVS.out k
      have h1 := hs.drew
      have hS0 : (wr.drew).cell? ⟨g, 0, none⟩ = some (.int .i64 n) ∧ (wr.drew).cell? ⟨g, 2, none⟩ = some (.map (some b)) ∧ (Instr.lookup 59 (.map (some b)) (.agg #[.int .i64 n, .int .i64 k]) true).run Tryd.prog (wr.drew) = .ok (.tuple #[ovV q, .bool bb]) (wr.drew) := ⟨h1.sw2.cell rfl, h1.sw2.cell rfl, lk h1.sw3⟩
      have h2 : Sep w0 (Cl wr.heap.size (ovC ovZ) 33 :: MsR (.slice av (byFr xs k).length cv) ((byFr xs k).map ovC) :: OcT g b n view :: OvT b (offS n xs) :: L) (wr.alloc (.cells #[.int .i64 0, .int .i64 0, .int .i64 0, .slice none 0 0, .slice none 0 0, .int .i64 0] 33)).drew := h1.alloc (.cells (ovC ovZ) 33)
      obtain ⟨b5, hb5⟩ : ∃ z, z = wr.heap.size := ⟨_, rfl⟩
      obtain ⟨W1, hW1⟩ : ∃ z, z = (wr.alloc (.cells #[.int .i64 0, .int .i64 0, .int .i64 0, .slice none 0 0, .slice none 0 0, .int .i64 0] 33)).drew := ⟨_, rfl⟩
      rw [← hW1, ← hb5] at h2
      have hS1 : (W1).cell? ⟨g, 0, none⟩ = some (.int .i64 n) ∧ (W1).cell? ⟨g, 2, none⟩ = some (.map (some b)) ∧ (Instr.lookup 59 (.map (some b)) (.agg #[.int .i64 n, .int .i64 k]) true).run Tryd.prog (W1) = .ok (.tuple #[ovV q, .bool bb]) (W1) := ⟨h2.sw3.cell rfl, h2.sw3.cell rfl, lk h2.sw4⟩
      have HTH := Lib.hid (h2.thereAt 0 6 (Nat.le_refl 6))
      have h3 := h2.storeW (ovC q) rfl
      have hS2 : (W1.setCells b5 0 (ovC q).toList).cell? ⟨g, 0, none⟩ = some (.int .i64 n) ∧ (W1.setCells b5 0 (ovC q).toList).cell? ⟨g, 2, none⟩ = some (.map (some b)) ∧ (Instr.lookup 59 (.map (some b)) (.agg #[.int .i64 n, .int .i64 k]) true).run Tryd.prog (W1.setCells b5 0 (ovC q).toList) = .ok (.tuple #[ovV q, .bool bb]) (W1.setCells b5 0 (ovC q).toList) := ⟨h3.sw3.cell rfl, h3.sw3.cell rfl, lk h3.sw4⟩
      obtain ⟨W2, hW2⟩ : ∃ z, z = W1.setCells b5 0 (ovC q).toList := ⟨_, rfl⟩
      rw [← hW2] at h3 hS2
      have h3f := h3
      have HAL := Lib.hid hal
      have HL := Lib.hid (h3.loadW 33 Tryd.underlying33 rfl (by kernel_rfl))
      have HKM := Lib.hid hkm
      have HBB := Lib.hid (And.intro hqe hbb)
      have HKQ := Lib.hid hkq
      clear hs h1 h2 h3 hal hkm hk lk hqe hbb hkq
      (try dsimp only); repeat' (first | go_values | go_skip | go_guarded | go_step | go_upon | go_back)
      try rw [← hb5]
      refine wp_region_G (fun w' => w'.cell? ⟨g, 0, none⟩ = some (.int .i64 n) ∧ w'.cell? ⟨g, 2, none⟩ = some (.map (some b)) ∧ (Instr.lookup 59 (.map (some b)) (.agg #[.int .i64 n, .int .i64 k]) true).run Tryd.prog w' = .ok (.tuple #[ovV q, .bool bb]) w') [] (by kernel_rfl) hS0 (fun hS => ?_)
      try dsimp only at hS
      refine wpAnyG_take' (i := 0) (v := ?v0_1a) rfl (by kernel_rfl) (by kernel_rfl) (by kernel_rfl) (by kernel_rfl) (fun _ _ _ h => h) (Or.inl ⟨by rfl, ?hy0_1a⟩) hS ?rest0_1a
      case hy0_1a => intro w hSw; (try dsimp only at hSw); go_simp; (try with_reducible rfl)
      case rest0_1a =>
      try simp only [List.getElem_toArray, List.getElem_cons_succ, List.getElem_cons_zero, Act.put, List.setIfInBounds_toArray, List.set_cons_zero, List.set_cons_succ]
      refine wpAnyG_take' (i := 1) (v := ?v1_2a) rfl (by kernel_rfl) (by kernel_rfl) (by kernel_rfl) (by kernel_rfl) (fun _ _ _ h => h) (Or.inl ⟨by rfl, ?hy1_2a⟩) hS ?rest1_2a
      case hy1_2a => intro w hSw; (try dsimp only at hSw); go_simp; (try with_reducible rfl)
      case rest1_2a =>
      try simp only [List.getElem_toArray, List.getElem_cons_succ, List.getElem_cons_zero, Act.put, List.setIfInBounds_toArray, List.set_cons_zero, List.set_cons_succ]
      refine wpAnyG_take' (i := 2) (v := ?v2_3a) rfl (by kernel_rfl) (by kernel_rfl) (by kernel_rfl) (by kernel_rfl) (fun _ _ _ h => h) (Or.inl ⟨by rfl, ?hy2_3a⟩) hS ?rest2_3a
      case hy2_3a => intro w hSw; (try dsimp only at hSw); go_simp; (try with_reducible rfl)
      case rest2_3a =>
      try simp only [List.getElem_toArray, List.getElem_cons_succ, List.getElem_cons_zero, Act.put, List.setIfInBounds_toArray, List.set_cons_zero, List.set_cons_succ]
      refine wpAnyG_take' (i := 3) (v := ?v3_4a) rfl (by kernel_rfl) (by kernel_rfl) (by kernel_rfl) (by kernel_rfl) (fun _ _ _ h => h) (Or.inl ⟨by rfl, ?hy3_4a⟩) hS ?rest3_4a
      case hy3_4a => intro w hSw; (try dsimp only at hSw); go_simp; (try with_reducible rfl)
      case rest3_4a =>
      try simp only [List.getElem_toArray, List.getElem_cons_succ, List.getElem_cons_zero, Act.put, List.setIfInBounds_toArray, List.set_cons_zero, List.set_cons_succ]
      refine wpAnyG_take' (i := 4) (v := ?v4_5a) rfl (by kernel_rfl) (by kernel_rfl) (by kernel_rfl) (by kernel_rfl) (fun _ _ _ h => h) (Or.inl ⟨by rfl, ?hy4_5a⟩) hS ?rest4_5a
      case hy4_5a => intro w hSw; (try dsimp only at hSw); go_simp; (try with_reducible rfl)
      case rest4_5a =>
      try simp only [List.getElem_toArray, List.getElem_cons_succ, List.getElem_cons_zero, Act.put, List.setIfInBounds_toArray, List.set_cons_zero, List.set_cons_succ]
      refine wpAnyG_take' (i := 5) (v := ?v5_6a) rfl (by kernel_rfl) (by kernel_rfl) (by kernel_rfl) (by kernel_rfl) (fun _ _ _ h => h) (Or.inl ⟨by rfl, ?hy5_6a⟩) hS ?rest5_6a
      case hy5_6a => intro w hSw; (try dsimp only at hSw); go_simp; (try with_reducible rfl)
      case rest5_6a =>
      try simp only [List.getElem_toArray, List.getElem_cons_succ, List.getElem_cons_zero, Act.put, List.setIfInBounds_toArray, List.set_cons_zero, List.set_cons_succ]
      refine wpAnyG_take' (i := 6) (v := ?v6_7a) rfl (by kernel_rfl) (by kernel_rfl) (by kernel_rfl) (by kernel_rfl) (fun _ _ _ h => h) (Or.inl ⟨by rfl, ?hy6_7a⟩) hS ?rest6_7a
      case hy6_7a => intro w hSw; (try dsimp only at hSw); go_simp; (try with_reducible rfl)
      case rest6_7a =>
      try simp only [List.getElem_toArray, List.getElem_cons_succ, List.getElem_cons_zero, Act.put, List.setIfInBounds_toArray, List.set_cons_zero, List.set_cons_succ]
      refine wpAnyG_take' (i := 7) (v := ?v7_8a) rfl (by kernel_rfl) (by kernel_rfl) (by kernel_rfl) (by kernel_rfl) (fun _ _ _ h => h) (Or.inl ⟨by rfl, ?hy7_8a⟩) hS ?rest7_8a
      case hy7_8a => intro w hSw; (try dsimp only at hSw); go_simp; (try with_reducible rfl)
      case rest7_8a =>
      try simp only [List.getElem_toArray, List.getElem_cons_succ, List.getElem_cons_zero, Act.put, List.setIfInBounds_toArray, List.set_cons_zero, List.set_cons_succ]
      refine wpAnyG_take' (i := 8) (v := ?v8_9a) rfl (by kernel_rfl) (by kernel_rfl) (by kernel_rfl) (by kernel_rfl) (fun _ _ _ h => h) (Or.inl ⟨by rfl, ?hy8_9a⟩) hS ?rest8_9a
      case hy8_9a => intro w hSw; (try dsimp only at hSw); go_simp; (try with_reducible rfl)
      case rest8_9a =>
      try simp only [List.getElem_toArray, List.getElem_cons_succ, List.getElem_cons_zero, Act.put, List.setIfInBounds_toArray, List.set_cons_zero, List.set_cons_succ]
      refine wpAnyG_take' (i := 9) (v := .agg #[.int .i64 n, .int .i64 k]) rfl (by kernel_rfl) (by kernel_rfl) (by kernel_rfl) (by kernel_rfl) (fun _ _ _ h => h) (Or.inl ⟨by rfl, ?hy9a⟩) hS ?res9a
      case hy9a => intro w hSw; exact exec_buildK _ _ rfl n k rfl rfl
      case res9a =>
      try simp only [List.getElem_toArray, List.getElem_cons_succ, List.getElem_cons_zero, Act.put, List.setIfInBounds_toArray, List.set_cons_zero, List.set_cons_succ]
      refine wpAnyG_take' (i := 10) (v := .tuple #[ovV q, .bool bb]) rfl (by kernel_rfl) (by kernel_rfl) (by kernel_rfl) (by kernel_rfl) (fun _ _ _ h => h) (Or.inl ⟨by rfl, ?hyaa⟩) hS ?resaa
      case hyaa => intro w hSw; exact exec_lookup _ _ _ _ rfl _ _ rfl rfl hSw.2.2
      case resaa =>
      try simp only [List.getElem_toArray, List.getElem_cons_succ, List.getElem_cons_zero, Act.put, List.setIfInBounds_toArray, List.set_cons_zero, List.set_cons_succ]
      refine wpAnyG_take' (i := 11) (v := ?v11_11a) rfl (by kernel_rfl) (by kernel_rfl) (by kernel_rfl) (by kernel_rfl) (fun _ _ _ h => h) (Or.inl ⟨by rfl, ?hy11_11a⟩) hS ?rest11_11a
      case hy11_11a => intro w hSw; (try dsimp only at hSw); go_simp; (try with_reducible rfl)
      case rest11_11a =>
      try simp only [List.getElem_toArray, List.getElem_cons_succ, List.getElem_cons_zero, Act.put, List.setIfInBounds_toArray, List.set_cons_zero, List.set_cons_succ]
      refine wpAnyG_take' (i := 12) (v := ?v12_12a) rfl (by kernel_rfl) (by kernel_rfl) (by kernel_rfl) (by kernel_rfl) (fun _ _ _ h => h) (Or.inl ⟨by rfl, ?hy12_12a⟩) hS ?rest12_12a
      case hy12_12a => intro w hSw; (try dsimp only at hSw); go_simp; (try with_reducible rfl)
      case rest12_12a =>
      try simp only [List.getElem_toArray, List.getElem_cons_succ, List.getElem_cons_zero, Act.put, List.setIfInBounds_toArray, List.set_cons_zero, List.set_cons_succ]
      refine wpAnyG_take' (i := 13) (v := ?v13_13a) rfl (by kernel_rfl) (by kernel_rfl) (by kernel_rfl) (by kernel_rfl) (fun _ _ _ h => h) (Or.inl ⟨by rfl, ?hy13_13a⟩) hS ?rest13_13a
      case hy13_13a => intro w hSw; (try dsimp only at hSw); go_simp; (try with_reducible rfl)
      case rest13_13a =>
      try simp only [List.getElem_toArray, List.getElem_cons_succ, List.getElem_cons_zero, Act.put, List.setIfInBounds_toArray, List.set_cons_zero, List.set_cons_succ]
      refine wpAnyG_one (i := 14) (by kernel_rfl) rfl (fun K hK => ?_)
      go_simp
      rw [← hW1, ← hb5]
      clear hW1 hb5
      refine hK.out _ _ (fun _ => ?hS14a) ?rest14a
      case hS14a => exact hS1
      clear K hK
      try simp only [List.getElem_toArray, List.getElem_cons_succ, List.getElem_cons_zero, Act.put, List.setIfInBounds_toArray, List.set_cons_zero, List.set_cons_succ]
      refine wpAnyG_one (i := 15) (by kernel_rfl) rfl (fun K hK => ?_)
      refine step_store_mid (by rfl) 33 (.tmp 5) (.tmp 26) (by rfl) b5 0 (ovC q) (by rfl) (by rfl) HTH.out (by kernel_rfl) HAL.out ?_
      rw [← hW2]
      clear hW2
      refine hK.out _ _ (fun _ => ?hS15a) ?rest15a
      case hS15a => exact hS2
      clear K hK
      try simp only [List.getElem_toArray, List.getElem_cons_succ, List.getElem_cons_zero, Act.put, List.setIfInBounds_toArray, List.set_cons_zero, List.set_cons_succ]
      refine wpAnyG_take' (i := 16) (v := ?v16_16a) rfl (by kernel_rfl) (by kernel_rfl) (by kernel_rfl) (by kernel_rfl) (fun _ _ _ h => h) (Or.inl ⟨by rfl, ?hy16_16a⟩) hS2 ?rest16_16a
      case hy16_16a => intro w hSw; (try dsimp only at hSw); go_simp; (try with_reducible rfl)
      case rest16_16a =>
      try simp only [List.getElem_toArray, List.getElem_cons_succ, List.getElem_cons_zero, Act.put, List.setIfInBounds_toArray, List.set_cons_zero, List.set_cons_succ]
      refine wpAnyG_done (by kernel_rfl) ?_ _
      try simp only [List.getElem_toArray, List.getElem_cons_succ, List.getElem_cons_zero, Act.put, List.setIfInBounds_toArray, List.set_cons_zero, List.set_cons_succ]
      have HS := Lib.hid hS2
      clear hS0 hS1 hS2
      cases bb with
      | false =>
        have hz : getO xs (k : Int) = none := by
          have := HBB.out.2
          cases e : getO xs (k : Int) with
          | none => rfl
          | some x => rw [e] at this; exact absurd this (by simp)
        have HF := Lib.hid (h3f.drop)
        have HZ := Lib.hid hz
        clear hz h3f
        (try dsimp only); repeat' (first | go_values | go_skip | go_guarded | go_step | go_upon | go_back)
        go_roundw
        case rel =>
          refine ⟨k + 1, av, cv, HKM.out, by go_num, ?_, ?_⟩
          · rw [byFr_succ, HZ.out]; simp
          · rw [byFr_succ, HZ.out, Option.toList_none, List.append_nil]; exact HF.out
        case measure => have := HKM.out; simp [intOf]; omega
      | true =>
        have hz : getO xs (k : Int) = some q := by
          have h1 := HBB.out.1
          have h2 := HBB.out.2
          cases e : getO xs (k : Int) with
          | none => rw [e] at h2; exact absurd h2 (by simp)
          | some x => rw [e] at h1; rw [h1]; rfl
        have h4 := h3f.alloc (.cells (ovC q) 68)
        have h5 : Sep w0 (Cl W2.heap.size (ovC q) 68 :: MsR (.slice av (byFr xs k).length cv) ((byFr xs k).map ovC) :: OcT g b n view :: OvT b (offS n xs) :: L) (W2.alloc (.cells (ovC q) 68)) := (Sep.pickL (M := [_, _, _]) h4 [0, 2] rfl)
        obtain ⟨a9, c9, w9, hr, h9⟩ := append_ms (ty := 71) h5 rfl (ov_one HVS.out (getO_mem hz).1) (by rw [List.length_map]; have := byFr_len xs k; have := HM.out; have := HKM.out; omega)
        rw [List.length_map] at hr h9
        have HR := Lib.hid hr
        have H9 := Lib.hid h9
        have HZ := Lib.hid hz
        clear h4 h5 hr h9 hz h3f
        (try dsimp only); repeat' (first | (with_reducible show wpList _ _ _ (Oper.mk _ (Op.load 33 _) _ _ _ _ :: _) _ _; refine stopP ?_) | go_values | go_skip | go_guarded | go_step | go_upon | go_back)
        unfold StopP
        have hq_ := HL.out
        refine wpList_load_run rfl 33 _ rfl _ _ rfl hq_ ?_
        clear hq_
        (try dsimp only); repeat' (first | (with_reducible show wpList _ _ _ (Oper.mk _ (Op.buildSlice _ _ _) _ _ _ _ :: _) _ _; refine stopP ?_) | (at_builtin; refine stopP ?_) | go_values | go_skip | go_guarded | go_step | go_upon | go_back)
        unfold StopP
        refine wpList_buildM rfl (.tmp 30) rfl (c := ovC q) rfl rfl ?_
        (try dsimp only); repeat' (first | (at_builtin; refine stopP ?_) | go_values | go_skip | go_guarded | go_step | go_upon | go_back)
        unfold StopP
        refine wpList_append_r rfl _ _ _ _ rfl rfl rfl HR.out ?_
        (try dsimp only); repeat' (first | go_values | go_skip | go_guarded | go_step | go_upon | go_back)
        go_roundw
        case rel => exact ⟨k + 1, a9, c9, HKM.out, by go_num, by rw [byFr_succ, HZ.out]; simp, by rw [byFr_succ, HZ.out, List.map_append]; exact H9.out⟩
        case measure => have := HKM.out; simp [intOf]; omega
    · have hd : decide ((k : Int) < n) = false := decide_eq_false (by have := HN.out; omega)
      have hkm' : k = m := by omega
      subst hkm'
      have HF := Lib.hid hs
      clear hs hk hkm
      (try dsimp only); repeat' (first | go_values | go_skip | go_guarded | go_step | go_upon | go_back)
      go_ret
      exact ⟨_, rfl, HF.out⟩
end Go.Proofs.YthgndegjiodopaaDoor
