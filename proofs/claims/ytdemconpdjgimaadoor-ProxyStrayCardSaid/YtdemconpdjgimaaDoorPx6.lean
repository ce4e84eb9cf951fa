/- A proxy: Take. -/
import Derived.Test.YtdemconpdjgimaaDoorPx5
namespace Go.Proofs.YtdemconpdjgimaaDoor
open Go.RowKit
set_option linter.unusedVariables false
set_option linter.unusedSimpArgs false
theorem cells3p {w0 w : World} {b : Nat} {v0 v1 v2 : Value} {t : TypeId} {L : List Thing} (h : Sep w0 (Cl b #[v0, v1, v2] t :: L) w) :
    w.cell? ⟨b, 0, none⟩ = some v0 ∧ w.cell? ⟨b, 1, none⟩ = some v1 ∧ w.cell? ⟨b, 2, none⟩ = some v2 := ⟨h.cell rfl, h.cell rfl, h.cell rfl⟩
theorem store3p {w0 w : World} {b : Nat} {v0 v1 v2 u0 u1 u2 : Value} {t : TypeId} {L : List Thing} (h : Sep w0 (Cl b #[v0, v1, v2] t :: L) w) :
    Sep w0 (Cl b #[u0, u1, u2] t :: L) (((w.setCell ⟨b, 0, none⟩ u0).setCell ⟨b, 1, none⟩ u1).setCell ⟨b, 2, none⟩ u2) := ((h.setCell 0 _).setCell 1 _).setCell 2 _
def maxI (a b : Int) : Int := if a < b then b else a
variable {w0 w : World} {g gc gt b : Nat} {cl num view : Int} {wt st : Bool} {k o : Int} {lv tp : Value} {S : List (Bal × Nat)} {L : List Thing} {mk mf mt mv mo mc ml ec em rc ra rb : Int} {ms : Bool} {la lc ea : Option Addr} {kl kc ke : Nat}
theorem step_max_run {P : Program} {ops : Array Oper} {o : Oper} {a : Act} {w : World} {K : Act → World → Prop} {Q : Exit → Act → World → Prop} {E : Prop}
    (hg : o.guard = none) (d x : Operand) (dT sT : TypeId) (hop : o.op = Op.call { callee := Callee.builtin Builtin.max, args := #[d, x], argTypes := #[dT, sT] })
    {p q v : Value} (hd : a.eval d = p) (hx : a.eval x = q) (hr : (Builtin.max_ #[dT, sT] o.type #[p, q]).run P w = .ok v w) (hK : K (a.put o.dst v) w) :
    if Region.wanted o (yielded ops a.tmps) = true then Oper.wp P o a w K Q else E := by
  have hw : Region.wanted o (yielded ops a.tmps) = true := by simp [Region.wanted, hg]
  rw [if_pos hw]
  unfold Oper.wp
  simp [execOp, hop, resolve, invoke, builtin, hd, hx, hr, Result.andThen]
  exact hK
theorem max_run (ty : TypeId) (p q : Int) (w : World) : (Builtin.max_ #[3, 3] ty #[.int .i64 p, .int .i64 q]).run Tryd.prog w = .ok (.int .i64 (maxI p q)) w := by
  unfold maxI
  by_cases h : p < q
  · rw [if_pos h]
    simp [go_sem, h]
  · rw [if_neg h]
    simp [go_sem, h]
set_option maxRecDepth 100000 in
set_option maxHeartbeats 16000000 in
theorem pxtake_no {n : Int} (h : Sep w0 (PrxC g gc cl n num view wt st k o lv tp :: L) w) (hC : ∀ wx M, Sep w0 (PrxC g gc cl n num view wt st k o lv tp :: M) wx → Calls Tryd.prog 21 #[.pointer (some ⟨g, 0, none⟩), .agg (msC ⟨mk, mf, mt, mv, mo, mc, ml, ec, em, rc, ra, rb, ms⟩ (.slice la 0 kl) (.slice lc 0 kc) (.slice ea 0 ke))] wx fun e w' => e = .returned (.bool false) ∧ Sep w0 (PrxC g gc cl n num view wt st k o lv tp :: M) w') :
    Calls Tryd.prog 11 #[.pointer (some ⟨g, 0, none⟩), .agg (msC ⟨mk, mf, mt, mv, mo, mc, ml, ec, em, rc, ra, rb, ms⟩ (.slice la 0 kl) (.slice lc 0 kc) (.slice ea 0 ke))] w fun e w' => e = .returned (.tuple #[.agg #[.int .i64 0, .int .i64 0, .int .i64 0], .int .i64 0, .bool false, .bool false]) ∧ Sep w0 (PrxC g gc cl n num view wt st k o lv tp :: L) w' := by
  obtain ⟨bm, hbm⟩ : ∃ z, z = w.heap.size := ⟨_, rfl⟩
  obtain ⟨br, hbr⟩ : ∃ z, z = bm + 1 := ⟨_, rfl⟩
  obtain ⟨w3, hw3⟩ : ∃ z, z = (w.alloc (.cells #[.int .i64 mk, .int .i64 mf, .int .i64 mt, .int .i64 mv, .int .i64 mo, .int .i64 mc, .int .i64 ml, .int .i64 ec, .int .i64 em, .int .i64 0, .string ⟨#[]⟩, .int .i64 0, .int .i64 0, .slice la 0 kl, .int .i64 rc, .int .i64 ra, .int .i64 rb, .bool ms, .int .i64 0, .slice lc 0 kc, .slice ea 0 ke, .int .i64 0] 44)).alloc (.cells #[.int .i64 0, .int .i64 0, .int .i64 0] 38) := ⟨_, rfl⟩
  have hh3 : Sep w0 (Cl br #[.int .i64 0, .int .i64 0, .int .i64 0] 38 :: Cl bm (msC ⟨mk, mf, mt, mv, mo, mc, ml, ec, em, rc, ra, rb, ms⟩ (.slice la 0 kl) (.slice lc 0 kc) (.slice ea 0 ke)) 44 :: PrxC g gc cl n num view wt st k o lv tp :: L) w3 := by
    have x1 := h.alloc (.cells (msC ⟨mk, mf, mt, mv, mo, mc, ml, ec, em, rc, ra, rb, ms⟩ (.slice la 0 kl) (.slice lc 0 kc) (.slice ea 0 ke)) 44)
    have x2 := x1.alloc (.cells #[.int .i64 0, .int .i64 0, .int .i64 0] 38)
    rw [show (w.alloc (.cells (msC ⟨mk, mf, mt, mv, mo, mc, ml, ec, em, rc, ra, rb, ms⟩ (.slice la 0 kl) (.slice lc 0 kc) (.slice ea 0 ke)) 44)).heap.size = w.heap.size + 1 by simp] at x2
    rw [hbr, hbm, hw3]
    exact x2
  have HN := Lib.hid (pxnone_any hh3.sw3)
  have hl := hh3.sw2.loadMs
  have hq : Sep w0 (PrxC g gc cl n num view wt st k o lv tp :: Cl br #[.int .i64 0, .int .i64 0, .int .i64 0] 38 :: Cl bm (msC ⟨mk, mf, mt, mv, mo, mc, ml, ec, em, rc, ra, rb, ms⟩ (.slice la 0 kl) (.slice lc 0 kc) (.slice ea 0 ke)) 44 :: L) w3 := hh3.sw3
  have hc := hC _ _ hq
  unfold msC at hl hc
  dsimp only at hl hc
  have HL := Lib.hid hl
  have HC := Lib.hid hc
  clear h hh3 hq hl hc hC
  go_enter Tryd.func11, Tryd.ntmps11
  unfold msC
  (try dsimp only); repeat' (first | go_values | go_skip | go_guarded | go_step | go_upon | go_back)
  rw [← hw3, ← hbm, ← hbr]
  clear hw3 hbm hbr
  refine HN.out.mono ?_
  rintro r0 w1 ⟨rfl, rfl⟩
  clear HN
  (try dsimp only); repeat' (first | (refine opwp_load_run 44 _ rfl _ _ rfl HL.out ?_; clear HL) | (refine wpList_load_run rfl 44 _ rfl _ _ rfl HL.out ?_; clear HL) | go_values | go_skip | go_guarded | go_step | go_upon | go_back)
  refine HC.out.mono ?_
  rintro r0 w4 ⟨rfl, h4⟩
  clear HC
  have hz : Sep w0 (Cl br #[.int .i64 0, .int .i64 0, .int .i64 0] 38 :: PrxC g gc cl n num view wt st k o lv tp :: Cl bm (msC ⟨mk, mf, mt, mv, mo, mc, ml, ec, em, rc, ra, rb, ms⟩ (.slice la 0 kl) (.slice lc 0 kc) (.slice ea 0 ke)) 44 :: L) w4 := h4.sw2
  clear h4
  obtain ⟨z0, z1, z2⟩ := cells3p hz
  have zf0 := hz.frozen 0
  have zf1 := hz.frozen 1
  have zf2 := hz.frozen 2
  have h9 := store3p (u0 := .int .i64 0) (u1 := .int .i64 0) (u2 := .int .i64 0) hz
  obtain ⟨y0, y1, y2⟩ := cells3p h9
  have H9 := Lib.hid h9
  clear hz h9
  (try dsimp only); repeat' (first | go_values | go_skip | go_guarded | go_step | go_upon | go_back)
  exact bodyPost_ret (v := .tuple #[.agg #[.int .i64 0, .int .i64 0, .int .i64 0], .int .i64 0, .bool false, .bool false]) (by simp [results, Tryd.results11, go_sem, y0, y1, y2]) rfl ⟨rfl, H9.out.pickL (M := [_, _, _]) [1] rfl⟩
set_option maxRecDepth 100000 in
set_option maxHeartbeats 16000000 in
theorem pxtake_busy {n : Int} (h : Sep w0 (PrxC g gc cl n num view wt st k o lv tp :: L) w) (hC : ∀ wx M, Sep w0 (PrxC g gc cl n num view wt st k o lv tp :: M) wx → Calls Tryd.prog 21 #[.pointer (some ⟨g, 0, none⟩), .agg (msC ⟨10, mf, mt, mv, mo, mc, ml, ec, em, rc, ra, rb, ms⟩ (.slice la 0 kl) (.slice lc 0 kc) (.slice ea 0 ke))] wx fun e w' => e = .returned (.bool true) ∧ Sep w0 (PrxC g gc cl n num view wt st k o lv tp :: M) w') :
    Calls Tryd.prog 11 #[.pointer (some ⟨g, 0, none⟩), .agg (msC ⟨10, mf, mt, mv, mo, mc, ml, ec, em, rc, ra, rb, ms⟩ (.slice la 0 kl) (.slice lc 0 kc) (.slice ea 0 ke))] w fun e w' => e = .returned (.tuple #[.agg #[.int .i64 0, .int .i64 0, .int .i64 0], .int .i64 0, .bool false, .bool false]) ∧ Sep w0 (PrxC g gc cl n num (maxI view mv) wt st k o lv tp :: L) w' := by
  obtain ⟨bm, hbm⟩ : ∃ z, z = w.heap.size := ⟨_, rfl⟩
  obtain ⟨br, hbr⟩ : ∃ z, z = bm + 1 := ⟨_, rfl⟩
  obtain ⟨w3, hw3⟩ : ∃ z, z = (w.alloc (.cells #[.int .i64 10, .int .i64 mf, .int .i64 mt, .int .i64 mv, .int .i64 mo, .int .i64 mc, .int .i64 ml, .int .i64 ec, .int .i64 em, .int .i64 0, .string ⟨#[]⟩, .int .i64 0, .int .i64 0, .slice la 0 kl, .int .i64 rc, .int .i64 ra, .int .i64 rb, .bool ms, .int .i64 0, .slice lc 0 kc, .slice ea 0 ke, .int .i64 0] 44)).alloc (.cells #[.int .i64 0, .int .i64 0, .int .i64 0] 38) := ⟨_, rfl⟩
  have hh3 : Sep w0 (Cl br #[.int .i64 0, .int .i64 0, .int .i64 0] 38 :: Cl bm (msC ⟨10, mf, mt, mv, mo, mc, ml, ec, em, rc, ra, rb, ms⟩ (.slice la 0 kl) (.slice lc 0 kc) (.slice ea 0 ke)) 44 :: PrxC g gc cl n num view wt st k o lv tp :: L) w3 := by
    have x1 := h.alloc (.cells (msC ⟨10, mf, mt, mv, mo, mc, ml, ec, em, rc, ra, rb, ms⟩ (.slice la 0 kl) (.slice lc 0 kc) (.slice ea 0 ke)) 44)
    have x2 := x1.alloc (.cells #[.int .i64 0, .int .i64 0, .int .i64 0] 38)
    rw [show (w.alloc (.cells (msC ⟨10, mf, mt, mv, mo, mc, ml, ec, em, rc, ra, rb, ms⟩ (.slice la 0 kl) (.slice lc 0 kc) (.slice ea 0 ke)) 44)).heap.size = w.heap.size + 1 by simp] at x2
    rw [hbr, hbm, hw3]
    exact x2
  have HN := Lib.hid (pxnone_any hh3.sw3)
  have hl := hh3.sw2.loadMs
  have hq : Sep w0 (PrxC g gc cl n num view wt st k o lv tp :: Cl br #[.int .i64 0, .int .i64 0, .int .i64 0] 38 :: Cl bm (msC ⟨10, mf, mt, mv, mo, mc, ml, ec, em, rc, ra, rb, ms⟩ (.slice la 0 kl) (.slice lc 0 kc) (.slice ea 0 ke)) 44 :: L) w3 := hh3.sw3
  have hc := hC _ _ hq
  unfold msC at hl hc
  dsimp only at hl hc
  have HL := Lib.hid hl
  have HC := Lib.hid hc
  clear h hh3 hq hl hc hC
  go_enter Tryd.func11, Tryd.ntmps11
  unfold msC
  (try dsimp only); repeat' (first | go_values | go_skip | go_guarded | go_step | go_upon | go_back)
  rw [← hw3, ← hbm, ← hbr]
  clear hw3 hbm hbr
  refine HN.out.mono ?_
  rintro r0 w1 ⟨rfl, rfl⟩
  clear HN
  (try dsimp only); repeat' (first | (refine opwp_load_run 44 _ rfl _ _ rfl HL.out ?_; clear HL) | (refine wpList_load_run rfl 44 _ rfl _ _ rfl HL.out ?_; clear HL) | go_values | go_skip | go_guarded | go_step | go_upon | go_back)
  refine HC.out.mono ?_
  rintro r0 w4 ⟨rfl, h4⟩
  clear HC
  have e4 := h4.cell (o := 4) rfl
  have f4 := h4.frozen 4
  have d3 := h4.sw3.cell (o := 3) rfl
  have h5 : Sep w0 (PrxC g gc cl n num (maxI view mv) wt st k o lv tp :: Cl br #[.int .i64 0, .int .i64 0, .int .i64 0] 38 :: Cl bm #[.int .i64 10, .int .i64 mf, .int .i64 mt, .int .i64 mv, .int .i64 mo, .int .i64 mc, .int .i64 ml, .int .i64 ec, .int .i64 em, .int .i64 0, .string ⟨#[]⟩, .int .i64 0, .int .i64 0, .slice la 0 kl, .int .i64 rc, .int .i64 ra, .int .i64 rb, .bool ms, .int .i64 0, .slice lc 0 kc, .slice ea 0 ke, .int .i64 0] 44 :: L) (w4.setCell ⟨g, 4, none⟩ (.int .i64 (maxI view mv))).drew := (h4.setCell 4 _).drew
  have H5 := Lib.hid h5
  clear h4 h5
  (try dsimp only); repeat' (first | go_values | go_skip | go_guarded | go_step | go_upon | go_back)
  refine wp_region_G (fun w' => w'.cell? ⟨g, 4, none⟩ = some (.int .i64 view) ∧ w'.cell? ⟨bm, 3, none⟩ = some (.int .i64 mv) ∧ w'.frozen? ⟨g, 4, none⟩ = false) [10] (by kernel_rfl) ⟨e4, d3, f4⟩ (fun hS => ?_)
  try dsimp only at hS
  refine wpAnyG_take' (i := 0) (v := ?v0_1tk) rfl (by kernel_rfl) (by kernel_rfl) (by kernel_rfl) (by kernel_rfl) (fun _ _ _ h => h) (Or.inl ⟨by rfl, ?hy0_1tk⟩) hS ?rest0_1tk
  case hy0_1tk => intro w hSw; (try dsimp only at hSw); go_simp; (try with_reducible rfl)
  case rest0_1tk =>
  try simp only [List.getElem_toArray, List.getElem_cons_succ, List.getElem_cons_zero, Act.put, List.setIfInBounds_toArray, List.set_cons_zero, List.set_cons_succ]
  refine wpAnyG_take' (i := 1) (v := ?v1_2tk) rfl (by kernel_rfl) (by kernel_rfl) (by kernel_rfl) (by kernel_rfl) (fun _ _ _ h => h) (Or.inl ⟨by rfl, ?hy1_2tk⟩) hS ?rest1_2tk
  case hy1_2tk => intro w hSw; (try dsimp only at hSw); go_simp; (try with_reducible rfl)
  case rest1_2tk =>
  try simp only [List.getElem_toArray, List.getElem_cons_succ, List.getElem_cons_zero, Act.put, List.setIfInBounds_toArray, List.set_cons_zero, List.set_cons_succ]
  refine wpAnyG_take' (i := 2) (v := ?v2_3tk) rfl (by kernel_rfl) (by kernel_rfl) (by kernel_rfl) (by kernel_rfl) (fun _ _ _ h => h) (Or.inl ⟨by rfl, ?hy2_3tk⟩) hS ?rest2_3tk
  case hy2_3tk => intro w hSw; (try dsimp only at hSw); go_simp; (try with_reducible rfl)
  case rest2_3tk =>
  try simp only [List.getElem_toArray, List.getElem_cons_succ, List.getElem_cons_zero, Act.put, List.setIfInBounds_toArray, List.set_cons_zero, List.set_cons_succ]
  refine wpAnyG_take' (i := 3) (v := ?v3_4tk) rfl (by kernel_rfl) (by kernel_rfl) (by kernel_rfl) (by kernel_rfl) (fun _ _ _ h => h) (Or.inl ⟨by rfl, ?hy3_4tk⟩) hS ?rest3_4tk
  case hy3_4tk => intro w hSw; (try dsimp only at hSw); go_simp; (try with_reducible rfl)
  case rest3_4tk =>
  try simp only [List.getElem_toArray, List.getElem_cons_succ, List.getElem_cons_zero, Act.put, List.setIfInBounds_toArray, List.set_cons_zero, List.set_cons_succ]
  refine wpAnyG_take' (i := 4) (v := ?v4_5tk) rfl (by kernel_rfl) (by kernel_rfl) (by kernel_rfl) (by kernel_rfl) (fun _ _ _ h => h) (Or.inl ⟨by rfl, ?hy4_5tk⟩) hS ?rest4_5tk
  case hy4_5tk => intro w hSw; (try dsimp only at hSw); go_simp; (try with_reducible rfl)
  case rest4_5tk =>
  try simp only [List.getElem_toArray, List.getElem_cons_succ, List.getElem_cons_zero, Act.put, List.setIfInBounds_toArray, List.set_cons_zero, List.set_cons_succ]
  refine wpAnyG_take' (i := 5) (v := ?v5_6tk) rfl (by kernel_rfl) (by kernel_rfl) (by kernel_rfl) (by kernel_rfl) (fun _ _ _ h => h) (Or.inl ⟨by rfl, ?hy5_6tk⟩) hS ?rest5_6tk
  case hy5_6tk => intro w hSw; (try dsimp only at hSw); go_simp; (try with_reducible rfl)
  case rest5_6tk =>
  try simp only [List.getElem_toArray, List.getElem_cons_succ, List.getElem_cons_zero, Act.put, List.setIfInBounds_toArray, List.set_cons_zero, List.set_cons_succ]
  refine wpAnyG_take' (i := 6) (v := ?v6_7tk) rfl (by kernel_rfl) (by kernel_rfl) (by kernel_rfl) (by kernel_rfl) (fun _ _ _ h => h) (Or.inl ⟨by rfl, ?hy6_7tk⟩) hS ?rest6_7tk
  case hy6_7tk => intro w hSw; (try dsimp only at hSw); go_simp; (try with_reducible rfl)
  case rest6_7tk =>
  try simp only [List.getElem_toArray, List.getElem_cons_succ, List.getElem_cons_zero, Act.put, List.setIfInBounds_toArray, List.set_cons_zero, List.set_cons_succ]
  refine wpAnyG_one (i := 7) (by kernel_rfl) rfl (fun K hK => ?_)
  refine step_max_run rfl _ _ _ _ (by rfl) (by rfl) (by rfl) (max_run _ view mv _) ?_
  refine hK.out _ _ (fun _ => ?hS8tk) ?rest8tk
  case hS8tk => exact ⟨e4, d3, f4⟩
  clear K hK
  try simp only [List.getElem_toArray, List.getElem_cons_succ, List.getElem_cons_zero, Act.put, List.setIfInBounds_toArray, List.set_cons_zero, List.set_cons_succ]
  refine wpAnyG_take' (i := 8) (v := ?v8_9tk) rfl (by kernel_rfl) (by kernel_rfl) (by kernel_rfl) (by kernel_rfl) (fun _ _ _ h => h) (Or.inl ⟨by rfl, ?hy8_9tk⟩) hS ?rest8_9tk
  case hy8_9tk => intro w hSw; (try dsimp only at hSw); go_simp; (try with_reducible rfl)
  case rest8_9tk =>
  try simp only [List.getElem_toArray, List.getElem_cons_succ, List.getElem_cons_zero, Act.put, List.setIfInBounds_toArray, List.set_cons_zero, List.set_cons_succ]
  refine wpAnyG_take' (i := 9) (v := ?v9_10tk) rfl (by kernel_rfl) (by kernel_rfl) (by kernel_rfl) (by kernel_rfl) (fun _ _ _ h => h) (Or.inl ⟨by rfl, ?hy9_10tk⟩) hS ?rest9_10tk
  case hy9_10tk => intro w hSw; (try dsimp only at hSw); go_simp; (try with_reducible rfl)
  case rest9_10tk =>
  try simp only [List.getElem_toArray, List.getElem_cons_succ, List.getElem_cons_zero, Act.put, List.setIfInBounds_toArray, List.set_cons_zero, List.set_cons_succ]
  refine wpAnyG_one (i := 10) (by kernel_rfl) rfl (fun K hK => ?_)
  go_simp
  refine hK.out _ _ (fun hno => by cases hno) ?_
  clear K hK
  try simp only [List.getElem_toArray, List.getElem_cons_succ, List.getElem_cons_zero, Act.put, List.setIfInBounds_toArray, List.set_cons_zero, List.set_cons_succ]
  refine wpAnyG_done (by kernel_rfl) ?_ _
  try simp only [List.getElem_toArray, List.getElem_cons_succ, List.getElem_cons_zero, Act.put, List.setIfInBounds_toArray, List.set_cons_zero, List.set_cons_succ]
  clear hS e4 d3 f4
  obtain ⟨w5, hw5⟩ : ∃ z, z = (w4.setCell ⟨g, 4, none⟩ (.int .i64 (maxI view mv))).drew := ⟨_, rfl⟩
  rw [← hw5] at H5 ⊢
  clear hw5
  have d0 := H5.out.sw3.cell (o := 0) rfl
  have hz : Sep w0 (Cl br #[.int .i64 0, .int .i64 0, .int .i64 0] 38 :: PrxC g gc cl n num (maxI view mv) wt st k o lv tp :: Cl bm #[.int .i64 10, .int .i64 mf, .int .i64 mt, .int .i64 mv, .int .i64 mo, .int .i64 mc, .int .i64 ml, .int .i64 ec, .int .i64 em, .int .i64 0, .string ⟨#[]⟩, .int .i64 0, .int .i64 0, .slice la 0 kl, .int .i64 rc, .int .i64 ra, .int .i64 rb, .bool ms, .int .i64 0, .slice lc 0 kc, .slice ea 0 ke, .int .i64 0] 44 :: L) w5 := H5.out.sw2
  clear H5
  obtain ⟨z0, z1, z2⟩ := cells3p hz
  have zf0 := hz.frozen 0
  have zf1 := hz.frozen 1
  have zf2 := hz.frozen 2
  have h9 := store3p (u0 := .int .i64 0) (u1 := .int .i64 0) (u2 := .int .i64 0) hz
  obtain ⟨y0, y1, y2⟩ := cells3p h9
  have H9 := Lib.hid h9
  clear hz h9
  (try dsimp only); repeat' (first | go_values | go_skip | go_guarded | go_step | go_upon | go_back)
  exact bodyPost_ret (v := .tuple #[.agg #[.int .i64 0, .int .i64 0, .int .i64 0], .int .i64 0, .bool false, .bool false]) (by simp [results, Tryd.results11, go_sem, y0, y1, y2]) rfl ⟨rfl, H9.out.pickL (M := [_, _, _]) [1] rfl⟩
set_option maxRecDepth 100000 in
set_option maxHeartbeats 16000000 in
theorem pxtake_sure {n : Int} (h : Sep w0 (PrxC g gc cl n num view wt st k o lv tp :: L) w) (hC : ∀ wx M, Sep w0 (PrxC g gc cl n num view wt st k o lv tp :: M) wx → Calls Tryd.prog 21 #[.pointer (some ⟨g, 0, none⟩), .agg (msC ⟨2, mf, mt, mv, mo, mc, ml, ec, em, rc, ra, rb, true⟩ (.slice la 0 kl) (.slice lc 0 kc) (.slice ea 0 ke))] wx fun e w' => e = .returned (.bool true) ∧ Sep w0 (PrxC g gc cl n num view wt st k o lv tp :: M) w') :
    Calls Tryd.prog 11 #[.pointer (some ⟨g, 0, none⟩), .agg (msC ⟨2, mf, mt, mv, mo, mc, ml, ec, em, rc, ra, rb, true⟩ (.slice la 0 kl) (.slice lc 0 kc) (.slice ea 0 ke))] w fun e w' => e = .returned (.tuple #[.agg #[.int .i64 rc, .int .i64 ra, .int .i64 rb], .int .i64 mo, .bool true, .bool true]) ∧ Sep w0 (PrxC g gc cl n num (maxI view mv) false st 0 0 (.slice none 0 0) (.pointer none) :: L) w' := by
  obtain ⟨bm, hbm⟩ : ∃ z, z = w.heap.size := ⟨_, rfl⟩
  obtain ⟨br, hbr⟩ : ∃ z, z = bm + 1 := ⟨_, rfl⟩
  obtain ⟨w3, hw3⟩ : ∃ z, z = (w.alloc (.cells #[.int .i64 2, .int .i64 mf, .int .i64 mt, .int .i64 mv, .int .i64 mo, .int .i64 mc, .int .i64 ml, .int .i64 ec, .int .i64 em, .int .i64 0, .string ⟨#[]⟩, .int .i64 0, .int .i64 0, .slice la 0 kl, .int .i64 rc, .int .i64 ra, .int .i64 rb, .bool true, .int .i64 0, .slice lc 0 kc, .slice ea 0 ke, .int .i64 0] 44)).alloc (.cells #[.int .i64 0, .int .i64 0, .int .i64 0] 38) := ⟨_, rfl⟩
  have hh3 : Sep w0 (Cl br #[.int .i64 0, .int .i64 0, .int .i64 0] 38 :: Cl bm (msC ⟨2, mf, mt, mv, mo, mc, ml, ec, em, rc, ra, rb, true⟩ (.slice la 0 kl) (.slice lc 0 kc) (.slice ea 0 ke)) 44 :: PrxC g gc cl n num view wt st k o lv tp :: L) w3 := by
    have x1 := h.alloc (.cells (msC ⟨2, mf, mt, mv, mo, mc, ml, ec, em, rc, ra, rb, true⟩ (.slice la 0 kl) (.slice lc 0 kc) (.slice ea 0 ke)) 44)
    have x2 := x1.alloc (.cells #[.int .i64 0, .int .i64 0, .int .i64 0] 38)
    rw [show (w.alloc (.cells (msC ⟨2, mf, mt, mv, mo, mc, ml, ec, em, rc, ra, rb, true⟩ (.slice la 0 kl) (.slice lc 0 kc) (.slice ea 0 ke)) 44)).heap.size = w.heap.size + 1 by simp] at x2
    rw [hbr, hbm, hw3]
    exact x2
  have HN := Lib.hid (pxnone_any hh3.sw3)
  have hl := hh3.sw2.loadMs
  have hq : Sep w0 (PrxC g gc cl n num view wt st k o lv tp :: Cl br #[.int .i64 0, .int .i64 0, .int .i64 0] 38 :: Cl bm (msC ⟨2, mf, mt, mv, mo, mc, ml, ec, em, rc, ra, rb, true⟩ (.slice la 0 kl) (.slice lc 0 kc) (.slice ea 0 ke)) 44 :: L) w3 := hh3.sw3
  have hc := hC _ _ hq
  unfold msC at hl hc
  dsimp only at hl hc
  have HL := Lib.hid hl
  have HC := Lib.hid hc
  clear h hh3 hq hl hc hC
  go_enter Tryd.func11, Tryd.ntmps11
  unfold msC
  (try dsimp only); repeat' (first | go_values | go_skip | go_guarded | go_step | go_upon | go_back)
  rw [← hw3, ← hbm, ← hbr]
  clear hw3 hbm hbr
  refine HN.out.mono ?_
  rintro r0 w1 ⟨rfl, rfl⟩
  clear HN
  (try dsimp only); repeat' (first | (refine opwp_load_run 44 _ rfl _ _ rfl HL.out ?_; clear HL) | (refine wpList_load_run rfl 44 _ rfl _ _ rfl HL.out ?_; clear HL) | go_values | go_skip | go_guarded | go_step | go_upon | go_back)
  refine HC.out.mono ?_
  rintro r0 w4 ⟨rfl, h4⟩
  clear HC
  have e4 := h4.cell (o := 4) rfl
  have f4 := h4.frozen 4
  have d3 := h4.sw3.cell (o := 3) rfl
  have h5 : Sep w0 (PrxC g gc cl n num (maxI view mv) wt st k o lv tp :: Cl br #[.int .i64 0, .int .i64 0, .int .i64 0] 38 :: Cl bm #[.int .i64 2, .int .i64 mf, .int .i64 mt, .int .i64 mv, .int .i64 mo, .int .i64 mc, .int .i64 ml, .int .i64 ec, .int .i64 em, .int .i64 0, .string ⟨#[]⟩, .int .i64 0, .int .i64 0, .slice la 0 kl, .int .i64 rc, .int .i64 ra, .int .i64 rb, .bool true, .int .i64 0, .slice lc 0 kc, .slice ea 0 ke, .int .i64 0] 44 :: L) (w4.setCell ⟨g, 4, none⟩ (.int .i64 (maxI view mv))).drew := (h4.setCell 4 _).drew
  have H5 := Lib.hid h5
  clear h4 h5
  (try dsimp only); repeat' (first | go_values | go_skip | go_guarded | go_step | go_upon | go_back)
  refine wp_region_G (fun w' => w'.cell? ⟨g, 4, none⟩ = some (.int .i64 view) ∧ w'.cell? ⟨bm, 3, none⟩ = some (.int .i64 mv) ∧ w'.frozen? ⟨g, 4, none⟩ = false) [10] (by kernel_rfl) ⟨e4, d3, f4⟩ (fun hS => ?_)
  try dsimp only at hS
  refine wpAnyG_take' (i := 0) (v := ?v0_1tk) rfl (by kernel_rfl) (by kernel_rfl) (by kernel_rfl) (by kernel_rfl) (fun _ _ _ h => h) (Or.inl ⟨by rfl, ?hy0_1tk⟩) hS ?rest0_1tk
  case hy0_1tk => intro w hSw; (try dsimp only at hSw); go_simp; (try with_reducible rfl)
  case rest0_1tk =>
  try simp only [List.getElem_toArray, List.getElem_cons_succ, List.getElem_cons_zero, Act.put, List.setIfInBounds_toArray, List.set_cons_zero, List.set_cons_succ]
  refine wpAnyG_take' (i := 1) (v := ?v1_2tk) rfl (by kernel_rfl) (by kernel_rfl) (by kernel_rfl) (by kernel_rfl) (fun _ _ _ h => h) (Or.inl ⟨by rfl, ?hy1_2tk⟩) hS ?rest1_2tk
  case hy1_2tk => intro w hSw; (try dsimp only at hSw); go_simp; (try with_reducible rfl)
  case rest1_2tk =>
  try simp only [List.getElem_toArray, List.getElem_cons_succ, List.getElem_cons_zero, Act.put, List.setIfInBounds_toArray, List.set_cons_zero, List.set_cons_succ]
  refine wpAnyG_take' (i := 2) (v := ?v2_3tk) rfl (by kernel_rfl) (by kernel_rfl) (by kernel_rfl) (by kernel_rfl) (fun _ _ _ h => h) (Or.inl ⟨by rfl, ?hy2_3tk⟩) hS ?rest2_3tk
  case hy2_3tk => intro w hSw; (try dsimp only at hSw); go_simp; (try with_reducible rfl)
  case rest2_3tk =>
  try simp only [List.getElem_toArray, List.getElem_cons_succ, List.getElem_cons_zero, Act.put, List.setIfInBounds_toArray, List.set_cons_zero, List.set_cons_succ]
  refine wpAnyG_take' (i := 3) (v := ?v3_4tk) rfl (by kernel_rfl) (by kernel_rfl) (by kernel_rfl) (by kernel_rfl) (fun _ _ _ h => h) (Or.inl ⟨by rfl, ?hy3_4tk⟩) hS ?rest3_4tk
  case hy3_4tk => intro w hSw; (try dsimp only at hSw); go_simp; (try with_reducible rfl)
  case rest3_4tk =>
  try simp only [List.getElem_toArray, List.getElem_cons_succ, List.getElem_cons_zero, Act.put, List.setIfInBounds_toArray, List.set_cons_zero, List.set_cons_succ]
  refine wpAnyG_take' (i := 4) (v := ?v4_5tk) rfl (by kernel_rfl) (by kernel_rfl) (by kernel_rfl) (by kernel_rfl) (fun _ _ _ h => h) (Or.inl ⟨by rfl, ?hy4_5tk⟩) hS ?rest4_5tk
  case hy4_5tk => intro w hSw; (try dsimp only at hSw); go_simp; (try with_reducible rfl)
  case rest4_5tk =>
  try simp only [List.getElem_toArray, List.getElem_cons_succ, List.getElem_cons_zero, Act.put, List.setIfInBounds_toArray, List.set_cons_zero, List.set_cons_succ]
  refine wpAnyG_take' (i := 5) (v := ?v5_6tk) rfl (by kernel_rfl) (by kernel_rfl) (by kernel_rfl) (by kernel_rfl) (fun _ _ _ h => h) (Or.inl ⟨by rfl, ?hy5_6tk⟩) hS ?rest5_6tk
  case hy5_6tk => intro w hSw; (try dsimp only at hSw); go_simp; (try with_reducible rfl)
  case rest5_6tk =>
  try simp only [List.getElem_toArray, List.getElem_cons_succ, List.getElem_cons_zero, Act.put, List.setIfInBounds_toArray, List.set_cons_zero, List.set_cons_succ]
  refine wpAnyG_take' (i := 6) (v := ?v6_7tk) rfl (by kernel_rfl) (by kernel_rfl) (by kernel_rfl) (by kernel_rfl) (fun _ _ _ h => h) (Or.inl ⟨by rfl, ?hy6_7tk⟩) hS ?rest6_7tk
  case hy6_7tk => intro w hSw; (try dsimp only at hSw); go_simp; (try with_reducible rfl)
  case rest6_7tk =>
  try simp only [List.getElem_toArray, List.getElem_cons_succ, List.getElem_cons_zero, Act.put, List.setIfInBounds_toArray, List.set_cons_zero, List.set_cons_succ]
  refine wpAnyG_one (i := 7) (by kernel_rfl) rfl (fun K hK => ?_)
  refine step_max_run rfl _ _ _ _ (by rfl) (by rfl) (by rfl) (max_run _ view mv _) ?_
  refine hK.out _ _ (fun _ => ?hS8tk) ?rest8tk
  case hS8tk => exact ⟨e4, d3, f4⟩
  clear K hK
  try simp only [List.getElem_toArray, List.getElem_cons_succ, List.getElem_cons_zero, Act.put, List.setIfInBounds_toArray, List.set_cons_zero, List.set_cons_succ]
  refine wpAnyG_take' (i := 8) (v := ?v8_9tk) rfl (by kernel_rfl) (by kernel_rfl) (by kernel_rfl) (by kernel_rfl) (fun _ _ _ h => h) (Or.inl ⟨by rfl, ?hy8_9tk⟩) hS ?rest8_9tk
  case hy8_9tk => intro w hSw; (try dsimp only at hSw); go_simp; (try with_reducible rfl)
  case rest8_9tk =>
  try simp only [List.getElem_toArray, List.getElem_cons_succ, List.getElem_cons_zero, Act.put, List.setIfInBounds_toArray, List.set_cons_zero, List.set_cons_succ]
  refine wpAnyG_take' (i := 9) (v := ?v9_10tk) rfl (by kernel_rfl) (by kernel_rfl) (by kernel_rfl) (by kernel_rfl) (fun _ _ _ h => h) (Or.inl ⟨by rfl, ?hy9_10tk⟩) hS ?rest9_10tk
  case hy9_10tk => intro w hSw; (try dsimp only at hSw); go_simp; (try with_reducible rfl)
  case rest9_10tk =>
  try simp only [List.getElem_toArray, List.getElem_cons_succ, List.getElem_cons_zero, Act.put, List.setIfInBounds_toArray, List.set_cons_zero, List.set_cons_succ]
  refine wpAnyG_one (i := 10) (by kernel_rfl) rfl (fun K hK => ?_)
  go_simp
  refine hK.out _ _ (fun hno => by cases hno) ?_
  clear K hK
  try simp only [List.getElem_toArray, List.getElem_cons_succ, List.getElem_cons_zero, Act.put, List.setIfInBounds_toArray, List.set_cons_zero, List.set_cons_succ]
  refine wpAnyG_done (by kernel_rfl) ?_ _
  try simp only [List.getElem_toArray, List.getElem_cons_succ, List.getElem_cons_zero, Act.put, List.setIfInBounds_toArray, List.set_cons_zero, List.set_cons_succ]
  clear hS e4 d3 f4
  obtain ⟨w5, hw5⟩ : ∃ z, z = (w4.setCell ⟨g, 4, none⟩ (.int .i64 (maxI view mv))).drew := ⟨_, rfl⟩
  rw [← hw5] at H5 ⊢
  clear hw5
  have d0 := H5.out.sw3.cell (o := 0) rfl
  have d17 := H5.out.sw3.cell (o := 17) rfl
  obtain ⟨w6, hw6⟩ : ∃ z, z = w5 := ⟨_, rfl⟩
  rw [← hw6] at H5 d0 d17 ⊢
  clear hw6
  have h6q : Sep w0 (PrxC g gc cl n num (maxI view mv) wt st k o lv tp :: Cl br #[.int .i64 0, .int .i64 0, .int .i64 0] 38 :: Cl bm #[.int .i64 2, .int .i64 mf, .int .i64 mt, .int .i64 mv, .int .i64 mo, .int .i64 mc, .int .i64 ml, .int .i64 ec, .int .i64 em, .int .i64 0, .string ⟨#[]⟩, .int .i64 0, .int .i64 0, .slice la 0 kl, .int .i64 rc, .int .i64 ra, .int .i64 rb, .bool true, .int .i64 0, .slice lc 0 kc, .slice ea 0 ke, .int .i64 0] 44 :: L) w6 := H5.out
  have q5 := h6q.cell (o := 5) rfl
  have qf5 := h6q.frozen 5
  have q7 := h6q.cell (o := 7) rfl
  have qf7 := h6q.frozen 7
  have q8 := h6q.cell (o := 8) rfl
  have qf8 := h6q.frozen 8
  have q9 := h6q.cell (o := 9) rfl
  have qf9 := h6q.frozen 9
  have q10 := h6q.cell (o := 10) rfl
  have qf10 := h6q.frozen 10
  have q11 := h6q.cell (o := 11) rfl
  have qf11 := h6q.frozen 11
  have q12 := h6q.cell (o := 12) rfl
  have qf12 := h6q.frozen 12
  have h7 : Sep w0 (PrxC g gc cl n num (maxI view mv) false st 0 0 (.slice none 0 0) (.pointer none) :: Cl br #[.int .i64 0, .int .i64 0, .int .i64 0] 38 :: Cl bm #[.int .i64 2, .int .i64 mf, .int .i64 mt, .int .i64 mv, .int .i64 mo, .int .i64 mc, .int .i64 ml, .int .i64 ec, .int .i64 em, .int .i64 0, .string ⟨#[]⟩, .int .i64 0, .int .i64 0, .slice la 0 kl, .int .i64 rc, .int .i64 ra, .int .i64 rb, .bool true, .int .i64 0, .slice lc 0 kc, .slice ea 0 ke, .int .i64 0] 44 :: L) (((((((w6.setCell ⟨g, 5, none⟩ (.bool false)).setCell ⟨g, 7, none⟩ (.int .i64 0)).setCell ⟨g, 8, none⟩ (.string ⟨#[]⟩)).setCell ⟨g, 9, none⟩ (.int .i64 0)).setCell ⟨g, 10, none⟩ (.int .i64 0)).setCell ⟨g, 11, none⟩ (.slice none 0 0)).setCell ⟨g, 12, none⟩ (.pointer none)) := ((((((h6q.setCell 5 (.bool false)).setCell 7 (.int .i64 0)).setCell 8 (.string ⟨#[]⟩)).setCell 9 (.int .i64 0)).setCell 10 (.int .i64 0)).setCell 11 (.slice none 0 0)).setCell 12 (.pointer none)
  have H7 := Lib.hid h7
  clear h6q h7
  (try dsimp only); repeat' (first | go_values | go_skip | go_guarded | go_step | go_upon | go_back)
  obtain ⟨w7, hw7⟩ : ∃ z, z = (((((((w6.setCell ⟨g, 5, none⟩ (.bool false)).setCell ⟨g, 7, none⟩ (.int .i64 0)).setCell ⟨g, 8, none⟩ (.string ⟨#[]⟩)).setCell ⟨g, 9, none⟩ (.int .i64 0)).setCell ⟨g, 10, none⟩ (.int .i64 0)).setCell ⟨g, 11, none⟩ (.slice none 0 0)).setCell ⟨g, 12, none⟩ (.pointer none)) := ⟨_, rfl⟩
  rw [← hw7] at H7 ⊢
  clear hw7 q5 qf5 q7 qf7 q8 qf8 q9 qf9 q10 qf10 q11 qf11 q12 qf12 H5 d0 d17
  have d4 := H7.out.sw3.cell (o := 4) rfl
  have d14 := H7.out.sw3.cell (o := 14) rfl
  have d15 := H7.out.sw3.cell (o := 15) rfl
  have d16 := H7.out.sw3.cell (o := 16) rfl
  have d17 := H7.out.sw3.cell (o := 17) rfl
  have hz : Sep w0 (Cl br #[.int .i64 0, .int .i64 0, .int .i64 0] 38 :: PrxC g gc cl n num (maxI view mv) false st 0 0 (.slice none 0 0) (.pointer none) :: Cl bm #[.int .i64 2, .int .i64 mf, .int .i64 mt, .int .i64 mv, .int .i64 mo, .int .i64 mc, .int .i64 ml, .int .i64 ec, .int .i64 em, .int .i64 0, .string ⟨#[]⟩, .int .i64 0, .int .i64 0, .slice la 0 kl, .int .i64 rc, .int .i64 ra, .int .i64 rb, .bool true, .int .i64 0, .slice lc 0 kc, .slice ea 0 ke, .int .i64 0] 44 :: L) w7 := H7.out.sw2
  obtain ⟨z0, z1, z2⟩ := cells3p hz
  have zf0 := hz.frozen 0
  have zf1 := hz.frozen 1
  have zf2 := hz.frozen 2
  have h9 := store3p (u0 := .int .i64 rc) (u1 := .int .i64 ra) (u2 := .int .i64 rb) hz
  obtain ⟨y0, y1, y2⟩ := cells3p h9
  have x4 := h9.sw3.cell (o := 4) rfl
  have x14 := h9.sw3.cell (o := 14) rfl
  have x15 := h9.sw3.cell (o := 15) rfl
  have x16 := h9.sw3.cell (o := 16) rfl
  have x17 := h9.sw3.cell (o := 17) rfl
  have H9 := Lib.hid h9.drew
  clear H7 hz h9
  refine wp_region_G (fun w' => w'.cell? ⟨bm, 14, none⟩ = some (.int .i64 rc) ∧ w'.cell? ⟨bm, 15, none⟩ = some (.int .i64 ra) ∧ w'.cell? ⟨bm, 16, none⟩ = some (.int .i64 rb) ∧ w'.cell? ⟨bm, 4, none⟩ = some (.int .i64 mo) ∧ w'.cell? ⟨bm, 17, none⟩ = some (.bool true)) [9] (by kernel_rfl) ⟨d14, d15, d16, d4, d17⟩ (fun hS => ?_)
  try dsimp only at hS
  refine wpAnyG_take' (i := 0) (v := ?v0_1tz) rfl (by kernel_rfl) (by kernel_rfl) (by kernel_rfl) (by kernel_rfl) (fun _ _ _ h => h) (Or.inl ⟨by rfl, ?hy0_1tz⟩) hS ?rest0_1tz
  case hy0_1tz => intro w hSw; (try dsimp only at hSw); go_simp; (try with_reducible rfl)
  case rest0_1tz =>
  try simp only [List.getElem_toArray, List.getElem_cons_succ, List.getElem_cons_zero, Act.put, List.setIfInBounds_toArray, List.set_cons_zero, List.set_cons_succ]
  refine wpAnyG_take' (i := 1) (v := ?v1_2tz) rfl (by kernel_rfl) (by kernel_rfl) (by kernel_rfl) (by kernel_rfl) (fun _ _ _ h => h) (Or.inl ⟨by rfl, ?hy1_2tz⟩) hS ?rest1_2tz
  case hy1_2tz => intro w hSw; (try dsimp only at hSw); go_simp; (try with_reducible rfl)
  case rest1_2tz =>
  try simp only [List.getElem_toArray, List.getElem_cons_succ, List.getElem_cons_zero, Act.put, List.setIfInBounds_toArray, List.set_cons_zero, List.set_cons_succ]
  refine wpAnyG_take' (i := 2) (v := ?v2_3tz) rfl (by kernel_rfl) (by kernel_rfl) (by kernel_rfl) (by kernel_rfl) (fun _ _ _ h => h) (Or.inl ⟨by rfl, ?hy2_3tz⟩) hS ?rest2_3tz
  case hy2_3tz => intro w hSw; (try dsimp only at hSw); go_simp; (try with_reducible rfl)
  case rest2_3tz =>
  try simp only [List.getElem_toArray, List.getElem_cons_succ, List.getElem_cons_zero, Act.put, List.setIfInBounds_toArray, List.set_cons_zero, List.set_cons_succ]
  refine wpAnyG_take' (i := 3) (v := ?v3_4tz) rfl (by kernel_rfl) (by kernel_rfl) (by kernel_rfl) (by kernel_rfl) (fun _ _ _ h => h) (Or.inl ⟨by rfl, ?hy3_4tz⟩) hS ?rest3_4tz
  case hy3_4tz => intro w hSw; (try dsimp only at hSw); go_simp; (try with_reducible rfl)
  case rest3_4tz =>
  try simp only [List.getElem_toArray, List.getElem_cons_succ, List.getElem_cons_zero, Act.put, List.setIfInBounds_toArray, List.set_cons_zero, List.set_cons_succ]
  refine wpAnyG_take' (i := 4) (v := ?v4_5tz) rfl (by kernel_rfl) (by kernel_rfl) (by kernel_rfl) (by kernel_rfl) (fun _ _ _ h => h) (Or.inl ⟨by rfl, ?hy4_5tz⟩) hS ?rest4_5tz
  case hy4_5tz => intro w hSw; (try dsimp only at hSw); go_simp; (try with_reducible rfl)
  case rest4_5tz =>
  try simp only [List.getElem_toArray, List.getElem_cons_succ, List.getElem_cons_zero, Act.put, List.setIfInBounds_toArray, List.set_cons_zero, List.set_cons_succ]
  refine wpAnyG_take' (i := 5) (v := ?v5_6tz) rfl (by kernel_rfl) (by kernel_rfl) (by kernel_rfl) (by kernel_rfl) (fun _ _ _ h => h) (Or.inl ⟨by rfl, ?hy5_6tz⟩) hS ?rest5_6tz
  case hy5_6tz => intro w hSw; (try dsimp only at hSw); go_simp; (try with_reducible rfl)
  case rest5_6tz =>
  try simp only [List.getElem_toArray, List.getElem_cons_succ, List.getElem_cons_zero, Act.put, List.setIfInBounds_toArray, List.set_cons_zero, List.set_cons_succ]
  refine wpAnyG_one (i := 6) (by kernel_rfl) rfl (fun K hK => ?_)
  go_simp
  refine hK.out _ _ (fun _ => ?hS7tz) ?rest7tz
  case hS7tz => exact ⟨x14, x15, x16, x4, x17⟩
  clear K hK
  try simp only [List.getElem_toArray, List.getElem_cons_succ, List.getElem_cons_zero, Act.put, List.setIfInBounds_toArray, List.set_cons_zero, List.set_cons_succ]
  refine wpAnyG_one (i := 7) (by kernel_rfl) rfl (fun K hK => ?_)
  go_simp
  refine hK.out _ _ (fun _ => ?hS8tz) ?rest8tz
  case hS8tz => exact ⟨x14, x15, x16, x4, x17⟩
  clear K hK
  try simp only [List.getElem_toArray, List.getElem_cons_succ, List.getElem_cons_zero, Act.put, List.setIfInBounds_toArray, List.set_cons_zero, List.set_cons_succ]
  refine wpAnyG_one (i := 8) (by kernel_rfl) rfl (fun K hK => ?_)
  go_simp
  refine hK.out _ _ (fun _ => ?hS9tz) ?rest9tz
  case hS9tz => exact ⟨x14, x15, x16, x4, x17⟩
  clear K hK
  try simp only [List.getElem_toArray, List.getElem_cons_succ, List.getElem_cons_zero, Act.put, List.setIfInBounds_toArray, List.set_cons_zero, List.set_cons_succ]
  refine wpAnyG_one (i := 9) (by kernel_rfl) rfl (fun K hK => ?_)
  go_simp
  refine hK.out _ _ (fun hno => by cases hno) ?_
  clear K hK
  try simp only [List.getElem_toArray, List.getElem_cons_succ, List.getElem_cons_zero, Act.put, List.setIfInBounds_toArray, List.set_cons_zero, List.set_cons_succ]
  refine wpAnyG_done (by kernel_rfl) ?_ _
  try simp only [List.getElem_toArray, List.getElem_cons_succ, List.getElem_cons_zero, Act.put, List.setIfInBounds_toArray, List.set_cons_zero, List.set_cons_succ]
  (try dsimp only); repeat' (first | go_values | go_skip | go_guarded | go_step | go_upon | go_back)
  exact bodyPost_ret (v := .tuple #[.agg #[.int .i64 rc, .int .i64 ra, .int .i64 rb], .int .i64 mo, .bool true, .bool true]) (by simp [results, Tryd.results11, go_sem, y0, y1, y2]) rfl ⟨rfl, H9.out.pickL (M := [_, _, _]) [1] rfl⟩
set_option maxRecDepth 100000 in
set_option maxHeartbeats 16000000 in
theorem pxtake_few {n who : Nat} (h : Sep w0 (PrxC g gc cl n num view wt st k o lv (.pointer (some ⟨gt, 0, none⟩)) :: TalC gt b n :: BalM b S :: L) w) (hC : ∀ wx M, Sep w0 (PrxC g gc cl n num view wt st k o lv (.pointer (some ⟨gt, 0, none⟩)) :: M) wx → Calls Tryd.prog 21 #[.pointer (some ⟨g, 0, none⟩), .agg (msC ⟨2, (who : Int), mt, mv, mo, mc, ml, ec, em, rc, ra, rb, false⟩ (.slice la 0 kl) (.slice lc 0 kc) (.slice ea 0 ke))] wx fun e w' => e = .returned (.bool true) ∧ Sep w0 (PrxC g gc cl n num view wt st k o lv (.pointer (some ⟨gt, 0, none⟩)) :: M) w') (hw : who < n) (hn : n ≤ 15) (hS : Small S) (hv : IQ mv) (ho : IQ mo) (h1 : IQ rc) (h2 : IQ ra) (h3 : IQ rb) (hm : ¬ (enough n ≤ (popc ((mget S ⟨(mv, mo, rc, ra, rb), hv, ho, h1, h2, h3⟩).getD 0 ||| 2 ^ who) : Nat))) :
    Calls Tryd.prog 11 #[.pointer (some ⟨g, 0, none⟩), .agg (msC ⟨2, (who : Int), mt, mv, mo, mc, ml, ec, em, rc, ra, rb, false⟩ (.slice la 0 kl) (.slice lc 0 kc) (.slice ea 0 ke))] w fun e w' => e = .returned (.tuple #[.agg #[.int .i64 0, .int .i64 0, .int .i64 0], .int .i64 0, .bool false, .bool false]) ∧ Sep w0 (PrxC g gc cl n num (maxI view mv) wt st k o lv (.pointer (some ⟨gt, 0, none⟩)) :: TalC gt b n :: BalM b (addS S ⟨(mv, mo, rc, ra, rb), hv, ho, h1, h2, h3⟩ who) :: L) w' := by
  obtain ⟨bm, hbm⟩ : ∃ z, z = w.heap.size := ⟨_, rfl⟩
  obtain ⟨br, hbr⟩ : ∃ z, z = bm + 1 := ⟨_, rfl⟩
  obtain ⟨w3, hw3⟩ : ∃ z, z = (w.alloc (.cells #[.int .i64 2, .int .i64 (who : Int), .int .i64 mt, .int .i64 mv, .int .i64 mo, .int .i64 mc, .int .i64 ml, .int .i64 ec, .int .i64 em, .int .i64 0, .string ⟨#[]⟩, .int .i64 0, .int .i64 0, .slice la 0 kl, .int .i64 rc, .int .i64 ra, .int .i64 rb, .bool false, .int .i64 0, .slice lc 0 kc, .slice ea 0 ke, .int .i64 0] 44)).alloc (.cells #[.int .i64 0, .int .i64 0, .int .i64 0] 38) := ⟨_, rfl⟩
  have hh3 : Sep w0 (Cl br #[.int .i64 0, .int .i64 0, .int .i64 0] 38 :: Cl bm (msC ⟨2, (who : Int), mt, mv, mo, mc, ml, ec, em, rc, ra, rb, false⟩ (.slice la 0 kl) (.slice lc 0 kc) (.slice ea 0 ke)) 44 :: PrxC g gc cl n num view wt st k o lv (.pointer (some ⟨gt, 0, none⟩)) :: TalC gt b n :: BalM b S :: L) w3 := by
    have x1 := h.alloc (.cells (msC ⟨2, (who : Int), mt, mv, mo, mc, ml, ec, em, rc, ra, rb, false⟩ (.slice la 0 kl) (.slice lc 0 kc) (.slice ea 0 ke)) 44)
    have x2 := x1.alloc (.cells #[.int .i64 0, .int .i64 0, .int .i64 0] 38)
    rw [show (w.alloc (.cells (msC ⟨2, (who : Int), mt, mv, mo, mc, ml, ec, em, rc, ra, rb, false⟩ (.slice la 0 kl) (.slice lc 0 kc) (.slice ea 0 ke)) 44)).heap.size = w.heap.size + 1 by simp] at x2
    rw [hbr, hbm, hw3]
    exact x2
  have HN := Lib.hid (pxnone_any hh3.sw3)
  have hl := hh3.sw2.loadMs
  have hq : Sep w0 (PrxC g gc cl n num view wt st k o lv (.pointer (some ⟨gt, 0, none⟩)) :: Cl br #[.int .i64 0, .int .i64 0, .int .i64 0] 38 :: Cl bm (msC ⟨2, (who : Int), mt, mv, mo, mc, ml, ec, em, rc, ra, rb, false⟩ (.slice la 0 kl) (.slice lc 0 kc) (.slice ea 0 ke)) 44 :: TalC gt b n :: BalM b S :: L) w3 := hh3.sw3
  have hc := hC _ _ hq
  unfold msC at hl hc
  dsimp only at hl hc
  have HL := Lib.hid hl
  have HC := Lib.hid hc
  clear h hh3 hq hl hc hC
  have HW := Lib.hid (And.intro hw (And.intro hn hS))
  have HSU : Hid (∀ wx M, Sep w0 (TalC gt b n :: BalM b S :: PrxC g gc cl n num (maxI view mv) wt st k o lv (.pointer (some ⟨gt, 0, none⟩)) :: M) wx → Calls Tryd.prog 22 #[.pointer (some ⟨g, 0, none⟩), .agg #[.int .i64 2, .int .i64 (who : Int), .int .i64 mt, .int .i64 mv, .int .i64 mo, .int .i64 mc, .int .i64 ml, .int .i64 ec, .int .i64 em, .int .i64 0, .string ⟨#[]⟩, .int .i64 0, .int .i64 0, .slice la 0 kl, .int .i64 rc, .int .i64 ra, .int .i64 rb, .bool false, .int .i64 0, .slice lc 0 kc, .slice ea 0 ke, .int .i64 0]] wx fun e w' => e = .returned (.bool false) ∧ Sep w0 (TalC gt b n :: BalM b (addS S ⟨(mv, mo, rc, ra, rb), hv, ho, h1, h2, h3⟩ who) :: PrxC g gc cl n num (maxI view mv) wt st k o lv (.pointer (some ⟨gt, 0, none⟩)) :: M) w') := Lib.hid fun wx M hx => by
    have h9 := pxsup_any (mk := 2) (mt := mt) (mv := mv) (mo := mo) (mc := mc) (ml := ml) (ec := ec) (em := em) (rc := rc) (ra := ra) (rb := rb) (ms := false) (la := la) (lc := lc) (ea := ea) (kl := kl) (kc := kc) (ke := ke) hx hw hn hS hv ho h1 h2 h3
    rw [decide_eq_false hm] at h9
    exact h9
  obtain ⟨S2, hS2⟩ : ∃ z, z = addS S ⟨(mv, mo, rc, ra, rb), hv, ho, h1, h2, h3⟩ who := ⟨_, rfl⟩
  rw [← hS2] at HSU ⊢
  clear hS2 hm hv ho h1 h2 h3 hw hn hS
  go_enter Tryd.func11, Tryd.ntmps11
  unfold msC
  (try dsimp only); repeat' (first | go_values | go_skip | go_guarded | go_step | go_upon | go_back)
  rw [← hw3, ← hbm, ← hbr]
  clear hw3 hbm hbr
  refine HN.out.mono ?_
  rintro r0 w1 ⟨rfl, rfl⟩
  clear HN
  (try dsimp only); repeat' (first | (refine opwp_load_run 44 _ rfl _ _ rfl HL.out ?_; clear HL) | (refine wpList_load_run rfl 44 _ rfl _ _ rfl HL.out ?_; clear HL) | go_values | go_skip | go_guarded | go_step | go_upon | go_back)
  refine HC.out.mono ?_
  rintro r0 w4 ⟨rfl, h4⟩
  clear HC
  have e4 := h4.cell (o := 4) rfl
  have f4 := h4.frozen 4
  have d3 := h4.sw3.cell (o := 3) rfl
  have h5 : Sep w0 (PrxC g gc cl n num (maxI view mv) wt st k o lv (.pointer (some ⟨gt, 0, none⟩)) :: Cl br #[.int .i64 0, .int .i64 0, .int .i64 0] 38 :: Cl bm #[.int .i64 2, .int .i64 (who : Int), .int .i64 mt, .int .i64 mv, .int .i64 mo, .int .i64 mc, .int .i64 ml, .int .i64 ec, .int .i64 em, .int .i64 0, .string ⟨#[]⟩, .int .i64 0, .int .i64 0, .slice la 0 kl, .int .i64 rc, .int .i64 ra, .int .i64 rb, .bool false, .int .i64 0, .slice lc 0 kc, .slice ea 0 ke, .int .i64 0] 44 :: TalC gt b n :: BalM b S :: L) (w4.setCell ⟨g, 4, none⟩ (.int .i64 (maxI view mv))).drew := (h4.setCell 4 _).drew
  have H5 := Lib.hid h5
  clear h4 h5
  (try dsimp only); repeat' (first | go_values | go_skip | go_guarded | go_step | go_upon | go_back)
  refine wp_region_G (fun w' => w'.cell? ⟨g, 4, none⟩ = some (.int .i64 view) ∧ w'.cell? ⟨bm, 3, none⟩ = some (.int .i64 mv) ∧ w'.frozen? ⟨g, 4, none⟩ = false) [10] (by kernel_rfl) ⟨e4, d3, f4⟩ (fun hS => ?_)
  try dsimp only at hS
  refine wpAnyG_take' (i := 0) (v := ?v0_1tk) rfl (by kernel_rfl) (by kernel_rfl) (by kernel_rfl) (by kernel_rfl) (fun _ _ _ h => h) (Or.inl ⟨by rfl, ?hy0_1tk⟩) hS ?rest0_1tk
  case hy0_1tk => intro w hSw; (try dsimp only at hSw); go_simp; (try with_reducible rfl)
  case rest0_1tk =>
  try simp only [List.getElem_toArray, List.getElem_cons_succ, List.getElem_cons_zero, Act.put, List.setIfInBounds_toArray, List.set_cons_zero, List.set_cons_succ]
  refine wpAnyG_take' (i := 1) (v := ?v1_2tk) rfl (by kernel_rfl) (by kernel_rfl) (by kernel_rfl) (by kernel_rfl) (fun _ _ _ h => h) (Or.inl ⟨by rfl, ?hy1_2tk⟩) hS ?rest1_2tk
  case hy1_2tk => intro w hSw; (try dsimp only at hSw); go_simp; (try with_reducible rfl)
  case rest1_2tk =>
  try simp only [List.getElem_toArray, List.getElem_cons_succ, List.getElem_cons_zero, Act.put, List.setIfInBounds_toArray, List.set_cons_zero, List.set_cons_succ]
  refine wpAnyG_take' (i := 2) (v := ?v2_3tk) rfl (by kernel_rfl) (by kernel_rfl) (by kernel_rfl) (by kernel_rfl) (fun _ _ _ h => h) (Or.inl ⟨by rfl, ?hy2_3tk⟩) hS ?rest2_3tk
  case hy2_3tk => intro w hSw; (try dsimp only at hSw); go_simp; (try with_reducible rfl)
  case rest2_3tk =>
  try simp only [List.getElem_toArray, List.getElem_cons_succ, List.getElem_cons_zero, Act.put, List.setIfInBounds_toArray, List.set_cons_zero, List.set_cons_succ]
  refine wpAnyG_take' (i := 3) (v := ?v3_4tk) rfl (by kernel_rfl) (by kernel_rfl) (by kernel_rfl) (by kernel_rfl) (fun _ _ _ h => h) (Or.inl ⟨by rfl, ?hy3_4tk⟩) hS ?rest3_4tk
  case hy3_4tk => intro w hSw; (try dsimp only at hSw); go_simp; (try with_reducible rfl)
  case rest3_4tk =>
  try simp only [List.getElem_toArray, List.getElem_cons_succ, List.getElem_cons_zero, Act.put, List.setIfInBounds_toArray, List.set_cons_zero, List.set_cons_succ]
  refine wpAnyG_take' (i := 4) (v := ?v4_5tk) rfl (by kernel_rfl) (by kernel_rfl) (by kernel_rfl) (by kernel_rfl) (fun _ _ _ h => h) (Or.inl ⟨by rfl, ?hy4_5tk⟩) hS ?rest4_5tk
  case hy4_5tk => intro w hSw; (try dsimp only at hSw); go_simp; (try with_reducible rfl)
  case rest4_5tk =>
  try simp only [List.getElem_toArray, List.getElem_cons_succ, List.getElem_cons_zero, Act.put, List.setIfInBounds_toArray, List.set_cons_zero, List.set_cons_succ]
  refine wpAnyG_take' (i := 5) (v := ?v5_6tk) rfl (by kernel_rfl) (by kernel_rfl) (by kernel_rfl) (by kernel_rfl) (fun _ _ _ h => h) (Or.inl ⟨by rfl, ?hy5_6tk⟩) hS ?rest5_6tk
  case hy5_6tk => intro w hSw; (try dsimp only at hSw); go_simp; (try with_reducible rfl)
  case rest5_6tk =>
  try simp only [List.getElem_toArray, List.getElem_cons_succ, List.getElem_cons_zero, Act.put, List.setIfInBounds_toArray, List.set_cons_zero, List.set_cons_succ]
  refine wpAnyG_take' (i := 6) (v := ?v6_7tk) rfl (by kernel_rfl) (by kernel_rfl) (by kernel_rfl) (by kernel_rfl) (fun _ _ _ h => h) (Or.inl ⟨by rfl, ?hy6_7tk⟩) hS ?rest6_7tk
  case hy6_7tk => intro w hSw; (try dsimp only at hSw); go_simp; (try with_reducible rfl)
  case rest6_7tk =>
  try simp only [List.getElem_toArray, List.getElem_cons_succ, List.getElem_cons_zero, Act.put, List.setIfInBounds_toArray, List.set_cons_zero, List.set_cons_succ]
  refine wpAnyG_one (i := 7) (by kernel_rfl) rfl (fun K hK => ?_)
  refine step_max_run rfl _ _ _ _ (by rfl) (by rfl) (by rfl) (max_run _ view mv _) ?_
  refine hK.out _ _ (fun _ => ?hS8tk) ?rest8tk
  case hS8tk => exact ⟨e4, d3, f4⟩
  clear K hK
  try simp only [List.getElem_toArray, List.getElem_cons_succ, List.getElem_cons_zero, Act.put, List.setIfInBounds_toArray, List.set_cons_zero, List.set_cons_succ]
  refine wpAnyG_take' (i := 8) (v := ?v8_9tk) rfl (by kernel_rfl) (by kernel_rfl) (by kernel_rfl) (by kernel_rfl) (fun _ _ _ h => h) (Or.inl ⟨by rfl, ?hy8_9tk⟩) hS ?rest8_9tk
  case hy8_9tk => intro w hSw; (try dsimp only at hSw); go_simp; (try with_reducible rfl)
  case rest8_9tk =>
  try simp only [List.getElem_toArray, List.getElem_cons_succ, List.getElem_cons_zero, Act.put, List.setIfInBounds_toArray, List.set_cons_zero, List.set_cons_succ]
  refine wpAnyG_take' (i := 9) (v := ?v9_10tk) rfl (by kernel_rfl) (by kernel_rfl) (by kernel_rfl) (by kernel_rfl) (fun _ _ _ h => h) (Or.inl ⟨by rfl, ?hy9_10tk⟩) hS ?rest9_10tk
  case hy9_10tk => intro w hSw; (try dsimp only at hSw); go_simp; (try with_reducible rfl)
  case rest9_10tk =>
  try simp only [List.getElem_toArray, List.getElem_cons_succ, List.getElem_cons_zero, Act.put, List.setIfInBounds_toArray, List.set_cons_zero, List.set_cons_succ]
  refine wpAnyG_one (i := 10) (by kernel_rfl) rfl (fun K hK => ?_)
  go_simp
  refine hK.out _ _ (fun hno => by cases hno) ?_
  clear K hK
  try simp only [List.getElem_toArray, List.getElem_cons_succ, List.getElem_cons_zero, Act.put, List.setIfInBounds_toArray, List.set_cons_zero, List.set_cons_succ]
  refine wpAnyG_done (by kernel_rfl) ?_ _
  try simp only [List.getElem_toArray, List.getElem_cons_succ, List.getElem_cons_zero, Act.put, List.setIfInBounds_toArray, List.set_cons_zero, List.set_cons_succ]
  clear hS e4 d3 f4
  obtain ⟨w5, hw5⟩ : ∃ z, z = (w4.setCell ⟨g, 4, none⟩ (.int .i64 (maxI view mv))).drew := ⟨_, rfl⟩
  rw [← hw5] at H5 ⊢
  clear hw5
  have d0 := H5.out.sw3.cell (o := 0) rfl
  have d17 := H5.out.sw3.cell (o := 17) rfl
  have hl := (show Sep w0 (Cl bm (msC ⟨2, (who : Int), mt, mv, mo, mc, ml, ec, em, rc, ra, rb, false⟩ (.slice la 0 kl) (.slice lc 0 kc) (.slice ea 0 ke)) 44 :: _) w5 from H5.out.sw3).loadMs
  unfold msC at hl
  dsimp only at hl
  have HL := Lib.hid hl
  clear hl
  have HS6 := Lib.hid (HSU.out _ _ (H5.out.pickL (M := [_, _, _, _, _]) [3, 4, 0, 1, 2] rfl : Sep w0 (TalC gt b n :: BalM b S :: PrxC g gc cl n num (maxI view mv) wt st k o lv (.pointer (some ⟨gt, 0, none⟩)) :: Cl br _ _ :: Cl bm _ _ :: L) w5))
  clear HSU H5
  (try dsimp only); repeat' (first | (refine opwp_load_run 44 _ rfl _ _ rfl HL.out ?_; clear HL) | (refine wpList_load_run rfl 44 _ rfl _ _ rfl HL.out ?_; clear HL) | go_values | go_skip | go_guarded | go_step | go_upon | go_back)
  refine HS6.out.mono ?_
  rintro r0 w6 ⟨rfl, h6⟩
  clear HS6 d0 d17
  have h6q : Sep w0 (PrxC g gc cl n num (maxI view mv) wt st k o lv (.pointer (some ⟨gt, 0, none⟩)) :: Cl br #[.int .i64 0, .int .i64 0, .int .i64 0] 38 :: Cl bm #[.int .i64 2, .int .i64 (who : Int), .int .i64 mt, .int .i64 mv, .int .i64 mo, .int .i64 mc, .int .i64 ml, .int .i64 ec, .int .i64 em, .int .i64 0, .string ⟨#[]⟩, .int .i64 0, .int .i64 0, .slice la 0 kl, .int .i64 rc, .int .i64 ra, .int .i64 rb, .bool false, .int .i64 0, .slice lc 0 kc, .slice ea 0 ke, .int .i64 0] 44 :: TalC gt b n :: BalM b S2 :: L) w6 := h6.pickL (M := [_, _, _, _, _]) [2, 3, 4, 0, 1] rfl
  clear h6
  have hz : Sep w0 (Cl br #[.int .i64 0, .int .i64 0, .int .i64 0] 38 :: PrxC g gc cl n num (maxI view mv) wt st k o lv (.pointer (some ⟨gt, 0, none⟩)) :: Cl bm #[.int .i64 2, .int .i64 (who : Int), .int .i64 mt, .int .i64 mv, .int .i64 mo, .int .i64 mc, .int .i64 ml, .int .i64 ec, .int .i64 em, .int .i64 0, .string ⟨#[]⟩, .int .i64 0, .int .i64 0, .slice la 0 kl, .int .i64 rc, .int .i64 ra, .int .i64 rb, .bool false, .int .i64 0, .slice lc 0 kc, .slice ea 0 ke, .int .i64 0] 44 :: TalC gt b n :: BalM b S2 :: L) w6 := h6q.sw2
  clear h6q
  obtain ⟨z0, z1, z2⟩ := cells3p hz
  have zf0 := hz.frozen 0
  have zf1 := hz.frozen 1
  have zf2 := hz.frozen 2
  have h9 := store3p (u0 := .int .i64 0) (u1 := .int .i64 0) (u2 := .int .i64 0) hz
  obtain ⟨y0, y1, y2⟩ := cells3p h9
  have H9 := Lib.hid h9
  clear hz h9
  (try dsimp only); repeat' (first | go_values | go_skip | go_guarded | go_step | go_upon | go_back)
  exact bodyPost_ret (v := .tuple #[.agg #[.int .i64 0, .int .i64 0, .int .i64 0], .int .i64 0, .bool false, .bool false]) (by simp [results, Tryd.results11, go_sem, y0, y1, y2]) rfl ⟨rfl, H9.out.pickL (M := [_, _, _]) [1] rfl⟩
set_option maxRecDepth 100000 in
set_option maxHeartbeats 16000000 in
theorem pxtake_won {n who : Nat} (h : Sep w0 (PrxC g gc cl n num view wt st k o lv (.pointer (some ⟨gt, 0, none⟩)) :: TalC gt b n :: BalM b S :: L) w) (hC : ∀ wx M, Sep w0 (PrxC g gc cl n num view wt st k o lv (.pointer (some ⟨gt, 0, none⟩)) :: M) wx → Calls Tryd.prog 21 #[.pointer (some ⟨g, 0, none⟩), .agg (msC ⟨2, (who : Int), mt, mv, mo, mc, ml, ec, em, rc, ra, rb, false⟩ (.slice la 0 kl) (.slice lc 0 kc) (.slice ea 0 ke))] wx fun e w' => e = .returned (.bool true) ∧ Sep w0 (PrxC g gc cl n num view wt st k o lv (.pointer (some ⟨gt, 0, none⟩)) :: M) w') (hw : who < n) (hn : n ≤ 15) (hS : Small S) (hv : IQ mv) (ho : IQ mo) (h1 : IQ rc) (h2 : IQ ra) (h3 : IQ rb) (hm : enough n ≤ (popc ((mget S ⟨(mv, mo, rc, ra, rb), hv, ho, h1, h2, h3⟩).getD 0 ||| 2 ^ who) : Nat)) :
    Calls Tryd.prog 11 #[.pointer (some ⟨g, 0, none⟩), .agg (msC ⟨2, (who : Int), mt, mv, mo, mc, ml, ec, em, rc, ra, rb, false⟩ (.slice la 0 kl) (.slice lc 0 kc) (.slice ea 0 ke))] w fun e w' => e = .returned (.tuple #[.agg #[.int .i64 rc, .int .i64 ra, .int .i64 rb], .int .i64 mo, .bool false, .bool true]) ∧ Sep w0 (PrxC g gc cl n num (maxI view mv) false st 0 0 (.slice none 0 0) (.pointer none) :: TalC gt b n :: BalM b (addS S ⟨(mv, mo, rc, ra, rb), hv, ho, h1, h2, h3⟩ who) :: L) w' := by
  obtain ⟨bm, hbm⟩ : ∃ z, z = w.heap.size := ⟨_, rfl⟩
  obtain ⟨br, hbr⟩ : ∃ z, z = bm + 1 := ⟨_, rfl⟩
  obtain ⟨w3, hw3⟩ : ∃ z, z = (w.alloc (.cells #[.int .i64 2, .int .i64 (who : Int), .int .i64 mt, .int .i64 mv, .int .i64 mo, .int .i64 mc, .int .i64 ml, .int .i64 ec, .int .i64 em, .int .i64 0, .string ⟨#[]⟩, .int .i64 0, .int .i64 0, .slice la 0 kl, .int .i64 rc, .int .i64 ra, .int .i64 rb, .bool false, .int .i64 0, .slice lc 0 kc, .slice ea 0 ke, .int .i64 0] 44)).alloc (.cells #[.int .i64 0, .int .i64 0, .int .i64 0] 38) := ⟨_, rfl⟩
  have hh3 : Sep w0 (Cl br #[.int .i64 0, .int .i64 0, .int .i64 0] 38 :: Cl bm (msC ⟨2, (who : Int), mt, mv, mo, mc, ml, ec, em, rc, ra, rb, false⟩ (.slice la 0 kl) (.slice lc 0 kc) (.slice ea 0 ke)) 44 :: PrxC g gc cl n num view wt st k o lv (.pointer (some ⟨gt, 0, none⟩)) :: TalC gt b n :: BalM b S :: L) w3 := by
    have x1 := h.alloc (.cells (msC ⟨2, (who : Int), mt, mv, mo, mc, ml, ec, em, rc, ra, rb, false⟩ (.slice la 0 kl) (.slice lc 0 kc) (.slice ea 0 ke)) 44)
    have x2 := x1.alloc (.cells #[.int .i64 0, .int .i64 0, .int .i64 0] 38)
    rw [show (w.alloc (.cells (msC ⟨2, (who : Int), mt, mv, mo, mc, ml, ec, em, rc, ra, rb, false⟩ (.slice la 0 kl) (.slice lc 0 kc) (.slice ea 0 ke)) 44)).heap.size = w.heap.size + 1 by simp] at x2
    rw [hbr, hbm, hw3]
    exact x2
  have HN := Lib.hid (pxnone_any hh3.sw3)
  have hl := hh3.sw2.loadMs
  have hq : Sep w0 (PrxC g gc cl n num view wt st k o lv (.pointer (some ⟨gt, 0, none⟩)) :: Cl br #[.int .i64 0, .int .i64 0, .int .i64 0] 38 :: Cl bm (msC ⟨2, (who : Int), mt, mv, mo, mc, ml, ec, em, rc, ra, rb, false⟩ (.slice la 0 kl) (.slice lc 0 kc) (.slice ea 0 ke)) 44 :: TalC gt b n :: BalM b S :: L) w3 := hh3.sw3
  have hc := hC _ _ hq
  unfold msC at hl hc
  dsimp only at hl hc
  have HL := Lib.hid hl
  have HC := Lib.hid hc
  clear h hh3 hq hl hc hC
  have HW := Lib.hid (And.intro hw (And.intro hn hS))
  have HSU : Hid (∀ wx M, Sep w0 (TalC gt b n :: BalM b S :: PrxC g gc cl n num (maxI view mv) wt st k o lv (.pointer (some ⟨gt, 0, none⟩)) :: M) wx → Calls Tryd.prog 22 #[.pointer (some ⟨g, 0, none⟩), .agg #[.int .i64 2, .int .i64 (who : Int), .int .i64 mt, .int .i64 mv, .int .i64 mo, .int .i64 mc, .int .i64 ml, .int .i64 ec, .int .i64 em, .int .i64 0, .string ⟨#[]⟩, .int .i64 0, .int .i64 0, .slice la 0 kl, .int .i64 rc, .int .i64 ra, .int .i64 rb, .bool false, .int .i64 0, .slice lc 0 kc, .slice ea 0 ke, .int .i64 0]] wx fun e w' => e = .returned (.bool true) ∧ Sep w0 (TalC gt b n :: BalM b (addS S ⟨(mv, mo, rc, ra, rb), hv, ho, h1, h2, h3⟩ who) :: PrxC g gc cl n num (maxI view mv) wt st k o lv (.pointer (some ⟨gt, 0, none⟩)) :: M) w') := Lib.hid fun wx M hx => by
    have h9 := pxsup_any (mk := 2) (mt := mt) (mv := mv) (mo := mo) (mc := mc) (ml := ml) (ec := ec) (em := em) (rc := rc) (ra := ra) (rb := rb) (ms := false) (la := la) (lc := lc) (ea := ea) (kl := kl) (kc := kc) (ke := ke) hx hw hn hS hv ho h1 h2 h3
    rw [decide_eq_true hm] at h9
    exact h9
  obtain ⟨S2, hS2⟩ : ∃ z, z = addS S ⟨(mv, mo, rc, ra, rb), hv, ho, h1, h2, h3⟩ who := ⟨_, rfl⟩
  rw [← hS2] at HSU ⊢
  clear hS2 hm hv ho h1 h2 h3 hw hn hS
  go_enter Tryd.func11, Tryd.ntmps11
  unfold msC
  (try dsimp only); repeat' (first | go_values | go_skip | go_guarded | go_step | go_upon | go_back)
  rw [← hw3, ← hbm, ← hbr]
  clear hw3 hbm hbr
  refine HN.out.mono ?_
  rintro r0 w1 ⟨rfl, rfl⟩
  clear HN
  (try dsimp only); repeat' (first | (refine opwp_load_run 44 _ rfl _ _ rfl HL.out ?_; clear HL) | (refine wpList_load_run rfl 44 _ rfl _ _ rfl HL.out ?_; clear HL) | go_values | go_skip | go_guarded | go_step | go_upon | go_back)
  refine HC.out.mono ?_
  rintro r0 w4 ⟨rfl, h4⟩
  clear HC
  have e4 := h4.cell (o := 4) rfl
  have f4 := h4.frozen 4
  have d3 := h4.sw3.cell (o := 3) rfl
  have h5 : Sep w0 (PrxC g gc cl n num (maxI view mv) wt st k o lv (.pointer (some ⟨gt, 0, none⟩)) :: Cl br #[.int .i64 0, .int .i64 0, .int .i64 0] 38 :: Cl bm #[.int .i64 2, .int .i64 (who : Int), .int .i64 mt, .int .i64 mv, .int .i64 mo, .int .i64 mc, .int .i64 ml, .int .i64 ec, .int .i64 em, .int .i64 0, .string ⟨#[]⟩, .int .i64 0, .int .i64 0, .slice la 0 kl, .int .i64 rc, .int .i64 ra, .int .i64 rb, .bool false, .int .i64 0, .slice lc 0 kc, .slice ea 0 ke, .int .i64 0] 44 :: TalC gt b n :: BalM b S :: L) (w4.setCell ⟨g, 4, none⟩ (.int .i64 (maxI view mv))).drew := (h4.setCell 4 _).drew
  have H5 := Lib.hid h5
  clear h4 h5
  (try dsimp only); repeat' (first | go_values | go_skip | go_guarded | go_step | go_upon | go_back)
  refine wp_region_G (fun w' => w'.cell? ⟨g, 4, none⟩ = some (.int .i64 view) ∧ w'.cell? ⟨bm, 3, none⟩ = some (.int .i64 mv) ∧ w'.frozen? ⟨g, 4, none⟩ = false) [10] (by kernel_rfl) ⟨e4, d3, f4⟩ (fun hS => ?_)
  try dsimp only at hS
  refine wpAnyG_take' (i := 0) (v := ?v0_1tk) rfl (by kernel_rfl) (by kernel_rfl) (by kernel_rfl) (by kernel_rfl) (fun _ _ _ h => h) (Or.inl ⟨by rfl, ?hy0_1tk⟩) hS ?rest0_1tk
  case hy0_1tk => intro w hSw; (try dsimp only at hSw); go_simp; (try with_reducible rfl)
  case rest0_1tk =>
  try simp only [List.getElem_toArray, List.getElem_cons_succ, List.getElem_cons_zero, Act.put, List.setIfInBounds_toArray, List.set_cons_zero, List.set_cons_succ]
  refine wpAnyG_take' (i := 1) (v := ?v1_2tk) rfl (by kernel_rfl) (by kernel_rfl) (by kernel_rfl) (by kernel_rfl) (fun _ _ _ h => h) (Or.inl ⟨by rfl, ?hy1_2tk⟩) hS ?rest1_2tk
  case hy1_2tk => intro w hSw; (try dsimp only at hSw); go_simp; (try with_reducible rfl)
  case rest1_2tk =>
  try simp only [List.getElem_toArray, List.getElem_cons_succ, List.getElem_cons_zero, Act.put, List.setIfInBounds_toArray, List.set_cons_zero, List.set_cons_succ]
  refine wpAnyG_take' (i := 2) (v := ?v2_3tk) rfl (by kernel_rfl) (by kernel_rfl) (by kernel_rfl) (by kernel_rfl) (fun _ _ _ h => h) (Or.inl ⟨by rfl, ?hy2_3tk⟩) hS ?rest2_3tk
  case hy2_3tk => intro w hSw; (try dsimp only at hSw); go_simp; (try with_reducible rfl)
  case rest2_3tk =>
  try simp only [List.getElem_toArray, List.getElem_cons_succ, List.getElem_cons_zero, Act.put, List.setIfInBounds_toArray, List.set_cons_zero, List.set_cons_succ]
  refine wpAnyG_take' (i := 3) (v := ?v3_4tk) rfl (by kernel_rfl) (by kernel_rfl) (by kernel_rfl) (by kernel_rfl) (fun _ _ _ h => h) (Or.inl ⟨by rfl, ?hy3_4tk⟩) hS ?rest3_4tk
  case hy3_4tk => intro w hSw; (try dsimp only at hSw); go_simp; (try with_reducible rfl)
  case rest3_4tk =>
  try simp only [List.getElem_toArray, List.getElem_cons_succ, List.getElem_cons_zero, Act.put, List.setIfInBounds_toArray, List.set_cons_zero, List.set_cons_succ]
  refine wpAnyG_take' (i := 4) (v := ?v4_5tk) rfl (by kernel_rfl) (by kernel_rfl) (by kernel_rfl) (by kernel_rfl) (fun _ _ _ h => h) (Or.inl ⟨by rfl, ?hy4_5tk⟩) hS ?rest4_5tk
  case hy4_5tk => intro w hSw; (try dsimp only at hSw); go_simp; (try with_reducible rfl)
  case rest4_5tk =>
  try simp only [List.getElem_toArray, List.getElem_cons_succ, List.getElem_cons_zero, Act.put, List.setIfInBounds_toArray, List.set_cons_zero, List.set_cons_succ]
  refine wpAnyG_take' (i := 5) (v := ?v5_6tk) rfl (by kernel_rfl) (by kernel_rfl) (by kernel_rfl) (by kernel_rfl) (fun _ _ _ h => h) (Or.inl ⟨by rfl, ?hy5_6tk⟩) hS ?rest5_6tk
  case hy5_6tk => intro w hSw; (try dsimp only at hSw); go_simp; (try with_reducible rfl)
  case rest5_6tk =>
  try simp only [List.getElem_toArray, List.getElem_cons_succ, List.getElem_cons_zero, Act.put, List.setIfInBounds_toArray, List.set_cons_zero, List.set_cons_succ]
  refine wpAnyG_take' (i := 6) (v := ?v6_7tk) rfl (by kernel_rfl) (by kernel_rfl) (by kernel_rfl) (by kernel_rfl) (fun _ _ _ h => h) (Or.inl ⟨by rfl, ?hy6_7tk⟩) hS ?rest6_7tk
  case hy6_7tk => intro w hSw; (try dsimp only at hSw); go_simp; (try with_reducible rfl)
  case rest6_7tk =>
  try simp only [List.getElem_toArray, List.getElem_cons_succ, List.getElem_cons_zero, Act.put, List.setIfInBounds_toArray, List.set_cons_zero, List.set_cons_succ]
  refine wpAnyG_one (i := 7) (by kernel_rfl) rfl (fun K hK => ?_)
  refine step_max_run rfl _ _ _ _ (by rfl) (by rfl) (by rfl) (max_run _ view mv _) ?_
  refine hK.out _ _ (fun _ => ?hS8tk) ?rest8tk
  case hS8tk => exact ⟨e4, d3, f4⟩
  clear K hK
  try simp only [List.getElem_toArray, List.getElem_cons_succ, List.getElem_cons_zero, Act.put, List.setIfInBounds_toArray, List.set_cons_zero, List.set_cons_succ]
  refine wpAnyG_take' (i := 8) (v := ?v8_9tk) rfl (by kernel_rfl) (by kernel_rfl) (by kernel_rfl) (by kernel_rfl) (fun _ _ _ h => h) (Or.inl ⟨by rfl, ?hy8_9tk⟩) hS ?rest8_9tk
  case hy8_9tk => intro w hSw; (try dsimp only at hSw); go_simp; (try with_reducible rfl)
  case rest8_9tk =>
  try simp only [List.getElem_toArray, List.getElem_cons_succ, List.getElem_cons_zero, Act.put, List.setIfInBounds_toArray, List.set_cons_zero, List.set_cons_succ]
  refine wpAnyG_take' (i := 9) (v := ?v9_10tk) rfl (by kernel_rfl) (by kernel_rfl) (by kernel_rfl) (by kernel_rfl) (fun _ _ _ h => h) (Or.inl ⟨by rfl, ?hy9_10tk⟩) hS ?rest9_10tk
  case hy9_10tk => intro w hSw; (try dsimp only at hSw); go_simp; (try with_reducible rfl)
  case rest9_10tk =>
  try simp only [List.getElem_toArray, List.getElem_cons_succ, List.getElem_cons_zero, Act.put, List.setIfInBounds_toArray, List.set_cons_zero, List.set_cons_succ]
  refine wpAnyG_one (i := 10) (by kernel_rfl) rfl (fun K hK => ?_)
  go_simp
  refine hK.out _ _ (fun hno => by cases hno) ?_
  clear K hK
  try simp only [List.getElem_toArray, List.getElem_cons_succ, List.getElem_cons_zero, Act.put, List.setIfInBounds_toArray, List.set_cons_zero, List.set_cons_succ]
  refine wpAnyG_done (by kernel_rfl) ?_ _
  try simp only [List.getElem_toArray, List.getElem_cons_succ, List.getElem_cons_zero, Act.put, List.setIfInBounds_toArray, List.set_cons_zero, List.set_cons_succ]
  clear hS e4 d3 f4
  obtain ⟨w5, hw5⟩ : ∃ z, z = (w4.setCell ⟨g, 4, none⟩ (.int .i64 (maxI view mv))).drew := ⟨_, rfl⟩
  rw [← hw5] at H5 ⊢
  clear hw5
  have d0 := H5.out.sw3.cell (o := 0) rfl
  have d17 := H5.out.sw3.cell (o := 17) rfl
  have hl := (show Sep w0 (Cl bm (msC ⟨2, (who : Int), mt, mv, mo, mc, ml, ec, em, rc, ra, rb, false⟩ (.slice la 0 kl) (.slice lc 0 kc) (.slice ea 0 ke)) 44 :: _) w5 from H5.out.sw3).loadMs
  unfold msC at hl
  dsimp only at hl
  have HL := Lib.hid hl
  clear hl
  have HS6 := Lib.hid (HSU.out _ _ (H5.out.pickL (M := [_, _, _, _, _]) [3, 4, 0, 1, 2] rfl : Sep w0 (TalC gt b n :: BalM b S :: PrxC g gc cl n num (maxI view mv) wt st k o lv (.pointer (some ⟨gt, 0, none⟩)) :: Cl br _ _ :: Cl bm _ _ :: L) w5))
  clear HSU H5
  (try dsimp only); repeat' (first | (refine opwp_load_run 44 _ rfl _ _ rfl HL.out ?_; clear HL) | (refine wpList_load_run rfl 44 _ rfl _ _ rfl HL.out ?_; clear HL) | go_values | go_skip | go_guarded | go_step | go_upon | go_back)
  refine HS6.out.mono ?_
  rintro r0 w6 ⟨rfl, h6⟩
  clear HS6 d0 d17
  have h6q : Sep w0 (PrxC g gc cl n num (maxI view mv) wt st k o lv (.pointer (some ⟨gt, 0, none⟩)) :: Cl br #[.int .i64 0, .int .i64 0, .int .i64 0] 38 :: Cl bm #[.int .i64 2, .int .i64 (who : Int), .int .i64 mt, .int .i64 mv, .int .i64 mo, .int .i64 mc, .int .i64 ml, .int .i64 ec, .int .i64 em, .int .i64 0, .string ⟨#[]⟩, .int .i64 0, .int .i64 0, .slice la 0 kl, .int .i64 rc, .int .i64 ra, .int .i64 rb, .bool false, .int .i64 0, .slice lc 0 kc, .slice ea 0 ke, .int .i64 0] 44 :: TalC gt b n :: BalM b S2 :: L) w6 := h6.pickL (M := [_, _, _, _, _]) [2, 3, 4, 0, 1] rfl
  clear h6
  have q5 := h6q.cell (o := 5) rfl
  have qf5 := h6q.frozen 5
  have q7 := h6q.cell (o := 7) rfl
  have qf7 := h6q.frozen 7
  have q8 := h6q.cell (o := 8) rfl
  have qf8 := h6q.frozen 8
  have q9 := h6q.cell (o := 9) rfl
  have qf9 := h6q.frozen 9
  have q10 := h6q.cell (o := 10) rfl
  have qf10 := h6q.frozen 10
  have q11 := h6q.cell (o := 11) rfl
  have qf11 := h6q.frozen 11
  have q12 := h6q.cell (o := 12) rfl
  have qf12 := h6q.frozen 12
  have h7 : Sep w0 (PrxC g gc cl n num (maxI view mv) false st 0 0 (.slice none 0 0) (.pointer none) :: Cl br #[.int .i64 0, .int .i64 0, .int .i64 0] 38 :: Cl bm #[.int .i64 2, .int .i64 (who : Int), .int .i64 mt, .int .i64 mv, .int .i64 mo, .int .i64 mc, .int .i64 ml, .int .i64 ec, .int .i64 em, .int .i64 0, .string ⟨#[]⟩, .int .i64 0, .int .i64 0, .slice la 0 kl, .int .i64 rc, .int .i64 ra, .int .i64 rb, .bool false, .int .i64 0, .slice lc 0 kc, .slice ea 0 ke, .int .i64 0] 44 :: TalC gt b n :: BalM b S2 :: L) (((((((w6.setCell ⟨g, 5, none⟩ (.bool false)).setCell ⟨g, 7, none⟩ (.int .i64 0)).setCell ⟨g, 8, none⟩ (.string ⟨#[]⟩)).setCell ⟨g, 9, none⟩ (.int .i64 0)).setCell ⟨g, 10, none⟩ (.int .i64 0)).setCell ⟨g, 11, none⟩ (.slice none 0 0)).setCell ⟨g, 12, none⟩ (.pointer none)) := ((((((h6q.setCell 5 (.bool false)).setCell 7 (.int .i64 0)).setCell 8 (.string ⟨#[]⟩)).setCell 9 (.int .i64 0)).setCell 10 (.int .i64 0)).setCell 11 (.slice none 0 0)).setCell 12 (.pointer none)
  have H7 := Lib.hid h7
  clear h6q h7
  (try dsimp only); repeat' (first | go_values | go_skip | go_guarded | go_step | go_upon | go_back)
  obtain ⟨w7, hw7⟩ : ∃ z, z = (((((((w6.setCell ⟨g, 5, none⟩ (.bool false)).setCell ⟨g, 7, none⟩ (.int .i64 0)).setCell ⟨g, 8, none⟩ (.string ⟨#[]⟩)).setCell ⟨g, 9, none⟩ (.int .i64 0)).setCell ⟨g, 10, none⟩ (.int .i64 0)).setCell ⟨g, 11, none⟩ (.slice none 0 0)).setCell ⟨g, 12, none⟩ (.pointer none)) := ⟨_, rfl⟩
  rw [← hw7] at H7 ⊢
  clear hw7 q5 qf5 q7 qf7 q8 qf8 q9 qf9 q10 qf10 q11 qf11 q12 qf12
  have d4 := H7.out.sw3.cell (o := 4) rfl
  have d14 := H7.out.sw3.cell (o := 14) rfl
  have d15 := H7.out.sw3.cell (o := 15) rfl
  have d16 := H7.out.sw3.cell (o := 16) rfl
  have d17 := H7.out.sw3.cell (o := 17) rfl
  have hz : Sep w0 (Cl br #[.int .i64 0, .int .i64 0, .int .i64 0] 38 :: PrxC g gc cl n num (maxI view mv) false st 0 0 (.slice none 0 0) (.pointer none) :: Cl bm #[.int .i64 2, .int .i64 (who : Int), .int .i64 mt, .int .i64 mv, .int .i64 mo, .int .i64 mc, .int .i64 ml, .int .i64 ec, .int .i64 em, .int .i64 0, .string ⟨#[]⟩, .int .i64 0, .int .i64 0, .slice la 0 kl, .int .i64 rc, .int .i64 ra, .int .i64 rb, .bool false, .int .i64 0, .slice lc 0 kc, .slice ea 0 ke, .int .i64 0] 44 :: TalC gt b n :: BalM b S2 :: L) w7 := H7.out.sw2
  obtain ⟨z0, z1, z2⟩ := cells3p hz
  have zf0 := hz.frozen 0
  have zf1 := hz.frozen 1
  have zf2 := hz.frozen 2
  have h9 := store3p (u0 := .int .i64 rc) (u1 := .int .i64 ra) (u2 := .int .i64 rb) hz
  obtain ⟨y0, y1, y2⟩ := cells3p h9
  have x4 := h9.sw3.cell (o := 4) rfl
  have x14 := h9.sw3.cell (o := 14) rfl
  have x15 := h9.sw3.cell (o := 15) rfl
  have x16 := h9.sw3.cell (o := 16) rfl
  have x17 := h9.sw3.cell (o := 17) rfl
  have H9 := Lib.hid h9.drew
  clear H7 hz h9
  refine wp_region_G (fun w' => w'.cell? ⟨bm, 14, none⟩ = some (.int .i64 rc) ∧ w'.cell? ⟨bm, 15, none⟩ = some (.int .i64 ra) ∧ w'.cell? ⟨bm, 16, none⟩ = some (.int .i64 rb) ∧ w'.cell? ⟨bm, 4, none⟩ = some (.int .i64 mo) ∧ w'.cell? ⟨bm, 17, none⟩ = some (.bool false)) [9] (by kernel_rfl) ⟨d14, d15, d16, d4, d17⟩ (fun hS => ?_)
  try dsimp only at hS
  refine wpAnyG_take' (i := 0) (v := ?v0_1tz) rfl (by kernel_rfl) (by kernel_rfl) (by kernel_rfl) (by kernel_rfl) (fun _ _ _ h => h) (Or.inl ⟨by rfl, ?hy0_1tz⟩) hS ?rest0_1tz
  case hy0_1tz => intro w hSw; (try dsimp only at hSw); go_simp; (try with_reducible rfl)
  case rest0_1tz =>
  try simp only [List.getElem_toArray, List.getElem_cons_succ, List.getElem_cons_zero, Act.put, List.setIfInBounds_toArray, List.set_cons_zero, List.set_cons_succ]
  refine wpAnyG_take' (i := 1) (v := ?v1_2tz) rfl (by kernel_rfl) (by kernel_rfl) (by kernel_rfl) (by kernel_rfl) (fun _ _ _ h => h) (Or.inl ⟨by rfl, ?hy1_2tz⟩) hS ?rest1_2tz
  case hy1_2tz => intro w hSw; (try dsimp only at hSw); go_simp; (try with_reducible rfl)
  case rest1_2tz =>
  try simp only [List.getElem_toArray, List.getElem_cons_succ, List.getElem_cons_zero, Act.put, List.setIfInBounds_toArray, List.set_cons_zero, List.set_cons_succ]
  refine wpAnyG_take' (i := 2) (v := ?v2_3tz) rfl (by kernel_rfl) (by kernel_rfl) (by kernel_rfl) (by kernel_rfl) (fun _ _ _ h => h) (Or.inl ⟨by rfl, ?hy2_3tz⟩) hS ?rest2_3tz
  case hy2_3tz => intro w hSw; (try dsimp only at hSw); go_simp; (try with_reducible rfl)
  case rest2_3tz =>
  try simp only [List.getElem_toArray, List.getElem_cons_succ, List.getElem_cons_zero, Act.put, List.setIfInBounds_toArray, List.set_cons_zero, List.set_cons_succ]
  refine wpAnyG_take' (i := 3) (v := ?v3_4tz) rfl (by kernel_rfl) (by kernel_rfl) (by kernel_rfl) (by kernel_rfl) (fun _ _ _ h => h) (Or.inl ⟨by rfl, ?hy3_4tz⟩) hS ?rest3_4tz
  case hy3_4tz => intro w hSw; (try dsimp only at hSw); go_simp; (try with_reducible rfl)
  case rest3_4tz =>
  try simp only [List.getElem_toArray, List.getElem_cons_succ, List.getElem_cons_zero, Act.put, List.setIfInBounds_toArray, List.set_cons_zero, List.set_cons_succ]
  refine wpAnyG_take' (i := 4) (v := ?v4_5tz) rfl (by kernel_rfl) (by kernel_rfl) (by kernel_rfl) (by kernel_rfl) (fun _ _ _ h => h) (Or.inl ⟨by rfl, ?hy4_5tz⟩) hS ?rest4_5tz
  case hy4_5tz => intro w hSw; (try dsimp only at hSw); go_simp; (try with_reducible rfl)
  case rest4_5tz =>
  try simp only [List.getElem_toArray, List.getElem_cons_succ, List.getElem_cons_zero, Act.put, List.setIfInBounds_toArray, List.set_cons_zero, List.set_cons_succ]
  refine wpAnyG_take' (i := 5) (v := ?v5_6tz) rfl (by kernel_rfl) (by kernel_rfl) (by kernel_rfl) (by kernel_rfl) (fun _ _ _ h => h) (Or.inl ⟨by rfl, ?hy5_6tz⟩) hS ?rest5_6tz
  case hy5_6tz => intro w hSw; (try dsimp only at hSw); go_simp; (try with_reducible rfl)
  case rest5_6tz =>
  try simp only [List.getElem_toArray, List.getElem_cons_succ, List.getElem_cons_zero, Act.put, List.setIfInBounds_toArray, List.set_cons_zero, List.set_cons_succ]
  refine wpAnyG_one (i := 6) (by kernel_rfl) rfl (fun K hK => ?_)
  go_simp
  refine hK.out _ _ (fun _ => ?hS7tz) ?rest7tz
  case hS7tz => exact ⟨x14, x15, x16, x4, x17⟩
  clear K hK
  try simp only [List.getElem_toArray, List.getElem_cons_succ, List.getElem_cons_zero, Act.put, List.setIfInBounds_toArray, List.set_cons_zero, List.set_cons_succ]
  refine wpAnyG_one (i := 7) (by kernel_rfl) rfl (fun K hK => ?_)
  go_simp
  refine hK.out _ _ (fun _ => ?hS8tz) ?rest8tz
  case hS8tz => exact ⟨x14, x15, x16, x4, x17⟩
  clear K hK
  try simp only [List.getElem_toArray, List.getElem_cons_succ, List.getElem_cons_zero, Act.put, List.setIfInBounds_toArray, List.set_cons_zero, List.set_cons_succ]
  refine wpAnyG_one (i := 8) (by kernel_rfl) rfl (fun K hK => ?_)
  go_simp
  refine hK.out _ _ (fun _ => ?hS9tz) ?rest9tz
  case hS9tz => exact ⟨x14, x15, x16, x4, x17⟩
  clear K hK
  try simp only [List.getElem_toArray, List.getElem_cons_succ, List.getElem_cons_zero, Act.put, List.setIfInBounds_toArray, List.set_cons_zero, List.set_cons_succ]
  refine wpAnyG_one (i := 9) (by kernel_rfl) rfl (fun K hK => ?_)
  go_simp
  refine hK.out _ _ (fun hno => by cases hno) ?_
  clear K hK
  try simp only [List.getElem_toArray, List.getElem_cons_succ, List.getElem_cons_zero, Act.put, List.setIfInBounds_toArray, List.set_cons_zero, List.set_cons_succ]
  refine wpAnyG_done (by kernel_rfl) ?_ _
  try simp only [List.getElem_toArray, List.getElem_cons_succ, List.getElem_cons_zero, Act.put, List.setIfInBounds_toArray, List.set_cons_zero, List.set_cons_succ]
  (try dsimp only); repeat' (first | go_values | go_skip | go_guarded | go_step | go_upon | go_back)
  exact bodyPost_ret (v := .tuple #[.agg #[.int .i64 rc, .int .i64 ra, .int .i64 rb], .int .i64 mo, .bool false, .bool true]) (by simp [results, Tryd.results11, go_sem, y0, y1, y2]) rfl ⟨rfl, H9.out.pickL (M := [_, _, _]) [1] rfl⟩
end Go.Proofs.YtdemconpdjgimaaDoor
