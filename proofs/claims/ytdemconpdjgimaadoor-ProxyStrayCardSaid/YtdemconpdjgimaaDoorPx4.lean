/- A proxy: counts. -/
import Derived.Test.YtdemconpdjgimaaDoorPx3
import Derived.Deep.MidRow
namespace Go.Proofs.YtdemconpdjgimaaDoor
open Go.RowKit
set_option linter.unusedVariables false
set_option linter.unusedSimpArgs false
theorem wpList_load_run {P : Program} {ops : Array Oper} {rest : List Oper} {o : Oper} {a : Act} {w : World} {Q : Exit → Act → World → Prop} (hg : o.guard = none) (t : TypeId) (x : Operand) (hop : o.op = .load t x) (p v : Value) (hx : a.eval x = p)
    (hr : (Instr.loadAt t p).run P w = .ok v w) (hK : wpList P ops Q rest (a.put o.dst v) w) : wpList P ops Q (o :: rest) a w := by
  refine wpList_plain hg fun K hK' => ?_
  unfold Oper.wp
  simp [execOp, hop, hx, hr, Result.andThen]
  exact hK' _ _ hK
theorem opwp_load_run {P : Program} {o : Oper} {a : Act} {w : World} {K : Act → World → Prop} {Q : Exit → Act → World → Prop} (t : TypeId) (x : Operand) (hop : o.op = .load t x) (p v : Value) (hx : a.eval x = p)
    (hr : (Instr.loadAt t p).run P w = .ok v w) (hK : K (a.put o.dst v) w) : Oper.wp P o a w K Q := by
  unfold Oper.wp
  simp [execOp, hop, hx, hr, Result.andThen]
  exact hK
theorem Sep.loadW {w0 w : World} {b : Nat} {cs : Array Value} {t : TypeId} {L : List Thing} {P : Program} {d : TypeDesc} (h : Sep w0 (Cl b cs t :: L) w) (ty : TypeId) (hu : P.underlying ty = some d) (hd : d.isRow = true) (hi : (P.info? ty).map (·.size) = some cs.size) : (Instr.loadAt ty (.pointer (some ⟨b, 0, none⟩))).run P w = .ok (.agg cs) w := by
  have h1 := run_loadAt_mid (P := P) w b 0 ty cs.toList d (fun j v hj => by rw [Nat.zero_add]; exact h.cell (by simpa using hj)) hu hd (by simpa using hi)
  simpa using h1
theorem Sep.loadMs {w0 w : World} {b : Nat} {m : MsM} {lv cv ev : Value} {L : List Thing} (h : Sep w0 (Cl b (msC m lv cv ev) 44 :: L) w) : (Instr.loadAt 44 (.pointer (some ⟨b, 0, none⟩))).run Tryd.prog w = .ok (.agg (msC m lv cv ev)) w :=
  h.loadW 44 Tryd.underlying44 rfl (by kernel_rfl)
variable {w0 w : World} {g gc bm bp : Nat} {cl n num view : Int} {wt st : Bool} {k o : Int} {lv tp : Value} {L : List Thing} {mk mf mt mv mo mc ml ec em rc ra rb : Int} {ms : Bool} {la lc ea : Option Addr} {kl kc ke : Nat}
set_option maxRecDepth 100000 in
set_option maxHeartbeats 4000000 in
theorem cnt1_any (h : Sep w0 (Cl bm (msC ⟨mk, mf, mt, mv, mo, mc, ml, ec, em, rc, ra, rb, ms⟩ (.slice la 0 kl) (.slice lc 0 kc) (.slice ea 0 ke)) 44 :: Cl bp #[.pointer (some ⟨g, 0, none⟩)] 24 :: PrxC g gc cl n num view wt st k o lv tp :: L) w) : Calls Tryd.prog 29 #[.pointer (some ⟨bp, 0, none⟩)] w fun e w' => e = .returned (.bool (wt)) ∧ Sep w0 (Cl bm (msC ⟨mk, mf, mt, mv, mo, mc, ml, ec, em, rc, ra, rb, ms⟩ (.slice la 0 kl) (.slice lc 0 kc) (.slice ea 0 ke)) 44 :: Cl bp #[.pointer (some ⟨g, 0, none⟩)] 24 :: PrxC g gc cl n num view wt st k o lv tp :: L) w' := by
  have H := Lib.hid h
  unfold msC at h
  have c0 := h.sw2.cell (o := 0) rfl
  have c1 := h.sw3.cell (o := 5) rfl
  clear h
  go_enter Tryd.func29, Tryd.ntmps29
  (try dsimp only); repeat' (first | go_values | go_skip | go_guarded | go_step | go_upon | go_back)
  go_ret
  exact ⟨rfl, H.out⟩
set_option maxRecDepth 100000 in
set_option maxHeartbeats 4000000 in
theorem cnt2_any (h : Sep w0 (Cl bm (msC ⟨mk, mf, mt, mv, mo, mc, ml, ec, em, rc, ra, rb, ms⟩ (.slice la 0 kl) (.slice lc 0 kc) (.slice ea 0 ke)) 44 :: Cl bp #[.pointer (some ⟨g, 0, none⟩)] 24 :: PrxC g gc cl n num view wt st k o lv tp :: L) w) {chk : Bool} (HCK : ∀ wx M, Sep w0 M wx → Calls Tryd.prog 31 #[.agg (msC ⟨mk, mf, mt, mv, mo, mc, ml, ec, em, rc, ra, rb, ms⟩ (.slice la 0 kl) (.slice lc 0 kc) (.slice ea 0 ke))] wx fun e w' => e = .returned (.int .i64 (if chk then 0 else 2)) ∧ Sep w0 M w') : Calls Tryd.prog 30 #[.pointer (some ⟨bm, 0, none⟩)] w fun e w' => e = .returned (.bool (chk)) ∧ Sep w0 (Cl bm (msC ⟨mk, mf, mt, mv, mo, mc, ml, ec, em, rc, ra, rb, ms⟩ (.slice la 0 kl) (.slice lc 0 kc) (.slice ea 0 ke)) 44 :: Cl bp #[.pointer (some ⟨g, 0, none⟩)] 24 :: PrxC g gc cl n num view wt st k o lv tp :: L) w' := by
  have H := Lib.hid h
  unfold msC at h
  have hl := H.out.loadMs
  unfold msC at hl
  have HL := Lib.hid hl
  clear hl
  have HC := Lib.hid (HCK w _ H.out)
  unfold msC at HC
  clear HCK
  clear h
  cases chk with
  | true =>
    simp only [if_true] at HC
    go_enter Tryd.func30, Tryd.ntmps30
    (try dsimp only); repeat' (first | (refine wpList_load_run rfl 44 _ rfl _ _ rfl HL.out ?_; clear HL) | go_values | go_skip | go_guarded | go_step | go_upon | go_back)
    refine HC.out.mono ?_
    rintro r0 w1 ⟨rfl, h2⟩
    have H2 := Lib.hid h2
    clear h2 HC
    (try dsimp only); repeat' (first | go_values | go_skip | go_guarded | go_step | go_upon | go_back)
    go_ret
    exact ⟨rfl, H2.out⟩
  | false =>
    simp only [Bool.false_eq_true, if_false] at HC
    go_enter Tryd.func30, Tryd.ntmps30
    (try dsimp only); repeat' (first | (refine wpList_load_run rfl 44 _ rfl _ _ rfl HL.out ?_; clear HL) | go_values | go_skip | go_guarded | go_step | go_upon | go_back)
    refine HC.out.mono ?_
    rintro r0 w1 ⟨rfl, h2⟩
    have H2 := Lib.hid h2
    clear h2 HC
    (try dsimp only); repeat' (first | go_values | go_skip | go_guarded | go_step | go_upon | go_back)
    go_ret
    exact ⟨rfl, H2.out⟩
set_option maxRecDepth 100000 in
set_option maxHeartbeats 4000000 in
theorem cnt3_any (h : Sep w0 (Cl bm (msC ⟨mk, mf, mt, mv, mo, mc, ml, ec, em, rc, ra, rb, ms⟩ (.slice la 0 kl) (.slice lc 0 kc) (.slice ea 0 ke)) 44 :: Cl bp #[.pointer (some ⟨g, 0, none⟩)] 24 :: PrxC g gc cl n num view wt st k o lv tp :: L) w) : Calls Tryd.prog 32 #[.pointer (some ⟨bm, 0, none⟩)] w fun e w' => e = .returned (.bool (mk == 2 || mk == 10)) ∧ Sep w0 (Cl bm (msC ⟨mk, mf, mt, mv, mo, mc, ml, ec, em, rc, ra, rb, ms⟩ (.slice la 0 kl) (.slice lc 0 kc) (.slice ea 0 ke)) 44 :: Cl bp #[.pointer (some ⟨g, 0, none⟩)] 24 :: PrxC g gc cl n num view wt st k o lv tp :: L) w' := by
  have H := Lib.hid h
  unfold msC at h
  have d0 := h.cell (o := 0) rfl
  clear h
  cases e2 : (mk == 2) with
  | true =>
    rw [Bool.true_or]
    go_enter Tryd.func32, Tryd.ntmps32
    (try dsimp only); repeat' (first | go_values | go_skip | go_guarded | go_step | go_upon | go_back)
    go_ret
    exact ⟨rfl, H.out⟩
  | false =>
    rw [Bool.false_or]
    go_enter Tryd.func32, Tryd.ntmps32
    (try dsimp only); repeat' (first | go_values | go_skip | go_guarded | go_step | go_upon | go_back)
    go_ret
    exact ⟨rfl, H.out⟩
set_option maxRecDepth 100000 in
set_option maxHeartbeats 4000000 in
theorem cnt4_any (h : Sep w0 (Cl bm (msC ⟨mk, mf, mt, mv, mo, mc, ml, ec, em, rc, ra, rb, ms⟩ (.slice la 0 kl) (.slice lc 0 kc) (.slice ea 0 ke)) 44 :: Cl bp #[.pointer (some ⟨g, 0, none⟩)] 24 :: PrxC g gc cl n num view wt st k o lv tp :: L) w) (hc0 : 0 ≤ cl) (hc8 : cl < 8) : Calls Tryd.prog 33 #[.pointer (some ⟨bm, 0, none⟩), .pointer (some ⟨bp, 0, none⟩)] w fun e w' => e = .returned (.bool (mt == 15 + cl)) ∧ Sep w0 (Cl bm (msC ⟨mk, mf, mt, mv, mo, mc, ml, ec, em, rc, ra, rb, ms⟩ (.slice la 0 kl) (.slice lc 0 kc) (.slice ea 0 ke)) 44 :: Cl bp #[.pointer (some ⟨g, 0, none⟩)] 24 :: PrxC g gc cl n num view wt st k o lv tp :: L) w' := by
  have H := Lib.hid h
  unfold msC at h
  have d2 := h.cell (o := 2) rfl
  have c0 := h.sw2.cell (o := 0) rfl
  have c1 := h.sw3.cell (o := 1) rfl
  clear h
  have hw : IntKind.i64.wrap (15 + cl) = 15 + cl := IntWalk.i64_in _ (by omega)
  clear hc0 hc8
  go_enter Tryd.func33, Tryd.ntmps33
  go_wp2_with fail
  go_quiet (fail)
  go_wp2
  go_ret
  exact ⟨rfl, H.out.drewN nq⟩
set_option maxRecDepth 100000 in
set_option maxHeartbeats 4000000 in
theorem cnt5_any (h : Sep w0 (Cl bm (msC ⟨mk, mf, mt, mv, mo, mc, ml, ec, em, rc, ra, rb, ms⟩ (.slice la 0 kl) (.slice lc 0 kc) (.slice ea 0 ke)) 44 :: Cl bp #[.pointer (some ⟨g, 0, none⟩)] 24 :: PrxC g gc cl n num view wt st k o lv tp :: L) w) : Calls Tryd.prog 34 #[.pointer (some ⟨bm, 0, none⟩), .pointer (some ⟨bp, 0, none⟩)] w fun e w' => e = .returned (.bool (decide (mf < n))) ∧ Sep w0 (Cl bm (msC ⟨mk, mf, mt, mv, mo, mc, ml, ec, em, rc, ra, rb, ms⟩ (.slice la 0 kl) (.slice lc 0 kc) (.slice ea 0 ke)) 44 :: Cl bp #[.pointer (some ⟨g, 0, none⟩)] 24 :: PrxC g gc cl n num view wt st k o lv tp :: L) w' := by
  have H := Lib.hid h
  unfold msC at h
  have d1 := h.cell (o := 1) rfl
  have c0 := h.sw2.cell (o := 0) rfl
  have c1 := h.sw3.cell (o := 2) rfl
  clear h
  go_enter Tryd.func34, Tryd.ntmps34
  go_wp2_with fail
  go_quiet (fail)
  go_wp2
  go_ret
  exact ⟨rfl, H.out.drewN nq⟩
set_option maxRecDepth 100000 in
set_option maxHeartbeats 4000000 in
theorem cnt6_any (h : Sep w0 (Cl bm (msC ⟨mk, mf, mt, mv, mo, mc, ml, ec, em, rc, ra, rb, ms⟩ (.slice la 0 kl) (.slice lc 0 kc) (.slice ea 0 ke)) 44 :: Cl bp #[.pointer (some ⟨g, 0, none⟩)] 24 :: PrxC g gc cl n num view wt st k o lv tp :: L) w) : Calls Tryd.prog 35 #[.pointer (some ⟨bm, 0, none⟩), .pointer (some ⟨bp, 0, none⟩)] w fun e w' => e = .returned (.bool ((ec == cl) && (em == num))) ∧ Sep w0 (Cl bm (msC ⟨mk, mf, mt, mv, mo, mc, ml, ec, em, rc, ra, rb, ms⟩ (.slice la 0 kl) (.slice lc 0 kc) (.slice ea 0 ke)) 44 :: Cl bp #[.pointer (some ⟨g, 0, none⟩)] 24 :: PrxC g gc cl n num view wt st k o lv tp :: L) w' := by
  have H := Lib.hid h
  unfold msC at h
  have d7 := h.cell (o := 7) rfl
  have d8 := h.cell (o := 8) rfl
  have c0 := h.sw2.cell (o := 0) rfl
  have c1 := h.sw3.cell (o := 1) rfl
  have c3 := h.sw3.cell (o := 3) rfl
  clear h
  cases e2 : (ec == cl) with
  | true =>
    rw [Bool.true_and]
    go_enter Tryd.func35, Tryd.ntmps35
    go_wp2_with fail
    go_quiet (fail)
    go_wp2
    go_ret
    exact ⟨rfl, H.out.drewN nq⟩
  | false =>
    rw [Bool.false_and]
    go_enter Tryd.func35, Tryd.ntmps35
    go_wp2_with fail
    go_quiet (fail)
    go_wp2
    go_ret
    exact ⟨rfl, H.out.drewN nq⟩
/-- Is a message counted? -/
def cntsB (wt chk : Bool) (cl n num mk mt mf ec em : Int) : Bool := wt && (chk && ((mk == 2 || mk == 10) && ((mt == 15 + cl) && (decide (mf < n) && ((ec == cl) && (em == num))))))
set_option maxRecDepth 100000 in
set_option maxHeartbeats 16000000 in
theorem pxcounts_any {chk : Bool} (h : Sep w0 (PrxC g gc cl n num view wt st k o lv tp :: L) w) (hc0 : 0 ≤ cl) (hc8 : cl < 8) (HCK : ∀ wx M, Sep w0 M wx → Calls Tryd.prog 31 #[.agg (msC ⟨mk, mf, mt, mv, mo, mc, ml, ec, em, rc, ra, rb, ms⟩ (.slice la 0 kl) (.slice lc 0 kc) (.slice ea 0 ke))] wx fun e w' => e = .returned (.int .i64 (if chk then 0 else 2)) ∧ Sep w0 M w') :
    Calls Tryd.prog 21 #[.pointer (some ⟨g, 0, none⟩), .agg (msC ⟨mk, mf, mt, mv, mo, mc, ml, ec, em, rc, ra, rb, ms⟩ (.slice la 0 kl) (.slice lc 0 kc) (.slice ea 0 ke))] w fun e w' => e = .returned (.bool (cntsB wt chk cl n num mk mt mf ec em)) ∧ Sep w0 (PrxC g gc cl n num view wt st k o lv tp :: L) w' := by
  obtain ⟨w3, hw3⟩ : ∃ z, z = ((w.alloc (.cells #[.pointer (some ⟨g, 0, none⟩)] 24)).alloc (.cells #[.int .i64 mk, .int .i64 mf, .int .i64 mt, .int .i64 mv, .int .i64 mo, .int .i64 mc, .int .i64 ml, .int .i64 ec, .int .i64 em, .int .i64 0, .string ⟨#[]⟩, .int .i64 0, .int .i64 0, .slice la 0 kl, .int .i64 rc, .int .i64 ra, .int .i64 rb, .bool ms, .int .i64 0, .slice lc 0 kc, .slice ea 0 ke, .int .i64 0] 44)).alloc (.cells #[.func (.func 29) #[] #[.pointer (some ⟨w.heap.size, 0, none⟩)], .func (.func 30) #[] #[.pointer (some ⟨w.heap.size + 1, 0, none⟩)], .func (.func 32) #[] #[.pointer (some ⟨w.heap.size + 1, 0, none⟩)], .func (.func 33) #[] #[.pointer (some ⟨w.heap.size + 1, 0, none⟩), .pointer (some ⟨w.heap.size, 0, none⟩)], .func (.func 34) #[] #[.pointer (some ⟨w.heap.size + 1, 0, none⟩), .pointer (some ⟨w.heap.size, 0, none⟩)], .func (.func 35) #[] #[.pointer (some ⟨w.heap.size + 1, 0, none⟩), .pointer (some ⟨w.heap.size, 0, none⟩)]] 23) := ⟨_, rfl⟩
  have h3 : Sep w0 (Cl (w.heap.size + 1 + 1) #[.func (.func 29) #[] #[.pointer (some ⟨w.heap.size, 0, none⟩)], .func (.func 30) #[] #[.pointer (some ⟨w.heap.size + 1, 0, none⟩)], .func (.func 32) #[] #[.pointer (some ⟨w.heap.size + 1, 0, none⟩)], .func (.func 33) #[] #[.pointer (some ⟨w.heap.size + 1, 0, none⟩), .pointer (some ⟨w.heap.size, 0, none⟩)], .func (.func 34) #[] #[.pointer (some ⟨w.heap.size + 1, 0, none⟩), .pointer (some ⟨w.heap.size, 0, none⟩)], .func (.func 35) #[] #[.pointer (some ⟨w.heap.size + 1, 0, none⟩), .pointer (some ⟨w.heap.size, 0, none⟩)]] 23 :: Cl (w.heap.size + 1) (msC ⟨mk, mf, mt, mv, mo, mc, ml, ec, em, rc, ra, rb, ms⟩ (.slice la 0 kl) (.slice lc 0 kc) (.slice ea 0 ke)) 44 :: Cl w.heap.size #[.pointer (some ⟨g, 0, none⟩)] 24 :: PrxC g gc cl n num view wt st k o lv tp :: L) w3 := by
    rw [hw3]
    have h1 := h.alloc (.cells #[.pointer (some ⟨g, 0, none⟩)] 24)
    have h2 := h1.alloc (.cells (msC ⟨mk, mf, mt, mv, mo, mc, ml, ec, em, rc, ra, rb, ms⟩ (.slice la 0 kl) (.slice lc 0 kc) (.slice ea 0 ke)) 44)
    rw [show (w.alloc (.cells #[.pointer (some ⟨g, 0, none⟩)] 24)).heap.size = w.heap.size + 1 by simp] at h2
    have h3 := h2.alloc (.cells #[.func (.func 29) #[] #[.pointer (some ⟨w.heap.size, 0, none⟩)], .func (.func 30) #[] #[.pointer (some ⟨w.heap.size + 1, 0, none⟩)], .func (.func 32) #[] #[.pointer (some ⟨w.heap.size + 1, 0, none⟩)], .func (.func 33) #[] #[.pointer (some ⟨w.heap.size + 1, 0, none⟩), .pointer (some ⟨w.heap.size, 0, none⟩)], .func (.func 34) #[] #[.pointer (some ⟨w.heap.size + 1, 0, none⟩), .pointer (some ⟨w.heap.size, 0, none⟩)], .func (.func 35) #[] #[.pointer (some ⟨w.heap.size + 1, 0, none⟩), .pointer (some ⟨w.heap.size, 0, none⟩)]] 23)
    rw [show ((w.alloc (.cells #[.pointer (some ⟨g, 0, none⟩)] 24)).alloc (.cells (msC ⟨mk, mf, mt, mv, mo, mc, ml, ec, em, rc, ra, rb, ms⟩ (.slice la 0 kl) (.slice lc 0 kc) (.slice ea 0 ke)) 44)).heap.size = w.heap.size + 1 + 1 by simp] at h3
    exact h3
  obtain ⟨bp, hbp⟩ : ∃ z, z = w.heap.size := ⟨_, rfl⟩
  rw [← hbp] at h3
  obtain ⟨bm, hbm⟩ : ∃ z, z = bp + 1 := ⟨_, rfl⟩
  rw [← hbm] at h3
  obtain ⟨bs, hbs⟩ : ∃ z, z = bm + 1 := ⟨_, rfl⟩
  rw [← hbs] at h3
  have H3 := Lib.hid h3
  have HCK := Lib.hid HCK
  clear h h3
  have HC0 := Lib.hid (And.intro hc0 hc8)
  clear hc0 hc8
  obtain ⟨R, hR⟩ : ∃ R, R = cntsB wt chk cl n num mk mt mf ec em := ⟨_, rfl⟩
  rw [← hR]
  have HR := Lib.hid hR
  clear hR
  go_enter Tryd.func21, Tryd.ntmps21
  unfold msC
  (try dsimp only); repeat' (first | go_values | go_skip | go_guarded | go_step | go_upon | go_back)
  rw [← hw3, ← hbp, ← hbm, ← hbs]
  clear hw3 hbp hbm hbs
  go_loopw [15] (fun i wr => ∃ j : Nat, j ≤ 6 ∧ i = .int .i64 j ∧ R = ([wt, chk, (mk == 2 || mk == 10), (mt == 15 + cl), decide (mf < n), ((ec == cl) && (em == num))].drop j).all id ∧ Sep w0 (Cl bs #[.func (.func 29) #[] #[.pointer (some ⟨bp, 0, none⟩)], .func (.func 30) #[] #[.pointer (some ⟨bm, 0, none⟩)], .func (.func 32) #[] #[.pointer (some ⟨bm, 0, none⟩)], .func (.func 33) #[] #[.pointer (some ⟨bm, 0, none⟩), .pointer (some ⟨bp, 0, none⟩)], .func (.func 34) #[] #[.pointer (some ⟨bm, 0, none⟩), .pointer (some ⟨bp, 0, none⟩)], .func (.func 35) #[] #[.pointer (some ⟨bm, 0, none⟩), .pointer (some ⟨bp, 0, none⟩)]] 23 :: Cl bm (msC ⟨mk, mf, mt, mv, mo, mc, ml, ec, em, rc, ra, rb, ms⟩ (.slice la 0 kl) (.slice lc 0 kc) (.slice ea 0 ke)) 44 :: Cl bp #[.pointer (some ⟨g, 0, none⟩)] 24 :: PrxC g gc cl n num view wt st k o lv tp :: L) wr) (fun i _ => 6 - (intOf i).toNat)
  case atStart => exact ⟨0, by omega, rfl, by rw [HR.out]; simp [cntsB], H3.out⟩
  case round =>
    obtain ⟨j, hj, rfl, hR, hs⟩ := hrel
    clear H3 HR
    obtain rfl | rfl | rfl | rfl | rfl | rfl | rfl : j = 0 ∨ j = 1 ∨ j = 2 ∨ j = 3 ∨ j = 4 ∨ j = 5 ∨ j = 6 := by omega
    · as_aux_lemma =>
      have hq : Sep w0 (Cl bm (msC ⟨mk, mf, mt, mv, mo, mc, ml, ec, em, rc, ra, rb, ms⟩ (.slice la 0 kl) (.slice lc 0 kc) (.slice ea 0 ke)) 44 :: Cl bp #[.pointer (some ⟨g, 0, none⟩)] 24 :: PrxC g gc cl n num view wt st k o lv tp :: Cl bs #[.func (.func 29) #[] #[.pointer (some ⟨bp, 0, none⟩)], .func (.func 30) #[] #[.pointer (some ⟨bm, 0, none⟩)], .func (.func 32) #[] #[.pointer (some ⟨bm, 0, none⟩)], .func (.func 33) #[] #[.pointer (some ⟨bm, 0, none⟩), .pointer (some ⟨bp, 0, none⟩)], .func (.func 34) #[] #[.pointer (some ⟨bm, 0, none⟩), .pointer (some ⟨bp, 0, none⟩)], .func (.func 35) #[] #[.pointer (some ⟨bm, 0, none⟩), .pointer (some ⟨bp, 0, none⟩)]] 23 :: L) wr := hs.pickL (M := [_, _, _, _]) [1, 2, 3, 0] rfl
      have c := hs.cell (o := 0) rfl
      simp only [List.drop_succ_cons, List.drop_zero, List.all_cons, List.all_nil, id, Bool.and_true] at hR
      have HX := Lib.hid (cnt1_any hq)
      have HR := Lib.hid hR
      clear hs hq hR hj
      (try dsimp only); repeat' (first | go_values | go_skip | go_guarded | go_step | go_upon | go_back)
      refine HX.out.mono ?_
      rintro r0 w4 ⟨rfl, h4⟩
      have H4 : Hid (Sep w0 (Cl bs #[.func (.func 29) #[] #[.pointer (some ⟨bp, 0, none⟩)], .func (.func 30) #[] #[.pointer (some ⟨bm, 0, none⟩)], .func (.func 32) #[] #[.pointer (some ⟨bm, 0, none⟩)], .func (.func 33) #[] #[.pointer (some ⟨bm, 0, none⟩), .pointer (some ⟨bp, 0, none⟩)], .func (.func 34) #[] #[.pointer (some ⟨bm, 0, none⟩), .pointer (some ⟨bp, 0, none⟩)], .func (.func 35) #[] #[.pointer (some ⟨bm, 0, none⟩), .pointer (some ⟨bp, 0, none⟩)]] 23 :: Cl bm (msC ⟨mk, mf, mt, mv, mo, mc, ml, ec, em, rc, ra, rb, ms⟩ (.slice la 0 kl) (.slice lc 0 kc) (.slice ea 0 ke)) 44 :: Cl bp #[.pointer (some ⟨g, 0, none⟩)] 24 :: PrxC g gc cl n num view wt st k o lv tp :: L) w4) := Lib.hid (h4.pickL (M := [_, _, _, _]) [3, 0, 1, 2] rfl)
      clear h4 HX c
      cases hz : wt with
      | true =>
        rw [hz] at HR
        try simp only [Bool.true_and] at HR
        have HR2 := Lib.hid HR.out
        clear HR
        (try dsimp only); repeat' (first | go_values | go_skip | go_guarded | go_step | go_upon | go_back)
        go_roundw
        case rel => exact ⟨1, by omega, rfl, by rw [HR2.out]; simp, H4.out⟩
        case measure => decide
      | false =>
        have hRf : R = false := by rw [HR.out, hz] <;> rfl
        have HRF := Lib.hid hRf
        clear HR hRf
        (try dsimp only); repeat' (first | go_values | go_skip | go_guarded | go_step | go_upon | go_back)
        go_ret
        refine ⟨?_, H4.out.drop.drop.drop⟩
        show Ending.returned (Value.bool false) = _
        rw [HRF.out]
    · as_aux_lemma =>
      have hq : Sep w0 (Cl bm (msC ⟨mk, mf, mt, mv, mo, mc, ml, ec, em, rc, ra, rb, ms⟩ (.slice la 0 kl) (.slice lc 0 kc) (.slice ea 0 ke)) 44 :: Cl bp #[.pointer (some ⟨g, 0, none⟩)] 24 :: PrxC g gc cl n num view wt st k o lv tp :: Cl bs #[.func (.func 29) #[] #[.pointer (some ⟨bp, 0, none⟩)], .func (.func 30) #[] #[.pointer (some ⟨bm, 0, none⟩)], .func (.func 32) #[] #[.pointer (some ⟨bm, 0, none⟩)], .func (.func 33) #[] #[.pointer (some ⟨bm, 0, none⟩), .pointer (some ⟨bp, 0, none⟩)], .func (.func 34) #[] #[.pointer (some ⟨bm, 0, none⟩), .pointer (some ⟨bp, 0, none⟩)], .func (.func 35) #[] #[.pointer (some ⟨bm, 0, none⟩), .pointer (some ⟨bp, 0, none⟩)]] 23 :: L) wr := hs.pickL (M := [_, _, _, _]) [1, 2, 3, 0] rfl
      have c := hs.cell (o := 1) rfl
      simp only [List.drop_succ_cons, List.drop_zero, List.all_cons, List.all_nil, id, Bool.and_true] at hR
      have HX := Lib.hid (cnt2_any hq HCK.out)
      have HR := Lib.hid hR
      clear hs hq hR hj
      (try dsimp only); repeat' (first | go_values | go_skip | go_guarded | go_step | go_upon | go_back)
      refine HX.out.mono ?_
      rintro r0 w4 ⟨rfl, h4⟩
      have H4 : Hid (Sep w0 (Cl bs #[.func (.func 29) #[] #[.pointer (some ⟨bp, 0, none⟩)], .func (.func 30) #[] #[.pointer (some ⟨bm, 0, none⟩)], .func (.func 32) #[] #[.pointer (some ⟨bm, 0, none⟩)], .func (.func 33) #[] #[.pointer (some ⟨bm, 0, none⟩), .pointer (some ⟨bp, 0, none⟩)], .func (.func 34) #[] #[.pointer (some ⟨bm, 0, none⟩), .pointer (some ⟨bp, 0, none⟩)], .func (.func 35) #[] #[.pointer (some ⟨bm, 0, none⟩), .pointer (some ⟨bp, 0, none⟩)]] 23 :: Cl bm (msC ⟨mk, mf, mt, mv, mo, mc, ml, ec, em, rc, ra, rb, ms⟩ (.slice la 0 kl) (.slice lc 0 kc) (.slice ea 0 ke)) 44 :: Cl bp #[.pointer (some ⟨g, 0, none⟩)] 24 :: PrxC g gc cl n num view wt st k o lv tp :: L) w4) := Lib.hid (h4.pickL (M := [_, _, _, _]) [3, 0, 1, 2] rfl)
      clear h4 HX c
      cases hz : chk with
      | true =>
        rw [hz] at HR
        try simp only [Bool.true_and] at HR
        have HR2 := Lib.hid HR.out
        clear HR
        (try dsimp only); repeat' (first | go_values | go_skip | go_guarded | go_step | go_upon | go_back)
        go_roundw
        case rel => exact ⟨2, by omega, rfl, by rw [HR2.out]; simp, H4.out⟩
        case measure => decide
      | false =>
        have hRf : R = false := by rw [HR.out, hz] <;> rfl
        have HRF := Lib.hid hRf
        clear HR hRf
        (try dsimp only); repeat' (first | go_values | go_skip | go_guarded | go_step | go_upon | go_back)
        go_ret
        refine ⟨?_, H4.out.drop.drop.drop⟩
        show Ending.returned (Value.bool false) = _
        rw [HRF.out]
    · as_aux_lemma =>
      have hq : Sep w0 (Cl bm (msC ⟨mk, mf, mt, mv, mo, mc, ml, ec, em, rc, ra, rb, ms⟩ (.slice la 0 kl) (.slice lc 0 kc) (.slice ea 0 ke)) 44 :: Cl bp #[.pointer (some ⟨g, 0, none⟩)] 24 :: PrxC g gc cl n num view wt st k o lv tp :: Cl bs #[.func (.func 29) #[] #[.pointer (some ⟨bp, 0, none⟩)], .func (.func 30) #[] #[.pointer (some ⟨bm, 0, none⟩)], .func (.func 32) #[] #[.pointer (some ⟨bm, 0, none⟩)], .func (.func 33) #[] #[.pointer (some ⟨bm, 0, none⟩), .pointer (some ⟨bp, 0, none⟩)], .func (.func 34) #[] #[.pointer (some ⟨bm, 0, none⟩), .pointer (some ⟨bp, 0, none⟩)], .func (.func 35) #[] #[.pointer (some ⟨bm, 0, none⟩), .pointer (some ⟨bp, 0, none⟩)]] 23 :: L) wr := hs.pickL (M := [_, _, _, _]) [1, 2, 3, 0] rfl
      have c := hs.cell (o := 2) rfl
      simp only [List.drop_succ_cons, List.drop_zero, List.all_cons, List.all_nil, id, Bool.and_true] at hR
      have HX := Lib.hid (cnt3_any hq)
      have HR := Lib.hid hR
      clear hs hq hR hj
      (try dsimp only); repeat' (first | go_values | go_skip | go_guarded | go_step | go_upon | go_back)
      refine HX.out.mono ?_
      rintro r0 w4 ⟨rfl, h4⟩
      have H4 : Hid (Sep w0 (Cl bs #[.func (.func 29) #[] #[.pointer (some ⟨bp, 0, none⟩)], .func (.func 30) #[] #[.pointer (some ⟨bm, 0, none⟩)], .func (.func 32) #[] #[.pointer (some ⟨bm, 0, none⟩)], .func (.func 33) #[] #[.pointer (some ⟨bm, 0, none⟩), .pointer (some ⟨bp, 0, none⟩)], .func (.func 34) #[] #[.pointer (some ⟨bm, 0, none⟩), .pointer (some ⟨bp, 0, none⟩)], .func (.func 35) #[] #[.pointer (some ⟨bm, 0, none⟩), .pointer (some ⟨bp, 0, none⟩)]] 23 :: Cl bm (msC ⟨mk, mf, mt, mv, mo, mc, ml, ec, em, rc, ra, rb, ms⟩ (.slice la 0 kl) (.slice lc 0 kc) (.slice ea 0 ke)) 44 :: Cl bp #[.pointer (some ⟨g, 0, none⟩)] 24 :: PrxC g gc cl n num view wt st k o lv tp :: L) w4) := Lib.hid (h4.pickL (M := [_, _, _, _]) [3, 0, 1, 2] rfl)
      clear h4 HX c
      cases hz : (mk == 2 || mk == 10) with
      | true =>
        rw [hz] at HR
        try simp only [Bool.true_and] at HR
        have HR2 := Lib.hid HR.out
        clear HR
        (try dsimp only); repeat' (first | go_values | go_skip | go_guarded | go_step | go_upon | go_back)
        go_roundw
        case rel => exact ⟨3, by omega, rfl, by rw [HR2.out]; simp, H4.out⟩
        case measure => decide
      | false =>
        have hRf : R = false := by rw [HR.out, hz] <;> rfl
        have HRF := Lib.hid hRf
        clear HR hRf
        (try dsimp only); repeat' (first | go_values | go_skip | go_guarded | go_step | go_upon | go_back)
        go_ret
        refine ⟨?_, H4.out.drop.drop.drop⟩
        show Ending.returned (Value.bool false) = _
        rw [HRF.out]
    · as_aux_lemma =>
      have hq : Sep w0 (Cl bm (msC ⟨mk, mf, mt, mv, mo, mc, ml, ec, em, rc, ra, rb, ms⟩ (.slice la 0 kl) (.slice lc 0 kc) (.slice ea 0 ke)) 44 :: Cl bp #[.pointer (some ⟨g, 0, none⟩)] 24 :: PrxC g gc cl n num view wt st k o lv tp :: Cl bs #[.func (.func 29) #[] #[.pointer (some ⟨bp, 0, none⟩)], .func (.func 30) #[] #[.pointer (some ⟨bm, 0, none⟩)], .func (.func 32) #[] #[.pointer (some ⟨bm, 0, none⟩)], .func (.func 33) #[] #[.pointer (some ⟨bm, 0, none⟩), .pointer (some ⟨bp, 0, none⟩)], .func (.func 34) #[] #[.pointer (some ⟨bm, 0, none⟩), .pointer (some ⟨bp, 0, none⟩)], .func (.func 35) #[] #[.pointer (some ⟨bm, 0, none⟩), .pointer (some ⟨bp, 0, none⟩)]] 23 :: L) wr := hs.pickL (M := [_, _, _, _]) [1, 2, 3, 0] rfl
      have c := hs.cell (o := 3) rfl
      simp only [List.drop_succ_cons, List.drop_zero, List.all_cons, List.all_nil, id, Bool.and_true] at hR
      have HX := Lib.hid (cnt4_any hq HC0.out.1 HC0.out.2)
      have HR := Lib.hid hR
      clear hs hq hR hj
      (try dsimp only); repeat' (first | go_values | go_skip | go_guarded | go_step | go_upon | go_back)
      refine HX.out.mono ?_
      rintro r0 w4 ⟨rfl, h4⟩
      have H4 : Hid (Sep w0 (Cl bs #[.func (.func 29) #[] #[.pointer (some ⟨bp, 0, none⟩)], .func (.func 30) #[] #[.pointer (some ⟨bm, 0, none⟩)], .func (.func 32) #[] #[.pointer (some ⟨bm, 0, none⟩)], .func (.func 33) #[] #[.pointer (some ⟨bm, 0, none⟩), .pointer (some ⟨bp, 0, none⟩)], .func (.func 34) #[] #[.pointer (some ⟨bm, 0, none⟩), .pointer (some ⟨bp, 0, none⟩)], .func (.func 35) #[] #[.pointer (some ⟨bm, 0, none⟩), .pointer (some ⟨bp, 0, none⟩)]] 23 :: Cl bm (msC ⟨mk, mf, mt, mv, mo, mc, ml, ec, em, rc, ra, rb, ms⟩ (.slice la 0 kl) (.slice lc 0 kc) (.slice ea 0 ke)) 44 :: Cl bp #[.pointer (some ⟨g, 0, none⟩)] 24 :: PrxC g gc cl n num view wt st k o lv tp :: L) w4) := Lib.hid (h4.pickL (M := [_, _, _, _]) [3, 0, 1, 2] rfl)
      clear h4 HX c
      cases hz : (mt == 15 + cl) with
      | true =>
        rw [hz] at HR
        try simp only [Bool.true_and] at HR
        have HR2 := Lib.hid HR.out
        clear HR
        (try dsimp only); repeat' (first | go_values | go_skip | go_guarded | go_step | go_upon | go_back)
        go_roundw
        case rel => exact ⟨4, by omega, rfl, by rw [HR2.out]; simp, H4.out⟩
        case measure => decide
      | false =>
        have hRf : R = false := by rw [HR.out, hz] <;> rfl
        have HRF := Lib.hid hRf
        clear HR hRf
        (try dsimp only); repeat' (first | go_values | go_skip | go_guarded | go_step | go_upon | go_back)
        go_ret
        refine ⟨?_, H4.out.drop.drop.drop⟩
        show Ending.returned (Value.bool false) = _
        rw [HRF.out]
    · as_aux_lemma =>
      have hq : Sep w0 (Cl bm (msC ⟨mk, mf, mt, mv, mo, mc, ml, ec, em, rc, ra, rb, ms⟩ (.slice la 0 kl) (.slice lc 0 kc) (.slice ea 0 ke)) 44 :: Cl bp #[.pointer (some ⟨g, 0, none⟩)] 24 :: PrxC g gc cl n num view wt st k o lv tp :: Cl bs #[.func (.func 29) #[] #[.pointer (some ⟨bp, 0, none⟩)], .func (.func 30) #[] #[.pointer (some ⟨bm, 0, none⟩)], .func (.func 32) #[] #[.pointer (some ⟨bm, 0, none⟩)], .func (.func 33) #[] #[.pointer (some ⟨bm, 0, none⟩), .pointer (some ⟨bp, 0, none⟩)], .func (.func 34) #[] #[.pointer (some ⟨bm, 0, none⟩), .pointer (some ⟨bp, 0, none⟩)], .func (.func 35) #[] #[.pointer (some ⟨bm, 0, none⟩), .pointer (some ⟨bp, 0, none⟩)]] 23 :: L) wr := hs.pickL (M := [_, _, _, _]) [1, 2, 3, 0] rfl
      have c := hs.cell (o := 4) rfl
      simp only [List.drop_succ_cons, List.drop_zero, List.all_cons, List.all_nil, id, Bool.and_true] at hR
      have HX := Lib.hid (cnt5_any hq)
      have HR := Lib.hid hR
      clear hs hq hR hj
      (try dsimp only); repeat' (first | go_values | go_skip | go_guarded | go_step | go_upon | go_back)
      refine HX.out.mono ?_
      rintro r0 w4 ⟨rfl, h4⟩
      have H4 : Hid (Sep w0 (Cl bs #[.func (.func 29) #[] #[.pointer (some ⟨bp, 0, none⟩)], .func (.func 30) #[] #[.pointer (some ⟨bm, 0, none⟩)], .func (.func 32) #[] #[.pointer (some ⟨bm, 0, none⟩)], .func (.func 33) #[] #[.pointer (some ⟨bm, 0, none⟩), .pointer (some ⟨bp, 0, none⟩)], .func (.func 34) #[] #[.pointer (some ⟨bm, 0, none⟩), .pointer (some ⟨bp, 0, none⟩)], .func (.func 35) #[] #[.pointer (some ⟨bm, 0, none⟩), .pointer (some ⟨bp, 0, none⟩)]] 23 :: Cl bm (msC ⟨mk, mf, mt, mv, mo, mc, ml, ec, em, rc, ra, rb, ms⟩ (.slice la 0 kl) (.slice lc 0 kc) (.slice ea 0 ke)) 44 :: Cl bp #[.pointer (some ⟨g, 0, none⟩)] 24 :: PrxC g gc cl n num view wt st k o lv tp :: L) w4) := Lib.hid (h4.pickL (M := [_, _, _, _]) [3, 0, 1, 2] rfl)
      clear h4 HX c
      cases hz : decide (mf < n) with
      | true =>
        rw [hz] at HR
        try simp only [Bool.true_and] at HR
        have HR2 := Lib.hid HR.out
        clear HR
        (try dsimp only); repeat' (first | go_values | go_skip | go_guarded | go_step | go_upon | go_back)
        go_roundw
        case rel => exact ⟨5, by omega, rfl, by rw [HR2.out]; simp, H4.out⟩
        case measure => decide
      | false =>
        have hRf : R = false := by rw [HR.out, hz] <;> rfl
        have HRF := Lib.hid hRf
        clear HR hRf
        (try dsimp only); repeat' (first | go_values | go_skip | go_guarded | go_step | go_upon | go_back)
        go_ret
        refine ⟨?_, H4.out.drop.drop.drop⟩
        show Ending.returned (Value.bool false) = _
        rw [HRF.out]
    · as_aux_lemma =>
      have hq : Sep w0 (Cl bm (msC ⟨mk, mf, mt, mv, mo, mc, ml, ec, em, rc, ra, rb, ms⟩ (.slice la 0 kl) (.slice lc 0 kc) (.slice ea 0 ke)) 44 :: Cl bp #[.pointer (some ⟨g, 0, none⟩)] 24 :: PrxC g gc cl n num view wt st k o lv tp :: Cl bs #[.func (.func 29) #[] #[.pointer (some ⟨bp, 0, none⟩)], .func (.func 30) #[] #[.pointer (some ⟨bm, 0, none⟩)], .func (.func 32) #[] #[.pointer (some ⟨bm, 0, none⟩)], .func (.func 33) #[] #[.pointer (some ⟨bm, 0, none⟩), .pointer (some ⟨bp, 0, none⟩)], .func (.func 34) #[] #[.pointer (some ⟨bm, 0, none⟩), .pointer (some ⟨bp, 0, none⟩)], .func (.func 35) #[] #[.pointer (some ⟨bm, 0, none⟩), .pointer (some ⟨bp, 0, none⟩)]] 23 :: L) wr := hs.pickL (M := [_, _, _, _]) [1, 2, 3, 0] rfl
      have c := hs.cell (o := 5) rfl
      simp only [List.drop_succ_cons, List.drop_zero, List.all_cons, List.all_nil, id, Bool.and_true] at hR
      have HX := Lib.hid (cnt6_any hq)
      have HR := Lib.hid hR
      clear hs hq hR hj
      (try dsimp only); repeat' (first | go_values | go_skip | go_guarded | go_step | go_upon | go_back)
      refine HX.out.mono ?_
      rintro r0 w4 ⟨rfl, h4⟩
      have H4 : Hid (Sep w0 (Cl bs #[.func (.func 29) #[] #[.pointer (some ⟨bp, 0, none⟩)], .func (.func 30) #[] #[.pointer (some ⟨bm, 0, none⟩)], .func (.func 32) #[] #[.pointer (some ⟨bm, 0, none⟩)], .func (.func 33) #[] #[.pointer (some ⟨bm, 0, none⟩), .pointer (some ⟨bp, 0, none⟩)], .func (.func 34) #[] #[.pointer (some ⟨bm, 0, none⟩), .pointer (some ⟨bp, 0, none⟩)], .func (.func 35) #[] #[.pointer (some ⟨bm, 0, none⟩), .pointer (some ⟨bp, 0, none⟩)]] 23 :: Cl bm (msC ⟨mk, mf, mt, mv, mo, mc, ml, ec, em, rc, ra, rb, ms⟩ (.slice la 0 kl) (.slice lc 0 kc) (.slice ea 0 ke)) 44 :: Cl bp #[.pointer (some ⟨g, 0, none⟩)] 24 :: PrxC g gc cl n num view wt st k o lv tp :: L) w4) := Lib.hid (h4.pickL (M := [_, _, _, _]) [3, 0, 1, 2] rfl)
      clear h4 HX c
      cases hz : ((ec == cl) && (em == num)) with
      | true =>
        rw [hz] at HR
        try simp only [Bool.true_and] at HR
        have HR2 := Lib.hid HR.out
        clear HR
        (try dsimp only); repeat' (first | go_values | go_skip | go_guarded | go_step | go_upon | go_back)
        go_roundw
        case rel => exact ⟨6, by omega, rfl, by rw [HR2.out]; simp, H4.out⟩
        case measure => decide
      | false =>
        have hRf : R = false := by rw [HR.out, hz] <;> rfl
        have HRF := Lib.hid hRf
        clear HR hRf
        (try dsimp only); repeat' (first | go_values | go_skip | go_guarded | go_step | go_upon | go_back)
        go_ret
        refine ⟨?_, H4.out.drop.drop.drop⟩
        show Ending.returned (Value.bool false) = _
        rw [HRF.out]
    · have hRt : R = true := by rw [hR] <;> rfl
      have HRT := Lib.hid hRt
      have HS := Lib.hid hs
      clear hs hR hRt hj
      (try dsimp only); repeat' (first | go_values | go_skip | go_guarded | go_step | go_upon | go_back)
      go_ret
      refine ⟨?_, HS.out.drop.drop.drop⟩
      show Ending.returned (Value.bool true) = _
      rw [HRT.out]
end Go.Proofs.YtdemconpdjgimaaDoor
