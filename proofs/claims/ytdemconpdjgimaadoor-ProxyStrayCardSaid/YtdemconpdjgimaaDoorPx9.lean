/- The statements' own (stage 21): ship, reply, asks, to. -/
import Derived.Test.YtdemconpdjgimaaDoorPx8
import Derived.Test.YtdemconpdjgimaaDoorIntsI
namespace Go.Proofs.YtdemconpdjgimaaDoor
open Go.RowKit
set_option linter.unusedVariables false
set_option linter.unusedSimpArgs false
def shipC (n : Int) : Array Value := #[.int .i64 6, .string ⟨#[]⟩, .int .i64 n, .int .i64 0, .slice none 0 0]
set_option maxRecDepth 100000 in
theorem ship_any {w0 w : World} {L : List Thing} (n : Int) (h : Sep w0 L w) : Calls Tryd.prog 18 #[.int .i64 n] w fun e w' => e = .returned (.agg (shipC n)) ∧ Sep w0 L w' := by
  have h1 : Sep w0 (Cl w.heap.size #[.int .i64 0, .string ⟨#[]⟩, .int .i64 0, .int .i64 0, .slice none 0 0] 34 :: L) (w.alloc (.cells #[.int .i64 0, .string ⟨#[]⟩, .int .i64 0, .int .i64 0, .slice none 0 0] 34)) := h.alloc _
  have HT := Lib.hid (h1.thereW 5 rfl)
  have h2 := h1.storeW (shipC n) rfl
  have HV := Lib.hid (h2.loadV 34 Tryd.underlying34 rfl (by kernel_rfl))
  have H2 := Lib.hid h2.drop
  clear h h1 h2
  go_enter Tryd.func18, Tryd.ntmps18
  (try dsimp only); repeat' (first | (refine wpList_store_mid rfl 34 (.tmp 2) (.tmp 4) rfl _ 0 (shipC n) rfl rfl HT.out (by kernel_rfl) (by kernel_rfl) ?_) | go_values | go_skip | go_guarded | go_step | go_upon | go_back)
  exact bodyPost_ret (results_cell rfl rfl HV.out) rfl ⟨rfl, H2.out⟩
def rpM (f v o a : Int) : MsM := ⟨2, f, 17, v, o, 0, 0, 2, 1, 0, a, 0, false⟩
set_option maxRecDepth 100000 in
theorem reply_any {w0 w : World} {L : List Thing} (f v o a : Int) (h : Sep w0 L w) : Calls Tryd.prog 10 #[.int .i64 f, .int .i64 v, .int .i64 o, .int .i64 a] w fun e w' => e = .returned (.agg (msC (rpM f v o a) (.slice none 0 0) (.slice none 0 0) (.slice none 0 0))) ∧ Sep w0 L w' := by
  have h1 : Sep w0 (Cl w.heap.size #[.int .i64 0, .int .i64 0, .int .i64 0, .int .i64 0, .int .i64 0, .int .i64 0, .int .i64 0, .int .i64 0, .int .i64 0, .int .i64 0, .string ⟨#[]⟩, .int .i64 0, .int .i64 0, .slice none 0 0, .int .i64 0, .int .i64 0, .int .i64 0, .bool false, .int .i64 0, .slice none 0 0, .slice none 0 0, .int .i64 0] 44 :: L) (w.alloc (.cells #[.int .i64 0, .int .i64 0, .int .i64 0, .int .i64 0, .int .i64 0, .int .i64 0, .int .i64 0, .int .i64 0, .int .i64 0, .int .i64 0, .string ⟨#[]⟩, .int .i64 0, .int .i64 0, .slice none 0 0, .int .i64 0, .int .i64 0, .int .i64 0, .bool false, .int .i64 0, .slice none 0 0, .slice none 0 0, .int .i64 0] 44)) := h.alloc _
  have HT := Lib.hid (h1.thereW 22 rfl)
  have h2 := h1.storeW (msC (rpM f v o a) (.slice none 0 0) (.slice none 0 0) (.slice none 0 0)) rfl
  have HV := Lib.hid (h2.loadV 44 Tryd.underlying44 rfl (by kernel_rfl))
  have H2 := Lib.hid h2.drop
  clear h h1 h2
  go_enter Tryd.func10, Tryd.ntmps10
  (try dsimp only); repeat' (first | (refine wpList_store_mid rfl 44 (.tmp 8) (.tmp 15) rfl _ 0 (msC (rpM f v o a) (.slice none 0 0) (.slice none 0 0) (.slice none 0 0)) rfl rfl HT.out (by kernel_rfl) (by kernel_rfl) ?_) | go_values | go_skip | go_guarded | go_step | go_upon | go_back)
  exact bodyPost_ret (results_cell rfl rfl HV.out) rfl ⟨rfl, H2.out⟩
theorem asks_any {w0 w : World} {L : List Thing} {g : Nat} {n' e' : Int} {P : World → Prop} (o num er : Int) (h : Sep w0 L w) (hA : ∀ wx, Sep w0 L wx → Calls Tryd.prog 26 #[.pointer (some ⟨g, 0, none⟩), .agg (shipC o)] wx fun e w' => e = .returned (.tuple #[.int .i64 n', .int .i64 e']) ∧ P w') :
    Calls Tryd.prog 17 #[.pointer (some ⟨g, 0, none⟩), .agg (shipC o), .int .i64 num, .int .i64 er] w fun e w' => e = .returned (.bool ((n' == num) && (e' == er))) ∧ P w' := by
  have h1 := h.alloc (.cells (shipC o) 34)
  have hc := hA _ h1.drop
  unfold shipC at hc h1
  have HC := Lib.hid hc
  have d0 := h1.cell (o := 0) rfl
  have d1 := h1.cell (o := 1) rfl
  have d2 := h1.cell (o := 2) rfl
  have d3 := h1.cell (o := 3) rfl
  have d4 := h1.cell (o := 4) rfl
  clear h h1 hA hc
  cases e1 : (n' == num) with
  | true =>
    rw [Bool.true_and]
    go_enter Tryd.func17, Tryd.ntmps17
    unfold shipC
    (try dsimp only); repeat' (first | go_values | go_skip | go_guarded | go_step | go_upon | go_back)
    refine HC.out.mono ?_
    rintro r0 w1 ⟨rfl, h2⟩
    have H2 := Lib.hid h2
    clear HC h2
    (try dsimp only); repeat' (first | go_values | go_skip | go_guarded | go_step | go_upon | go_back)
    go_ret
    exact ⟨rfl, H2.out⟩
  | false =>
    rw [Bool.false_and]
    go_enter Tryd.func17, Tryd.ntmps17
    unfold shipC
    (try dsimp only); repeat' (first | go_values | go_skip | go_guarded | go_step | go_upon | go_back)
    refine HC.out.mono ?_
    rintro r0 w1 ⟨rfl, h2⟩
    have H2 := Lib.hid h2
    clear HC h2
    (try dsimp only); repeat' (first | go_values | go_skip | go_guarded | go_step | go_upon | go_back)
    go_ret
    exact ⟨rfl, H2.out⟩
theorem rq_at {o : Int} {ts : List Int} {rows : List (Array Value)} (h : RqRows 2 1 6 o ts rows) (j : Nat) (hj : j < ts.length) : ∃ v, NilL v ∧ rows[j]? = some (rqC 2 1 6 o (ts[j], v)) := by
  obtain ⟨vs, h1, h2, rfl⟩ := h
  have hv : j < vs.length := by omega
  refine ⟨vs[j], h2 _ (List.getElem_mem hv), ?_⟩
  have hz : j < (ts.zip vs).length := by rw [List.length_zip]; omega
  rw [List.getElem?_map, List.getElem?_eq_getElem hz, List.getElem_zip]
  rfl
theorem rq_22 {cl num k o : Int} {ts : List Int} {rows : List (Array Value)} (h : RqRows cl num k o ts rows) : Rows22 rows := by
  obtain ⟨vs, h1, h2, rfl⟩ := h
  intro c hc
  obtain ⟨q, -, rfl⟩ := List.mem_map.1 hc
  rfl
theorem rq_len {cl num k o : Int} {ts : List Int} {rows : List (Array Value)} (h : RqRows cl num k o ts rows) : rows.length = ts.length := by
  obtain ⟨vs, h1, h2, rfl⟩ := h
  rw [List.length_map, List.length_zip, h1, Nat.min_self]
set_option maxRecDepth 100000 in
set_option maxHeartbeats 16000000 in
theorem to_n {w0 w : World} {L : List Thing} {a a' : Option Addr} {n c c' : Nat} {o : Int} {ts : List Int} {rows : List (Array Value)} (h : Sep w0 (Rn 22 44 (.slice a n c) n (msCs rows) :: Is (.slice a' n c') ts :: L) w) (hr : RqRows 2 1 6 o ts rows) (hl : n ≤ 1000) (hn : n = ts.length) :
    Calls Tryd.prog 15 #[.slice a n c, .slice a' n c'] w fun e w' => e = .returned (.bool true) ∧ Sep w0 (Rn 22 44 (.slice a n c) n (msCs rows) :: Is (.slice a' n c') ts :: L) w' := by
  obtain ⟨a3, c3, e3, hac, hcm, -, -⟩ := h.rnForm
  simp only [Value.slice.injEq, true_and] at e3
  obtain ⟨rfl, rfl⟩ := e3
  have hrl := rq_len hr
  have hn2 : rows.length = n := by omega
  have n0 : (0 : Int) ≤ (n : Int) := by omega
  have n1 : (n : Int) ≤ 1000 := by omega
  have HN := Lib.hid (And.intro hr (And.intro hn hn2))
  have HAC := Lib.hid (And.intro hac hcm)
  have H := Lib.hid h
  clear h hr hn hn2 hl hac hcm hrl
  go_enter Tryd.func15, Tryd.ntmps15
  (try dsimp only); repeat' (first | go_values | go_skip | go_guarded | go_step | go_upon | go_back)
  go_loopw [5] (fun i wr => ∃ j : Nat, j ≤ n ∧ i = .int .i64 j ∧ Sep w0 (Rn 22 44 (.slice a n c) n (msCs rows) :: Is (.slice a' n c') ts :: L) wr) (fun i _ => n - (intOf i).toNat)
  case atStart => exact ⟨0, Nat.zero_le _, rfl, H.out⟩
  case round =>
    obtain ⟨j, hj, rfl, hs⟩ := hrel
    clear H
    have j0 : (0 : Int) ≤ (j : Int) := by omega
    by_cases hjn : j < n
    · have hd : decide (j < n) = true := decide_eq_true hjn
      have hd2 : decide ((j : Int) < (n : Int)) = true := decide_eq_true (by omega)
      have j1 : (j : Int) < (n : Int) := by omega
      have hjt : j < ts.length := by have := HN.out.2.1; omega
      have hjr : j < rows.length := by have := HN.out.2.2; omega
      obtain ⟨x, ⟨xa, xc, rfl, -⟩, hrow⟩ := rq_at HN.out.1 j hjt
      have h22 := rq_22 HN.out.1
      obtain ⟨a2, c2, e2, -, -, hlen, hcell⟩ := hs.rnForm
      simp only [Value.slice.injEq, true_and] at e2
      obtain ⟨rfl, rfl⟩ := e2
      obtain ⟨bm, rfl, hbl, hcs⟩ := hcell (by omega)
      obtain ⟨t, htt⟩ : ∃ t, t = ts[j] := ⟨_, rfl⟩
      rw [← htt] at hrow
      have hrj : rows[j] = rqC 2 1 6 o (t, .slice xa 0 xc) := by rw [List.getElem?_eq_getElem hjr] at hrow; exact Option.some.inj hrow
      have hld : (Instr.loadAt 44 (.pointer (some ⟨bm, j * 22, none⟩))).run Tryd.prog wr = .ok (.agg (rqC 2 1 6 o (t, .slice xa 0 xc))) wr := by
        have h1 := run_loadAt_mid (P := Tryd.prog) wr bm (j * 22) 44 (rqC 2 1 6 o (t, .slice xa 0 xc)).toList _ (fun q v hq => by
          have hq22 : q < 22 := by have := (List.getElem?_eq_some_iff.1 hq).1; simpa [rqC] using this
          have h6 := msCs_at h22 j hjr q hq22
          rw [hrj, show (rqC 2 1 6 o (t, .slice xa 0 xc))[q]? = some v by simpa using hq] at h6
          obtain ⟨h7, h8⟩ := List.getElem?_eq_some_iff.1 h6
          rw [hcs _ h7, h8]) Tryd.underlying44 rfl (by kernel_rfl)
        simpa using h1
      obtain ⟨bw, ow, rfl, -, hwc⟩ := hs.sw2.sl.at (by omega)
      have e0 : wr.cell? ⟨bw, ow + j, none⟩ = some (.int .i64 t) := hwc j _ (by unfold iv; rw [List.getElem?_map, List.getElem?_eq_getElem hjt, htt]; rfl)
      have hz : Sep w0 (Cl wr.heap.size #[.int .i64 0, .int .i64 0, .int .i64 0, .int .i64 0, .int .i64 0, .int .i64 0, .int .i64 0, .int .i64 0, .int .i64 0, .int .i64 0, .string ⟨#[]⟩, .int .i64 0, .int .i64 0, .slice none 0 0, .int .i64 0, .int .i64 0, .int .i64 0, .bool false, .int .i64 0, .slice none 0 0, .slice none 0 0, .int .i64 0] 44 :: Rn 22 44 (.slice (some ⟨bm, 0, none⟩) n c) n (msCs rows) :: Is (.slice (some ⟨bw, ow, none⟩) n c') ts :: L) (wr.alloc (.cells #[.int .i64 0, .int .i64 0, .int .i64 0, .int .i64 0, .int .i64 0, .int .i64 0, .int .i64 0, .int .i64 0, .int .i64 0, .int .i64 0, .string ⟨#[]⟩, .int .i64 0, .int .i64 0, .slice none 0 0, .int .i64 0, .int .i64 0, .int .i64 0, .bool false, .int .i64 0, .slice none 0 0, .slice none 0 0, .int .i64 0] 44)) := hs.alloc _
      have HTH := Lib.hid (hz.thereW 22 rfl)
      have h4 := hz.storeW (rqC 2 1 6 o (t, .slice xa 0 xc)) rfl
      obtain ⟨bx, hbx⟩ : ∃ z, z = wr.heap.size := ⟨_, rfl⟩
      obtain ⟨w4, hw4⟩ : ∃ z, z = (wr.alloc (.cells #[.int .i64 0, .int .i64 0, .int .i64 0, .int .i64 0, .int .i64 0, .int .i64 0, .int .i64 0, .int .i64 0, .int .i64 0, .int .i64 0, .string ⟨#[]⟩, .int .i64 0, .int .i64 0, .slice none 0 0, .int .i64 0, .int .i64 0, .int .i64 0, .bool false, .int .i64 0, .slice none 0 0, .slice none 0 0, .int .i64 0] 44)).setCells wr.heap.size 0 (rqC 2 1 6 o (t, .slice xa 0 xc)).toList := ⟨_, rfl⟩
      have e0' : w4.cell? ⟨bw, ow + j, none⟩ = some (.int .i64 t) := by
        obtain ⟨bw2, ow2, e3, -, hwc2⟩ := h4.sw3.sl.at (by omega)
        simp only [Option.some.injEq, Addr.mk.injEq, and_true] at e3
        obtain ⟨rfl, rfl⟩ := e3
        rw [hw4]
        exact hwc2 j _ (by unfold iv; rw [List.getElem?_map, List.getElem?_eq_getElem hjt, htt]; rfl)
      rw [← hw4, ← hbx] at h4
      have HL := Lib.hid hld
      have H4 := Lib.hid h4.drop
      have d0 := h4.cell (o := 0) (x := .int .i64 1) rfl
      have d1 := h4.cell (o := 1) (x := .int .i64 17) rfl
      have d2 := h4.cell (o := 2) (x := .int .i64 t) rfl
      have d7 := h4.cell (o := 7) (x := .int .i64 2) rfl
      have d8 := h4.cell (o := 8) (x := .int .i64 1) rfl
      have d9 := h4.cell (o := 9) (x := .int .i64 6) rfl
      have HJ := Lib.hid hjn
      clear e0
      have e0 := e0'
      clear hz
      clear hs h4 hld hwc hcs hcell hrow hrj hlen hbl hj hjn hjt hjr htt h22 e0'
      (try dsimp only); repeat' (first | (refine wpList_load_run rfl 44 _ rfl _ _ rfl HL.out ?_; clear HL) | (refine wpList_store_mid rfl 44 (.tmp 6) (.tmp 21) rfl _ 0 (rqC 2 1 6 o (t, .slice xa 0 xc)) rfl rfl HTH.out (by kernel_rfl) (by kernel_rfl) ?_; clear HTH) | go_values | go_skip | go_guarded | go_step | go_upon | go_back)
      rw [← hw4, ← hbx]
      clear hw4 hbx
      refine wp_region_G (fun w' => w'.cell? ⟨bx, 0, none⟩ = some (.int .i64 1) ∧ w'.cell? ⟨bx, 1, none⟩ = some (.int .i64 17) ∧ w'.cell? ⟨bx, 2, none⟩ = some (.int .i64 t) ∧ w'.cell? ⟨bx, 7, none⟩ = some (.int .i64 2) ∧ w'.cell? ⟨bx, 8, none⟩ = some (.int .i64 1) ∧ w'.cell? ⟨bx, 9, none⟩ = some (.int .i64 6) ∧ w'.cell? ⟨bw, ow + j, none⟩ = some (.int .i64 t)) [] (by kernel_rfl) ⟨d0, d1, d2, d7, d8, d9, e0⟩ (fun hS => ?_)
      try dsimp only at hS
      refine wpAnyG_take' (i := 0) (v := ?v0_1to) rfl (by kernel_rfl) (by kernel_rfl) (by kernel_rfl) (by kernel_rfl) (fun _ _ _ h => h) (Or.inl ⟨by rfl, ?hy0_1to⟩) hS ?rest0_1to
      case hy0_1to => intro w hSw; (try dsimp only at hSw); go_simp; (try with_reducible rfl)
      case rest0_1to =>
      try simp only [List.getElem_toArray, List.getElem_cons_succ, List.getElem_cons_zero, Act.put, List.setIfInBounds_toArray, List.set_cons_zero, List.set_cons_succ]
      refine wpAnyG_take' (i := 1) (v := ?v1_2to) rfl (by kernel_rfl) (by kernel_rfl) (by kernel_rfl) (by kernel_rfl) (fun _ _ _ h => h) (Or.inl ⟨by rfl, ?hy1_2to⟩) hS ?rest1_2to
      case hy1_2to => intro w hSw; (try dsimp only at hSw); go_simp; (try with_reducible rfl)
      case rest1_2to =>
      try simp only [List.getElem_toArray, List.getElem_cons_succ, List.getElem_cons_zero, Act.put, List.setIfInBounds_toArray, List.set_cons_zero, List.set_cons_succ]
      refine wpAnyG_take' (i := 2) (v := ?v2_3to) rfl (by kernel_rfl) (by kernel_rfl) (by kernel_rfl) (by kernel_rfl) (fun _ _ _ h => h) (Or.inl ⟨by rfl, ?hy2_3to⟩) hS ?rest2_3to
      case hy2_3to => intro w hSw; (try dsimp only at hSw); go_simp; (try with_reducible rfl)
      case rest2_3to =>
      try simp only [List.getElem_toArray, List.getElem_cons_succ, List.getElem_cons_zero, Act.put, List.setIfInBounds_toArray, List.set_cons_zero, List.set_cons_succ]
      refine wpAnyG_take' (i := 3) (v := ?v3_4to) rfl (by kernel_rfl) (by kernel_rfl) (by kernel_rfl) (by kernel_rfl) (fun _ _ _ h => h) (Or.inl ⟨by rfl, ?hy3_4to⟩) hS ?rest3_4to
      case hy3_4to => intro w hSw; (try dsimp only at hSw); go_simp; (try with_reducible rfl)
      case rest3_4to =>
      try simp only [List.getElem_toArray, List.getElem_cons_succ, List.getElem_cons_zero, Act.put, List.setIfInBounds_toArray, List.set_cons_zero, List.set_cons_succ]
      refine wpAnyG_take' (i := 4) (v := ?v4_5to) rfl (by kernel_rfl) (by kernel_rfl) (by kernel_rfl) (by kernel_rfl) (fun _ _ _ h => h) (Or.inl ⟨by rfl, ?hy4_5to⟩) hS ?rest4_5to
      case hy4_5to => intro w hSw; (try dsimp only at hSw); go_simp; (try with_reducible rfl)
      case rest4_5to =>
      try simp only [List.getElem_toArray, List.getElem_cons_succ, List.getElem_cons_zero, Act.put, List.setIfInBounds_toArray, List.set_cons_zero, List.set_cons_succ]
      refine wpAnyG_take' (i := 5) (v := ?v5_6to) rfl (by kernel_rfl) (by kernel_rfl) (by kernel_rfl) (by kernel_rfl) (fun _ _ _ h => h) (Or.inl ⟨by rfl, ?hy5_6to⟩) hS ?rest5_6to
      case hy5_6to => intro w hSw; (try dsimp only at hSw); go_simp; (try with_reducible rfl)
      case rest5_6to =>
      try simp only [List.getElem_toArray, List.getElem_cons_succ, List.getElem_cons_zero, Act.put, List.setIfInBounds_toArray, List.set_cons_zero, List.set_cons_succ]
      refine wpAnyG_take' (i := 6) (v := ?v6_7to) rfl (by kernel_rfl) (by kernel_rfl) (by kernel_rfl) (by kernel_rfl) (fun _ _ _ h => h) (Or.inl ⟨by rfl, ?hy6_7to⟩) hS ?rest6_7to
      case hy6_7to => intro w hSw; (try dsimp only at hSw); go_simp; (try with_reducible rfl)
      case rest6_7to =>
      try simp only [List.getElem_toArray, List.getElem_cons_succ, List.getElem_cons_zero, Act.put, List.setIfInBounds_toArray, List.set_cons_zero, List.set_cons_succ]
      refine wpAnyG_take' (i := 7) (v := ?v7_8to) rfl (by kernel_rfl) (by kernel_rfl) (by kernel_rfl) (by kernel_rfl) (fun _ _ _ h => h) (Or.inl ⟨by rfl, ?hy7_8to⟩) hS ?rest7_8to
      case hy7_8to => intro w hSw; (try dsimp only at hSw); go_simp; (try with_reducible rfl)
      case rest7_8to =>
      try simp only [List.getElem_toArray, List.getElem_cons_succ, List.getElem_cons_zero, Act.put, List.setIfInBounds_toArray, List.set_cons_zero, List.set_cons_succ]
      refine wpAnyG_take' (i := 8) (v := ?v8_9to) rfl (by kernel_rfl) (by kernel_rfl) (by kernel_rfl) (by kernel_rfl) (fun _ _ _ h => h) (Or.inl ⟨by rfl, ?hy8_9to⟩) hS ?rest8_9to
      case hy8_9to => intro w hSw; (try dsimp only at hSw); go_simp; (try with_reducible rfl)
      case rest8_9to =>
      try simp only [List.getElem_toArray, List.getElem_cons_succ, List.getElem_cons_zero, Act.put, List.setIfInBounds_toArray, List.set_cons_zero, List.set_cons_succ]
      refine wpAnyG_take' (i := 9) (v := ?v9_10to) rfl (by kernel_rfl) (by kernel_rfl) (by kernel_rfl) (by kernel_rfl) (fun _ _ _ h => h) (Or.inl ⟨by rfl, ?hy9_10to⟩) hS ?rest9_10to
      case hy9_10to => intro w hSw; (try dsimp only at hSw); go_simp; (try with_reducible rfl)
      case rest9_10to =>
      try simp only [List.getElem_toArray, List.getElem_cons_succ, List.getElem_cons_zero, Act.put, List.setIfInBounds_toArray, List.set_cons_zero, List.set_cons_succ]
      refine wpAnyG_take' (i := 10) (v := ?v10_11to) rfl (by kernel_rfl) (by kernel_rfl) (by kernel_rfl) (by kernel_rfl) (fun _ _ _ h => h) (Or.inl ⟨by rfl, ?hy10_11to⟩) hS ?rest10_11to
      case hy10_11to => intro w hSw; (try dsimp only at hSw); go_simp; (try with_reducible rfl)
      case rest10_11to =>
      try simp only [List.getElem_toArray, List.getElem_cons_succ, List.getElem_cons_zero, Act.put, List.setIfInBounds_toArray, List.set_cons_zero, List.set_cons_succ]
      refine wpAnyG_take' (i := 11) (v := ?v11_12to) rfl (by kernel_rfl) (by kernel_rfl) (by kernel_rfl) (by kernel_rfl) (fun _ _ _ h => h) (Or.inl ⟨by rfl, ?hy11_12to⟩) hS ?rest11_12to
      case hy11_12to => intro w hSw; (try dsimp only at hSw); go_simp; (try with_reducible rfl)
      case rest11_12to =>
      try simp only [List.getElem_toArray, List.getElem_cons_succ, List.getElem_cons_zero, Act.put, List.setIfInBounds_toArray, List.set_cons_zero, List.set_cons_succ]
      refine wpAnyG_take' (i := 12) (v := ?v12_13to) rfl (by kernel_rfl) (by kernel_rfl) (by kernel_rfl) (by kernel_rfl) (fun _ _ _ h => h) (Or.inl ⟨by rfl, ?hy12_13to⟩) hS ?rest12_13to
      case hy12_13to => intro w hSw; (try dsimp only at hSw); go_simp; (try with_reducible rfl)
      case rest12_13to =>
      try simp only [List.getElem_toArray, List.getElem_cons_succ, List.getElem_cons_zero, Act.put, List.setIfInBounds_toArray, List.set_cons_zero, List.set_cons_succ]
      refine wpAnyG_take' (i := 13) (v := ?v13_14to) rfl (by kernel_rfl) (by kernel_rfl) (by kernel_rfl) (by kernel_rfl) (fun _ _ _ h => h) (Or.inl ⟨by rfl, ?hy13_14to⟩) hS ?rest13_14to
      case hy13_14to => intro w hSw; (try dsimp only at hSw); go_simp; (try with_reducible rfl)
      case rest13_14to =>
      try simp only [List.getElem_toArray, List.getElem_cons_succ, List.getElem_cons_zero, Act.put, List.setIfInBounds_toArray, List.set_cons_zero, List.set_cons_succ]
      refine wpAnyG_take' (i := 14) (v := ?v14_15to) rfl (by kernel_rfl) (by kernel_rfl) (by kernel_rfl) (by kernel_rfl) (fun _ _ _ h => h) (Or.inl ⟨by rfl, ?hy14_15to⟩) hS ?rest14_15to
      case hy14_15to => intro w hSw; (try dsimp only at hSw); go_simp; (try with_reducible rfl)
      case rest14_15to =>
      try simp only [List.getElem_toArray, List.getElem_cons_succ, List.getElem_cons_zero, Act.put, List.setIfInBounds_toArray, List.set_cons_zero, List.set_cons_succ]
      refine wpAnyG_take' (i := 15) (v := ?v15_16to) rfl (by kernel_rfl) (by kernel_rfl) (by kernel_rfl) (by kernel_rfl) (fun _ _ _ h => h) (Or.inl ⟨by rfl, ?hy15_16to⟩) hS ?rest15_16to
      case hy15_16to => intro w hSw; (try dsimp only at hSw); go_simp; (try with_reducible rfl)
      case rest15_16to =>
      try simp only [List.getElem_toArray, List.getElem_cons_succ, List.getElem_cons_zero, Act.put, List.setIfInBounds_toArray, List.set_cons_zero, List.set_cons_succ]
      refine wpAnyG_take' (i := 16) (v := ?v16_17to) rfl (by kernel_rfl) (by kernel_rfl) (by kernel_rfl) (by kernel_rfl) (fun _ _ _ h => h) (Or.inl ⟨by rfl, ?hy16_17to⟩) hS ?rest16_17to
      case hy16_17to => intro w hSw; (try dsimp only at hSw); go_simp; (try with_reducible rfl)
      case rest16_17to =>
      try simp only [List.getElem_toArray, List.getElem_cons_succ, List.getElem_cons_zero, Act.put, List.setIfInBounds_toArray, List.set_cons_zero, List.set_cons_succ]
      refine wpAnyG_take' (i := 17) (v := ?v17_18to) rfl (by kernel_rfl) (by kernel_rfl) (by kernel_rfl) (by kernel_rfl) (fun _ _ _ h => h) (Or.inl ⟨by rfl, ?hy17_18to⟩) hS ?rest17_18to
      case hy17_18to => intro w hSw; (try dsimp only at hSw); go_simp; (try with_reducible rfl)
      case rest17_18to =>
      try simp only [List.getElem_toArray, List.getElem_cons_succ, List.getElem_cons_zero, Act.put, List.setIfInBounds_toArray, List.set_cons_zero, List.set_cons_succ]
      refine wpAnyG_take' (i := 18) (v := ?v18_19to) rfl (by kernel_rfl) (by kernel_rfl) (by kernel_rfl) (by kernel_rfl) (fun _ _ _ h => h) (Or.inl ⟨by rfl, ?hy18_19to⟩) hS ?rest18_19to
      case hy18_19to => intro w hSw; (try dsimp only at hSw); go_simp; (try with_reducible rfl)
      case rest18_19to =>
      try simp only [List.getElem_toArray, List.getElem_cons_succ, List.getElem_cons_zero, Act.put, List.setIfInBounds_toArray, List.set_cons_zero, List.set_cons_succ]
      refine wpAnyG_take' (i := 19) (v := ?v19_20to) rfl (by kernel_rfl) (by kernel_rfl) (by kernel_rfl) (by kernel_rfl) (fun _ _ _ h => h) (Or.inl ⟨by rfl, ?hy19_20to⟩) hS ?rest19_20to
      case hy19_20to => intro w hSw; (try dsimp only at hSw); go_simp; (try with_reducible rfl)
      case rest19_20to =>
      try simp only [List.getElem_toArray, List.getElem_cons_succ, List.getElem_cons_zero, Act.put, List.setIfInBounds_toArray, List.set_cons_zero, List.set_cons_succ]
      refine wpAnyG_take' (i := 20) (v := ?v20_21to) rfl (by kernel_rfl) (by kernel_rfl) (by kernel_rfl) (by kernel_rfl) (fun _ _ _ h => h) (Or.inl ⟨by rfl, ?hy20_21to⟩) hS ?rest20_21to
      case hy20_21to => intro w hSw; (try dsimp only at hSw); go_simp; (try with_reducible rfl)
      case rest20_21to =>
      try simp only [List.getElem_toArray, List.getElem_cons_succ, List.getElem_cons_zero, Act.put, List.setIfInBounds_toArray, List.set_cons_zero, List.set_cons_succ]
      refine wpAnyG_take' (i := 21) (v := ?v21_22to) rfl (by kernel_rfl) (by kernel_rfl) (by kernel_rfl) (by kernel_rfl) (fun _ _ _ h => h) (Or.inl ⟨by rfl, ?hy21_22to⟩) hS ?rest21_22to
      case hy21_22to => intro w hSw; (try dsimp only at hSw); go_simp; (try with_reducible rfl)
      case rest21_22to =>
      try simp only [List.getElem_toArray, List.getElem_cons_succ, List.getElem_cons_zero, Act.put, List.setIfInBounds_toArray, List.set_cons_zero, List.set_cons_succ]
      refine wpAnyG_take' (i := 22) (v := ?v22_23to) rfl (by kernel_rfl) (by kernel_rfl) (by kernel_rfl) (by kernel_rfl) (fun _ _ _ h => h) (Or.inl ⟨by rfl, ?hy22_23to⟩) hS ?rest22_23to
      case hy22_23to => intro w hSw; (try dsimp only at hSw); go_simp; (try with_reducible rfl)
      case rest22_23to =>
      try simp only [List.getElem_toArray, List.getElem_cons_succ, List.getElem_cons_zero, Act.put, List.setIfInBounds_toArray, List.set_cons_zero, List.set_cons_succ]
      refine wpAnyG_take' (i := 23) (v := ?v23_24to) rfl (by kernel_rfl) (by kernel_rfl) (by kernel_rfl) (by kernel_rfl) (fun _ _ _ h => h) (Or.inl ⟨by rfl, ?hy23_24to⟩) hS ?rest23_24to
      case hy23_24to => intro w hSw; (try dsimp only at hSw); go_simp; (try with_reducible rfl)
      case rest23_24to =>
      try simp only [List.getElem_toArray, List.getElem_cons_succ, List.getElem_cons_zero, Act.put, List.setIfInBounds_toArray, List.set_cons_zero, List.set_cons_succ]
      refine wpAnyG_take' (i := 24) (v := ?v24_25to) rfl (by kernel_rfl) (by kernel_rfl) (by kernel_rfl) (by kernel_rfl) (fun _ _ _ h => h) (Or.inl ⟨by rfl, ?hy24_25to⟩) hS ?rest24_25to
      case hy24_25to => intro w hSw; (try dsimp only at hSw); go_simp; (try with_reducible rfl)
      case rest24_25to =>
      try simp only [List.getElem_toArray, List.getElem_cons_succ, List.getElem_cons_zero, Act.put, List.setIfInBounds_toArray, List.set_cons_zero, List.set_cons_succ]
      refine wpAnyG_take' (i := 25) (v := ?v25_26to) rfl (by kernel_rfl) (by kernel_rfl) (by kernel_rfl) (by kernel_rfl) (fun _ _ _ h => h) (Or.inl ⟨by rfl, ?hy25_26to⟩) hS ?rest25_26to
      case hy25_26to => intro w hSw; (try dsimp only at hSw); go_simp; (try with_reducible rfl)
      case rest25_26to =>
      try simp only [List.getElem_toArray, List.getElem_cons_succ, List.getElem_cons_zero, Act.put, List.setIfInBounds_toArray, List.set_cons_zero, List.set_cons_succ]
      refine wpAnyG_take' (i := 26) (v := ?v26_27to) rfl (by kernel_rfl) (by kernel_rfl) (by kernel_rfl) (by kernel_rfl) (fun _ _ _ h => h) (Or.inl ⟨by rfl, ?hy26_27to⟩) hS ?rest26_27to
      case hy26_27to => intro w hSw; (try dsimp only at hSw); go_simp; (try with_reducible rfl)
      case rest26_27to =>
      try simp only [List.getElem_toArray, List.getElem_cons_succ, List.getElem_cons_zero, Act.put, List.setIfInBounds_toArray, List.set_cons_zero, List.set_cons_succ]
      refine wpAnyG_take' (i := 27) (v := ?v27_28to) rfl (by kernel_rfl) (by kernel_rfl) (by kernel_rfl) (by kernel_rfl) (fun _ _ _ h => h) (Or.inl ⟨by rfl, ?hy27_28to⟩) hS ?rest27_28to
      case hy27_28to => intro w hSw; (try dsimp only at hSw); go_simp; (try with_reducible rfl)
      case rest27_28to =>
      try simp only [List.getElem_toArray, List.getElem_cons_succ, List.getElem_cons_zero, Act.put, List.setIfInBounds_toArray, List.set_cons_zero, List.set_cons_succ]
      refine wpAnyG_take' (i := 28) (v := ?v28_29to) rfl (by kernel_rfl) (by kernel_rfl) (by kernel_rfl) (by kernel_rfl) (fun _ _ _ h => h) (Or.inl ⟨by rfl, ?hy28_29to⟩) hS ?rest28_29to
      case hy28_29to => intro w hSw; (try dsimp only at hSw); go_simp; (try with_reducible rfl)
      case rest28_29to =>
      try simp only [List.getElem_toArray, List.getElem_cons_succ, List.getElem_cons_zero, Act.put, List.setIfInBounds_toArray, List.set_cons_zero, List.set_cons_succ]
      refine wpAnyG_take' (i := 29) (v := ?v29_30to) rfl (by kernel_rfl) (by kernel_rfl) (by kernel_rfl) (by kernel_rfl) (fun _ _ _ h => h) (Or.inl ⟨by rfl, ?hy29_30to⟩) hS ?rest29_30to
      case hy29_30to => intro w hSw; (try dsimp only at hSw); go_simp; (try with_reducible rfl)
      case rest29_30to =>
      try simp only [List.getElem_toArray, List.getElem_cons_succ, List.getElem_cons_zero, Act.put, List.setIfInBounds_toArray, List.set_cons_zero, List.set_cons_succ]
      refine wpAnyG_take' (i := 30) (v := ?v30_31to) rfl (by kernel_rfl) (by kernel_rfl) (by kernel_rfl) (by kernel_rfl) (fun _ _ _ h => h) (Or.inl ⟨by rfl, ?hy30_31to⟩) hS ?rest30_31to
      case hy30_31to => intro w hSw; (try dsimp only at hSw); go_simp; (try with_reducible rfl)
      case rest30_31to =>
      try simp only [List.getElem_toArray, List.getElem_cons_succ, List.getElem_cons_zero, Act.put, List.setIfInBounds_toArray, List.set_cons_zero, List.set_cons_succ]
      refine wpAnyG_take' (i := 31) (v := ?v31_32to) rfl (by kernel_rfl) (by kernel_rfl) (by kernel_rfl) (by kernel_rfl) (fun _ _ _ h => h) (Or.inl ⟨by rfl, ?hy31_32to⟩) hS ?rest31_32to
      case hy31_32to => intro w hSw; (try dsimp only at hSw); go_simp; (try with_reducible rfl)
      case rest31_32to =>
      try simp only [List.getElem_toArray, List.getElem_cons_succ, List.getElem_cons_zero, Act.put, List.setIfInBounds_toArray, List.set_cons_zero, List.set_cons_succ]
      refine wpAnyG_take' (i := 32) (v := ?v32_33to) rfl (by kernel_rfl) (by kernel_rfl) (by kernel_rfl) (by kernel_rfl) (fun _ _ _ h => h) (Or.inl ⟨by rfl, ?hy32_33to⟩) hS ?rest32_33to
      case hy32_33to => intro w hSw; (try dsimp only at hSw); go_simp; (try with_reducible rfl)
      case rest32_33to =>
      try simp only [List.getElem_toArray, List.getElem_cons_succ, List.getElem_cons_zero, Act.put, List.setIfInBounds_toArray, List.set_cons_zero, List.set_cons_succ]
      refine wpAnyG_take' (i := 33) (v := ?v33_34to) rfl (by kernel_rfl) (by kernel_rfl) (by kernel_rfl) (by kernel_rfl) (fun _ _ _ h => h) (Or.inl ⟨by rfl, ?hy33_34to⟩) hS ?rest33_34to
      case hy33_34to => intro w hSw; (try dsimp only at hSw); go_simp; (try with_reducible rfl)
      case rest33_34to =>
      try simp only [List.getElem_toArray, List.getElem_cons_succ, List.getElem_cons_zero, Act.put, List.setIfInBounds_toArray, List.set_cons_zero, List.set_cons_succ]
      refine wpAnyG_take' (i := 34) (v := ?v34_35to) rfl (by kernel_rfl) (by kernel_rfl) (by kernel_rfl) (by kernel_rfl) (fun _ _ _ h => h) (Or.inl ⟨by rfl, ?hy34_35to⟩) hS ?rest34_35to
      case hy34_35to => intro w hSw; (try dsimp only at hSw); go_simp; (try with_reducible rfl)
      case rest34_35to =>
      try simp only [List.getElem_toArray, List.getElem_cons_succ, List.getElem_cons_zero, Act.put, List.setIfInBounds_toArray, List.set_cons_zero, List.set_cons_succ]
      refine wpAnyG_take' (i := 35) (v := ?v35_36to) rfl (by kernel_rfl) (by kernel_rfl) (by kernel_rfl) (by kernel_rfl) (fun _ _ _ h => h) (Or.inl ⟨by rfl, ?hy35_36to⟩) hS ?rest35_36to
      case hy35_36to => intro w hSw; (try dsimp only at hSw); go_simp; (try with_reducible rfl)
      case rest35_36to =>
      try simp only [List.getElem_toArray, List.getElem_cons_succ, List.getElem_cons_zero, Act.put, List.setIfInBounds_toArray, List.set_cons_zero, List.set_cons_succ]
      refine wpAnyG_done (by kernel_rfl) ?_ _
      try simp only [List.getElem_toArray, List.getElem_cons_succ, List.getElem_cons_zero, Act.put, List.setIfInBounds_toArray, List.set_cons_zero, List.set_cons_succ]
      clear hS d0 d1 d2 d7 d8 d9 e0
      (try dsimp only); repeat' (first | go_values | go_skip | go_guarded | go_step | go_upon | go_back)
      go_roundw
      case rel => exact ⟨j + 1, by have := HJ.out; omega, by go_num, H4.out.drew⟩
      case measure => have := HJ.out; simp [intOf]; omega
    · have hd : decide (j < n) = false := decide_eq_false hjn
      have hd2 : decide ((j : Int) < (n : Int)) = false := decide_eq_false (by omega)
      have HS := Lib.hid hs
      clear hs hj hjn
      (try dsimp only); repeat' (first | go_values | go_skip | go_guarded | go_step | go_upon | go_back)
      go_ret
      exact ⟨rfl, HS.out⟩
theorem to_any {w0 w : World} {L : List Thing} {v u : Value} {o : Int} {ts : List Int} {rows : List (Array Value)} (h : Sep w0 (MsR v rows :: Is u ts :: L) w) (hr : RqRows 2 1 6 o ts rows) (hl : ts.length ≤ 1000) :
    Calls Tryd.prog 15 #[v, u] w fun e w' => e = .returned (.bool true) ∧ Sep w0 (MsR v rows :: Is u ts :: L) w' := by
  obtain ⟨a, c, rfl, -⟩ := h.rnForm
  obtain ⟨a', c', rfl⟩ := h.sw2.sl.len
  have hrl := rq_len hr
  rw [iv_length, ← hrl] at h ⊢
  exact to_n h hr (by omega) hrl
end Go.Proofs.YtdemconpdjgimaaDoor
