/- Package choose: slices.MinFunc of candidates, best. -/
import Derived.Test.YthgndegjiodopaaDoorCho6
namespace Go.Proofs.YthgndegjiodopaaDoor
open Go Go.RowKit
set_option linter.unusedVariables false
set_option linter.unusedSimpArgs false
def minO : List OvM → OvM
  | [] => ovZ
  | y :: ys => ys.foldl (fun m x => if cmpO x m < 0 then x else m) y
theorem minO_succ (ys : List OvM) (k : Nat) (hk : k < ys.length) (h0 : 0 < k) : minO (ys.take (k + 1)) = if cmpO ys[k] (minO (ys.take k)) < 0 then ys[k] else minO (ys.take k) := by
  match ys, hk with
  | y :: zs, hk =>
    obtain ⟨j, rfl⟩ : ∃ j, k = j + 1 := ⟨k - 1, by omega⟩
    have hj : j < zs.length := by simpa using hk
    simp only [List.take_succ_cons, minO, List.getElem_cons_succ]
    rw [List.take_succ_eq_append_getElem hj, List.foldl_append]
    rfl
theorem minO_mem (ys : List OvM) : ∀ k, 0 < k → k ≤ ys.length → minO (ys.take k) ∈ ys
  | 0, h, _ => absurd h (by omega)
  | 1, _, h => by
    match ys, h with
    | y :: zs, h => exact List.mem_cons_self ..
  | k + 2, _, h => by
    rw [minO_succ ys (k + 1) (by omega) (by omega)]
    have := minO_mem ys (k + 1) (by omega) (by omega)
    split
    · exact List.getElem_mem _
    · exact this
theorem rows6 (ys : List OvM) : Rows6 (ys.map ovC) := by
  intro c hc
  obtain ⟨x, -, rfl⟩ := List.mem_map.1 hc
  rfl
theorem Sep.msLoad {w0 w : World} {g n c : Nat} {rows : List (Array Value)} {L : List Thing} (h : Sep w0 (MsR (.slice (some ⟨g, 0, none⟩) n c) rows :: L) w) (hr : Rows6 rows) (k : Nat) (hk : k < rows.length) :
    (Instr.loadAt 68 (.pointer (some ⟨g, k * 6, none⟩))).run Tryd.prog w = .ok (.agg rows[k]) w := by
  obtain ⟨a, c', h1, h2, h3, h4, h5⟩ := h.rnForm
  obtain ⟨b, h6, h7, h8⟩ := h5 (by omega)
  simp only [Value.slice.injEq] at h1
  obtain ⟨e1, e2, e3⟩ := h1
  rw [h6] at e1
  simp only [Option.some.injEq, Addr.mk.injEq, and_true] at e1
  subst e1
  have hs : (rows[k]).size = 6 := hr _ (List.getElem_mem hk)
  have h9 := run_loadAt_mid (P := Tryd.prog) w g (k * 6) 68 (rows[k]).toList _ (fun j v hj => by
    have hj6 : j < 6 := by
      have := (List.getElem?_eq_some_iff.1 hj).1
      rw [Array.length_toList, hs] at this
      exact this
    have e := msCs_at hr k hk j hj6
    rw [show (rows[k])[j]? = some v by simpa using hj] at e
    obtain ⟨hlt, he⟩ := List.getElem?_eq_some_iff.1 e
    rw [h8 _ hlt, he]) Tryd.underlying68 rfl (by rw [Array.length_toList, hs]; kernel_rfl)
  simpa using h9
theorem exec_load {P : Program} {o : Oper} {a : Act} {w : World} (t : TypeId) (x : Operand) (hop : o.op = .load t x) (p : Value) (hx : a.eval x = p) {v : Value} (hr : (Instr.loadAt t p).run P w = .ok v w) :
    (execOp a.eval o).run P w = Result.ok (Next.value v) w := by
  unfold execOp
  simp [hop, hx, hr, Result.andThen]
set_option maxRecDepth 100000 in
set_option maxHeartbeats 8000000 in
theorem minF_any {w0 w : World} {L : List Thing} (ys : List OvM) (a : Option Addr) (n c : Nat) (h : Sep w0 (MsR (.slice a n c) (ys.map ovC) :: L) w) (hn : ys.length = n) (h0 : 0 < n) (h15 : n ≤ 15) (hv : ∀ y ∈ ys, VsO y) (hb : ∀ y ∈ ys, BdO y) :
    Calls Tryd.prog 33 #[.slice a n c, .func (.func 34) #[] #[]] w fun e w' => e = .returned (ovV (minO ys)) ∧ Sep w0 (MsR (.slice a n c) (ys.map ovC) :: L) w' := by
  obtain ⟨g, rfl⟩ : ∃ g, a = some ⟨g, 0, none⟩ := by
    obtain ⟨a', c', h1, h2, h3, h4, h5⟩ := h.rnForm
    simp only [Value.slice.injEq] at h1
    obtain ⟨b, h6, -, -⟩ := h5 (by rw [List.length_map]; omega)
    exact ⟨b, by rw [h1.1, h6]⟩
  have hr6 := rows6 ys
  have d1 : decide (n < 1) = false := decide_eq_false (by omega)
  have n0 : (0 : Int) < (n : Int) := by omega
  have n15 : (n : Int) ≤ 15 := by omega
  have h1 := h.alloc (.cells #[.int .i64 0, .int .i64 0, .int .i64 0, .slice none 0 0, .slice none 0 0, .int .i64 0] 68)
  have HL0 := Lib.hid (h1.sw2.msLoad hr6 0 (by rw [List.length_map]; omega))
  obtain ⟨Y, hY⟩ : ∃ Y, Y = ys.map ovC := ⟨_, rfl⟩
  obtain ⟨y0, hy0⟩ : ∃ y0, y0 = minO (ys.take 1) := ⟨_, rfl⟩
  have hy1 : (ys.map ovC)[0]'(by rw [List.length_map]; omega) = ovC y0 := by
    rw [hy0]
    match ys, hn with
    | y :: zs, _ => rfl
  rw [hy1] at HL0
  have hone : ∀ y ∈ ys, (ovC y).all (·.oneCell') = true := fun y hy => by
    obtain ⟨a, c, e⟩ := hv y hy
    unfold ovC; rw [e]; simp [Value.oneCell']
  obtain ⟨b4, hb4⟩ : ∃ q, q = w.heap.size := ⟨_, rfl⟩
  obtain ⟨v1, hw1⟩ : ∃ q, q = w.alloc (.cells #[.int .i64 0, .int .i64 0, .int .i64 0, .slice none 0 0, .slice none 0 0, .int .i64 0] 68) := ⟨_, rfl⟩
  rw [← hw1, ← hb4] at h1
  have h2 := h1.alloc (.cells #[.int .i64 0, .int .i64 0, .int .i64 0, .slice none 0 0, .slice none 0 0, .int .i64 0] 68)
  obtain ⟨b5, hb5⟩ : ∃ q, q = v1.heap.size := ⟨_, rfl⟩
  obtain ⟨v2, hw2⟩ : ∃ q, q = v1.alloc (.cells #[.int .i64 0, .int .i64 0, .int .i64 0, .slice none 0 0, .slice none 0 0, .int .i64 0] 68) := ⟨_, rfl⟩
  rw [← hw2, ← hb5] at h2
  rw [← hw1] at HL0
  have HTH := Lib.hid (h2.thereAt 0 6 (Nat.le_refl 6))
  have h3 : Sep w0 (Cl b5 (ovC y0) 68 :: Cl b4 #[.int .i64 0, .int .i64 0, .int .i64 0, .slice none 0 0, .slice none 0 0, .int .i64 0] 68 :: MsR (.slice (some ⟨g, 0, none⟩) n c) (ys.map ovC) :: L) (v2.setCells b5 0 (ovC y0).toList) := h2.storeW (ovC y0) rfl
  have HAL := Lib.hid (hone y0 (by rw [hy0]; exact minO_mem ys 1 (by omega) (by omega)))
  have H3 := Lib.hid h3
  have HO := Lib.hid hone
  have HV := Lib.hid (And.intro hv hb)
  have HN := Lib.hid hn
  have H15 := Lib.hid (And.intro h0 h15)
  have HY0 := Lib.hid hy0
  have HR6 := Lib.hid hr6
  clear h h1 h2 h3 hone hv hb hn h0 h15 hy0 hr6 hy1 hY
  go_enter Tryd.func33, Tryd.ntmps33
  (try dsimp only); repeat' (first | (with_reducible show wpList _ _ _ (Oper.mk _ (Op.load 68 _) _ _ _ _ :: _) _ _; refine stopP ?_) | go_values | go_skip | go_guarded | go_step | go_upon | go_back)
  unfold StopP
  rw [← hw1, ← hb4]
  clear hw1 hb4
  have hq_ := HL0.out
  refine wpList_load_run rfl 68 _ rfl _ _ rfl hq_ ?_
  clear hq_ HL0
  (try dsimp only); repeat' (first | (with_reducible show wpList _ _ _ (Oper.mk _ (Op.store 68 _ _) _ _ _ _ :: _) _ _; refine stopP ?_) | go_values | go_skip | go_guarded | go_step | go_upon | go_back)
  unfold StopP
  rw [← hw2, ← hb5]
  clear hw2 hb5
  refine wpList_store_mid rfl 68 (.tmp 5) (.tmp 13) rfl b5 0 (ovC y0) rfl rfl HTH.out (by kernel_rfl) HAL.out ?_
  clear HTH HAL
  obtain ⟨v3, hw3⟩ : ∃ q, q = v2.setCells b5 0 (ovC y0).toList := ⟨_, rfl⟩
  rw [← hw3] at H3 ⊢
  clear hw3
  (try dsimp only); repeat' (first | go_values | go_skip | go_guarded | go_step | go_upon | go_back)
  go_loopw [6] (fun i wr => ∃ k : Nat, 1 ≤ k ∧ k ≤ n ∧ i = .int .i64 k ∧ Sep w0 (Cl b5 (ovC (minO (ys.take k))) 68 :: Cl b4 #[.int .i64 0, .int .i64 0, .int .i64 0, .slice none 0 0, .slice none 0 0, .int .i64 0] 68 :: MsR (.slice (some ⟨g, 0, none⟩) n c) (ys.map ovC) :: L) wr) (fun i _ => n - (intOf i).toNat)
  case atStart => exact ⟨1, by omega, by have := H15.out; omega, rfl, by rw [← HY0.out]; exact H3.out⟩
  case round =>
    obtain ⟨k, hk1, hk, rfl, hs⟩ := hrel
    clear H3
    have k0 : (0 : Int) ≤ (k : Int) := by omega
    by_cases hkn : k < n
    · have hkx : k < ys.length := by have := HN.out; omega
      have hkr : k < (ys.map ovC).length := by rw [List.length_map]; exact hkx
      have hr6 := HR6.out
      have hd : decide (k < n) = true := decide_eq_true hkn
      have hkc : (k : Int) < (n : Int) := by omega
      have hms := minO_succ ys k hkx (by omega)
      have hmm := minO_mem ys k (by omega) (by omega)
      have hxm := List.getElem_mem hkx
      obtain ⟨m, hm⟩ : ∃ m, m = minO (ys.take k) := ⟨_, rfl⟩
      obtain ⟨x, hx⟩ : ∃ x, x = ys[k] := ⟨_, rfl⟩
      rw [← hm] at hs hms hmm
      rw [← hx] at hms hxm
      have hX : (ys.map ovC)[k] = ovC x := by rw [List.getElem_map, hx]
      have hB := best1_any x m hs.drew (HV.out.1 _ hxm) (HV.out.1 _ hmm) (HV.out.2 _ hxm) (HV.out.2 _ hmm)
      have hal := HO.out _ hxm
      obtain ⟨C, hC⟩ : ∃ C, C = cmpO x m := ⟨_, rfl⟩
      rw [← hC] at hB hms
      unfold ovV at hB
      obtain ⟨X, hXX⟩ : ∃ X, X = ovC x := ⟨_, rfl⟩
      obtain ⟨M, hMM⟩ : ∃ M, M = ovC m := ⟨_, rfl⟩
      rw [← hXX, ← hMM] at hB
      rw [← hMM] at hs
      rw [← hXX] at hX hal
      have hM6 : M.size = 6 := by rw [hMM]; rfl
      have hX6 : X.size = 6 := by rw [hXX]; rfl
      have g0 : (Instr.loadAt 68 (.pointer (some ⟨g, k * 6, none⟩))).run Tryd.prog (wr.drew) = .ok (.agg X) (wr.drew) ∧ (Instr.loadAt 68 (.pointer (some ⟨b5, 0, none⟩))).run Tryd.prog (wr.drew) = .ok (.agg M) (wr.drew) := ⟨by have := hs.drew.sw3.msLoad hr6 k hkr; rw [hX] at this; exact this, hs.drew.loadW 68 Tryd.underlying68 rfl (by rw [hM6]; kernel_rfl)⟩
      have HB := Lib.hid hB
      have HMS := Lib.hid (And.intro hms (And.intro hXX hMM))
      have HI := Lib.hid (And.intro hM6 hX6)
      have HAL := Lib.hid hal
      have HX := Lib.hid hX
      have HK := Lib.hid (And.intro hk1 hkn)
      have HKR := Lib.hid hkr
      clear hs hms hmm hxm hm hx hB hC hXX hMM hM6 hX6 hal hX hk1 hk hkn hr6
      (try dsimp only); repeat' (first | go_values | go_skip | go_guarded | go_step | go_upon | go_back)
      refine wp_region_G (fun w' => (Instr.loadAt 68 (.pointer (some ⟨g, k * 6, none⟩))).run Tryd.prog w' = .ok (.agg X) w' ∧ (Instr.loadAt 68 (.pointer (some ⟨b5, 0, none⟩))).run Tryd.prog w' = .ok (.agg M) w') [] (by kernel_rfl) g0 (fun hS => ?_)
      try dsimp only at hS
      refine wpAnyG_take' (i := 0) (v := ?v0_1m) rfl (by kernel_rfl) (by kernel_rfl) (by kernel_rfl) (by kernel_rfl) (fun _ _ _ h => h) (Or.inl ⟨by rfl, ?hy0_1m⟩) hS ?rest0_1m
      case hy0_1m => intro w hSw; (try dsimp only at hSw); go_simp; (try with_reducible rfl)
      case rest0_1m =>
      try simp only [List.getElem_toArray, List.getElem_cons_succ, List.getElem_cons_zero, Act.put, List.setIfInBounds_toArray, List.set_cons_zero, List.set_cons_succ]
      refine wpAnyG_take' (i := 1) (v := ?v1_2m) rfl (by kernel_rfl) (by kernel_rfl) (by kernel_rfl) (by kernel_rfl) (fun _ _ _ h => h) (Or.inl ⟨by rfl, ?hy1_2m⟩) hS ?rest1_2m
      case hy1_2m => intro w hSw; (try dsimp only at hSw); go_simp; (try with_reducible rfl)
      case rest1_2m =>
      try simp only [List.getElem_toArray, List.getElem_cons_succ, List.getElem_cons_zero, Act.put, List.setIfInBounds_toArray, List.set_cons_zero, List.set_cons_succ]
      refine wpAnyG_take' (i := 2) (v := ?v2_3m) rfl (by kernel_rfl) (by kernel_rfl) (by kernel_rfl) (by kernel_rfl) (fun _ _ _ h => h) (Or.inl ⟨by rfl, ?hy2_3m⟩) hS ?rest2_3m
      case hy2_3m => intro w hSw; (try dsimp only at hSw); go_simp; (try with_reducible rfl)
      case rest2_3m =>
      try simp only [List.getElem_toArray, List.getElem_cons_succ, List.getElem_cons_zero, Act.put, List.setIfInBounds_toArray, List.set_cons_zero, List.set_cons_succ]
      refine wpAnyG_take' (i := 3) (v := ?v3_4m) rfl (by kernel_rfl) (by kernel_rfl) (by kernel_rfl) (by kernel_rfl) (fun _ _ _ h => h) (Or.inl ⟨by rfl, ?hy3_4m⟩) hS ?rest3_4m
      case hy3_4m => intro w hSw; (try dsimp only at hSw); go_simp; (try with_reducible rfl)
      case rest3_4m =>
      try simp only [List.getElem_toArray, List.getElem_cons_succ, List.getElem_cons_zero, Act.put, List.setIfInBounds_toArray, List.set_cons_zero, List.set_cons_succ]
      refine wpAnyG_take' (i := 4) (v := .agg X) rfl (by kernel_rfl) (by kernel_rfl) (by kernel_rfl) (by kernel_rfl) (fun _ _ _ h => h) (Or.inl ⟨by rfl, ?hy4m⟩) g0 ?res4m
      case hy4m => intro w hSw; exact exec_load _ _ rfl _ rfl hSw.1
      case res4m =>
      try simp only [List.getElem_toArray, List.getElem_cons_succ, List.getElem_cons_zero, Act.put, List.setIfInBounds_toArray, List.set_cons_zero, List.set_cons_succ]
      refine wpAnyG_take' (i := 5) (v := .agg M) rfl (by kernel_rfl) (by kernel_rfl) (by kernel_rfl) (by kernel_rfl) (fun _ _ _ h => h) (Or.inl ⟨by rfl, ?hy5m⟩) g0 ?res5m
      case hy5m => intro w hSw; exact exec_load _ _ rfl _ rfl hSw.2
      case res5m =>
      try simp only [List.getElem_toArray, List.getElem_cons_succ, List.getElem_cons_zero, Act.put, List.setIfInBounds_toArray, List.set_cons_zero, List.set_cons_succ]
      refine wpAnyG_one (i := 6) (by kernel_rfl) rfl (fun K hK => ?_)
      go_simp
      refine Calls.mono HB.out ?_
      rintro r9 w5 ⟨rfl, h5⟩
      have g5 : (Instr.loadAt 68 (.pointer (some ⟨g, k * 6, none⟩))).run Tryd.prog w5 = .ok (.agg X) w5 ∧ (Instr.loadAt 68 (.pointer (some ⟨b5, 0, none⟩))).run Tryd.prog w5 = .ok (.agg M) w5 := ⟨by have := h5.sw3.msLoad HR6.out k HKR.out; rw [HX.out] at this; exact this, h5.loadW 68 Tryd.underlying68 rfl (by rw [HI.out.1]; kernel_rfl)⟩
      clear g0 HB
      refine hK.out _ _ (fun _ => ?hS5m) ?rest5m
      case hS5m => exact g5
      clear K hK
      try simp only [List.getElem_toArray, List.getElem_cons_succ, List.getElem_cons_zero, Act.put, List.setIfInBounds_toArray, List.set_cons_zero, List.set_cons_succ]
      refine wpAnyG_take' (i := 7) (v := ?v7_6m) rfl (by kernel_rfl) (by kernel_rfl) (by kernel_rfl) (by kernel_rfl) (fun _ _ _ h => h) (Or.inl ⟨by rfl, ?hy7_6m⟩) g5 ?rest7_6m
      case hy7_6m => intro w hSw; (try dsimp only at hSw); go_simp; (try with_reducible rfl)
      case rest7_6m =>
      try simp only [List.getElem_toArray, List.getElem_cons_succ, List.getElem_cons_zero, Act.put, List.setIfInBounds_toArray, List.set_cons_zero, List.set_cons_succ]
      refine wpAnyG_done (by kernel_rfl) ?_ _
      try simp only [List.getElem_toArray, List.getElem_cons_succ, List.getElem_cons_zero, Act.put, List.setIfInBounds_toArray, List.set_cons_zero, List.set_cons_succ]
      by_cases e : C < 0
      · have d : decide (C < 0) = true := decide_eq_true e
        rw [d]
        have hL := g5.1
        have HTH := Lib.hid (h5.thereAt 0 6 (by rw [HI.out.1]; omega))
        have h6 := h5.storeW X (by rw [HI.out.1, HI.out.2])
        have HL := Lib.hid hL
        have H6 := Lib.hid h6
        have HE := Lib.hid e
        clear h5 h6 g5 hL e
        (try dsimp only); repeat' (first | (with_reducible show wpList _ _ _ (Oper.mk _ (Op.load 68 _) _ _ _ _ :: _) _ _; refine stopP ?_) | go_values | go_skip | go_guarded | go_step | go_upon | go_back)
        unfold StopP
        have hq_ := HL.out
        refine wpList_load_run rfl 68 _ rfl _ _ rfl hq_ ?_
        clear hq_ HL
        (try dsimp only); repeat' (first | (with_reducible show wpList _ _ _ (Oper.mk _ (Op.store 68 _ _) _ _ _ _ :: _) _ _; refine stopP ?_) | go_values | go_skip | go_guarded | go_step | go_upon | go_back)
        unfold StopP
        refine wpList_store_mid rfl 68 (.tmp 5) (.tmp 31) rfl b5 0 X rfl rfl (by rw [HI.out.2]; exact HTH.out) (by rw [HI.out.2]; kernel_rfl) HAL.out ?_
        obtain ⟨w6, hw6⟩ : ∃ q, q = w5.setCells b5 0 X.toList := ⟨_, rfl⟩
        rw [← hw6] at H6 ⊢
        clear hw6 HTH
        (try dsimp only); repeat' (first | go_values | go_skip | go_guarded | go_step | go_upon | go_back)
        go_roundw
        case rel => exact ⟨k + 1, by omega, HK.out.2, by go_num, by rw [HMS.out.1, if_pos HE.out, ← HMS.out.2.1]; exact H6.out⟩
        case measure => have := HK.out; simp [intOf]; omega
      · have d : decide (C < 0) = false := decide_eq_false e
        rw [d]
        have H6 := Lib.hid h5
        have HE := Lib.hid e
        clear h5 g5 e
        (try dsimp only); repeat' (first | go_values | go_skip | go_guarded | go_step | go_upon | go_back)
        go_roundw
        case rel => exact ⟨k + 1, by omega, HK.out.2, by go_num, by rw [HMS.out.1, if_neg HE.out, ← HMS.out.2.2]; exact H6.out⟩
        case measure => have := HK.out; simp [intOf]; omega
    · have hd : decide (k < n) = false := decide_eq_false hkn
      have hkn' : k = n := by omega
      rw [hkn', List.take_of_length_le (by have := HN.out; omega)] at hs
      have HL := Lib.hid (hs.loadW 68 Tryd.underlying68 rfl (by kernel_rfl))
      have HTH := Lib.hid (hs.sw2.thereAt 0 6 (Nat.le_refl 6))
      have h6 := hs.sw2.storeW (ovC (minO ys)) rfl
      have HR := Lib.hid (h6.loadV 68 Tryd.underlying68 rfl (by kernel_rfl))
      have H6 := Lib.hid (h6.drop.drop)
      have hmm := minO_mem ys ys.length (by have := H15.out; have := HN.out; omega) (Nat.le_refl _)
      rw [List.take_length] at hmm
      have HAL := Lib.hid (HO.out _ hmm)
      clear hs h6 hk hk1 hkn hkn' hmm
      (try dsimp only); repeat' (first | (with_reducible show wpList _ _ _ (Oper.mk _ (Op.load 68 _) _ _ _ _ :: _) _ _; refine stopP ?_) | go_values | go_skip | go_guarded | go_step | go_upon | go_back)
      unfold StopP
      have hq_ := HL.out
      refine wpList_load_run rfl 68 _ rfl _ _ rfl hq_ ?_
      clear hq_ HL
      (try dsimp only); repeat' (first | (with_reducible show wpList _ _ _ (Oper.mk _ (Op.store 68 _ _) _ _ _ _ :: _) _ _; refine stopP ?_) | go_values | go_skip | go_guarded | go_step | go_upon | go_back)
      unfold StopP
      refine wpList_store_mid rfl 68 (.tmp 4) (.tmp 32) rfl b4 0 (ovC (minO ys)) rfl rfl HTH.out (by kernel_rfl) HAL.out ?_
      (try dsimp only); repeat' (first | go_values | go_skip | go_guarded | go_step | go_upon | go_back)
      exact bodyPost_ret (results_cell rfl rfl HR.out) rfl ⟨rfl, H6.out⟩
end Go.Proofs.YthgndegjiodopaaDoor
