/- A proxy: supported, Take. -/
import Derived.Test.YtdemconpdjgimaaDoorPx4
import Derived.Test.YtdemconpdjgimaaDoorHeldCall
namespace Go.Proofs.YtdemconpdjgimaaDoor
open Go.RowKit
set_option linter.unusedVariables false
set_option linter.unusedSimpArgs false
variable {w0 w : World} {g gc gt b n who : Nat} {cl num view : Int} {wt st : Bool} {k o : Int} {lv tp : Value} {S : List (Bal × Nat)} {L : List Thing} {mk mf mt mv mo mc ml ec em rc ra rb : Int} {ms : Bool} {la lc ea : Option Addr} {kl kc ke : Nat}
theorem popc_small (s : Nat) : popc s ≤ 15 := by
  rw [popc_bits]
  have h : ∀ j, bitAt s j ≤ 1 := fun j => by unfold bitAt; omega
  have := h 0
  have := h 1
  have := h 2
  have := h 3
  have := h 4
  have := h 5
  have := h 6
  have := h 7
  have := h 8
  have := h 9
  have := h 10
  have := h 11
  have := h 12
  have := h 13
  have := h 14
  omega
set_option maxRecDepth 100000 in
set_option maxHeartbeats 16000000 in
theorem pxsup_any (h : Sep w0 (TalC gt b n :: BalM b S :: PrxC g gc cl n num view wt st k o lv (.pointer (some ⟨gt, 0, none⟩)) :: L) w) (hw : who < n) (hn : n ≤ 15) (hS : Small S) (hv : IQ mv) (ho : IQ mo) (h1 : IQ rc) (h2 : IQ ra) (h3 : IQ rb) :
    Calls Tryd.prog 22 #[.pointer (some ⟨g, 0, none⟩), .agg (msC ⟨mk, (who : Int), mt, mv, mo, mc, ml, ec, em, rc, ra, rb, ms⟩ (.slice la 0 kl) (.slice lc 0 kc) (.slice ea 0 ke))] w fun e w' => e = .returned (.bool (decide (enough n ≤ (popc ((mget S ⟨(mv, mo, rc, ra, rb), hv, ho, h1, h2, h3⟩).getD 0 ||| 2 ^ who) : Nat)))) ∧ Sep w0 (TalC gt b n :: BalM b (addS S ⟨(mv, mo, rc, ra, rb), hv, ho, h1, h2, h3⟩ who) :: PrxC g gc cl n num view wt st k o lv (.pointer (some ⟨gt, 0, none⟩)) :: L) w' := by
  obtain ⟨x, hx⟩ : ∃ x : Bal, x = ⟨(mv, mo, rc, ra, rb), hv, ho, h1, h2, h3⟩ := ⟨_, rfl⟩
  rw [← hx]
  obtain ⟨bm, hbm⟩ : ∃ z, z = w.heap.size := ⟨_, rfl⟩
  obtain ⟨w3, hw3⟩ : ∃ z, z = w.alloc (.cells (msC ⟨mk, (who : Int), mt, mv, mo, mc, ml, ec, em, rc, ra, rb, ms⟩ (.slice la 0 kl) (.slice lc 0 kc) (.slice ea 0 ke)) 44) := ⟨_, rfl⟩
  have h5 := h.alloc (.cells (msC ⟨mk, (who : Int), mt, mv, mo, mc, ml, ec, em, rc, ra, rb, ms⟩ (.slice la 0 kl) (.slice lc 0 kc) (.slice ea 0 ke)) 44)
  rw [← hbm, ← hw3] at h5
  have h6 : Sep w0 (TalC gt b n :: BalM b S :: Cl bm (msC ⟨mk, (who : Int), mt, mv, mo, mc, ml, ec, em, rc, ra, rb, ms⟩ (.slice la 0 kl) (.slice lc 0 kc) (.slice ea 0 ke)) 44 :: PrxC g gc cl n num view wt st k o lv (.pointer (some ⟨gt, 0, none⟩)) :: L) w3 := h5.pickL (M := [_, _, _, _]) [1, 2, 0, 3] rfl
  have hA := add_ok x who h6.drew hw hn hS
  have HE := Lib.hid (fun wx => enough_any n wx (by unfold IQ; omega))
  have hm := popc_small ((mget S x).getD 0 ||| 2 ^ who)
  generalize popc ((mget S x).getD 0 ||| 2 ^ who) = many at *
  obtain ⟨en, hen⟩ : ∃ z, z = enough n := ⟨_, rfl⟩
  rw [← hen] at HE ⊢
  clear hen
  rw [show balV x = .agg #[.int .i64 mv, .int .i64 mo, .int .i64 rc, .int .i64 ra, .int .i64 rb] by rw [hx]; rfl] at hA
  have HA := Lib.hid hA
  have c8 := h6.sw4.cell (o := 12) rfl
  unfold msC at h6 hw3
  dsimp only at h6 hw3
  have d1 := h6.sw3.cell (o := 1) rfl
  have d3 := h6.sw3.cell (o := 3) rfl
  have d4 := h6.sw3.cell (o := 4) rfl
  have d14 := h6.sw3.cell (o := 14) rfl
  have d15 := h6.sw3.cell (o := 15) rfl
  have d16 := h6.sw3.cell (o := 16) rfl
  unfold msC at HA
  dsimp only at HA
  clear hx hA h h5 h6 hw hn hS hv ho h1 h2 h3
  go_enter Tryd.func22, Tryd.ntmps22
  unfold msC
  (try dsimp only); repeat' (first | go_values | go_skip | go_guarded | go_step | go_upon | go_back)
  rw [← hw3, ← hbm]
  clear hw3 hbm
  refine wp_region_G (fun w' => w'.cell? ⟨g, 12, none⟩ = some (.pointer (some ⟨gt, 0, none⟩)) ∧ w'.cell? ⟨bm, 3, none⟩ = some (.int .i64 mv) ∧ w'.cell? ⟨bm, 4, none⟩ = some (.int .i64 mo) ∧ w'.cell? ⟨bm, 14, none⟩ = some (.int .i64 rc) ∧ w'.cell? ⟨bm, 15, none⟩ = some (.int .i64 ra) ∧ w'.cell? ⟨bm, 16, none⟩ = some (.int .i64 rb) ∧ w'.cell? ⟨bm, 1, none⟩ = some (.int .i64 (who : Int))) [18] (by kernel_rfl) ⟨c8, d3, d4, d14, d15, d16, d1⟩ (fun hS => ?_)
  try dsimp only at hS
  refine wpAnyG_take' (i := 0) (v := ?v0_1sp) rfl (by kernel_rfl) (by kernel_rfl) (by kernel_rfl) (by kernel_rfl) (fun _ _ _ h => h) (Or.inl ⟨by rfl, ?hy0_1sp⟩) hS ?rest0_1sp
  case hy0_1sp => intro w hSw; (try dsimp only at hSw); go_simp; (try with_reducible rfl)
  case rest0_1sp =>
  try simp only [List.getElem_toArray, List.getElem_cons_succ, List.getElem_cons_zero, Act.put, List.setIfInBounds_toArray, List.set_cons_zero, List.set_cons_succ]
  refine wpAnyG_take' (i := 1) (v := ?v1_2sp) rfl (by kernel_rfl) (by kernel_rfl) (by kernel_rfl) (by kernel_rfl) (fun _ _ _ h => h) (Or.inl ⟨by rfl, ?hy1_2sp⟩) hS ?rest1_2sp
  case hy1_2sp => intro w hSw; (try dsimp only at hSw); go_simp; (try with_reducible rfl)
  case rest1_2sp =>
  try simp only [List.getElem_toArray, List.getElem_cons_succ, List.getElem_cons_zero, Act.put, List.setIfInBounds_toArray, List.set_cons_zero, List.set_cons_succ]
  refine wpAnyG_take' (i := 2) (v := ?v2_3sp) rfl (by kernel_rfl) (by kernel_rfl) (by kernel_rfl) (by kernel_rfl) (fun _ _ _ h => h) (Or.inl ⟨by rfl, ?hy2_3sp⟩) hS ?rest2_3sp
  case hy2_3sp => intro w hSw; (try dsimp only at hSw); go_simp; (try with_reducible rfl)
  case rest2_3sp =>
  try simp only [List.getElem_toArray, List.getElem_cons_succ, List.getElem_cons_zero, Act.put, List.setIfInBounds_toArray, List.set_cons_zero, List.set_cons_succ]
  refine wpAnyG_take' (i := 3) (v := ?v3_4sp) rfl (by kernel_rfl) (by kernel_rfl) (by kernel_rfl) (by kernel_rfl) (fun _ _ _ h => h) (Or.inl ⟨by rfl, ?hy3_4sp⟩) hS ?rest3_4sp
  case hy3_4sp => intro w hSw; (try dsimp only at hSw); go_simp; (try with_reducible rfl)
  case rest3_4sp =>
  try simp only [List.getElem_toArray, List.getElem_cons_succ, List.getElem_cons_zero, Act.put, List.setIfInBounds_toArray, List.set_cons_zero, List.set_cons_succ]
  refine wpAnyG_take' (i := 4) (v := ?v4_5sp) rfl (by kernel_rfl) (by kernel_rfl) (by kernel_rfl) (by kernel_rfl) (fun _ _ _ h => h) (Or.inl ⟨by rfl, ?hy4_5sp⟩) hS ?rest4_5sp
  case hy4_5sp => intro w hSw; (try dsimp only at hSw); go_simp; (try with_reducible rfl)
  case rest4_5sp =>
  try simp only [List.getElem_toArray, List.getElem_cons_succ, List.getElem_cons_zero, Act.put, List.setIfInBounds_toArray, List.set_cons_zero, List.set_cons_succ]
  refine wpAnyG_take' (i := 5) (v := ?v5_6sp) rfl (by kernel_rfl) (by kernel_rfl) (by kernel_rfl) (by kernel_rfl) (fun _ _ _ h => h) (Or.inl ⟨by rfl, ?hy5_6sp⟩) hS ?rest5_6sp
  case hy5_6sp => intro w hSw; (try dsimp only at hSw); go_simp; (try with_reducible rfl)
  case rest5_6sp =>
  try simp only [List.getElem_toArray, List.getElem_cons_succ, List.getElem_cons_zero, Act.put, List.setIfInBounds_toArray, List.set_cons_zero, List.set_cons_succ]
  refine wpAnyG_take' (i := 6) (v := ?v6_7sp) rfl (by kernel_rfl) (by kernel_rfl) (by kernel_rfl) (by kernel_rfl) (fun _ _ _ h => h) (Or.inl ⟨by rfl, ?hy6_7sp⟩) hS ?rest6_7sp
  case hy6_7sp => intro w hSw; (try dsimp only at hSw); go_simp; (try with_reducible rfl)
  case rest6_7sp =>
  try simp only [List.getElem_toArray, List.getElem_cons_succ, List.getElem_cons_zero, Act.put, List.setIfInBounds_toArray, List.set_cons_zero, List.set_cons_succ]
  refine wpAnyG_take' (i := 7) (v := ?v7_8sp) rfl (by kernel_rfl) (by kernel_rfl) (by kernel_rfl) (by kernel_rfl) (fun _ _ _ h => h) (Or.inl ⟨by rfl, ?hy7_8sp⟩) hS ?rest7_8sp
  case hy7_8sp => intro w hSw; (try dsimp only at hSw); go_simp; (try with_reducible rfl)
  case rest7_8sp =>
  try simp only [List.getElem_toArray, List.getElem_cons_succ, List.getElem_cons_zero, Act.put, List.setIfInBounds_toArray, List.set_cons_zero, List.set_cons_succ]
  refine wpAnyG_take' (i := 8) (v := ?v8_9sp) rfl (by kernel_rfl) (by kernel_rfl) (by kernel_rfl) (by kernel_rfl) (fun _ _ _ h => h) (Or.inl ⟨by rfl, ?hy8_9sp⟩) hS ?rest8_9sp
  case hy8_9sp => intro w hSw; (try dsimp only at hSw); go_simp; (try with_reducible rfl)
  case rest8_9sp =>
  try simp only [List.getElem_toArray, List.getElem_cons_succ, List.getElem_cons_zero, Act.put, List.setIfInBounds_toArray, List.set_cons_zero, List.set_cons_succ]
  refine wpAnyG_take' (i := 9) (v := ?v9_10sp) rfl (by kernel_rfl) (by kernel_rfl) (by kernel_rfl) (by kernel_rfl) (fun _ _ _ h => h) (Or.inl ⟨by rfl, ?hy9_10sp⟩) hS ?rest9_10sp
  case hy9_10sp => intro w hSw; (try dsimp only at hSw); go_simp; (try with_reducible rfl)
  case rest9_10sp =>
  try simp only [List.getElem_toArray, List.getElem_cons_succ, List.getElem_cons_zero, Act.put, List.setIfInBounds_toArray, List.set_cons_zero, List.set_cons_succ]
  refine wpAnyG_take' (i := 10) (v := ?v10_11sp) rfl (by kernel_rfl) (by kernel_rfl) (by kernel_rfl) (by kernel_rfl) (fun _ _ _ h => h) (Or.inl ⟨by rfl, ?hy10_11sp⟩) hS ?rest10_11sp
  case hy10_11sp => intro w hSw; (try dsimp only at hSw); go_simp; (try with_reducible rfl)
  case rest10_11sp =>
  try simp only [List.getElem_toArray, List.getElem_cons_succ, List.getElem_cons_zero, Act.put, List.setIfInBounds_toArray, List.set_cons_zero, List.set_cons_succ]
  refine wpAnyG_take' (i := 11) (v := ?v11_12sp) rfl (by kernel_rfl) (by kernel_rfl) (by kernel_rfl) (by kernel_rfl) (fun _ _ _ h => h) (Or.inl ⟨by rfl, ?hy11_12sp⟩) hS ?rest11_12sp
  case hy11_12sp => intro w hSw; (try dsimp only at hSw); go_simp; (try with_reducible rfl)
  case rest11_12sp =>
  try simp only [List.getElem_toArray, List.getElem_cons_succ, List.getElem_cons_zero, Act.put, List.setIfInBounds_toArray, List.set_cons_zero, List.set_cons_succ]
  refine wpAnyG_take' (i := 12) (v := ?v12_13sp) rfl (by kernel_rfl) (by kernel_rfl) (by kernel_rfl) (by kernel_rfl) (fun _ _ _ h => h) (Or.inl ⟨by rfl, ?hy12_13sp⟩) hS ?rest12_13sp
  case hy12_13sp => intro w hSw; (try dsimp only at hSw); go_simp; (try with_reducible rfl)
  case rest12_13sp =>
  try simp only [List.getElem_toArray, List.getElem_cons_succ, List.getElem_cons_zero, Act.put, List.setIfInBounds_toArray, List.set_cons_zero, List.set_cons_succ]
  refine wpAnyG_one (i := 13) (by kernel_rfl) rfl (fun K hK => ?_)
  go_simp
  refine Calls.mono HA.out ?_
  rintro r0 w4 ⟨rfl, h4⟩
  have e8 := h4.sw4.cell (o := 12) rfl
  have y3 := h4.sw3.cell (o := 3) rfl
  have y4 := h4.sw3.cell (o := 4) rfl
  have y14 := h4.sw3.cell (o := 14) rfl
  have y15 := h4.sw3.cell (o := 15) rfl
  have y16 := h4.sw3.cell (o := 16) rfl
  have y1 := h4.sw3.cell (o := 1) rfl
  have e2 := h4.sw4.cell (o := 2) rfl
  have H4 := Lib.hid h4
  clear h4 HA
  refine hK.out _ _ (fun _ => ?hS14sp) ?rest14sp
  case hS14sp => exact ⟨e8, y3, y4, y14, y15, y16, y1⟩
  clear K hK
  try simp only [List.getElem_toArray, List.getElem_cons_succ, List.getElem_cons_zero, Act.put, List.setIfInBounds_toArray, List.set_cons_zero, List.set_cons_succ]
  refine wpAnyG_take' (i := 14) (v := ?v14_15sp) rfl (by kernel_rfl) (by kernel_rfl) (by kernel_rfl) (by kernel_rfl) (fun _ _ _ h => h) (Or.inl ⟨by rfl, ?hy14_15sp⟩) ⟨e8, y3, y4, y14, y15, y16, y1⟩ ?rest14_15sp
  case hy14_15sp => intro w hSw; (try dsimp only at hSw); go_simp; (try with_reducible rfl)
  case rest14_15sp =>
  try simp only [List.getElem_toArray, List.getElem_cons_succ, List.getElem_cons_zero, Act.put, List.setIfInBounds_toArray, List.set_cons_zero, List.set_cons_succ]
  refine wpAnyG_take' (i := 15) (v := ?v15_16sp) rfl (by kernel_rfl) (by kernel_rfl) (by kernel_rfl) (by kernel_rfl) (fun _ _ _ h => h) (Or.inl ⟨by rfl, ?hy15_16sp⟩) ⟨e8, y3, y4, y14, y15, y16, y1⟩ ?rest15_16sp
  case hy15_16sp => intro w hSw; (try dsimp only at hSw); go_simp; (try with_reducible rfl)
  case rest15_16sp =>
  try simp only [List.getElem_toArray, List.getElem_cons_succ, List.getElem_cons_zero, Act.put, List.setIfInBounds_toArray, List.set_cons_zero, List.set_cons_succ]
  refine wpAnyG_take' (i := 16) (v := ?v16_17sp) rfl (by kernel_rfl) (by kernel_rfl) (by kernel_rfl) (by kernel_rfl) (fun _ _ _ h => h) (Or.inl ⟨by rfl, ?hy16_17sp⟩) ⟨e8, y3, y4, y14, y15, y16, y1⟩ ?rest16_17sp
  case hy16_17sp => intro w hSw; (try dsimp only at hSw); go_simp; (try with_reducible rfl)
  case rest16_17sp =>
  try simp only [List.getElem_toArray, List.getElem_cons_succ, List.getElem_cons_zero, Act.put, List.setIfInBounds_toArray, List.set_cons_zero, List.set_cons_succ]
  refine wpAnyG_one (i := 17) (by kernel_rfl) rfl (fun K hK => ?_)
  go_simp
  refine hK.out _ _ (fun _ => ?hS18sp) ?rest18sp
  case hS18sp => exact ⟨e8, y3, y4, y14, y15, y16, y1⟩
  clear K hK
  try simp only [List.getElem_toArray, List.getElem_cons_succ, List.getElem_cons_zero, Act.put, List.setIfInBounds_toArray, List.set_cons_zero, List.set_cons_succ]
  refine wpAnyG_one (i := 18) (by kernel_rfl) rfl (fun K hK => ?_)
  go_simp
  refine hK.out _ _ (fun hno => by cases hno) ?_
  clear K hK
  try simp only [List.getElem_toArray, List.getElem_cons_succ, List.getElem_cons_zero, Act.put, List.setIfInBounds_toArray, List.set_cons_zero, List.set_cons_succ]
  refine wpAnyG_done (by kernel_rfl) ?_ _
  try simp only [List.getElem_toArray, List.getElem_cons_succ, List.getElem_cons_zero, Act.put, List.setIfInBounds_toArray, List.set_cons_zero, List.set_cons_succ]
  clear hS d1 d3 d4 d14 d15 d16 c8
  (try dsimp only); repeat' (first | go_values | go_skip | go_guarded | go_step | go_upon | go_back)
  refine (HE.out _).mono ?_
  rintro r0 w5 ⟨rfl, rfl⟩
  clear HE
  (try dsimp only); repeat' (first | go_values | go_skip | go_guarded | go_step | go_upon | go_back)
  go_ret
  exact ⟨rfl, (H4.out.pickL (M := [_, _, _, _]) [0, 1, 3] rfl)⟩
end Go.Proofs.YtdemconpdjgimaaDoor
