/- The statements' own (stage 22): small, tells, works. -/
import Derived.Test.YtcnbmeiielkigaaDoorBag6
import Derived.Test.YtcnbmeiielkigaaDoorEqIntsI
import Derived.Test.YtcnbmeiielkigaaDoorBring
namespace Go.Proofs.YtcnbmeiielkigaaDoor
open Go Go.RowKit
set_option linter.unusedVariables false
set_option linter.unusedSimpArgs false
/-- A message with a number. -/
def sM (n : Int) : MsM := ⟨6, n % 3, n % 5, n, 0, 0, 0, 0, 0, 0, 0, 0, false⟩
theorem nil3 (m : MsM) : MsgC (msC m (.slice none 0 0) (.slice none 0 0) (.slice none 0 0)) m := ⟨_, _, _, nil0, nil0, nil0, rfl⟩
theorem chk_small {w0 : World} {n : Int} (hM : MKindsAt w0) (h0 : 0 ≤ n) (h1 : n ≤ 2199023255552) : ChkOk w0 (sM n) := by
  intro wx M c hs hc
  obtain ⟨lv, cv, ev, hl, hcv, hev, rfl⟩ := hc
  have hk : chk6 (sM n) = true := by
    have e1 : partB (n % 3) = true := decide_eq_true (by omega)
    have e2 : partB (n % 5) = true := decide_eq_true (by omega)
    have e3 : holdsB true n = true := by
      unfold holdsB
      split
      · rfl
      · exact decide_eq_true (by omega)
    unfold chk6 sM
    simp only [e1, e2, e3]
    rfl
  have h9 := mcheck_6 (sM n) hs hl hcv hev (hM.below hs.low) rfl ⟨rfl, rfl⟩ ⟨rfl, rfl, rfl, rfl⟩
  rw [hk, if_pos rfl] at h9
  exact h9
def oM : MsM := ⟨4, 0, 2, 0, 5, 0, 0, 0, 0, 0, 0, 0, false⟩
def tM : MsM := ⟨6, 0, 1, 3, 0, 0, 0, 0, 0, 0, 0, 0, false⟩
theorem chk_o {w0 : World} (hM : MKindsAt w0) : ChkOk w0 oM := by
  intro wx M c hs hc
  obtain ⟨lv, cv, ev, hl, hcv, hev, rfl⟩ := hc
  have h9 := mcheck_4 oM hs hl hcv hev (hM.below hs.low) rfl ⟨rfl, rfl⟩ ⟨rfl, rfl, rfl, rfl⟩
  rw [show chk4 oM = true by decide, if_pos rfl] at h9
  exact h9
theorem chk_t {w0 : World} (hM : MKindsAt w0) : ChkOk w0 tM := by
  intro wx M c hs hc
  obtain ⟨lv, cv, ev, hl, hcv, hev, rfl⟩ := hc
  have h9 := mcheck_6 tM hs hl hcv hev (hM.below hs.low) rfl ⟨rfl, rfl⟩ ⟨rfl, rfl, rfl, rfl⟩
  rw [show chk6 tM = true by decide, if_pos rfl] at h9
  exact h9
set_option maxRecDepth 100000 in
set_option maxHeartbeats 4000000 in
theorem small_any {w0 w : World} {L : List Thing} (n : Int) (h0 : 0 ≤ n) (hn : n ≤ 2199023255552) (h : Sep w0 L w) : Calls Tryd.prog 11 #[.int .i64 n] w fun e w' => ∃ c, MsgC c (sM n) ∧ e = .returned (.agg c) ∧ Sep w0 L w' := by
  have h1 : Sep w0 (Cl w.heap.size #[.int .i64 0, .int .i64 0, .int .i64 0, .int .i64 0, .int .i64 0, .int .i64 0, .int .i64 0, .int .i64 0, .int .i64 0, .int .i64 0, .string ⟨#[]⟩, .int .i64 0, .int .i64 0, .slice none 0 0, .int .i64 0, .int .i64 0, .int .i64 0, .bool false, .int .i64 0, .slice none 0 0, .slice none 0 0, .int .i64 0] 43 :: L) (w.alloc (.cells #[.int .i64 0, .int .i64 0, .int .i64 0, .int .i64 0, .int .i64 0, .int .i64 0, .int .i64 0, .int .i64 0, .int .i64 0, .int .i64 0, .string ⟨#[]⟩, .int .i64 0, .int .i64 0, .slice none 0 0, .int .i64 0, .int .i64 0, .int .i64 0, .bool false, .int .i64 0, .slice none 0 0, .slice none 0 0, .int .i64 0] 43)) := h.alloc _
  have HT := Lib.hid (h1.thereW 22 rfl)
  have h2 := h1.storeW (msC (sM n) (.slice none 0 0) (.slice none 0 0) (.slice none 0 0)) rfl
  have HV := Lib.hid (h2.loadV 43 Tryd.underlying43 rfl (by kernel_rfl))
  have H2 := Lib.hid h2.drop
  clear h h1 h2
  go_enter Tryd.func11, Tryd.ntmps11
  (try dsimp only); repeat' (first | (with_reducible show wpList _ _ _ (Oper.mk _ (Op.store 43 _ _) _ _ _ _ :: _) _ _; refine stopP ?_) | go_values | go_skip | go_guarded | go_step | go_upon | go_back)
  unfold StopP
  refine wpList_store_mid rfl 43 (.tmp 2) (.tmp 8) rfl _ 0 (msC (sM n) (.slice none 0 0) (.slice none 0 0) (.slice none 0 0)) rfl rfl HT.out (by kernel_rfl) (by kernel_rfl) ?_
  (try dsimp only); repeat' (first | go_values | go_skip | go_guarded | go_step | go_upon | go_back)
  exact bodyPost_ret (results_cell rfl rfl HV.out) rfl ⟨_, nil3 _, rfl, H2.out⟩
set_option maxRecDepth 100000 in
set_option maxHeartbeats 16000000 in
theorem tells_any {w0 w : World} {L : List Thing} {g : Nat} {wv : Value} {ws : List Int} (h : Sep w0 (BagT g (ws.map sM) :: Is wv ws :: L) w) (hl : ws.length ≤ 100000) (hw : ∀ x ∈ ws, 0 ≤ x) :
    Calls Tryd.prog 15 #[.pointer (some ⟨g, 0, none⟩), wv] w fun e w' => e = .returned (.bool true) ∧ Sep w0 (BagT g (ws.map sM) :: Is wv ws :: L) w' := by
  obtain ⟨wa, wc, rfl⟩ := h.sw2.sl.len
  have hml : (ws.map sM).length = ws.length := List.length_map ..
  rw [iv_length] at h ⊢
  have HL := Lib.hid (blist_any h (by rw [hml]; exact hl))
  rw [hml] at HL
  obtain ⟨n, hn⟩ : ∃ z, z = ws.length := ⟨_, rfl⟩
  rw [← hn] at HL h ⊢
  have HN := Lib.hid (And.intro hn hw)
  have n0 : (0 : Int) ≤ (n : Int) := by omega
  have n9 : (n : Int) ≤ 100000 := by omega
  clear h hn hl hw hml
  go_enter Tryd.func15, Tryd.ntmps15
  (try dsimp only); repeat' (first | go_values | go_skip | go_guarded | go_step | go_upon | go_back)
  refine HL.out.mono ?_
  rintro r0 w1 ⟨a, c, rows, rfl, hm, h1⟩
  have hBL := blen_any h1.sw2
  rw [List.length_map, ← HN.out.1] at hBL
  have HBL := Lib.hid hBL
  have H1 := Lib.hid h1
  have HM := Lib.hid hm
  clear HL h1 hm hBL
  (try dsimp only); repeat' (first | go_values | go_skip | go_guarded | go_step | go_upon | go_back)
  refine HBL.out.mono ?_
  rintro r0 w2 ⟨rfl, rfl⟩
  clear HBL
  (try dsimp only); repeat' (first | go_values | go_skip | go_guarded | go_step | go_upon | go_back)
  go_loopw [6] (fun i wr => ∃ k : Nat, k ≤ n ∧ i = .int .i64 k ∧ Sep w0 (Rn 22 43 (.slice a n c) n (msCs rows) :: BagT g (ws.map sM) :: Is (.slice wa n wc) ws :: L) wr) (fun i _ => n - (intOf i).toNat)
  case atStart => exact ⟨0, Nat.zero_le _, rfl, H1.out⟩
  case round =>
    obtain ⟨k, hk, rfl, hs⟩ := hrel
    clear H1
    have k0 : (0 : Int) ≤ (k : Int) := by omega
    have k9 : (k : Int) ≤ 100000 := by omega
    by_cases hkn : k < n
    · have d0 : decide (k < n) = true := decide_eq_true hkn
      have k1 : (k : Int) < (n : Int) := by omega
      have hkw : k < ws.length := by rw [← HN.out.1]; exact hkn
      obtain ⟨hkr, hmc⟩ := HM.out.at k (by rw [List.length_map]; exact hkw)
      have hrl : rows.length = n := by rw [HM.out.1, List.length_map, HN.out.1]
      obtain ⟨b, off, hb, -, -, hra⟩ := hs.roOf.roMsg HM.out k hkr hrl
      obtain ⟨a2, c2, e2, -, -, -, hcell⟩ := hs.rnForm
      simp only [Value.slice.injEq, true_and] at e2
      obtain ⟨rfl, rfl⟩ := e2
      obtain ⟨b', hb', -, -⟩ := hcell (by omega)
      rw [hb'] at hb
      simp only [Option.some.injEq, Addr.mk.injEq, and_true] at hb
      obtain ⟨rfl, rfl⟩ := hb
      subst hb'
      obtain ⟨x, hx⟩ : ∃ x, x = ws[k] := ⟨_, rfl⟩
      rw [List.getElem_map, ← hx] at hmc
      obtain ⟨lv, cv, ev, -, -, -, hrk⟩ := hmc
      rw [hrk] at hra
      have q : ∀ j v, (msC (sM x) lv cv ev).toList[j]? = some v → wr.cell? ⟨b', k * 22 + j, none⟩ = some v := fun j v hj => by have h9 := hra j v hj; rwa [Nat.zero_add] at h9
      have c0 : wr.cell? ⟨b', k * 22, none⟩ = some (.int .i64 6) := q 0 _ rfl
      have c1 : wr.cell? ⟨b', k * 22 + 1, none⟩ = some (.int .i64 (x % 3)) := q 1 _ rfl
      have c2' : wr.cell? ⟨b', k * 22 + 2, none⟩ = some (.int .i64 (x % 5)) := q 2 _ rfl
      have c3 : wr.cell? ⟨b', k * 22 + 3, none⟩ = some (.int .i64 x) := q 3 _ rfl
      obtain ⟨bw, ow, rfl, -, hwc⟩ := hs.sw3.sl.at (by omega)
      have e0 : wr.cell? ⟨bw, ow + k, none⟩ = some (.int .i64 x) := hwc k _ (by unfold iv; rw [List.getElem?_map, List.getElem?_eq_getElem hkw, hx]; rfl)
      have x0 : 0 ≤ x := by rw [hx]; exact HN.out.2 _ (List.getElem_mem hkw)
      have xe : (x != x) = false := by simp
      have ht5 : x.tmod 5 = x % 5 := Int.tmod_eq_emod_of_nonneg x0
      have ht3 : x.tmod 3 = x % 3 := Int.tmod_eq_emod_of_nonneg x0
      have xe3 : (x % 3 != x % 3) = false := by simp
      have xe5 : (x % 5 != x % 5) = false := by simp
      have H2 := Lib.hid hs.drew
      have HK := Lib.hid hkn
      clear hs hkw hkr hrl hra hcell hx hrk q hwc hk hkn
      (try dsimp only); repeat' (first | go_values | go_skip | go_guarded | go_step | go_upon | go_back)
      refine wp_region_G (fun w' => w'.cell? ⟨b', k * 22, none⟩ = some (.int .i64 6) ∧ w'.cell? ⟨b', k * 22 + 1, none⟩ = some (.int .i64 (x % 3)) ∧ w'.cell? ⟨b', k * 22 + 2, none⟩ = some (.int .i64 (x % 5)) ∧ w'.cell? ⟨b', k * 22 + 3, none⟩ = some (.int .i64 x) ∧ w'.cell? ⟨bw, ow + k, none⟩ = some (.int .i64 x)) [] (by kernel_rfl) ⟨c0, c1, c2', c3, e0⟩ (fun hS => ?_)
      try dsimp only at hS
      refine wpAnyG_take' (i := 0) (v := ?v0_1te) rfl (by kernel_rfl) (by kernel_rfl) (by kernel_rfl) (by kernel_rfl) (fun _ _ _ h => h) (Or.inl ⟨by rfl, ?hy0_1te⟩) hS ?rest0_1te
      case hy0_1te => intro w hSw; (try dsimp only at hSw); go_simp; (try with_reducible rfl)
      case rest0_1te =>
      try simp only [List.getElem_toArray, List.getElem_cons_succ, List.getElem_cons_zero, Act.put, List.setIfInBounds_toArray, List.set_cons_zero, List.set_cons_succ]
      refine wpAnyG_take' (i := 1) (v := ?v1_2te) rfl (by kernel_rfl) (by kernel_rfl) (by kernel_rfl) (by kernel_rfl) (fun _ _ _ h => h) (Or.inl ⟨by rfl, ?hy1_2te⟩) hS ?rest1_2te
      case hy1_2te => intro w hSw; (try dsimp only at hSw); go_simp; (try with_reducible rfl)
      case rest1_2te =>
      try simp only [List.getElem_toArray, List.getElem_cons_succ, List.getElem_cons_zero, Act.put, List.setIfInBounds_toArray, List.set_cons_zero, List.set_cons_succ]
      refine wpAnyG_take' (i := 2) (v := ?v2_3te) rfl (by kernel_rfl) (by kernel_rfl) (by kernel_rfl) (by kernel_rfl) (fun _ _ _ h => h) (Or.inl ⟨by rfl, ?hy2_3te⟩) hS ?rest2_3te
      case hy2_3te => intro w hSw; (try dsimp only at hSw); go_simp; (try with_reducible rfl)
      case rest2_3te =>
      try simp only [List.getElem_toArray, List.getElem_cons_succ, List.getElem_cons_zero, Act.put, List.setIfInBounds_toArray, List.set_cons_zero, List.set_cons_succ]
      refine wpAnyG_take' (i := 3) (v := ?v3_4te) rfl (by kernel_rfl) (by kernel_rfl) (by kernel_rfl) (by kernel_rfl) (fun _ _ _ h => h) (Or.inl ⟨by rfl, ?hy3_4te⟩) hS ?rest3_4te
      case hy3_4te => intro w hSw; (try dsimp only at hSw); go_simp; (try with_reducible rfl)
      case rest3_4te =>
      try simp only [List.getElem_toArray, List.getElem_cons_succ, List.getElem_cons_zero, Act.put, List.setIfInBounds_toArray, List.set_cons_zero, List.set_cons_succ]
      refine wpAnyG_take' (i := 4) (v := ?v4_5te) rfl (by kernel_rfl) (by kernel_rfl) (by kernel_rfl) (by kernel_rfl) (fun _ _ _ h => h) (Or.inl ⟨by rfl, ?hy4_5te⟩) hS ?rest4_5te
      case hy4_5te => intro w hSw; (try dsimp only at hSw); go_simp; (try with_reducible rfl)
      case rest4_5te =>
      try simp only [List.getElem_toArray, List.getElem_cons_succ, List.getElem_cons_zero, Act.put, List.setIfInBounds_toArray, List.set_cons_zero, List.set_cons_succ]
      refine wpAnyG_take' (i := 5) (v := ?v5_6te) rfl (by kernel_rfl) (by kernel_rfl) (by kernel_rfl) (by kernel_rfl) (fun _ _ _ h => h) (Or.inl ⟨by rfl, ?hy5_6te⟩) hS ?rest5_6te
      case hy5_6te => intro w hSw; (try dsimp only at hSw); go_simp; (try with_reducible rfl)
      case rest5_6te =>
      try simp only [List.getElem_toArray, List.getElem_cons_succ, List.getElem_cons_zero, Act.put, List.setIfInBounds_toArray, List.set_cons_zero, List.set_cons_succ]
      refine wpAnyG_take' (i := 6) (v := ?v6_7te) rfl (by kernel_rfl) (by kernel_rfl) (by kernel_rfl) (by kernel_rfl) (fun _ _ _ h => h) (Or.inl ⟨by rfl, ?hy6_7te⟩) hS ?rest6_7te
      case hy6_7te => intro w hSw; (try dsimp only at hSw); go_simp; (try with_reducible rfl)
      case rest6_7te =>
      try simp only [List.getElem_toArray, List.getElem_cons_succ, List.getElem_cons_zero, Act.put, List.setIfInBounds_toArray, List.set_cons_zero, List.set_cons_succ]
      refine wpAnyG_take' (i := 7) (v := ?v7_8te) rfl (by kernel_rfl) (by kernel_rfl) (by kernel_rfl) (by kernel_rfl) (fun _ _ _ h => h) (Or.inl ⟨by rfl, ?hy7_8te⟩) hS ?rest7_8te
      case hy7_8te => intro w hSw; (try dsimp only at hSw); go_simp; (try with_reducible rfl)
      case rest7_8te =>
      try simp only [List.getElem_toArray, List.getElem_cons_succ, List.getElem_cons_zero, Act.put, List.setIfInBounds_toArray, List.set_cons_zero, List.set_cons_succ]
      refine wpAnyG_take' (i := 8) (v := ?v8_9te) rfl (by kernel_rfl) (by kernel_rfl) (by kernel_rfl) (by kernel_rfl) (fun _ _ _ h => h) (Or.inl ⟨by rfl, ?hy8_9te⟩) hS ?rest8_9te
      case hy8_9te => intro w hSw; (try dsimp only at hSw); go_simp; (try with_reducible rfl)
      case rest8_9te =>
      try simp only [List.getElem_toArray, List.getElem_cons_succ, List.getElem_cons_zero, Act.put, List.setIfInBounds_toArray, List.set_cons_zero, List.set_cons_succ]
      refine wpAnyG_take' (i := 9) (v := ?v9_10te) rfl (by kernel_rfl) (by kernel_rfl) (by kernel_rfl) (by kernel_rfl) (fun _ _ _ h => h) (Or.inl ⟨by rfl, ?hy9_10te⟩) hS ?rest9_10te
      case hy9_10te => intro w hSw; (try dsimp only at hSw); go_simp; (try with_reducible rfl)
      case rest9_10te =>
      try simp only [List.getElem_toArray, List.getElem_cons_succ, List.getElem_cons_zero, Act.put, List.setIfInBounds_toArray, List.set_cons_zero, List.set_cons_succ]
      refine wpAnyG_take' (i := 10) (v := ?v10_11te) rfl (by kernel_rfl) (by kernel_rfl) (by kernel_rfl) (by kernel_rfl) (fun _ _ _ h => h) (Or.inl ⟨by rfl, ?hy10_11te⟩) hS ?rest10_11te
      case hy10_11te => intro w hSw; (try dsimp only at hSw); go_simp; (try with_reducible rfl)
      case rest10_11te =>
      try simp only [List.getElem_toArray, List.getElem_cons_succ, List.getElem_cons_zero, Act.put, List.setIfInBounds_toArray, List.set_cons_zero, List.set_cons_succ]
      refine wpAnyG_take' (i := 11) (v := ?v11_12te) rfl (by kernel_rfl) (by kernel_rfl) (by kernel_rfl) (by kernel_rfl) (fun _ _ _ h => h) (Or.inl ⟨by rfl, ?hy11_12te⟩) hS ?rest11_12te
      case hy11_12te => intro w hSw; (try dsimp only at hSw); go_simp; (try with_reducible rfl)
      case rest11_12te =>
      try simp only [List.getElem_toArray, List.getElem_cons_succ, List.getElem_cons_zero, Act.put, List.setIfInBounds_toArray, List.set_cons_zero, List.set_cons_succ]
      refine wpAnyG_take' (i := 12) (v := ?v12_13te) rfl (by kernel_rfl) (by kernel_rfl) (by kernel_rfl) (by kernel_rfl) (fun _ _ _ h => h) (Or.inl ⟨by rfl, ?hy12_13te⟩) hS ?rest12_13te
      case hy12_13te => intro w hSw; (try dsimp only at hSw); go_simp; (try with_reducible rfl)
      case rest12_13te =>
      try simp only [List.getElem_toArray, List.getElem_cons_succ, List.getElem_cons_zero, Act.put, List.setIfInBounds_toArray, List.set_cons_zero, List.set_cons_succ]
      refine wpAnyG_take' (i := 13) (v := ?v13_14te) rfl (by kernel_rfl) (by kernel_rfl) (by kernel_rfl) (by kernel_rfl) (fun _ _ _ h => h) (Or.inl ⟨by rfl, ?hy13_14te⟩) hS ?rest13_14te
      case hy13_14te => intro w hSw; (try dsimp only at hSw); go_simp; (try with_reducible rfl)
      case rest13_14te =>
      try simp only [List.getElem_toArray, List.getElem_cons_succ, List.getElem_cons_zero, Act.put, List.setIfInBounds_toArray, List.set_cons_zero, List.set_cons_succ]
      refine wpAnyG_take' (i := 14) (v := ?v14_15te) rfl (by kernel_rfl) (by kernel_rfl) (by kernel_rfl) (by kernel_rfl) (fun _ _ _ h => h) (Or.inl ⟨by rfl, ?hy14_15te⟩) hS ?rest14_15te
      case hy14_15te => intro w hSw; (try dsimp only at hSw); go_simp; (try with_reducible rfl)
      case rest14_15te =>
      try simp only [List.getElem_toArray, List.getElem_cons_succ, List.getElem_cons_zero, Act.put, List.setIfInBounds_toArray, List.set_cons_zero, List.set_cons_succ]
      refine wpAnyG_take' (i := 15) (v := ?v15_16te) rfl (by kernel_rfl) (by kernel_rfl) (by kernel_rfl) (by kernel_rfl) (fun _ _ _ h => h) (Or.inl ⟨by rfl, ?hy15_16te⟩) hS ?rest15_16te
      case hy15_16te => intro w hSw; (try dsimp only at hSw); go_simp; (try with_reducible rfl)
      case rest15_16te =>
      try simp only [List.getElem_toArray, List.getElem_cons_succ, List.getElem_cons_zero, Act.put, List.setIfInBounds_toArray, List.set_cons_zero, List.set_cons_succ]
      refine wpAnyG_take' (i := 16) (v := ?v16_17te) rfl (by kernel_rfl) (by kernel_rfl) (by kernel_rfl) (by kernel_rfl) (fun _ _ _ h => h) (Or.inl ⟨by rfl, ?hy16_17te⟩) hS ?rest16_17te
      case hy16_17te => intro w hSw; (try dsimp only at hSw); go_simp; (try with_reducible rfl)
      case rest16_17te =>
      try simp only [List.getElem_toArray, List.getElem_cons_succ, List.getElem_cons_zero, Act.put, List.setIfInBounds_toArray, List.set_cons_zero, List.set_cons_succ]
      refine wpAnyG_take' (i := 17) (v := ?v17_18te) rfl (by kernel_rfl) (by kernel_rfl) (by kernel_rfl) (by kernel_rfl) (fun _ _ _ h => h) (Or.inl ⟨by rfl, ?hy17_18te⟩) hS ?rest17_18te
      case hy17_18te => intro w hSw; (try dsimp only at hSw); go_simp; (try with_reducible rfl)
      case rest17_18te =>
      try simp only [List.getElem_toArray, List.getElem_cons_succ, List.getElem_cons_zero, Act.put, List.setIfInBounds_toArray, List.set_cons_zero, List.set_cons_succ]
      refine wpAnyG_take' (i := 18) (v := ?v18_19te) rfl (by kernel_rfl) (by kernel_rfl) (by kernel_rfl) (by kernel_rfl) (fun _ _ _ h => h) (Or.inl ⟨by rfl, ?hy18_19te⟩) hS ?rest18_19te
      case hy18_19te => intro w hSw; (try dsimp only at hSw); go_simp; (try with_reducible rfl)
      case rest18_19te =>
      try simp only [List.getElem_toArray, List.getElem_cons_succ, List.getElem_cons_zero, Act.put, List.setIfInBounds_toArray, List.set_cons_zero, List.set_cons_succ]
      refine wpAnyG_take' (i := 19) (v := ?v19_20te) rfl (by kernel_rfl) (by kernel_rfl) (by kernel_rfl) (by kernel_rfl) (fun _ _ _ h => h) (Or.inl ⟨by rfl, ?hy19_20te⟩) hS ?rest19_20te
      case hy19_20te => intro w hSw; (try dsimp only at hSw); go_simp; (try with_reducible rfl)
      case rest19_20te =>
      try simp only [List.getElem_toArray, List.getElem_cons_succ, List.getElem_cons_zero, Act.put, List.setIfInBounds_toArray, List.set_cons_zero, List.set_cons_succ]
      refine wpAnyG_take' (i := 20) (v := ?v20_21te) rfl (by kernel_rfl) (by kernel_rfl) (by kernel_rfl) (by kernel_rfl) (fun _ _ _ h => h) (Or.inl ⟨by rfl, ?hy20_21te⟩) hS ?rest20_21te
      case hy20_21te => intro w hSw; (try dsimp only at hSw); go_simp; (try with_reducible rfl)
      case rest20_21te =>
      try simp only [List.getElem_toArray, List.getElem_cons_succ, List.getElem_cons_zero, Act.put, List.setIfInBounds_toArray, List.set_cons_zero, List.set_cons_succ]
      refine wpAnyG_take' (i := 21) (v := ?v21_22te) rfl (by kernel_rfl) (by kernel_rfl) (by kernel_rfl) (by kernel_rfl) (fun _ _ _ h => h) (Or.inl ⟨by rfl, ?hy21_22te⟩) hS ?rest21_22te
      case hy21_22te => intro w hSw; (try dsimp only at hSw); go_simp; (try with_reducible rfl)
      case rest21_22te =>
      try simp only [List.getElem_toArray, List.getElem_cons_succ, List.getElem_cons_zero, Act.put, List.setIfInBounds_toArray, List.set_cons_zero, List.set_cons_succ]
      refine wpAnyG_take' (i := 22) (v := ?v22_23te) rfl (by kernel_rfl) (by kernel_rfl) (by kernel_rfl) (by kernel_rfl) (fun _ _ _ h => h) (Or.inl ⟨by rfl, ?hy22_23te⟩) hS ?rest22_23te
      case hy22_23te => intro w hSw; (try dsimp only at hSw); go_simp; (try with_reducible rfl)
      case rest22_23te =>
      try simp only [List.getElem_toArray, List.getElem_cons_succ, List.getElem_cons_zero, Act.put, List.setIfInBounds_toArray, List.set_cons_zero, List.set_cons_succ]
      refine wpAnyG_take' (i := 23) (v := ?v23_24te) rfl (by kernel_rfl) (by kernel_rfl) (by kernel_rfl) (by kernel_rfl) (fun _ _ _ h => h) (Or.inl ⟨by rfl, ?hy23_24te⟩) hS ?rest23_24te
      case hy23_24te => intro w hSw; (try dsimp only at hSw); go_simp; (try with_reducible rfl)
      case rest23_24te =>
      try simp only [List.getElem_toArray, List.getElem_cons_succ, List.getElem_cons_zero, Act.put, List.setIfInBounds_toArray, List.set_cons_zero, List.set_cons_succ]
      refine wpAnyG_take' (i := 24) (v := ?v24_25te) rfl (by kernel_rfl) (by kernel_rfl) (by kernel_rfl) (by kernel_rfl) (fun _ _ _ h => h) (Or.inl ⟨by rfl, ?hy24_25te⟩) hS ?rest24_25te
      case hy24_25te => intro w hSw; (try dsimp only at hSw); go_simp; (try with_reducible rfl)
      case rest24_25te =>
      try simp only [List.getElem_toArray, List.getElem_cons_succ, List.getElem_cons_zero, Act.put, List.setIfInBounds_toArray, List.set_cons_zero, List.set_cons_succ]
      refine wpAnyG_take' (i := 25) (v := ?v25_26te) rfl (by kernel_rfl) (by kernel_rfl) (by kernel_rfl) (by kernel_rfl) (fun _ _ _ h => h) (Or.inl ⟨by rfl, ?hy25_26te⟩) hS ?rest25_26te
      case hy25_26te => intro w hSw; (try dsimp only at hSw); go_simp; (try with_reducible rfl)
      case rest25_26te =>
      try simp only [List.getElem_toArray, List.getElem_cons_succ, List.getElem_cons_zero, Act.put, List.setIfInBounds_toArray, List.set_cons_zero, List.set_cons_succ]
      refine wpAnyG_take' (i := 26) (v := ?v26_27te) rfl (by kernel_rfl) (by kernel_rfl) (by kernel_rfl) (by kernel_rfl) (fun _ _ _ h => h) (Or.inl ⟨by rfl, ?hy26_27te⟩) hS ?rest26_27te
      case hy26_27te => intro w hSw; (try dsimp only at hSw); go_simp; (try with_reducible rfl)
      case rest26_27te =>
      try simp only [List.getElem_toArray, List.getElem_cons_succ, List.getElem_cons_zero, Act.put, List.setIfInBounds_toArray, List.set_cons_zero, List.set_cons_succ]
      refine wpAnyG_take' (i := 27) (v := ?v27_28te) rfl (by kernel_rfl) (by kernel_rfl) (by kernel_rfl) (by kernel_rfl) (fun _ _ _ h => h) (Or.inl ⟨by rfl, ?hy27_28te⟩) hS ?rest27_28te
      case hy27_28te => intro w hSw; (try dsimp only at hSw); go_simp; (try with_reducible rfl)
      case rest27_28te =>
      try simp only [List.getElem_toArray, List.getElem_cons_succ, List.getElem_cons_zero, Act.put, List.setIfInBounds_toArray, List.set_cons_zero, List.set_cons_succ]
      refine wpAnyG_take' (i := 28) (v := ?v28_29te) rfl (by kernel_rfl) (by kernel_rfl) (by kernel_rfl) (by kernel_rfl) (fun _ _ _ h => h) (Or.inl ⟨by rfl, ?hy28_29te⟩) hS ?rest28_29te
      case hy28_29te => intro w hSw; (try dsimp only at hSw); go_simp; (try with_reducible rfl)
      case rest28_29te =>
      try simp only [List.getElem_toArray, List.getElem_cons_succ, List.getElem_cons_zero, Act.put, List.setIfInBounds_toArray, List.set_cons_zero, List.set_cons_succ]
      refine wpAnyG_take' (i := 29) (v := ?v29_30te) rfl (by kernel_rfl) (by kernel_rfl) (by kernel_rfl) (by kernel_rfl) (fun _ _ _ h => h) (Or.inl ⟨by rfl, ?hy29_30te⟩) hS ?rest29_30te
      case hy29_30te => intro w hSw; (try dsimp only at hSw); go_simp; (try with_reducible rfl)
      case rest29_30te =>
      try simp only [List.getElem_toArray, List.getElem_cons_succ, List.getElem_cons_zero, Act.put, List.setIfInBounds_toArray, List.set_cons_zero, List.set_cons_succ]
      refine wpAnyG_take' (i := 30) (v := ?v30_31te) rfl (by kernel_rfl) (by kernel_rfl) (by kernel_rfl) (by kernel_rfl) (fun _ _ _ h => h) (Or.inl ⟨by rfl, ?hy30_31te⟩) hS ?rest30_31te
      case hy30_31te => intro w hSw; (try dsimp only at hSw); go_simp; (try with_reducible rfl)
      case rest30_31te =>
      try simp only [List.getElem_toArray, List.getElem_cons_succ, List.getElem_cons_zero, Act.put, List.setIfInBounds_toArray, List.set_cons_zero, List.set_cons_succ]
      refine wpAnyG_take' (i := 31) (v := ?v31_32te) rfl (by kernel_rfl) (by kernel_rfl) (by kernel_rfl) (by kernel_rfl) (fun _ _ _ h => h) (Or.inl ⟨by rfl, ?hy31_32te⟩) hS ?rest31_32te
      case hy31_32te => intro w hSw; (try dsimp only at hSw); go_simp; (try with_reducible rfl)
      case rest31_32te =>
      try simp only [List.getElem_toArray, List.getElem_cons_succ, List.getElem_cons_zero, Act.put, List.setIfInBounds_toArray, List.set_cons_zero, List.set_cons_succ]
      refine wpAnyG_take' (i := 32) (v := ?v32_33te) rfl (by kernel_rfl) (by kernel_rfl) (by kernel_rfl) (by kernel_rfl) (fun _ _ _ h => h) (Or.inl ⟨by rfl, ?hy32_33te⟩) hS ?rest32_33te
      case hy32_33te => intro w hSw; (try dsimp only at hSw); go_simp; (try with_reducible rfl)
      case rest32_33te =>
      try simp only [List.getElem_toArray, List.getElem_cons_succ, List.getElem_cons_zero, Act.put, List.setIfInBounds_toArray, List.set_cons_zero, List.set_cons_succ]
      refine wpAnyG_take' (i := 33) (v := ?v33_34te) rfl (by kernel_rfl) (by kernel_rfl) (by kernel_rfl) (by kernel_rfl) (fun _ _ _ h => h) (Or.inl ⟨by rfl, ?hy33_34te⟩) hS ?rest33_34te
      case hy33_34te => intro w hSw; (try dsimp only at hSw); go_simp; (try with_reducible rfl)
      case rest33_34te =>
      try simp only [List.getElem_toArray, List.getElem_cons_succ, List.getElem_cons_zero, Act.put, List.setIfInBounds_toArray, List.set_cons_zero, List.set_cons_succ]
      refine wpAnyG_take' (i := 34) (v := ?v34_35te) rfl (by kernel_rfl) (by kernel_rfl) (by kernel_rfl) (by kernel_rfl) (fun _ _ _ h => h) (Or.inl ⟨by rfl, ?hy34_35te⟩) hS ?rest34_35te
      case hy34_35te => intro w hSw; (try dsimp only at hSw); go_simp; (try with_reducible rfl)
      case rest34_35te =>
      try simp only [List.getElem_toArray, List.getElem_cons_succ, List.getElem_cons_zero, Act.put, List.setIfInBounds_toArray, List.set_cons_zero, List.set_cons_succ]
      refine wpAnyG_take' (i := 35) (v := ?v35_36te) rfl (by kernel_rfl) (by kernel_rfl) (by kernel_rfl) (by kernel_rfl) (fun _ _ _ h => h) (Or.inl ⟨by rfl, ?hy35_36te⟩) hS ?rest35_36te
      case hy35_36te => intro w hSw; (try dsimp only at hSw); go_simp; (try with_reducible rfl)
      case rest35_36te =>
      try simp only [List.getElem_toArray, List.getElem_cons_succ, List.getElem_cons_zero, Act.put, List.setIfInBounds_toArray, List.set_cons_zero, List.set_cons_succ]
      refine wpAnyG_take' (i := 36) (v := ?v36_37te) rfl (by kernel_rfl) (by kernel_rfl) (by kernel_rfl) (by kernel_rfl) (fun _ _ _ h => h) (Or.inl ⟨by rfl, ?hy36_37te⟩) hS ?rest36_37te
      case hy36_37te => intro w hSw; (try dsimp only at hSw); go_simp; (try with_reducible rfl)
      case rest36_37te =>
      try simp only [List.getElem_toArray, List.getElem_cons_succ, List.getElem_cons_zero, Act.put, List.setIfInBounds_toArray, List.set_cons_zero, List.set_cons_succ]
      refine wpAnyG_take' (i := 37) (v := ?v37_38te) rfl (by kernel_rfl) (by kernel_rfl) (by kernel_rfl) (by kernel_rfl) (fun _ _ _ h => h) (Or.inl ⟨by rfl, ?hy37_38te⟩) hS ?rest37_38te
      case hy37_38te => intro w hSw; (try dsimp only at hSw); go_simp; (try with_reducible rfl)
      case rest37_38te =>
      try simp only [List.getElem_toArray, List.getElem_cons_succ, List.getElem_cons_zero, Act.put, List.setIfInBounds_toArray, List.set_cons_zero, List.set_cons_succ]
      refine wpAnyG_take' (i := 38) (v := ?v38_39te) rfl (by kernel_rfl) (by kernel_rfl) (by kernel_rfl) (by kernel_rfl) (fun _ _ _ h => h) (Or.inl ⟨by rfl, ?hy38_39te⟩) hS ?rest38_39te
      case hy38_39te => intro w hSw; (try dsimp only at hSw); go_simp; (try with_reducible rfl)
      case rest38_39te =>
      try simp only [List.getElem_toArray, List.getElem_cons_succ, List.getElem_cons_zero, Act.put, List.setIfInBounds_toArray, List.set_cons_zero, List.set_cons_succ]
      refine wpAnyG_take' (i := 39) (v := ?v39_40te) rfl (by kernel_rfl) (by kernel_rfl) (by kernel_rfl) (by kernel_rfl) (fun _ _ _ h => h) (Or.inl ⟨by rfl, ?hy39_40te⟩) hS ?rest39_40te
      case hy39_40te => intro w hSw; (try dsimp only at hSw); go_simp; (try with_reducible rfl)
      case rest39_40te =>
      try simp only [List.getElem_toArray, List.getElem_cons_succ, List.getElem_cons_zero, Act.put, List.setIfInBounds_toArray, List.set_cons_zero, List.set_cons_succ]
      refine wpAnyG_take' (i := 40) (v := ?v40_41te) rfl (by kernel_rfl) (by kernel_rfl) (by kernel_rfl) (by kernel_rfl) (fun _ _ _ h => h) (Or.inl ⟨by rfl, ?hy40_41te⟩) hS ?rest40_41te
      case hy40_41te => intro w hSw; (try dsimp only at hSw); go_simp; (try with_reducible rfl)
      case rest40_41te =>
      try simp only [List.getElem_toArray, List.getElem_cons_succ, List.getElem_cons_zero, Act.put, List.setIfInBounds_toArray, List.set_cons_zero, List.set_cons_succ]
      refine wpAnyG_take' (i := 41) (v := ?v41_42te) rfl (by kernel_rfl) (by kernel_rfl) (by kernel_rfl) (by kernel_rfl) (fun _ _ _ h => h) (Or.inl ⟨by rfl, ?hy41_42te⟩) hS ?rest41_42te
      case hy41_42te => intro w hSw; (try dsimp only at hSw); go_simp; (try with_reducible rfl)
      case rest41_42te =>
      try simp only [List.getElem_toArray, List.getElem_cons_succ, List.getElem_cons_zero, Act.put, List.setIfInBounds_toArray, List.set_cons_zero, List.set_cons_succ]
      refine wpAnyG_take' (i := 42) (v := ?v42_43te) rfl (by kernel_rfl) (by kernel_rfl) (by kernel_rfl) (by kernel_rfl) (fun _ _ _ h => h) (Or.inl ⟨by rfl, ?hy42_43te⟩) hS ?rest42_43te
      case hy42_43te => intro w hSw; (try dsimp only at hSw); go_simp; (try with_reducible rfl)
      case rest42_43te =>
      try simp only [List.getElem_toArray, List.getElem_cons_succ, List.getElem_cons_zero, Act.put, List.setIfInBounds_toArray, List.set_cons_zero, List.set_cons_succ]
      refine wpAnyG_take' (i := 43) (v := ?v43_44te) rfl (by kernel_rfl) (by kernel_rfl) (by kernel_rfl) (by kernel_rfl) (fun _ _ _ h => h) (Or.inl ⟨by rfl, ?hy43_44te⟩) hS ?rest43_44te
      case hy43_44te => intro w hSw; (try dsimp only at hSw); go_simp; (try with_reducible rfl)
      case rest43_44te =>
      try simp only [List.getElem_toArray, List.getElem_cons_succ, List.getElem_cons_zero, Act.put, List.setIfInBounds_toArray, List.set_cons_zero, List.set_cons_succ]
      refine wpAnyG_done (by kernel_rfl) ?_ _
      try simp only [List.getElem_toArray, List.getElem_cons_succ, List.getElem_cons_zero, Act.put, List.setIfInBounds_toArray, List.set_cons_zero, List.set_cons_succ]
      clear hS c0 c1 c2' c3 e0
      (try dsimp only); repeat' (first | go_values | go_skip | go_guarded | go_step | go_upon | go_back)
      go_roundw
      case rel => exact ⟨k + 1, by have := HK.out; omega, by go_num, H2.out⟩
      case measure => have := HK.out; simp [intOf]; omega
    · have d0 : decide (k < n) = false := decide_eq_false hkn
      have H2 := Lib.hid hs.drop
      clear hs hkn hk
      (try dsimp only); repeat' (first | go_values | go_skip | go_guarded | go_step | go_upon | go_back)
      go_ret
      exact ⟨rfl, H2.out⟩
end Go.Proofs.YtcnbmeiielkigaaDoor
