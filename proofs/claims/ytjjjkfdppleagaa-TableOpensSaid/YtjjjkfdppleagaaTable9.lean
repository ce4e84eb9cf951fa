/- A seat that may be, out of any. -/
import Derived.Test.YtjjjkfdppleagaaTable8
import Derived.Test.YtjjjkfdppleagaaBkF
import Derived.Test.YtjjjkfdppleagaaBkA
namespace Go.Proofs.Ytjjjkfdppleagaa
open Go Go.RowKit
set_option linter.unusedVariables false
set_option linter.unusedSimpArgs false
theorem built3 (k a b : Int) : Try.prog.built 29 [(0, .int .i64 k), (1, .int .i64 a), (2, .int .i64 b)] = some #[.int .i64 k, .int .i64 a, .int .i64 b] := by kernel_rfl
theorem built6 (c n o k a b : Int) : Try.prog.built 31 [(0, .int .i64 c), (1, .int .i64 n), (2, .int .i64 o), (3, .agg #[.int .i64 k, .int .i64 a, .int .i64 b])] = some #[.int .i64 c, .int .i64 n, .int .i64 o, .int .i64 k, .int .i64 a, .int .i64 b] := by kernel_rfl
theorem write6 (v0 v1 v2 v3 v4 v5 u0 u1 u2 u3 u4 u5 : Value) : writeAt #[v0, v1, v2, v3, v4, v5] 0 [u0, u1, u2, u3, u4, u5] = #[u0, u1, u2, u3, u4, u5] := by simp [writeAt]
set_option maxRecDepth 100000 in
set_option maxHeartbeats 16000000 in
theorem made10_any {w0 w : World} {L : List Thing} (c n o k a b : Int) (h : Sep w0 L w) :
    Calls Try.prog 31 #[.agg #[.int .i64 c, .int .i64 n, .int .i64 o, .int .i64 k, .int .i64 a, .int .i64 b]] w fun e w' => e = .returned (.agg #[.int .i64 (c % 8), .int .i64 (1 + n % 2147483647), .int .i64 (1 + o % 1125899906842624), .int .i64 (k % 7), .int .i64 (a % 2147483647), .int .i64 (b % 2147483647)]) ∧ Sep w0 L w' := by
  have h1 := (h.alloc (.cells #[.int .i64 c, .int .i64 n, .int .i64 o, .int .i64 k, .int .i64 a, .int .i64 b] 31)).alloc (.cells #[.int .i64 0, .int .i64 0, .int .i64 0, .int .i64 0, .int .i64 0, .int .i64 0] 31)
  rw [World.size_alloc] at h1
  obtain ⟨c0, c1, c2, c3, c4, c5⟩ := cells6z h1.sw2
  have HB0 := Lib.hid (fun wx => bring_any c 8 wx (by unfold Sm; omega))
  have HB1 := Lib.hid (fun wx => bring_any n 2147483647 wx (by unfold Sm; omega))
  have HB2 := Lib.hid (fun wx => bring_any o 1125899906842624 wx (by unfold Sm; omega))
  have HB3 := Lib.hid (fun wx => bring_any k 7 wx (by unfold Sm; omega))
  have HB4 := Lib.hid (fun wx => bring_any a 2147483647 wx (by unfold Sm; omega))
  have HB5 := Lib.hid (fun wx => bring_any b 2147483647 wx (by unfold Sm; omega))
  have wn : IntKind.i64.wrap (1 + n % 2147483647) = 1 + n % 2147483647 := IntWalk.i64_in _ (by omega)
  have wo : IntKind.i64.wrap (1 + o % 1125899906842624) = 1 + o % 1125899906842624 := IntWalk.i64_in _ (by omega)
  have HTT : Hid (World.there ((w.alloc (.cells #[.int .i64 c, .int .i64 n, .int .i64 o, .int .i64 k, .int .i64 a, .int .i64 b] 31)).alloc (.cells #[.int .i64 0, .int .i64 0, .int .i64 0, .int .i64 0, .int .i64 0, .int .i64 0] 31)).drew (w.heap.size + 1) 0 6) := Lib.hid (fun j hj => by
    rcases (show j = 0 ∨ j = 1 ∨ j = 2 ∨ j = 3 ∨ j = 4 ∨ j = 5 by omega) with rfl | rfl | rfl | rfl | rfl | rfl <;> exact ⟨by rw [h1.drew.cell rfl]; rfl, h1.drew.frozen _⟩)
  have h2 := Sep.setCells [.int .i64 (c % 8), .int .i64 (1 + n % 2147483647), .int .i64 (1 + o % 1125899906842624), .int .i64 (k % 7), .int .i64 (a % 2147483647), .int .i64 (b % 2147483647)] _ 0 _ h1.drew
  rw [write6] at h2
  have H2 := Lib.hid h2
  clear h h1 h2
  go_enter Try.func31, Try.ntmps31
  (try dsimp only); repeat' (first | go_values | go_skip | go_guarded | go_step | go_upon | go_back)
  refine wp_region_G (fun w' => w'.cell? ⟨w.heap.size, 0, none⟩ = some (.int .i64 c) ∧ w'.cell? ⟨w.heap.size, 1, none⟩ = some (.int .i64 n) ∧ w'.cell? ⟨w.heap.size, 2, none⟩ = some (.int .i64 o) ∧ w'.cell? ⟨w.heap.size, 3, none⟩ = some (.int .i64 k) ∧ w'.cell? ⟨w.heap.size, 4, none⟩ = some (.int .i64 a) ∧ w'.cell? ⟨w.heap.size, 5, none⟩ = some (.int .i64 b)) [25] (by kernel_rfl) ⟨c0, c1, c2, c3, c4, c5⟩ (fun hS => ?_)
  try dsimp only at hS
  refine wpAnyG_take' (i := 0) (v := ?v0_1md) rfl (by kernel_rfl) (by kernel_rfl) (by kernel_rfl) (by kernel_rfl) (fun _ _ _ h => h) (Or.inl ⟨by rfl, ?hy0_1md⟩) hS ?rest0_1md
  case hy0_1md => intro w hSw; (try dsimp only at hSw); go_simp; (try with_reducible rfl)
  case rest0_1md =>
  try simp only [List.getElem_toArray, List.getElem_cons_succ, List.getElem_cons_zero, Act.put, List.setIfInBounds_toArray, List.set_cons_zero, List.set_cons_succ]
  refine wpAnyG_take' (i := 1) (v := ?v1_2md) rfl (by kernel_rfl) (by kernel_rfl) (by kernel_rfl) (by kernel_rfl) (fun _ _ _ h => h) (Or.inl ⟨by rfl, ?hy1_2md⟩) hS ?rest1_2md
  case hy1_2md => intro w hSw; (try dsimp only at hSw); go_simp; (try with_reducible rfl)
  case rest1_2md =>
  try simp only [List.getElem_toArray, List.getElem_cons_succ, List.getElem_cons_zero, Act.put, List.setIfInBounds_toArray, List.set_cons_zero, List.set_cons_succ]
  refine wpAnyG_call (i := 2) (v := .int .i64 (c % 8)) rfl (by kernel_rfl) (by kernel_rfl) (by kernel_rfl) (by kernel_rfl) (fun _ _ _ h => h) ⟨by rfl, fun wx hx => ⟨_, _, ?hr2, (HB0.out wx).mono fun e w' hh => ⟨hh.1, hh.2.symm⟩⟩⟩ hS ?rest2c
  case hr2 => go_simp; (try with_reducible rfl)
  case rest2c =>
  try simp only [List.getElem_toArray, List.getElem_cons_succ, List.getElem_cons_zero, Act.put, List.setIfInBounds_toArray, List.set_cons_zero, List.set_cons_succ]
  refine wpAnyG_take' (i := 3) (v := ?v3_3md) rfl (by kernel_rfl) (by kernel_rfl) (by kernel_rfl) (by kernel_rfl) (fun _ _ _ h => h) (Or.inl ⟨by rfl, ?hy3_3md⟩) hS ?rest3_3md
  case hy3_3md => intro w hSw; (try dsimp only at hSw); go_simp; (try with_reducible rfl)
  case rest3_3md =>
  try simp only [List.getElem_toArray, List.getElem_cons_succ, List.getElem_cons_zero, Act.put, List.setIfInBounds_toArray, List.set_cons_zero, List.set_cons_succ]
  refine wpAnyG_take' (i := 4) (v := ?v4_4md) rfl (by kernel_rfl) (by kernel_rfl) (by kernel_rfl) (by kernel_rfl) (fun _ _ _ h => h) (Or.inl ⟨by rfl, ?hy4_4md⟩) hS ?rest4_4md
  case hy4_4md => intro w hSw; (try dsimp only at hSw); go_simp; (try with_reducible rfl)
  case rest4_4md =>
  try simp only [List.getElem_toArray, List.getElem_cons_succ, List.getElem_cons_zero, Act.put, List.setIfInBounds_toArray, List.set_cons_zero, List.set_cons_succ]
  refine wpAnyG_call (i := 5) (v := .int .i64 (n % 2147483647)) rfl (by kernel_rfl) (by kernel_rfl) (by kernel_rfl) (by kernel_rfl) (fun _ _ _ h => h) ⟨by rfl, fun wx hx => ⟨_, _, ?hr5, (HB1.out wx).mono fun e w' hh => ⟨hh.1, hh.2.symm⟩⟩⟩ hS ?rest5c
  case hr5 => go_simp; (try with_reducible rfl)
  case rest5c =>
  try simp only [List.getElem_toArray, List.getElem_cons_succ, List.getElem_cons_zero, Act.put, List.setIfInBounds_toArray, List.set_cons_zero, List.set_cons_succ]
  refine wpAnyG_take' (i := 6) (v := ?v6_5md) rfl (by kernel_rfl) (by kernel_rfl) (by kernel_rfl) (by kernel_rfl) (fun _ _ _ h => h) (Or.inl ⟨by rfl, ?hy6_5md⟩) hS ?rest6_5md
  case hy6_5md => intro w hSw; (try dsimp only at hSw); go_simp; (try with_reducible rfl)
  case rest6_5md =>
  try simp only [List.getElem_toArray, List.getElem_cons_succ, List.getElem_cons_zero, Act.put, List.setIfInBounds_toArray, List.set_cons_zero, List.set_cons_succ]
  refine wpAnyG_take' (i := 7) (v := ?v7_6md) rfl (by kernel_rfl) (by kernel_rfl) (by kernel_rfl) (by kernel_rfl) (fun _ _ _ h => h) (Or.inl ⟨by rfl, ?hy7_6md⟩) hS ?rest7_6md
  case hy7_6md => intro w hSw; (try dsimp only at hSw); go_simp; (try with_reducible rfl)
  case rest7_6md =>
  try simp only [List.getElem_toArray, List.getElem_cons_succ, List.getElem_cons_zero, Act.put, List.setIfInBounds_toArray, List.set_cons_zero, List.set_cons_succ]
  refine wpAnyG_take' (i := 8) (v := ?v8_7md) rfl (by kernel_rfl) (by kernel_rfl) (by kernel_rfl) (by kernel_rfl) (fun _ _ _ h => h) (Or.inl ⟨by rfl, ?hy8_7md⟩) hS ?rest8_7md
  case hy8_7md => intro w hSw; (try dsimp only at hSw); go_simp; (try with_reducible rfl)
  case rest8_7md =>
  try simp only [List.getElem_toArray, List.getElem_cons_succ, List.getElem_cons_zero, Act.put, List.setIfInBounds_toArray, List.set_cons_zero, List.set_cons_succ]
  refine wpAnyG_call (i := 9) (v := .int .i64 (o % 1125899906842624)) rfl (by kernel_rfl) (by kernel_rfl) (by kernel_rfl) (by kernel_rfl) (fun _ _ _ h => h) ⟨by rfl, fun wx hx => ⟨_, _, ?hr9, (HB2.out wx).mono fun e w' hh => ⟨hh.1, hh.2.symm⟩⟩⟩ hS ?rest9c
  case hr9 => go_simp; (try with_reducible rfl)
  case rest9c =>
  try simp only [List.getElem_toArray, List.getElem_cons_succ, List.getElem_cons_zero, Act.put, List.setIfInBounds_toArray, List.set_cons_zero, List.set_cons_succ]
  refine wpAnyG_take' (i := 10) (v := ?v10_8md) rfl (by kernel_rfl) (by kernel_rfl) (by kernel_rfl) (by kernel_rfl) (fun _ _ _ h => h) (Or.inl ⟨by rfl, ?hy10_8md⟩) hS ?rest10_8md
  case hy10_8md => intro w hSw; (try dsimp only at hSw); go_simp; (try with_reducible rfl)
  case rest10_8md =>
  try simp only [List.getElem_toArray, List.getElem_cons_succ, List.getElem_cons_zero, Act.put, List.setIfInBounds_toArray, List.set_cons_zero, List.set_cons_succ]
  refine wpAnyG_take' (i := 11) (v := ?v11_9md) rfl (by kernel_rfl) (by kernel_rfl) (by kernel_rfl) (by kernel_rfl) (fun _ _ _ h => h) (Or.inl ⟨by rfl, ?hy11_9md⟩) hS ?rest11_9md
  case hy11_9md => intro w hSw; (try dsimp only at hSw); go_simp; (try with_reducible rfl)
  case rest11_9md =>
  try simp only [List.getElem_toArray, List.getElem_cons_succ, List.getElem_cons_zero, Act.put, List.setIfInBounds_toArray, List.set_cons_zero, List.set_cons_succ]
  refine wpAnyG_take' (i := 12) (v := ?v12_10md) rfl (by kernel_rfl) (by kernel_rfl) (by kernel_rfl) (by kernel_rfl) (fun _ _ _ h => h) (Or.inl ⟨by rfl, ?hy12_10md⟩) hS ?rest12_10md
  case hy12_10md => intro w hSw; (try dsimp only at hSw); go_simp; (try with_reducible rfl)
  case rest12_10md =>
  try simp only [List.getElem_toArray, List.getElem_cons_succ, List.getElem_cons_zero, Act.put, List.setIfInBounds_toArray, List.set_cons_zero, List.set_cons_succ]
  refine wpAnyG_take' (i := 13) (v := ?v13_11md) rfl (by kernel_rfl) (by kernel_rfl) (by kernel_rfl) (by kernel_rfl) (fun _ _ _ h => h) (Or.inl ⟨by rfl, ?hy13_11md⟩) hS ?rest13_11md
  case hy13_11md => intro w hSw; (try dsimp only at hSw); go_simp; (try with_reducible rfl)
  case rest13_11md =>
  try simp only [List.getElem_toArray, List.getElem_cons_succ, List.getElem_cons_zero, Act.put, List.setIfInBounds_toArray, List.set_cons_zero, List.set_cons_succ]
  refine wpAnyG_call (i := 14) (v := .int .i64 (k % 7)) rfl (by kernel_rfl) (by kernel_rfl) (by kernel_rfl) (by kernel_rfl) (fun _ _ _ h => h) ⟨by rfl, fun wx hx => ⟨_, _, ?hr14, (HB3.out wx).mono fun e w' hh => ⟨hh.1, hh.2.symm⟩⟩⟩ hS ?rest14c
  case hr14 => go_simp; (try with_reducible rfl)
  case rest14c =>
  try simp only [List.getElem_toArray, List.getElem_cons_succ, List.getElem_cons_zero, Act.put, List.setIfInBounds_toArray, List.set_cons_zero, List.set_cons_succ]
  refine wpAnyG_take' (i := 15) (v := ?v15_12md) rfl (by kernel_rfl) (by kernel_rfl) (by kernel_rfl) (by kernel_rfl) (fun _ _ _ h => h) (Or.inl ⟨by rfl, ?hy15_12md⟩) hS ?rest15_12md
  case hy15_12md => intro w hSw; (try dsimp only at hSw); go_simp; (try with_reducible rfl)
  case rest15_12md =>
  try simp only [List.getElem_toArray, List.getElem_cons_succ, List.getElem_cons_zero, Act.put, List.setIfInBounds_toArray, List.set_cons_zero, List.set_cons_succ]
  refine wpAnyG_take' (i := 16) (v := ?v16_13md) rfl (by kernel_rfl) (by kernel_rfl) (by kernel_rfl) (by kernel_rfl) (fun _ _ _ h => h) (Or.inl ⟨by rfl, ?hy16_13md⟩) hS ?rest16_13md
  case hy16_13md => intro w hSw; (try dsimp only at hSw); go_simp; (try with_reducible rfl)
  case rest16_13md =>
  try simp only [List.getElem_toArray, List.getElem_cons_succ, List.getElem_cons_zero, Act.put, List.setIfInBounds_toArray, List.set_cons_zero, List.set_cons_succ]
  refine wpAnyG_take' (i := 17) (v := ?v17_14md) rfl (by kernel_rfl) (by kernel_rfl) (by kernel_rfl) (by kernel_rfl) (fun _ _ _ h => h) (Or.inl ⟨by rfl, ?hy17_14md⟩) hS ?rest17_14md
  case hy17_14md => intro w hSw; (try dsimp only at hSw); go_simp; (try with_reducible rfl)
  case rest17_14md =>
  try simp only [List.getElem_toArray, List.getElem_cons_succ, List.getElem_cons_zero, Act.put, List.setIfInBounds_toArray, List.set_cons_zero, List.set_cons_succ]
  refine wpAnyG_call (i := 18) (v := .int .i64 (a % 2147483647)) rfl (by kernel_rfl) (by kernel_rfl) (by kernel_rfl) (by kernel_rfl) (fun _ _ _ h => h) ⟨by rfl, fun wx hx => ⟨_, _, ?hr18, (HB4.out wx).mono fun e w' hh => ⟨hh.1, hh.2.symm⟩⟩⟩ hS ?rest18c
  case hr18 => go_simp; (try with_reducible rfl)
  case rest18c =>
  try simp only [List.getElem_toArray, List.getElem_cons_succ, List.getElem_cons_zero, Act.put, List.setIfInBounds_toArray, List.set_cons_zero, List.set_cons_succ]
  refine wpAnyG_take' (i := 19) (v := ?v19_15md) rfl (by kernel_rfl) (by kernel_rfl) (by kernel_rfl) (by kernel_rfl) (fun _ _ _ h => h) (Or.inl ⟨by rfl, ?hy19_15md⟩) hS ?rest19_15md
  case hy19_15md => intro w hSw; (try dsimp only at hSw); go_simp; (try with_reducible rfl)
  case rest19_15md =>
  try simp only [List.getElem_toArray, List.getElem_cons_succ, List.getElem_cons_zero, Act.put, List.setIfInBounds_toArray, List.set_cons_zero, List.set_cons_succ]
  refine wpAnyG_take' (i := 20) (v := ?v20_16md) rfl (by kernel_rfl) (by kernel_rfl) (by kernel_rfl) (by kernel_rfl) (fun _ _ _ h => h) (Or.inl ⟨by rfl, ?hy20_16md⟩) hS ?rest20_16md
  case hy20_16md => intro w hSw; (try dsimp only at hSw); go_simp; (try with_reducible rfl)
  case rest20_16md =>
  try simp only [List.getElem_toArray, List.getElem_cons_succ, List.getElem_cons_zero, Act.put, List.setIfInBounds_toArray, List.set_cons_zero, List.set_cons_succ]
  refine wpAnyG_take' (i := 21) (v := ?v21_17md) rfl (by kernel_rfl) (by kernel_rfl) (by kernel_rfl) (by kernel_rfl) (fun _ _ _ h => h) (Or.inl ⟨by rfl, ?hy21_17md⟩) hS ?rest21_17md
  case hy21_17md => intro w hSw; (try dsimp only at hSw); go_simp; (try with_reducible rfl)
  case rest21_17md =>
  try simp only [List.getElem_toArray, List.getElem_cons_succ, List.getElem_cons_zero, Act.put, List.setIfInBounds_toArray, List.set_cons_zero, List.set_cons_succ]
  refine wpAnyG_call (i := 22) (v := .int .i64 (b % 2147483647)) rfl (by kernel_rfl) (by kernel_rfl) (by kernel_rfl) (by kernel_rfl) (fun _ _ _ h => h) ⟨by rfl, fun wx hx => ⟨_, _, ?hr22, (HB5.out wx).mono fun e w' hh => ⟨hh.1, hh.2.symm⟩⟩⟩ hS ?rest22c
  case hr22 => go_simp; (try with_reducible rfl)
  case rest22c =>
  try simp only [List.getElem_toArray, List.getElem_cons_succ, List.getElem_cons_zero, Act.put, List.setIfInBounds_toArray, List.set_cons_zero, List.set_cons_succ]
  refine wpAnyG_take' (i := 23) (v := .agg #[.int .i64 (k % 7), .int .i64 (a % 2147483647), .int .i64 (b % 2147483647)]) rfl (by kernel_rfl) (by kernel_rfl) (by kernel_rfl) (by kernel_rfl) (fun _ _ _ h => h) (Or.inl ⟨by rfl, ?hy23_18md⟩) hS ?rest23_18md
  case hy23_18md => intro w hSw; exact exec_build 29 #[(0, .tmp 17), (1, .tmp 21), (2, .tmp 25)] rfl _ (by rw [Array.toList_map]; exact built3 _ _ _)
  case rest23_18md =>
  try simp only [List.getElem_toArray, List.getElem_cons_succ, List.getElem_cons_zero, Act.put, List.setIfInBounds_toArray, List.set_cons_zero, List.set_cons_succ]
  refine wpAnyG_take' (i := 24) (v := .agg #[.int .i64 (c % 8), .int .i64 (1 + n % 2147483647), .int .i64 (1 + o % 1125899906842624), .int .i64 (k % 7), .int .i64 (a % 2147483647), .int .i64 (b % 2147483647)]) rfl (by kernel_rfl) (by kernel_rfl) (by kernel_rfl) (by kernel_rfl) (fun _ _ _ h => h) (Or.inl ⟨by rfl, ?hy24_19md⟩) hS ?rest24_19md
  case hy24_19md => intro w hSw; exact exec_build 31 #[(0, .tmp 5), (1, .tmp 9), (2, .tmp 13), (3, .tmp 26)] rfl _ (by rw [Array.toList_map]; exact built6 _ _ _ _ _ _)
  case rest24_19md =>
  try simp only [List.getElem_toArray, List.getElem_cons_succ, List.getElem_cons_zero, Act.put, List.setIfInBounds_toArray, List.set_cons_zero, List.set_cons_succ]
  refine wpAnyG_one (i := 25) (by kernel_rfl) rfl (fun K hK => ?_)
  refine wp_store_mid 31 (.tmp 2) (.tmp 27) rfl (w.heap.size + 1) 0 #[.int .i64 (c % 8), .int .i64 (1 + n % 2147483647), .int .i64 (1 + o % 1125899906842624), .int .i64 (k % 7), .int .i64 (a % 2147483647), .int .i64 (b % 2147483647)] rfl rfl HTT.out (by kernel_rfl) (by kernel_rfl) ?_
  refine hK.out _ _ (fun hno => by cases hno) ?_
  clear K hK
  try simp only [List.getElem_toArray, List.getElem_cons_succ, List.getElem_cons_zero, Act.put, List.setIfInBounds_toArray, List.set_cons_zero, List.set_cons_succ]
  refine wpAnyG_done (by kernel_rfl) ?_ _
  try simp only [List.getElem_toArray, List.getElem_cons_succ, List.getElem_cons_zero, Act.put, List.setIfInBounds_toArray, List.set_cons_zero, List.set_cons_succ]
  clear c0 c1 c2 c3 c4 c5 HTT hS wn wo HB0 HB1 HB2 HB3 HB4 HB5
  obtain ⟨b4, hb4⟩ : ∃ z, z = w.heap.size + 1 := ⟨_, rfl⟩
  have h8 := H2.out
  rw [← hb4] at h8 ⊢
  obtain ⟨y0, y1, y2, y3, y4, y5⟩ := cells6z h8
  have H9 := Lib.hid h8.drop.drop
  clear h8 H2
  (try dsimp only); repeat' (first | go_values | go_skip | go_guarded | go_step | go_upon | go_back)
  exact bodyPost_ret (v := .agg #[.int .i64 (c % 8), .int .i64 (1 + n % 2147483647), .int .i64 (1 + o % 1125899906842624), .int .i64 (k % 7), .int .i64 (a % 2147483647), .int .i64 (b % 2147483647)]) (by simp [results, Try.results31, go_sem, y0, y1, y2, y3, y4, y5]) rfl ⟨rfl, H9.out⟩
end Go.Proofs.Ytjjjkfdppleagaa
