/- A proxy: request. -/
import Derived.Test.YtdemconpdjgimaaDoorPx6
import Derived.Test.YtdemconpdjgimaaDoorStW
namespace Go.Proofs.YtdemconpdjgimaaDoor
open Go.RowKit
set_option linter.unusedVariables false
set_option linter.unusedSimpArgs false
/-- A request's cells. -/
def rqC (cl num k o : Int) (p : Int × Value) : Array Value := #[.int .i64 1, .int .i64 (15 + cl), .int .i64 p.1, .int .i64 0, .int .i64 0, .int .i64 0, .int .i64 0, .int .i64 cl, .int .i64 num, .int .i64 k, .string ⟨#[]⟩, .int .i64 o, .int .i64 0, p.2, .int .i64 0, .int .i64 0, .int .i64 0, .bool false, .int .i64 0, .slice none 0 0, .slice none 0 0, .int .i64 0]
variable {w0 w : World} {g gc : Nat} {cl n num view : Int} {wt st : Bool} {k o : Int} {tp : Value} {L : List Thing} {ua : Option Addr} {uc : Nat}
set_option maxRecDepth 100000 in
set_option maxHeartbeats 16000000 in
theorem pxreq_any (to : Int) (h : Sep w0 (PrxC g gc cl n num view wt st k o (.slice ua 0 uc) tp :: L) w) (hc0 : 0 ≤ cl) (hc8 : cl < 8) (hu : ua = none → uc = 0) : Calls Tryd.prog 23 #[.pointer (some ⟨g, 0, none⟩), .int .i64 to] w fun e w' => ∃ v, NilL v ∧ e = .returned (.agg (rqC cl num k o (to, v))) ∧ Sep w0 (PrxC g gc cl n num view wt st k o (.slice ua 0 uc) tp :: L) w' := by
  have HY : Hid (∀ wx M, Sep w0 M wx → Calls Tryd.prog 37 #[.agg #[.int .i64 k, .string ⟨#[]⟩, .int .i64 o, .int .i64 0, .slice ua 0 uc]] wx fun e w' => ∃ u, e = .returned (.agg #[.int .i64 k, .string ⟨#[]⟩, .int .i64 o, .int .i64 0, u]) ∧ NilL u ∧ Sep w0 M w') := Lib.hid fun wx M hx =>
    (copy_any k zS o 0 (.slice ua 0 uc) [] hx (NilL.ln ⟨ua, uc, rfl, hu⟩ _) (by simp)).mono fun e w' ⟨u, e1, h2⟩ => ⟨u, e1, by
      have h3 := h2.lnS
      rcases h3 with ⟨a, c, e, h4, -⟩ | ⟨b, off, c, e, -⟩
      · exact ⟨a, c, e, h4⟩
      · exact ⟨_, c, e, fun h => by cases h⟩, h2.drop⟩
  have e15 : IntKind.i64.wrap (15 + cl) = 15 + cl := IntWalk.i64_in _ (by omega)
  have h1 : Sep w0 (Cl w.heap.size #[.int .i64 0, .int .i64 0, .int .i64 0, .int .i64 0, .int .i64 0, .int .i64 0, .int .i64 0, .int .i64 0, .int .i64 0, .int .i64 0, .string ⟨#[]⟩, .int .i64 0, .int .i64 0, .slice none 0 0, .int .i64 0, .int .i64 0, .int .i64 0, .bool false, .int .i64 0, .slice none 0 0, .slice none 0 0, .int .i64 0] 44 :: PrxC g gc cl n num view wt st k o (.slice ua 0 uc) tp :: L) (w.alloc (.cells #[.int .i64 0, .int .i64 0, .int .i64 0, .int .i64 0, .int .i64 0, .int .i64 0, .int .i64 0, .int .i64 0, .int .i64 0, .int .i64 0, .string ⟨#[]⟩, .int .i64 0, .int .i64 0, .slice none 0 0, .int .i64 0, .int .i64 0, .int .i64 0, .bool false, .int .i64 0, .slice none 0 0, .slice none 0 0, .int .i64 0] 44)) := h.alloc _
  obtain ⟨br, hbr⟩ : ∃ z, z = w.heap.size := ⟨_, rfl⟩
  obtain ⟨w1, hw1⟩ : ∃ z, z = w.alloc (.cells #[.int .i64 0, .int .i64 0, .int .i64 0, .int .i64 0, .int .i64 0, .int .i64 0, .int .i64 0, .int .i64 0, .int .i64 0, .int .i64 0, .string ⟨#[]⟩, .int .i64 0, .int .i64 0, .slice none 0 0, .int .i64 0, .int .i64 0, .int .i64 0, .bool false, .int .i64 0, .slice none 0 0, .slice none 0 0, .int .i64 0] 44) := ⟨_, rfl⟩
  rw [← hbr, ← hw1] at h1
  have d1 := h1.sw2.cell (o := 1) rfl
  have d3 := h1.sw2.cell (o := 3) rfl
  have d7 := h1.sw2.cell (o := 7) rfl
  have d8 := h1.sw2.cell (o := 8) rfl
  have d9 := h1.sw2.cell (o := 9) rfl
  have d10 := h1.sw2.cell (o := 10) rfl
  have d11 := h1.sw2.cell (o := 11) rfl
  have H1 := Lib.hid h1
  clear h h1 hc0 hc8 hu
  go_enter Tryd.func23, Tryd.ntmps23
  (try dsimp only); repeat' (first | go_values | go_skip | go_guarded | go_step | go_upon | go_back)
  rw [← hw1, ← hbr]
  clear hw1 hbr
  refine wp_region_G (fun w' => w'.cell? ⟨g, 1, none⟩ = some (.int .i64 cl) ∧ w'.cell? ⟨g, 3, none⟩ = some (.int .i64 num) ∧ w'.cell? ⟨g, 7, none⟩ = some (.int .i64 k) ∧ w'.cell? ⟨g, 8, none⟩ = some (.string ⟨#[]⟩) ∧ w'.cell? ⟨g, 9, none⟩ = some (.int .i64 o) ∧ w'.cell? ⟨g, 10, none⟩ = some (.int .i64 0) ∧ w'.cell? ⟨g, 11, none⟩ = some (.slice ua 0 uc)) [15] (by kernel_rfl) ⟨d1, d3, d7, d8, d9, d10, d11⟩ (fun hS => ?_)
  try dsimp only at hS
  refine wpAnyG_take' (i := 0) (v := ?v0_1rq) rfl (by kernel_rfl) (by kernel_rfl) (by kernel_rfl) (by kernel_rfl) (fun _ _ _ h => h) (Or.inl ⟨by rfl, ?hy0_1rq⟩) hS ?rest0_1rq
  case hy0_1rq => intro w hSw; (try dsimp only at hSw); go_simp; (try with_reducible rfl)
  case rest0_1rq =>
  try simp only [List.getElem_toArray, List.getElem_cons_succ, List.getElem_cons_zero, Act.put, List.setIfInBounds_toArray, List.set_cons_zero, List.set_cons_succ]
  refine wpAnyG_take' (i := 1) (v := ?v1_2rq) rfl (by kernel_rfl) (by kernel_rfl) (by kernel_rfl) (by kernel_rfl) (fun _ _ _ h => h) (Or.inl ⟨by rfl, ?hy1_2rq⟩) hS ?rest1_2rq
  case hy1_2rq => intro w hSw; (try dsimp only at hSw); go_simp; (try with_reducible rfl)
  case rest1_2rq =>
  try simp only [List.getElem_toArray, List.getElem_cons_succ, List.getElem_cons_zero, Act.put, List.setIfInBounds_toArray, List.set_cons_zero, List.set_cons_succ]
  refine wpAnyG_take' (i := 2) (v := ?v2_3rq) rfl (by kernel_rfl) (by kernel_rfl) (by kernel_rfl) (by kernel_rfl) (fun _ _ _ h => h) (Or.inl ⟨by rfl, ?hy2_3rq⟩) hS ?rest2_3rq
  case hy2_3rq => intro w hSw; (try dsimp only at hSw); go_simp; (try with_reducible rfl)
  case rest2_3rq =>
  try simp only [List.getElem_toArray, List.getElem_cons_succ, List.getElem_cons_zero, Act.put, List.setIfInBounds_toArray, List.set_cons_zero, List.set_cons_succ]
  refine wpAnyG_take' (i := 3) (v := ?v3_4rq) rfl (by kernel_rfl) (by kernel_rfl) (by kernel_rfl) (by kernel_rfl) (fun _ _ _ h => h) (Or.inl ⟨by rfl, ?hy3_4rq⟩) hS ?rest3_4rq
  case hy3_4rq => intro w hSw; (try dsimp only at hSw); go_simp; (try with_reducible rfl)
  case rest3_4rq =>
  try simp only [List.getElem_toArray, List.getElem_cons_succ, List.getElem_cons_zero, Act.put, List.setIfInBounds_toArray, List.set_cons_zero, List.set_cons_succ]
  refine wpAnyG_take' (i := 4) (v := ?v4_5rq) rfl (by kernel_rfl) (by kernel_rfl) (by kernel_rfl) (by kernel_rfl) (fun _ _ _ h => h) (Or.inl ⟨by rfl, ?hy4_5rq⟩) hS ?rest4_5rq
  case hy4_5rq => intro w hSw; (try dsimp only at hSw); go_simp; (try with_reducible rfl)
  case rest4_5rq =>
  try simp only [List.getElem_toArray, List.getElem_cons_succ, List.getElem_cons_zero, Act.put, List.setIfInBounds_toArray, List.set_cons_zero, List.set_cons_succ]
  refine wpAnyG_take' (i := 5) (v := ?v5_6rq) rfl (by kernel_rfl) (by kernel_rfl) (by kernel_rfl) (by kernel_rfl) (fun _ _ _ h => h) (Or.inl ⟨by rfl, ?hy5_6rq⟩) hS ?rest5_6rq
  case hy5_6rq => intro w hSw; (try dsimp only at hSw); go_simp; (try with_reducible rfl)
  case rest5_6rq =>
  try simp only [List.getElem_toArray, List.getElem_cons_succ, List.getElem_cons_zero, Act.put, List.setIfInBounds_toArray, List.set_cons_zero, List.set_cons_succ]
  refine wpAnyG_take' (i := 6) (v := ?v6_7rq) rfl (by kernel_rfl) (by kernel_rfl) (by kernel_rfl) (by kernel_rfl) (fun _ _ _ h => h) (Or.inl ⟨by rfl, ?hy6_7rq⟩) hS ?rest6_7rq
  case hy6_7rq => intro w hSw; (try dsimp only at hSw); go_simp; (try with_reducible rfl)
  case rest6_7rq =>
  try simp only [List.getElem_toArray, List.getElem_cons_succ, List.getElem_cons_zero, Act.put, List.setIfInBounds_toArray, List.set_cons_zero, List.set_cons_succ]
  refine wpAnyG_take' (i := 7) (v := ?v7_8rq) rfl (by kernel_rfl) (by kernel_rfl) (by kernel_rfl) (by kernel_rfl) (fun _ _ _ h => h) (Or.inl ⟨by rfl, ?hy7_8rq⟩) hS ?rest7_8rq
  case hy7_8rq => intro w hSw; (try dsimp only at hSw); go_simp; (try with_reducible rfl)
  case rest7_8rq =>
  try simp only [List.getElem_toArray, List.getElem_cons_succ, List.getElem_cons_zero, Act.put, List.setIfInBounds_toArray, List.set_cons_zero, List.set_cons_succ]
  refine wpAnyG_take' (i := 8) (v := ?v8_9rq) rfl (by kernel_rfl) (by kernel_rfl) (by kernel_rfl) (by kernel_rfl) (fun _ _ _ h => h) (Or.inl ⟨by rfl, ?hy8_9rq⟩) hS ?rest8_9rq
  case hy8_9rq => intro w hSw; (try dsimp only at hSw); go_simp; (try with_reducible rfl)
  case rest8_9rq =>
  try simp only [List.getElem_toArray, List.getElem_cons_succ, List.getElem_cons_zero, Act.put, List.setIfInBounds_toArray, List.set_cons_zero, List.set_cons_succ]
  refine wpAnyG_take' (i := 9) (v := ?v9_10rq) rfl (by kernel_rfl) (by kernel_rfl) (by kernel_rfl) (by kernel_rfl) (fun _ _ _ h => h) (Or.inl ⟨by rfl, ?hy9_10rq⟩) hS ?rest9_10rq
  case hy9_10rq => intro w hSw; (try dsimp only at hSw); go_simp; (try with_reducible rfl)
  case rest9_10rq =>
  try simp only [List.getElem_toArray, List.getElem_cons_succ, List.getElem_cons_zero, Act.put, List.setIfInBounds_toArray, List.set_cons_zero, List.set_cons_succ]
  refine wpAnyG_take' (i := 10) (v := ?v10_11rq) rfl (by kernel_rfl) (by kernel_rfl) (by kernel_rfl) (by kernel_rfl) (fun _ _ _ h => h) (Or.inl ⟨by rfl, ?hy10_11rq⟩) hS ?rest10_11rq
  case hy10_11rq => intro w hSw; (try dsimp only at hSw); go_simp; (try with_reducible rfl)
  case rest10_11rq =>
  try simp only [List.getElem_toArray, List.getElem_cons_succ, List.getElem_cons_zero, Act.put, List.setIfInBounds_toArray, List.set_cons_zero, List.set_cons_succ]
  refine wpAnyG_take' (i := 11) (v := ?v11_12rq) rfl (by kernel_rfl) (by kernel_rfl) (by kernel_rfl) (by kernel_rfl) (fun _ _ _ h => h) (Or.inl ⟨by rfl, ?hy11_12rq⟩) hS ?rest11_12rq
  case hy11_12rq => intro w hSw; (try dsimp only at hSw); go_simp; (try with_reducible rfl)
  case rest11_12rq =>
  try simp only [List.getElem_toArray, List.getElem_cons_succ, List.getElem_cons_zero, Act.put, List.setIfInBounds_toArray, List.set_cons_zero, List.set_cons_succ]
  refine wpAnyG_two (i := 12) (j := 14) (by kernel_rfl) rfl rfl (fun K hK => ?_) (fun K hK => ?_)
  · go_simp
    refine Calls.mono (HY.out _ _ H1.out.drew) ?_
    rintro r0 w4 ⟨u, rfl, ⟨va, vc, rfl, hva⟩, h4⟩
    have HVA := Lib.hid hva
    have x1 := h4.sw2.cell (o := 1) rfl
    have x3 := h4.sw2.cell (o := 3) rfl
    have x7 := h4.sw2.cell (o := 7) rfl
    have x8 := h4.sw2.cell (o := 8) rfl
    have x9 := h4.sw2.cell (o := 9) rfl
    have x10 := h4.sw2.cell (o := 10) rfl
    have x11 := h4.sw2.cell (o := 11) rfl
    refine hK.out _ _ (fun _ => ?hS1rqa13) ?rest1rqa13
    case hS1rqa13 => exact ⟨x1, x3, x7, x8, x9, x10, x11⟩
    clear K hK
    try simp only [List.getElem_toArray, List.getElem_cons_succ, List.getElem_cons_zero, Act.put, List.setIfInBounds_toArray, List.set_cons_zero, List.set_cons_succ]
    refine wpAnyG_take' (i := 13) (v := ?v13_2rqa13) rfl (by kernel_rfl) (by kernel_rfl) (by kernel_rfl) (by kernel_rfl) (fun _ _ _ h => h) (Or.inl ⟨by rfl, ?hy13_2rqa13⟩) ⟨x1, x3, x7, x8, x9, x10, x11⟩ ?rest13_2rqa13
    case hy13_2rqa13 => intro w hSw; (try dsimp only at hSw); go_simp; (try with_reducible rfl)
    case rest13_2rqa13 =>
    try simp only [List.getElem_toArray, List.getElem_cons_succ, List.getElem_cons_zero, Act.put, List.setIfInBounds_toArray, List.set_cons_zero, List.set_cons_succ]
    refine wpAnyG_one (i := 14) (by kernel_rfl) rfl (fun K hK => ?_)
    go_simp
    have h5 : Sep w0 (Cl w4.heap.size #[.int .i64 0, .int .i64 0, .int .i64 0, .string ⟨#[]⟩, .int .i64 0, .int .i64 0, .slice none 0 0] 36 :: Cl br #[.int .i64 0, .int .i64 0, .int .i64 0, .int .i64 0, .int .i64 0, .int .i64 0, .int .i64 0, .int .i64 0, .int .i64 0, .int .i64 0, .string ⟨#[]⟩, .int .i64 0, .int .i64 0, .slice none 0 0, .int .i64 0, .int .i64 0, .int .i64 0, .bool false, .int .i64 0, .slice none 0 0, .slice none 0 0, .int .i64 0] 44 :: PrxC g gc cl n num view wt st k o (.slice ua 0 uc) tp :: L) (w4.alloc (.cells #[.int .i64 0, .int .i64 0, .int .i64 0, .string ⟨#[]⟩, .int .i64 0, .int .i64 0, .slice none 0 0] 36)) := h4.alloc _
    have HTE := Lib.hid (h5.thereW 7 rfl)
    have h6 : Sep w0 (Cl w4.heap.size #[.int .i64 cl, .int .i64 num, .int .i64 k, .string ⟨#[]⟩, .int .i64 o, .int .i64 0, .slice va 0 vc] 36 :: Cl br #[.int .i64 0, .int .i64 0, .int .i64 0, .int .i64 0, .int .i64 0, .int .i64 0, .int .i64 0, .int .i64 0, .int .i64 0, .int .i64 0, .string ⟨#[]⟩, .int .i64 0, .int .i64 0, .slice none 0 0, .int .i64 0, .int .i64 0, .int .i64 0, .bool false, .int .i64 0, .slice none 0 0, .slice none 0 0, .int .i64 0] 44 :: PrxC g gc cl n num view wt st k o (.slice ua 0 uc) tp :: L) ((w4.alloc (.cells #[.int .i64 0, .int .i64 0, .int .i64 0, .string ⟨#[]⟩, .int .i64 0, .int .i64 0, .slice none 0 0] 36)).setCells w4.heap.size 0 [.int .i64 cl, .int .i64 num, .int .i64 k, .string ⟨#[]⟩, .int .i64 o, .int .i64 0, .slice va 0 vc]) := h5.storeW #[.int .i64 cl, .int .i64 num, .int .i64 k, .string ⟨#[]⟩, .int .i64 o, .int .i64 0, .slice va 0 vc] rfl
    have H6 := Lib.hid h6
    have k1 := h5.sw3.cell (o := 1) rfl
    have k3 := h5.sw3.cell (o := 3) rfl
    have k7 := h5.sw3.cell (o := 7) rfl
    have k8 := h5.sw3.cell (o := 8) rfl
    have k9 := h5.sw3.cell (o := 9) rfl
    have k10 := h5.sw3.cell (o := 10) rfl
    have k11 := h5.sw3.cell (o := 11) rfl
    clear h5 h6 h4
    refine hK.out _ _ (fun _ => ?hS3rqa13) ?rest3rqa13
    case hS3rqa13 => exact ⟨k1, k3, k7, k8, k9, k10, k11⟩
    clear K hK
    try simp only [List.getElem_toArray, List.getElem_cons_succ, List.getElem_cons_zero, Act.put, List.setIfInBounds_toArray, List.set_cons_zero, List.set_cons_succ]
    refine wpAnyG_one (i := 15) (by kernel_rfl) rfl (fun K hK => ?_)
    refine wp_store_mid 36 (.tmp 5) (.tmp 19) rfl _ 0 #[.int .i64 cl, .int .i64 num, .int .i64 k, .string ⟨#[]⟩, .int .i64 o, .int .i64 0, .slice va 0 vc] rfl rfl HTE.out (by kernel_rfl) (by kernel_rfl) ?_
    refine hK.out _ _ (fun hno => by cases hno) ?_
    clear K hK
    try simp only [List.getElem_toArray, List.getElem_cons_succ, List.getElem_cons_zero, Act.put, List.setIfInBounds_toArray, List.set_cons_zero, List.set_cons_succ]
    refine wpAnyG_done (by kernel_rfl) ?_ _
    try simp only [List.getElem_toArray, List.getElem_cons_succ, List.getElem_cons_zero, Act.put, List.setIfInBounds_toArray, List.set_cons_zero, List.set_cons_succ]
    obtain ⟨w6, hw6⟩ : ∃ z, z = ((w4.alloc (.cells #[.int .i64 0, .int .i64 0, .int .i64 0, .string ⟨#[]⟩, .int .i64 0, .int .i64 0, .slice none 0 0] 36)).setCells w4.heap.size 0 [.int .i64 cl, .int .i64 num, .int .i64 k, .string ⟨#[]⟩, .int .i64 o, .int .i64 0, .slice va 0 vc]) := ⟨_, rfl⟩
    rw [← hw6] at H6 ⊢
    clear hw6
    obtain ⟨be, hbe⟩ : ∃ z, z = w4.heap.size := ⟨_, rfl⟩
    rw [← hbe] at H6 ⊢
    clear hbe HTE hS H1 HY d1 x1 k1 d3 x3 k3 d7 x7 k7 d8 x8 k8 d9 x9 k9 d10 x10 k10 d11 x11 k11
    have c1 := H6.out.sw3.cell (o := 1) rfl
    have y0 := H6.out.cell (o := 0) rfl
    have y1 := H6.out.cell (o := 1) rfl
    have y2 := H6.out.cell (o := 2) rfl
    have y3 := H6.out.cell (o := 3) rfl
    have y4 := H6.out.cell (o := 4) rfl
    have y5 := H6.out.cell (o := 5) rfl
    have y6 := H6.out.cell (o := 6) rfl
    have HTH := Lib.hid (Sep.thereW (H6.out.sw2).drew 22 rfl)
    have h8 : Sep w0 (Cl br (rqC cl num k o (to, .slice va 0 vc)) 44 :: Cl be #[.int .i64 cl, .int .i64 num, .int .i64 k, .string ⟨#[]⟩, .int .i64 o, .int .i64 0, .slice va 0 vc] 36 :: PrxC g gc cl n num view wt st k o (.slice ua 0 uc) tp :: L) _ := (H6.out.sw2.drew).storeW (rqC cl num k o (to, .slice va 0 vc)) rfl
    have H8 := Lib.hid h8
    clear h8 H6
    (try dsimp only); repeat' (first | go_values | go_skip | go_guarded | go_step | go_upon | go_back)
    refine wp_region_G (fun w' => w'.cell? ⟨g, 1, none⟩ = some (.int .i64 cl) ∧ w'.cell? ⟨be, 0, none⟩ = some (.int .i64 cl) ∧ w'.cell? ⟨be, 1, none⟩ = some (.int .i64 num) ∧ w'.cell? ⟨be, 2, none⟩ = some (.int .i64 k) ∧ w'.cell? ⟨be, 3, none⟩ = some (.string ⟨#[]⟩) ∧ w'.cell? ⟨be, 4, none⟩ = some (.int .i64 o) ∧ w'.cell? ⟨be, 5, none⟩ = some (.int .i64 0) ∧ w'.cell? ⟨be, 6, none⟩ = some (.slice va 0 vc)) [8] (by kernel_rfl) ⟨c1, y0, y1, y2, y3, y4, y5, y6⟩ (fun hS => ?_)
    try dsimp only at hS
    refine wpAnyG_take' (i := 0) (v := ?v0_1ta) rfl (by kernel_rfl) (by kernel_rfl) (by kernel_rfl) (by kernel_rfl) (fun _ _ _ h => h) (Or.inl ⟨by rfl, ?hy0_1ta⟩) hS ?rest0_1ta
    case hy0_1ta => intro w hSw; (try dsimp only at hSw); go_simp; (try with_reducible rfl)
    case rest0_1ta =>
    try simp only [List.getElem_toArray, List.getElem_cons_succ, List.getElem_cons_zero, Act.put, List.setIfInBounds_toArray, List.set_cons_zero, List.set_cons_succ]
    refine wpAnyG_take' (i := 1) (v := ?v1_2ta) rfl (by kernel_rfl) (by kernel_rfl) (by kernel_rfl) (by kernel_rfl) (fun _ _ _ h => h) (Or.inl ⟨by rfl, ?hy1_2ta⟩) hS ?rest1_2ta
    case hy1_2ta => intro w hSw; (try dsimp only at hSw); go_simp; (try with_reducible rfl)
    case rest1_2ta =>
    try simp only [List.getElem_toArray, List.getElem_cons_succ, List.getElem_cons_zero, Act.put, List.setIfInBounds_toArray, List.set_cons_zero, List.set_cons_succ]
    refine wpAnyG_take' (i := 2) (v := ?v2_3ta) rfl (by kernel_rfl) (by kernel_rfl) (by kernel_rfl) (by kernel_rfl) (fun _ _ _ h => h) (Or.inl ⟨by rfl, ?hy2_3ta⟩) hS ?rest2_3ta
    case hy2_3ta => intro w hSw; (try dsimp only at hSw); go_simp; (try with_reducible rfl)
    case rest2_3ta =>
    try simp only [List.getElem_toArray, List.getElem_cons_succ, List.getElem_cons_zero, Act.put, List.setIfInBounds_toArray, List.set_cons_zero, List.set_cons_succ]
    refine wpAnyG_take' (i := 3) (v := ?v3_4ta) rfl (by kernel_rfl) (by kernel_rfl) (by kernel_rfl) (by kernel_rfl) (fun _ _ _ h => h) (Or.inl ⟨by rfl, ?hy3_4ta⟩) hS ?rest3_4ta
    case hy3_4ta => intro w hSw; (try dsimp only at hSw); go_simp; (try with_reducible rfl)
    case rest3_4ta =>
    try simp only [List.getElem_toArray, List.getElem_cons_succ, List.getElem_cons_zero, Act.put, List.setIfInBounds_toArray, List.set_cons_zero, List.set_cons_succ]
    refine wpAnyG_take' (i := 4) (v := ?v4_5ta) rfl (by kernel_rfl) (by kernel_rfl) (by kernel_rfl) (by kernel_rfl) (fun _ _ _ h => h) (Or.inl ⟨by rfl, ?hy4_5ta⟩) hS ?rest4_5ta
    case hy4_5ta => intro w hSw; (try dsimp only at hSw); go_simp; (try with_reducible rfl)
    case rest4_5ta =>
    try simp only [List.getElem_toArray, List.getElem_cons_succ, List.getElem_cons_zero, Act.put, List.setIfInBounds_toArray, List.set_cons_zero, List.set_cons_succ]
    refine wpAnyG_take' (i := 5) (v := ?v5_6ta) rfl (by kernel_rfl) (by kernel_rfl) (by kernel_rfl) (by kernel_rfl) (fun _ _ _ h => h) (Or.inl ⟨by rfl, ?hy5_6ta⟩) hS ?rest5_6ta
    case hy5_6ta => intro w hSw; (try dsimp only at hSw); go_simp; (try with_reducible rfl)
    case rest5_6ta =>
    try simp only [List.getElem_toArray, List.getElem_cons_succ, List.getElem_cons_zero, Act.put, List.setIfInBounds_toArray, List.set_cons_zero, List.set_cons_succ]
    refine wpAnyG_take' (i := 6) (v := ?v6_7ta) rfl (by kernel_rfl) (by kernel_rfl) (by kernel_rfl) (by kernel_rfl) (fun _ _ _ h => h) (Or.inl ⟨by rfl, ?hy6_7ta⟩) hS ?rest6_7ta
    case hy6_7ta => intro w hSw; (try dsimp only at hSw); go_simp; (try with_reducible rfl)
    case rest6_7ta =>
    try simp only [List.getElem_toArray, List.getElem_cons_succ, List.getElem_cons_zero, Act.put, List.setIfInBounds_toArray, List.set_cons_zero, List.set_cons_succ]
    refine wpAnyG_take' (i := 7) (v := ?v7_8ta) rfl (by kernel_rfl) (by kernel_rfl) (by kernel_rfl) (by kernel_rfl) (fun _ _ _ h => h) (Or.inl ⟨by rfl, ?hy7_8ta⟩) hS ?rest7_8ta
    case hy7_8ta => intro w hSw; (try dsimp only at hSw); go_simp; (try with_reducible rfl)
    case rest7_8ta =>
    try simp only [List.getElem_toArray, List.getElem_cons_succ, List.getElem_cons_zero, Act.put, List.setIfInBounds_toArray, List.set_cons_zero, List.set_cons_succ]
    refine wpAnyG_one (i := 8) (by kernel_rfl) rfl (fun K hK => ?_)
    refine wp_store_mid 44 (.tmp 4) (.tmp 27) rfl br 0 #[.int .i64 1, .int .i64 (15 + cl), .int .i64 to, .int .i64 0, .int .i64 0, .int .i64 0, .int .i64 0, .int .i64 cl, .int .i64 num, .int .i64 k, .string ⟨#[]⟩, .int .i64 o, .int .i64 0, .slice va 0 vc, .int .i64 0, .int .i64 0, .int .i64 0, .bool false, .int .i64 0, .slice none 0 0, .slice none 0 0, .int .i64 0] rfl rfl HTH.out (by kernel_rfl) (by kernel_rfl) ?_
    refine hK.out _ _ (fun hno => by cases hno) ?_
    clear K hK
    try simp only [List.getElem_toArray, List.getElem_cons_succ, List.getElem_cons_zero, Act.put, List.setIfInBounds_toArray, List.set_cons_zero, List.set_cons_succ]
    refine wpAnyG_done (by kernel_rfl) ?_ _
    try simp only [List.getElem_toArray, List.getElem_cons_succ, List.getElem_cons_zero, Act.put, List.setIfInBounds_toArray, List.set_cons_zero, List.set_cons_succ]
    (try dsimp only); repeat' (first | go_values | go_skip | go_guarded | go_step | go_upon | go_back)
    have hlv := H8.out.loadV 44 Tryd.underlying44 rfl (by kernel_rfl)
    exact bodyPost_ret (results_cell rfl rfl hlv) rfl ⟨_, ⟨va, vc, rfl, HVA.out⟩, rfl, H8.out.drop.drop⟩
  · go_simp
    have h4 := (H1.out.drew).alloc (.cells #[.int .i64 0, .int .i64 0, .int .i64 0, .string ⟨#[]⟩, .int .i64 0, .int .i64 0, .slice none 0 0] 36)
    have x1 := h4.sw3.cell (o := 1) rfl
    have x3 := h4.sw3.cell (o := 3) rfl
    have x7 := h4.sw3.cell (o := 7) rfl
    have x8 := h4.sw3.cell (o := 8) rfl
    have x9 := h4.sw3.cell (o := 9) rfl
    have x10 := h4.sw3.cell (o := 10) rfl
    have x11 := h4.sw3.cell (o := 11) rfl
    refine hK.out _ _ (fun _ => ?hS1rqb13) ?rest1rqb13
    case hS1rqb13 => exact ⟨x1, x3, x7, x8, x9, x10, x11⟩
    clear K hK
    try simp only [List.getElem_toArray, List.getElem_cons_succ, List.getElem_cons_zero, Act.put, List.setIfInBounds_toArray, List.set_cons_zero, List.set_cons_succ]
    refine wpAnyG_one (i := 12) (by kernel_rfl) rfl (fun K hK => ?_)
    go_simp
    refine Calls.mono (HY.out _ _ h4) ?_
    rintro r0 w5 ⟨u, rfl, ⟨va, vc, rfl, hva⟩, h5⟩
    have HVA := Lib.hid hva
    have HTE := Lib.hid (h5.thereW 7 rfl)
    have h6 : Sep w0 (Cl w1.heap.size #[.int .i64 cl, .int .i64 num, .int .i64 k, .string ⟨#[]⟩, .int .i64 o, .int .i64 0, .slice va 0 vc] 36 :: Cl br #[.int .i64 0, .int .i64 0, .int .i64 0, .int .i64 0, .int .i64 0, .int .i64 0, .int .i64 0, .int .i64 0, .int .i64 0, .int .i64 0, .string ⟨#[]⟩, .int .i64 0, .int .i64 0, .slice none 0 0, .int .i64 0, .int .i64 0, .int .i64 0, .bool false, .int .i64 0, .slice none 0 0, .slice none 0 0, .int .i64 0] 44 :: PrxC g gc cl n num view wt st k o (.slice ua 0 uc) tp :: L) (w5.setCells w1.heap.size 0 [.int .i64 cl, .int .i64 num, .int .i64 k, .string ⟨#[]⟩, .int .i64 o, .int .i64 0, .slice va 0 vc]) := h5.storeW #[.int .i64 cl, .int .i64 num, .int .i64 k, .string ⟨#[]⟩, .int .i64 o, .int .i64 0, .slice va 0 vc] rfl
    have H6 := Lib.hid h6
    have y1 := h5.sw3.cell (o := 1) rfl
    have y3 := h5.sw3.cell (o := 3) rfl
    have y7 := h5.sw3.cell (o := 7) rfl
    have y8 := h5.sw3.cell (o := 8) rfl
    have y9 := h5.sw3.cell (o := 9) rfl
    have y10 := h5.sw3.cell (o := 10) rfl
    have y11 := h5.sw3.cell (o := 11) rfl
    clear h5 h6 h4
    refine hK.out _ _ (fun _ => ?hS2rqb13) ?rest2rqb13
    case hS2rqb13 => exact ⟨y1, y3, y7, y8, y9, y10, y11⟩
    clear K hK
    try simp only [List.getElem_toArray, List.getElem_cons_succ, List.getElem_cons_zero, Act.put, List.setIfInBounds_toArray, List.set_cons_zero, List.set_cons_succ]
    refine wpAnyG_take' (i := 13) (v := ?v13_3rqb13) rfl (by kernel_rfl) (by kernel_rfl) (by kernel_rfl) (by kernel_rfl) (fun _ _ _ h => h) (Or.inl ⟨by rfl, ?hy13_3rqb13⟩) ⟨y1, y3, y7, y8, y9, y10, y11⟩ ?rest13_3rqb13
    case hy13_3rqb13 => intro w hSw; (try dsimp only at hSw); go_simp; (try with_reducible rfl)
    case rest13_3rqb13 =>
    try simp only [List.getElem_toArray, List.getElem_cons_succ, List.getElem_cons_zero, Act.put, List.setIfInBounds_toArray, List.set_cons_zero, List.set_cons_succ]
    refine wpAnyG_one (i := 15) (by kernel_rfl) rfl (fun K hK => ?_)
    refine wp_store_mid 36 (.tmp 5) (.tmp 19) rfl _ 0 #[.int .i64 cl, .int .i64 num, .int .i64 k, .string ⟨#[]⟩, .int .i64 o, .int .i64 0, .slice va 0 vc] rfl rfl HTE.out (by kernel_rfl) (by kernel_rfl) ?_
    refine hK.out _ _ (fun hno => by cases hno) ?_
    clear K hK
    try simp only [List.getElem_toArray, List.getElem_cons_succ, List.getElem_cons_zero, Act.put, List.setIfInBounds_toArray, List.set_cons_zero, List.set_cons_succ]
    refine wpAnyG_done (by kernel_rfl) ?_ _
    try simp only [List.getElem_toArray, List.getElem_cons_succ, List.getElem_cons_zero, Act.put, List.setIfInBounds_toArray, List.set_cons_zero, List.set_cons_succ]
    obtain ⟨w6, hw6⟩ : ∃ z, z = w5.setCells w1.heap.size 0 [.int .i64 cl, .int .i64 num, .int .i64 k, .string ⟨#[]⟩, .int .i64 o, .int .i64 0, .slice va 0 vc] := ⟨_, rfl⟩
    rw [← hw6] at H6 ⊢
    clear hw6
    obtain ⟨be, hbe⟩ : ∃ z, z = w1.heap.size := ⟨_, rfl⟩
    rw [← hbe] at H6 ⊢
    clear hbe HTE hS H1 HY d1 x1 y1 d3 x3 y3 d7 x7 y7 d8 x8 y8 d9 x9 y9 d10 x10 y10 d11 x11 y11
    have c1 := H6.out.sw3.cell (o := 1) rfl
    have y0 := H6.out.cell (o := 0) rfl
    have y1 := H6.out.cell (o := 1) rfl
    have y2 := H6.out.cell (o := 2) rfl
    have y3 := H6.out.cell (o := 3) rfl
    have y4 := H6.out.cell (o := 4) rfl
    have y5 := H6.out.cell (o := 5) rfl
    have y6 := H6.out.cell (o := 6) rfl
    have HTH := Lib.hid (Sep.thereW (H6.out.sw2).drew 22 rfl)
    have h8 : Sep w0 (Cl br (rqC cl num k o (to, .slice va 0 vc)) 44 :: Cl be #[.int .i64 cl, .int .i64 num, .int .i64 k, .string ⟨#[]⟩, .int .i64 o, .int .i64 0, .slice va 0 vc] 36 :: PrxC g gc cl n num view wt st k o (.slice ua 0 uc) tp :: L) _ := (H6.out.sw2.drew).storeW (rqC cl num k o (to, .slice va 0 vc)) rfl
    have H8 := Lib.hid h8
    clear h8 H6
    (try dsimp only); repeat' (first | go_values | go_skip | go_guarded | go_step | go_upon | go_back)
    refine wp_region_G (fun w' => w'.cell? ⟨g, 1, none⟩ = some (.int .i64 cl) ∧ w'.cell? ⟨be, 0, none⟩ = some (.int .i64 cl) ∧ w'.cell? ⟨be, 1, none⟩ = some (.int .i64 num) ∧ w'.cell? ⟨be, 2, none⟩ = some (.int .i64 k) ∧ w'.cell? ⟨be, 3, none⟩ = some (.string ⟨#[]⟩) ∧ w'.cell? ⟨be, 4, none⟩ = some (.int .i64 o) ∧ w'.cell? ⟨be, 5, none⟩ = some (.int .i64 0) ∧ w'.cell? ⟨be, 6, none⟩ = some (.slice va 0 vc)) [8] (by kernel_rfl) ⟨c1, y0, y1, y2, y3, y4, y5, y6⟩ (fun hS => ?_)
    try dsimp only at hS
    refine wpAnyG_take' (i := 0) (v := ?v0_1tb) rfl (by kernel_rfl) (by kernel_rfl) (by kernel_rfl) (by kernel_rfl) (fun _ _ _ h => h) (Or.inl ⟨by rfl, ?hy0_1tb⟩) hS ?rest0_1tb
    case hy0_1tb => intro w hSw; (try dsimp only at hSw); go_simp; (try with_reducible rfl)
    case rest0_1tb =>
    try simp only [List.getElem_toArray, List.getElem_cons_succ, List.getElem_cons_zero, Act.put, List.setIfInBounds_toArray, List.set_cons_zero, List.set_cons_succ]
    refine wpAnyG_take' (i := 1) (v := ?v1_2tb) rfl (by kernel_rfl) (by kernel_rfl) (by kernel_rfl) (by kernel_rfl) (fun _ _ _ h => h) (Or.inl ⟨by rfl, ?hy1_2tb⟩) hS ?rest1_2tb
    case hy1_2tb => intro w hSw; (try dsimp only at hSw); go_simp; (try with_reducible rfl)
    case rest1_2tb =>
    try simp only [List.getElem_toArray, List.getElem_cons_succ, List.getElem_cons_zero, Act.put, List.setIfInBounds_toArray, List.set_cons_zero, List.set_cons_succ]
    refine wpAnyG_take' (i := 2) (v := ?v2_3tb) rfl (by kernel_rfl) (by kernel_rfl) (by kernel_rfl) (by kernel_rfl) (fun _ _ _ h => h) (Or.inl ⟨by rfl, ?hy2_3tb⟩) hS ?rest2_3tb
    case hy2_3tb => intro w hSw; (try dsimp only at hSw); go_simp; (try with_reducible rfl)
    case rest2_3tb =>
    try simp only [List.getElem_toArray, List.getElem_cons_succ, List.getElem_cons_zero, Act.put, List.setIfInBounds_toArray, List.set_cons_zero, List.set_cons_succ]
    refine wpAnyG_take' (i := 3) (v := ?v3_4tb) rfl (by kernel_rfl) (by kernel_rfl) (by kernel_rfl) (by kernel_rfl) (fun _ _ _ h => h) (Or.inl ⟨by rfl, ?hy3_4tb⟩) hS ?rest3_4tb
    case hy3_4tb => intro w hSw; (try dsimp only at hSw); go_simp; (try with_reducible rfl)
    case rest3_4tb =>
    try simp only [List.getElem_toArray, List.getElem_cons_succ, List.getElem_cons_zero, Act.put, List.setIfInBounds_toArray, List.set_cons_zero, List.set_cons_succ]
    refine wpAnyG_take' (i := 4) (v := ?v4_5tb) rfl (by kernel_rfl) (by kernel_rfl) (by kernel_rfl) (by kernel_rfl) (fun _ _ _ h => h) (Or.inl ⟨by rfl, ?hy4_5tb⟩) hS ?rest4_5tb
    case hy4_5tb => intro w hSw; (try dsimp only at hSw); go_simp; (try with_reducible rfl)
    case rest4_5tb =>
    try simp only [List.getElem_toArray, List.getElem_cons_succ, List.getElem_cons_zero, Act.put, List.setIfInBounds_toArray, List.set_cons_zero, List.set_cons_succ]
    refine wpAnyG_take' (i := 5) (v := ?v5_6tb) rfl (by kernel_rfl) (by kernel_rfl) (by kernel_rfl) (by kernel_rfl) (fun _ _ _ h => h) (Or.inl ⟨by rfl, ?hy5_6tb⟩) hS ?rest5_6tb
    case hy5_6tb => intro w hSw; (try dsimp only at hSw); go_simp; (try with_reducible rfl)
    case rest5_6tb =>
    try simp only [List.getElem_toArray, List.getElem_cons_succ, List.getElem_cons_zero, Act.put, List.setIfInBounds_toArray, List.set_cons_zero, List.set_cons_succ]
    refine wpAnyG_take' (i := 6) (v := ?v6_7tb) rfl (by kernel_rfl) (by kernel_rfl) (by kernel_rfl) (by kernel_rfl) (fun _ _ _ h => h) (Or.inl ⟨by rfl, ?hy6_7tb⟩) hS ?rest6_7tb
    case hy6_7tb => intro w hSw; (try dsimp only at hSw); go_simp; (try with_reducible rfl)
    case rest6_7tb =>
    try simp only [List.getElem_toArray, List.getElem_cons_succ, List.getElem_cons_zero, Act.put, List.setIfInBounds_toArray, List.set_cons_zero, List.set_cons_succ]
    refine wpAnyG_take' (i := 7) (v := ?v7_8tb) rfl (by kernel_rfl) (by kernel_rfl) (by kernel_rfl) (by kernel_rfl) (fun _ _ _ h => h) (Or.inl ⟨by rfl, ?hy7_8tb⟩) hS ?rest7_8tb
    case hy7_8tb => intro w hSw; (try dsimp only at hSw); go_simp; (try with_reducible rfl)
    case rest7_8tb =>
    try simp only [List.getElem_toArray, List.getElem_cons_succ, List.getElem_cons_zero, Act.put, List.setIfInBounds_toArray, List.set_cons_zero, List.set_cons_succ]
    refine wpAnyG_one (i := 8) (by kernel_rfl) rfl (fun K hK => ?_)
    refine wp_store_mid 44 (.tmp 4) (.tmp 27) rfl br 0 #[.int .i64 1, .int .i64 (15 + cl), .int .i64 to, .int .i64 0, .int .i64 0, .int .i64 0, .int .i64 0, .int .i64 cl, .int .i64 num, .int .i64 k, .string ⟨#[]⟩, .int .i64 o, .int .i64 0, .slice va 0 vc, .int .i64 0, .int .i64 0, .int .i64 0, .bool false, .int .i64 0, .slice none 0 0, .slice none 0 0, .int .i64 0] rfl rfl HTH.out (by kernel_rfl) (by kernel_rfl) ?_
    refine hK.out _ _ (fun hno => by cases hno) ?_
    clear K hK
    try simp only [List.getElem_toArray, List.getElem_cons_succ, List.getElem_cons_zero, Act.put, List.setIfInBounds_toArray, List.set_cons_zero, List.set_cons_succ]
    refine wpAnyG_done (by kernel_rfl) ?_ _
    try simp only [List.getElem_toArray, List.getElem_cons_succ, List.getElem_cons_zero, Act.put, List.setIfInBounds_toArray, List.set_cons_zero, List.set_cons_succ]
    (try dsimp only); repeat' (first | go_values | go_skip | go_guarded | go_step | go_upon | go_back)
    have hlv := H8.out.loadV 44 Tryd.underlying44 rfl (by kernel_rfl)
    exact bodyPost_ret (results_cell rfl rfl hlv) rfl ⟨_, ⟨va, vc, rfl, HVA.out⟩, rfl, H8.out.drop.drop⟩
end Go.Proofs.YtdemconpdjgimaaDoor
