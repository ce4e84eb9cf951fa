/- The statement ItemWrites. -/
import Derived.Test.YtfjodadmcfdlpaaDoorItem25
import Derived.Test.YtfjodadmcfdlpaaDoorBkG
import Derived.Test.YtfjodadmcfdlpaaDoorBkB
namespace Go.Proofs.YtfjodadmcfdlpaaDoor
open Go.RowKit
set_option linter.unusedVariables false
set_option linter.unusedSimpArgs false
theorem lnCells_put : ∀ (ls : List Ln) (i : Nat) (x : Int) (hi : i < ls.length), (lnCells ls).set (i * 2 + 1) (.int .i64 x) = lnCells (ls.set i (ls[i].1, x))
  | l :: ls, 0, x, _ => rfl
  | l :: ls, i + 1, x, hi => by
    have hi' : i < ls.length := by simpa using hi
    have h := lnCells_put ls i x hi'
    rw [List.set_cons_succ, List.getElem_cons_succ]
    show (Value.string l.1.1 :: .int .i64 l.2 :: lnCells ls).set ((i + 1) * 2 + 1) _ = Value.string l.1.1 :: .int .i64 l.2 :: lnCells (ls.set i (ls[i].1, x))
    rw [show (i + 1) * 2 + 1 = (i * 2 + 1) + 1 + 1 by omega, List.set_cons_succ, List.set_cons_succ, h]
set_option maxRecDepth 100000 in
set_option maxHeartbeats 16000000 in
theorem writes03 (k : Int) (s : KS) (o n : Int) (v : Value) (ls : List Ln) (k' : Int) (s' : KS) (o' n' : Int) (v' : Value) (ls' : List Ln) (rc ra rb : Int) (w : World) (hv : LnS w v ls) (hv' : LnS w v' ls') (hk : KindsAt w) :
    Calls Tryd.prog 3 #[.agg #[.int .i64 k, .string s.1, .int .i64 o, .int .i64 n, v], .agg #[.int .i64 k', .string s'.1, .int .i64 o', .int .i64 n', v'], .agg #[.int .i64 rc, .int .i64 ra, .int .i64 rb]] w fun e w' => e = .returned (.bool true) ∧ Below w.heap.size w w' := by
  obtain ⟨a, c, rfl⟩ := hv.len
  obtain ⟨a', c', rfl⟩ := hv'.len
  have h1 := (((Sep.start w).alloc (.cells (opCells k s o n (.slice a ls.length c)) 24)).alloc (.cells (opCells k' s' o' n' (.slice a' ls'.length c')) 24)).alloc (.cells #[.int .i64 rc, .int .i64 ra, .int .i64 rb] 26)
  rw [show ((w.alloc (.cells (opCells k s o n (.slice a ls.length c)) 24)).alloc (.cells (opCells k' s' o' n' (.slice a' ls'.length c')) 24)).heap.size = w.heap.size + 1 + 1 by simp, show (w.alloc (.cells (opCells k s o n (.slice a ls.length c)) 24)).heap.size = w.heap.size + 1 by simp] at h1
  obtain ⟨w1, hw1⟩ : ∃ z, z = ((w.alloc (.cells (opCells k s o n (.slice a ls.length c)) 24)).alloc (.cells (opCells k' s' o' n' (.slice a' ls'.length c')) 24)).alloc (.cells #[.int .i64 rc, .int .i64 ra, .int .i64 rb] 26) := ⟨_, rfl⟩
  obtain ⟨b3, hb3⟩ : ∃ z, z = w.heap.size := ⟨_, rfl⟩
  obtain ⟨b4, hb4⟩ : ∃ z, z = b3 + 1 := ⟨_, rfl⟩
  obtain ⟨b5, hb5⟩ : ∃ z, z = b4 + 1 := ⟨_, rfl⟩
  have e4 : w.heap.size + 1 = b4 := by rw [hb4, hb3]
  have e5 : w.heap.size + 1 + 1 = b5 := by rw [hb5, hb4, hb3]
  have e3 := hb3.symm
  rw [← hw1, e5, e4, e3] at h1
  unfold opCells at hw1 h1
  have HC1 := Lib.hid (cutOp_any k s o n _ ls h1.drew hv)
  have HV2 := Lib.hid hv'
  have HK := Lib.hid hk
  obtain ⟨x0, x1, x2, x3, x4⟩ := cells5 h1.sw3
  obtain ⟨y0, y1, y2, y3, y4⟩ := cells5 h1.sw2
  have E3 := Lib.hid e3
  have E4 := Lib.hid e4
  have E5 := Lib.hid e5
  clear h1 hv hv' hk hb3 hb4 hb5 e3 e4 e5
  go_enter Tryd.func3, Tryd.ntmps3
  go_wp2_with fail
  rw [← hw1]
  rw [E5.out]
  rw [E4.out]
  rw [E3.out]
  clear hw1 E3 E4 E5
  refine wp_region_G (fun w' => (w'.cell? ⟨b3, 0, none⟩ = some (.int .i64 k) ∧ w'.cell? ⟨b3, 1, none⟩ = some (.string s.1) ∧ w'.cell? ⟨b3, 2, none⟩ = some (.int .i64 o) ∧ w'.cell? ⟨b3, 3, none⟩ = some (.int .i64 n) ∧ w'.cell? ⟨b3, 4, none⟩ = some (.slice a ls.length c)) ∧ (w'.cell? ⟨b4, 0, none⟩ = some (.int .i64 k') ∧ w'.cell? ⟨b4, 1, none⟩ = some (.string s'.1) ∧ w'.cell? ⟨b4, 2, none⟩ = some (.int .i64 o') ∧ w'.cell? ⟨b4, 3, none⟩ = some (.int .i64 n') ∧ w'.cell? ⟨b4, 4, none⟩ = some (.slice a' ls'.length c'))) [4, 5] (by kernel_rfl) ⟨⟨x0, x1, x2, x3, x4⟩, ⟨y0, y1, y2, y3, y4⟩⟩ (fun hS => ?_)
  try dsimp only at hS
  refine wpAnyG_take' (i := 0) (v := ?v0_1r1) rfl (by kernel_rfl) (by kernel_rfl) (by kernel_rfl) (by kernel_rfl) (fun _ _ _ h => h) (Or.inl ⟨by rfl, ?hy0_1r1⟩) hS ?rest0_1r1
  case hy0_1r1 => intro w hSw; (try dsimp only at hSw); go_simp; (try with_reducible rfl)
  case rest0_1r1 =>
  try simp only [List.getElem_toArray, List.getElem_cons_succ, List.getElem_cons_zero, Act.put, List.setIfInBounds_toArray, List.set_cons_zero, List.set_cons_succ]
  refine wpAnyG_take' (i := 2) (v := ?v2_2r1) rfl (by kernel_rfl) (by kernel_rfl) (by kernel_rfl) (by kernel_rfl) (fun _ _ _ h => h) (Or.inl ⟨by rfl, ?hy2_2r1⟩) hS ?rest2_2r1
  case hy2_2r1 => intro w hSw; (try dsimp only at hSw); go_simp; (try with_reducible rfl)
  case rest2_2r1 =>
  try simp only [List.getElem_toArray, List.getElem_cons_succ, List.getElem_cons_zero, Act.put, List.setIfInBounds_toArray, List.set_cons_zero, List.set_cons_succ]
  refine wpAnyG_one (i := 1) (by kernel_rfl) rfl (fun K hK => ?_)
  go_simp
  refine Calls.mono HC1.out ?_
  rintro r9 w2 ⟨a1, m1, c1, rfl, hm1, hL1, hl1, h2⟩
  obtain ⟨z0, z1, z2, z3, z4⟩ := cells5 h2.sw3
  obtain ⟨t0, t1, t2, t3, t4⟩ := cells5 h2.sw2
  have HC2 := Lib.hid (cutOp_any k' s' o' n' _ ls' h2 HV2.out)
  have HM1 := Lib.hid hm1
  have HL1 := Lib.hid hL1
  have HE1 := Lib.hid hl1
  clear h2 hm1 hL1 hl1
  go_wp2_with fail
  refine hK.out _ _ (fun _ => ?hS3r1) ?rest3r1
  case hS3r1 => exact ⟨⟨z0, z1, z2, z3, z4⟩, ⟨t0, t1, t2, t3, t4⟩⟩
  clear K hK
  try simp only [List.getElem_toArray, List.getElem_cons_succ, List.getElem_cons_zero, Act.put, List.setIfInBounds_toArray, List.set_cons_zero, List.set_cons_succ]
  refine wpAnyG_one (i := 3) (by kernel_rfl) rfl (fun K hK => ?_)
  go_simp
  refine Calls.mono HC2.out ?_
  rintro r9 w3 ⟨a2, m2, c2, rfl, hm2, hL2, hl2, h3⟩
  obtain ⟨p0, p1, p2, p3, p4⟩ := cells5 h3.sw3
  obtain ⟨f0, f1, f2, f3, f4⟩ := frz5 h3.sw3
  obtain ⟨q0, q1, q2, q3, q4⟩ := cells5 h3.sw2
  have h4a := store5 (u0 := .int .i64 k) (u1 := .string s.1) (u2 := .int .i64 o) (u3 := .int .i64 n) (u4 := .slice a1 m1 c1) h3.sw3
  obtain ⟨u0, u1, u2, u3, u4⟩ := cells5 h4a.sw3
  obtain ⟨g0, g1, g2, g3, g4⟩ := frz5 h4a.sw3
  have h4 := store5 (u0 := .int .i64 k') (u1 := .string s'.1) (u2 := .int .i64 o') (u3 := .int .i64 n') (u4 := .slice a2 m2 c2) h4a.sw3
  have H4 := Lib.hid h4
  have HM2 := Lib.hid hm2
  have HL2 := Lib.hid hL2
  have HE2 := Lib.hid hl2
  clear h3 h4a h4 hm2 hL2 hl2
  go_wp2_with fail
  refine hK.out _ _ (fun _ => ?hS4r1) ?rest4r1
  case hS4r1 => exact ⟨⟨p0, p1, p2, p3, p4⟩, ⟨q0, q1, q2, q3, q4⟩⟩
  clear K hK
  try simp only [List.getElem_toArray, List.getElem_cons_succ, List.getElem_cons_zero, Act.put, List.setIfInBounds_toArray, List.set_cons_zero, List.set_cons_succ]
  refine wpAnyG_one (i := 4) (by kernel_rfl) rfl (fun K hK => ?_)
  go_simp
  refine hK.out _ _ (fun hno => by cases hno) ?_
  clear K hK
  try simp only [List.getElem_toArray, List.getElem_cons_succ, List.getElem_cons_zero, Act.put, List.setIfInBounds_toArray, List.set_cons_zero, List.set_cons_succ]
  refine wpAnyG_one (i := 5) (by kernel_rfl) rfl (fun K hK => ?_)
  go_simp
  refine hK.out _ _ (fun hno => by cases hno) ?_
  clear K hK
  try simp only [List.getElem_toArray, List.getElem_cons_succ, List.getElem_cons_zero, Act.put, List.setIfInBounds_toArray, List.set_cons_zero, List.set_cons_succ]
  refine wpAnyG_done (by kernel_rfl) ?_ _
  try simp only [List.getElem_toArray, List.getElem_cons_succ, List.getElem_cons_zero, Act.put, List.setIfInBounds_toArray, List.set_cons_zero, List.set_cons_succ]
  generalize ls.take 8 = lo at *
  generalize ls'.take 8 = lp at *
  have h4 := H4.out
  clear H4 hS HC1 HC2
  clear x0 x1 x2 x3 x4
  clear y0 y1 y2 y3 y4
  clear z0 z1 z2 z3 z4
  clear t0 t1 t2 t3 t4
  clear p0 p1 p2 p3 p4
  clear q0 q1 q2 q3 q4
  clear u0 u1 u2 u3 u4
  clear f0 f1 f2 f3 f4
  clear g0 g1 g2 g3 g4
  obtain ⟨x0, x1, x2, x3, x4⟩ := cells5 h4.sw2
  have HB := Lib.hid (bytes_u k s o n _ lo h4 (HL1.out _ h4.low) (HK.out.below h4.low))
  clear h4
  go_wp2_with fail
  refine HB.out.mono ?_
  rintro r0 w5 ⟨ua, rfl, h5⟩
  clear x0 x1 x2 x3 x4
  obtain ⟨x0, x1, x2, x3, x4⟩ := cells5 h5.sw3
  have HB := Lib.hid (rbytes_u k s o n _ lo h5 (HL1.out _ h5.low) (by rw [HE1.out]; have := HM1.out; omega))
  clear h5
  go_wp2_with fail
  refine HB.out.mono ?_
  rintro r0 w6 ⟨ub, rfl, h6⟩
  clear x0 x1 x2 x3 x4
  obtain ⟨x0, x1, x2⟩ := cells3 h6.sw5
  have HB := Lib.hid (bytesRes_u rc ra rb h6)
  clear h6
  go_wp2_with fail
  refine HB.out.mono ?_
  rintro r0 w7 ⟨uc, rfl, h7⟩
  clear x0 x1 x2
  obtain ⟨x0, x1, x2⟩ := cells3 h7.sw6
  have HB := Lib.hid (rbytesRes_u rc ra rb h7)
  clear h7
  go_wp2_with fail
  refine HB.out.mono ?_
  rintro r0 w8 ⟨ud, rfl, h8⟩
  clear x0 x1 x2 HB
  obtain ⟨x0, x1, x2, x3, x4⟩ := cells5 h8.sw6
  obtain ⟨y0, y1, y2⟩ := cells3 h8.sw7
  have HK1 := Lib.hid (check_any k s o n _ lo h8.drew (HL1.out _ h8.drew.low) (HK.out.below h8.drew.low))
  obtain ⟨ec, hec⟩ : ∃ z : Int, (if okB k s o n lo then 0 else 2 : Int) = z := ⟨_, rfl⟩
  rw [hec] at HK1
  have HEC := Lib.hid hec
  clear h8 hec
  generalize eB (okB k s o n lo) = ea at *
  generalize eB (resB rc ra rb) = er at *
  go_wp2_with fail
  refine wp_region_G (fun w' => (w'.cell? ⟨b3, 0, none⟩ = some (.int .i64 k) ∧ w'.cell? ⟨b3, 1, none⟩ = some (.string s.1) ∧ w'.cell? ⟨b3, 2, none⟩ = some (.int .i64 o) ∧ w'.cell? ⟨b3, 3, none⟩ = some (.int .i64 n) ∧ w'.cell? ⟨b3, 4, none⟩ = some (.slice a1 m1 c1)) ∧ (w'.cell? ⟨b5, 0, none⟩ = some (.int .i64 rc) ∧ w'.cell? ⟨b5, 1, none⟩ = some (.int .i64 ra) ∧ w'.cell? ⟨b5, 2, none⟩ = some (.int .i64 rb))) [] (by kernel_rfl) ⟨⟨x0, x1, x2, x3, x4⟩, ⟨y0, y1, y2⟩⟩ (fun hS => ?_)
  try dsimp only at hS
  refine wpAnyG_take' (i := 0) (v := ?v0_1r6) rfl (by kernel_rfl) (by kernel_rfl) (by kernel_rfl) (by kernel_rfl) (fun _ _ _ h => h) (Or.inl ⟨by rfl, ?hy0_1r6⟩) hS ?rest0_1r6
  case hy0_1r6 => intro w hSw; (try dsimp only at hSw); go_simp; (try with_reducible rfl)
  case rest0_1r6 =>
  try simp only [List.getElem_toArray, List.getElem_cons_succ, List.getElem_cons_zero, Act.put, List.setIfInBounds_toArray, List.set_cons_zero, List.set_cons_succ]
  refine wpAnyG_take' (i := 2) (v := ?v2_2r6) rfl (by kernel_rfl) (by kernel_rfl) (by kernel_rfl) (by kernel_rfl) (fun _ _ _ h => h) (Or.inl ⟨by rfl, ?hy2_2r6⟩) hS ?rest2_2r6
  case hy2_2r6 => intro w hSw; (try dsimp only at hSw); go_simp; (try with_reducible rfl)
  case rest2_2r6 =>
  try simp only [List.getElem_toArray, List.getElem_cons_succ, List.getElem_cons_zero, Act.put, List.setIfInBounds_toArray, List.set_cons_zero, List.set_cons_succ]
  refine wpAnyG_one (i := 1) (by kernel_rfl) rfl (fun K hK => ?_)
  go_simp
  refine Calls.mono HK1.out ?_
  rintro r9 w9 ⟨rfl, h9⟩
  obtain ⟨z0, z1, z2, z3, z4⟩ := cells5 h9.sw6
  obtain ⟨t0, t1, t2⟩ := cells3 h9.sw7
  have HK2 := Lib.hid (rcheck_any k s o n _ lo h9 (HL1.out _ h9.low) (by rw [HE1.out]; have := HM1.out; omega))
  rw [HEC.out] at HK2
  clear h9
  go_wp2_with fail
  refine hK.out _ _ (fun _ => ?hS3r6) ?rest3r6
  case hS3r6 => exact ⟨⟨z0, z1, z2, z3, z4⟩, ⟨t0, t1, t2⟩⟩
  clear K hK
  try simp only [List.getElem_toArray, List.getElem_cons_succ, List.getElem_cons_zero, Act.put, List.setIfInBounds_toArray, List.set_cons_zero, List.set_cons_succ]
  refine wpAnyG_one (i := 3) (by kernel_rfl) rfl (fun K hK => ?_)
  go_simp
  refine Calls.mono HK2.out ?_
  rintro r9 w10 ⟨rfl, h10⟩
  obtain ⟨p0, p1, p2, p3, p4⟩ := cells5 h10.sw6
  obtain ⟨q0, q1, q2⟩ := cells3 h10.sw7
  have HQ1 := Lib.hid (eqBytes_any ua ub _ _ w10 h10.sw4.sl h10.sw3.sl)
  rw [show ∀ l : List UInt8, (l == l) = true from fun l => beq_self_eq_true l] at HQ1
  have HR1 := Lib.hid (res_any rc ra rb w10)
  have h11 := h10.alloc0 (.cells #[.int .i64 rc, .int .i64 ra, .int .i64 rb] 26)
  obtain ⟨u0, u1, u2, u3, u4⟩ := cells5 h11.sw6
  obtain ⟨v0, v1, v2⟩ := cells3 h11.sw7
  have HR2 := Lib.hid (rres_any rc ra rb h11)
  clear h10 h11
  go_wp2_with fail
  refine hK.out _ _ (fun _ => ?hS4r6) ?rest4r6
  case hS4r6 => exact ⟨⟨p0, p1, p2, p3, p4⟩, ⟨q0, q1, q2⟩⟩
  clear K hK
  try simp only [List.getElem_toArray, List.getElem_cons_succ, List.getElem_cons_zero, Act.put, List.setIfInBounds_toArray, List.set_cons_zero, List.set_cons_succ]
  refine wpAnyG_take' (i := 4) (v := ?v4_5r6) rfl (by kernel_rfl) (by kernel_rfl) (by kernel_rfl) (by kernel_rfl) (fun _ _ _ h => h) (Or.inl ⟨by rfl, ?hy4_5r6⟩) ⟨⟨p0, p1, p2, p3, p4⟩, ⟨q0, q1, q2⟩⟩ ?rest4_5r6
  case hy4_5r6 => intro w hSw; (try dsimp only at hSw); go_simp; (try with_reducible rfl)
  case rest4_5r6 =>
  try simp only [List.getElem_toArray, List.getElem_cons_succ, List.getElem_cons_zero, Act.put, List.setIfInBounds_toArray, List.set_cons_zero, List.set_cons_succ]
  refine wpAnyG_take' (i := 5) (v := ?v5_6r6) rfl (by kernel_rfl) (by kernel_rfl) (by kernel_rfl) (by kernel_rfl) (fun _ _ _ h => h) (Or.inl ⟨by rfl, ?hy5_6r6⟩) ⟨⟨p0, p1, p2, p3, p4⟩, ⟨q0, q1, q2⟩⟩ ?rest5_6r6
  case hy5_6r6 => intro w hSw; (try dsimp only at hSw); go_simp; (try with_reducible rfl)
  case rest5_6r6 =>
  try simp only [List.getElem_toArray, List.getElem_cons_succ, List.getElem_cons_zero, Act.put, List.setIfInBounds_toArray, List.set_cons_zero, List.set_cons_succ]
  refine wpAnyG_take' (i := 6) (v := ?v6_7r6) rfl (by kernel_rfl) (by kernel_rfl) (by kernel_rfl) (by kernel_rfl) (fun _ _ _ h => h) (Or.inl ⟨by rfl, ?hy6_7r6⟩) ⟨⟨p0, p1, p2, p3, p4⟩, ⟨q0, q1, q2⟩⟩ ?rest6_7r6
  case hy6_7r6 => intro w hSw; (try dsimp only at hSw); go_simp; (try with_reducible rfl)
  case rest6_7r6 =>
  try simp only [List.getElem_toArray, List.getElem_cons_succ, List.getElem_cons_zero, Act.put, List.setIfInBounds_toArray, List.set_cons_zero, List.set_cons_succ]
  refine wpAnyG_take' (i := 7) (v := ?v7_8r6) rfl (by kernel_rfl) (by kernel_rfl) (by kernel_rfl) (by kernel_rfl) (fun _ _ _ h => h) (Or.inl ⟨by rfl, ?hy7_8r6⟩) ⟨⟨p0, p1, p2, p3, p4⟩, ⟨q0, q1, q2⟩⟩ ?rest7_8r6
  case hy7_8r6 => intro w hSw; (try dsimp only at hSw); go_simp; (try with_reducible rfl)
  case rest7_8r6 =>
  try simp only [List.getElem_toArray, List.getElem_cons_succ, List.getElem_cons_zero, Act.put, List.setIfInBounds_toArray, List.set_cons_zero, List.set_cons_succ]
  refine wpAnyG_one (i := 8) (by kernel_rfl) rfl (fun K hK => ?_)
  go_simp
  refine Calls.mono HQ1.out ?_
  rintro r9 w8' ⟨rfl, rfl⟩
  go_wp2_with fail
  refine hK.out _ _ (fun _ => ?hS9r6) ?rest9r6
  case hS9r6 => exact ⟨⟨p0, p1, p2, p3, p4⟩, ⟨q0, q1, q2⟩⟩
  clear K hK
  try simp only [List.getElem_toArray, List.getElem_cons_succ, List.getElem_cons_zero, Act.put, List.setIfInBounds_toArray, List.set_cons_zero, List.set_cons_succ]
  refine wpAnyG_take' (i := 9) (v := ?v9_10r6) rfl (by kernel_rfl) (by kernel_rfl) (by kernel_rfl) (by kernel_rfl) (fun _ _ _ h => h) (Or.inl ⟨by rfl, ?hy9_10r6⟩) ⟨⟨p0, p1, p2, p3, p4⟩, ⟨q0, q1, q2⟩⟩ ?rest9_10r6
  case hy9_10r6 => intro w hSw; (try dsimp only at hSw); go_simp; (try with_reducible rfl)
  case rest9_10r6 =>
  try simp only [List.getElem_toArray, List.getElem_cons_succ, List.getElem_cons_zero, Act.put, List.setIfInBounds_toArray, List.set_cons_zero, List.set_cons_succ]
  refine wpAnyG_take' (i := 10) (v := ?v10_11r6) rfl (by kernel_rfl) (by kernel_rfl) (by kernel_rfl) (by kernel_rfl) (fun _ _ _ h => h) (Or.inl ⟨by rfl, ?hy10_11r6⟩) ⟨⟨p0, p1, p2, p3, p4⟩, ⟨q0, q1, q2⟩⟩ ?rest10_11r6
  case hy10_11r6 => intro w hSw; (try dsimp only at hSw); go_simp; (try with_reducible rfl)
  case rest10_11r6 =>
  try simp only [List.getElem_toArray, List.getElem_cons_succ, List.getElem_cons_zero, Act.put, List.setIfInBounds_toArray, List.set_cons_zero, List.set_cons_succ]
  refine wpAnyG_take' (i := 11) (v := ?v11_12r6) rfl (by kernel_rfl) (by kernel_rfl) (by kernel_rfl) (by kernel_rfl) (fun _ _ _ h => h) (Or.inl ⟨by rfl, ?hy11_12r6⟩) ⟨⟨p0, p1, p2, p3, p4⟩, ⟨q0, q1, q2⟩⟩ ?rest11_12r6
  case hy11_12r6 => intro w hSw; (try dsimp only at hSw); go_simp; (try with_reducible rfl)
  case rest11_12r6 =>
  try simp only [List.getElem_toArray, List.getElem_cons_succ, List.getElem_cons_zero, Act.put, List.setIfInBounds_toArray, List.set_cons_zero, List.set_cons_succ]
  refine wpAnyG_take' (i := 12) (v := ?v12_13r6) rfl (by kernel_rfl) (by kernel_rfl) (by kernel_rfl) (by kernel_rfl) (fun _ _ _ h => h) (Or.inl ⟨by rfl, ?hy12_13r6⟩) ⟨⟨p0, p1, p2, p3, p4⟩, ⟨q0, q1, q2⟩⟩ ?rest12_13r6
  case hy12_13r6 => intro w hSw; (try dsimp only at hSw); go_simp; (try with_reducible rfl)
  case rest12_13r6 =>
  try simp only [List.getElem_toArray, List.getElem_cons_succ, List.getElem_cons_zero, Act.put, List.setIfInBounds_toArray, List.set_cons_zero, List.set_cons_succ]
  refine wpAnyG_take' (i := 13) (v := ?v13_14r6) rfl (by kernel_rfl) (by kernel_rfl) (by kernel_rfl) (by kernel_rfl) (fun _ _ _ h => h) (Or.inl ⟨by rfl, ?hy13_14r6⟩) ⟨⟨p0, p1, p2, p3, p4⟩, ⟨q0, q1, q2⟩⟩ ?rest13_14r6
  case hy13_14r6 => intro w hSw; (try dsimp only at hSw); go_simp; (try with_reducible rfl)
  case rest13_14r6 =>
  try simp only [List.getElem_toArray, List.getElem_cons_succ, List.getElem_cons_zero, Act.put, List.setIfInBounds_toArray, List.set_cons_zero, List.set_cons_succ]
  refine wpAnyG_take' (i := 14) (v := ?v14_15r6) rfl (by kernel_rfl) (by kernel_rfl) (by kernel_rfl) (by kernel_rfl) (fun _ _ _ h => h) (Or.inl ⟨by rfl, ?hy14_15r6⟩) ⟨⟨p0, p1, p2, p3, p4⟩, ⟨q0, q1, q2⟩⟩ ?rest14_15r6
  case hy14_15r6 => intro w hSw; (try dsimp only at hSw); go_simp; (try with_reducible rfl)
  case rest14_15r6 =>
  try simp only [List.getElem_toArray, List.getElem_cons_succ, List.getElem_cons_zero, Act.put, List.setIfInBounds_toArray, List.set_cons_zero, List.set_cons_succ]
  refine wpAnyG_take' (i := 15) (v := ?v15_16r6) rfl (by kernel_rfl) (by kernel_rfl) (by kernel_rfl) (by kernel_rfl) (fun _ _ _ h => h) (Or.inl ⟨by rfl, ?hy15_16r6⟩) ⟨⟨p0, p1, p2, p3, p4⟩, ⟨q0, q1, q2⟩⟩ ?rest15_16r6
  case hy15_16r6 => intro w hSw; (try dsimp only at hSw); go_simp; (try with_reducible rfl)
  case rest15_16r6 =>
  try simp only [List.getElem_toArray, List.getElem_cons_succ, List.getElem_cons_zero, Act.put, List.setIfInBounds_toArray, List.set_cons_zero, List.set_cons_succ]
  refine wpAnyG_take' (i := 16) (v := ?v16_17r6) rfl (by kernel_rfl) (by kernel_rfl) (by kernel_rfl) (by kernel_rfl) (fun _ _ _ h => h) (Or.inl ⟨by rfl, ?hy16_17r6⟩) ⟨⟨p0, p1, p2, p3, p4⟩, ⟨q0, q1, q2⟩⟩ ?rest16_17r6
  case hy16_17r6 => intro w hSw; (try dsimp only at hSw); go_simp; (try with_reducible rfl)
  case rest16_17r6 =>
  try simp only [List.getElem_toArray, List.getElem_cons_succ, List.getElem_cons_zero, Act.put, List.setIfInBounds_toArray, List.set_cons_zero, List.set_cons_succ]
  refine wpAnyG_take' (i := 17) (v := ?v17_18r6) rfl (by kernel_rfl) (by kernel_rfl) (by kernel_rfl) (by kernel_rfl) (fun _ _ _ h => h) (Or.inl ⟨by rfl, ?hy17_18r6⟩) ⟨⟨p0, p1, p2, p3, p4⟩, ⟨q0, q1, q2⟩⟩ ?rest17_18r6
  case hy17_18r6 => intro w hSw; (try dsimp only at hSw); go_simp; (try with_reducible rfl)
  case rest17_18r6 =>
  try simp only [List.getElem_toArray, List.getElem_cons_succ, List.getElem_cons_zero, Act.put, List.setIfInBounds_toArray, List.set_cons_zero, List.set_cons_succ]
  refine wpAnyG_take' (i := 19) (v := ?v19_19r6) rfl (by kernel_rfl) (by kernel_rfl) (by kernel_rfl) (by kernel_rfl) (fun _ _ _ h => h) (Or.inl ⟨by rfl, ?hy19_19r6⟩) ⟨⟨p0, p1, p2, p3, p4⟩, ⟨q0, q1, q2⟩⟩ ?rest19_19r6
  case hy19_19r6 => intro w hSw; (try dsimp only at hSw); go_simp; (try with_reducible rfl)
  case rest19_19r6 =>
  try simp only [List.getElem_toArray, List.getElem_cons_succ, List.getElem_cons_zero, Act.put, List.setIfInBounds_toArray, List.set_cons_zero, List.set_cons_succ]
  refine wpAnyG_one (i := 18) (by kernel_rfl) rfl (fun K hK => ?_)
  go_simp
  refine Calls.mono HR1.out ?_
  rintro r9 w8' ⟨rfl, rfl⟩
  go_wp2_with fail
  refine hK.out _ _ (fun _ => ?hS20r6) ?rest20r6
  case hS20r6 => exact ⟨⟨u0, u1, u2, u3, u4⟩, ⟨v0, v1, v2⟩⟩
  clear K hK
  try simp only [List.getElem_toArray, List.getElem_cons_succ, List.getElem_cons_zero, Act.put, List.setIfInBounds_toArray, List.set_cons_zero, List.set_cons_succ]
  refine wpAnyG_one (i := 20) (by kernel_rfl) rfl (fun K hK => ?_)
  go_simp
  refine Calls.mono HR2.out ?_
  rintro r9 w12 ⟨rfl, h12⟩
  obtain ⟨ja0, ja1, ja2, ja3, ja4⟩ := cells5 h12.sw6
  obtain ⟨jb0, jb1, jb2⟩ := cells3 h12.sw7
  have HQ2 := Lib.hid (eqBytes_any uc ud _ _ w12 h12.sw2.sl h12.sl)
  rw [show ∀ l : List UInt8, (l == l) = true from fun l => beq_self_eq_true l] at HQ2
  have H12 := Lib.hid h12
  clear h12
  go_wp2_with fail
  refine hK.out _ _ (fun _ => ?hS21r6) ?rest21r6
  case hS21r6 => exact ⟨⟨ja0, ja1, ja2, ja3, ja4⟩, ⟨jb0, jb1, jb2⟩⟩
  clear K hK
  try simp only [List.getElem_toArray, List.getElem_cons_succ, List.getElem_cons_zero, Act.put, List.setIfInBounds_toArray, List.set_cons_zero, List.set_cons_succ]
  refine wpAnyG_take' (i := 21) (v := ?v21_22r6) rfl (by kernel_rfl) (by kernel_rfl) (by kernel_rfl) (by kernel_rfl) (fun _ _ _ h => h) (Or.inl ⟨by rfl, ?hy21_22r6⟩) ⟨⟨ja0, ja1, ja2, ja3, ja4⟩, ⟨jb0, jb1, jb2⟩⟩ ?rest21_22r6
  case hy21_22r6 => intro w hSw; (try dsimp only at hSw); go_simp; (try with_reducible rfl)
  case rest21_22r6 =>
  try simp only [List.getElem_toArray, List.getElem_cons_succ, List.getElem_cons_zero, Act.put, List.setIfInBounds_toArray, List.set_cons_zero, List.set_cons_succ]
  refine wpAnyG_take' (i := 22) (v := ?v22_23r6) rfl (by kernel_rfl) (by kernel_rfl) (by kernel_rfl) (by kernel_rfl) (fun _ _ _ h => h) (Or.inl ⟨by rfl, ?hy22_23r6⟩) ⟨⟨ja0, ja1, ja2, ja3, ja4⟩, ⟨jb0, jb1, jb2⟩⟩ ?rest22_23r6
  case hy22_23r6 => intro w hSw; (try dsimp only at hSw); go_simp; (try with_reducible rfl)
  case rest22_23r6 =>
  try simp only [List.getElem_toArray, List.getElem_cons_succ, List.getElem_cons_zero, Act.put, List.setIfInBounds_toArray, List.set_cons_zero, List.set_cons_succ]
  refine wpAnyG_take' (i := 23) (v := ?v23_24r6) rfl (by kernel_rfl) (by kernel_rfl) (by kernel_rfl) (by kernel_rfl) (fun _ _ _ h => h) (Or.inl ⟨by rfl, ?hy23_24r6⟩) ⟨⟨ja0, ja1, ja2, ja3, ja4⟩, ⟨jb0, jb1, jb2⟩⟩ ?rest23_24r6
  case hy23_24r6 => intro w hSw; (try dsimp only at hSw); go_simp; (try with_reducible rfl)
  case rest23_24r6 =>
  try simp only [List.getElem_toArray, List.getElem_cons_succ, List.getElem_cons_zero, Act.put, List.setIfInBounds_toArray, List.set_cons_zero, List.set_cons_succ]
  refine wpAnyG_take' (i := 24) (v := ?v24_25r6) rfl (by kernel_rfl) (by kernel_rfl) (by kernel_rfl) (by kernel_rfl) (fun _ _ _ h => h) (Or.inl ⟨by rfl, ?hy24_25r6⟩) ⟨⟨ja0, ja1, ja2, ja3, ja4⟩, ⟨jb0, jb1, jb2⟩⟩ ?rest24_25r6
  case hy24_25r6 => intro w hSw; (try dsimp only at hSw); go_simp; (try with_reducible rfl)
  case rest24_25r6 =>
  try simp only [List.getElem_toArray, List.getElem_cons_succ, List.getElem_cons_zero, Act.put, List.setIfInBounds_toArray, List.set_cons_zero, List.set_cons_succ]
  refine wpAnyG_take' (i := 25) (v := ?v25_26r6) rfl (by kernel_rfl) (by kernel_rfl) (by kernel_rfl) (by kernel_rfl) (fun _ _ _ h => h) (Or.inl ⟨by rfl, ?hy25_26r6⟩) ⟨⟨ja0, ja1, ja2, ja3, ja4⟩, ⟨jb0, jb1, jb2⟩⟩ ?rest25_26r6
  case hy25_26r6 => intro w hSw; (try dsimp only at hSw); go_simp; (try with_reducible rfl)
  case rest25_26r6 =>
  try simp only [List.getElem_toArray, List.getElem_cons_succ, List.getElem_cons_zero, Act.put, List.setIfInBounds_toArray, List.set_cons_zero, List.set_cons_succ]
  refine wpAnyG_one (i := 26) (by kernel_rfl) rfl (fun K hK => ?_)
  go_simp
  refine Calls.mono HQ2.out ?_
  rintro r9 w8' ⟨rfl, rfl⟩
  go_wp2_with fail
  refine hK.out _ _ (fun _ => ?hS27r6) ?rest27r6
  case hS27r6 => exact ⟨⟨ja0, ja1, ja2, ja3, ja4⟩, ⟨jb0, jb1, jb2⟩⟩
  clear K hK
  try simp only [List.getElem_toArray, List.getElem_cons_succ, List.getElem_cons_zero, Act.put, List.setIfInBounds_toArray, List.set_cons_zero, List.set_cons_succ]
  refine wpAnyG_take' (i := 27) (v := ?v27_28r6) rfl (by kernel_rfl) (by kernel_rfl) (by kernel_rfl) (by kernel_rfl) (fun _ _ _ h => h) (Or.inl ⟨by rfl, ?hy27_28r6⟩) ⟨⟨ja0, ja1, ja2, ja3, ja4⟩, ⟨jb0, jb1, jb2⟩⟩ ?rest27_28r6
  case hy27_28r6 => intro w hSw; (try dsimp only at hSw); go_simp; (try with_reducible rfl)
  case rest27_28r6 =>
  try simp only [List.getElem_toArray, List.getElem_cons_succ, List.getElem_cons_zero, Act.put, List.setIfInBounds_toArray, List.set_cons_zero, List.set_cons_succ]
  refine wpAnyG_take' (i := 28) (v := ?v28_29r6) rfl (by kernel_rfl) (by kernel_rfl) (by kernel_rfl) (by kernel_rfl) (fun _ _ _ h => h) (Or.inl ⟨by rfl, ?hy28_29r6⟩) ⟨⟨ja0, ja1, ja2, ja3, ja4⟩, ⟨jb0, jb1, jb2⟩⟩ ?rest28_29r6
  case hy28_29r6 => intro w hSw; (try dsimp only at hSw); go_simp; (try with_reducible rfl)
  case rest28_29r6 =>
  try simp only [List.getElem_toArray, List.getElem_cons_succ, List.getElem_cons_zero, Act.put, List.setIfInBounds_toArray, List.set_cons_zero, List.set_cons_succ]
  refine wpAnyG_take' (i := 29) (v := ?v29_30r6) rfl (by kernel_rfl) (by kernel_rfl) (by kernel_rfl) (by kernel_rfl) (fun _ _ _ h => h) (Or.inl ⟨by rfl, ?hy29_30r6⟩) ⟨⟨ja0, ja1, ja2, ja3, ja4⟩, ⟨jb0, jb1, jb2⟩⟩ ?rest29_30r6
  case hy29_30r6 => intro w hSw; (try dsimp only at hSw); go_simp; (try with_reducible rfl)
  case rest29_30r6 =>
  try simp only [List.getElem_toArray, List.getElem_cons_succ, List.getElem_cons_zero, Act.put, List.setIfInBounds_toArray, List.set_cons_zero, List.set_cons_succ]
  refine wpAnyG_take' (i := 30) (v := ?v30_31r6) rfl (by kernel_rfl) (by kernel_rfl) (by kernel_rfl) (by kernel_rfl) (fun _ _ _ h => h) (Or.inl ⟨by rfl, ?hy30_31r6⟩) ⟨⟨ja0, ja1, ja2, ja3, ja4⟩, ⟨jb0, jb1, jb2⟩⟩ ?rest30_31r6
  case hy30_31r6 => intro w hSw; (try dsimp only at hSw); go_simp; (try with_reducible rfl)
  case rest30_31r6 =>
  try simp only [List.getElem_toArray, List.getElem_cons_succ, List.getElem_cons_zero, Act.put, List.setIfInBounds_toArray, List.set_cons_zero, List.set_cons_succ]
  refine wpAnyG_take' (i := 31) (v := ?v31_32r6) rfl (by kernel_rfl) (by kernel_rfl) (by kernel_rfl) (by kernel_rfl) (fun _ _ _ h => h) (Or.inl ⟨by rfl, ?hy31_32r6⟩) ⟨⟨ja0, ja1, ja2, ja3, ja4⟩, ⟨jb0, jb1, jb2⟩⟩ ?rest31_32r6
  case hy31_32r6 => intro w hSw; (try dsimp only at hSw); go_simp; (try with_reducible rfl)
  case rest31_32r6 =>
  try simp only [List.getElem_toArray, List.getElem_cons_succ, List.getElem_cons_zero, Act.put, List.setIfInBounds_toArray, List.set_cons_zero, List.set_cons_succ]
  refine wpAnyG_take' (i := 32) (v := ?v32_33r6) rfl (by kernel_rfl) (by kernel_rfl) (by kernel_rfl) (by kernel_rfl) (fun _ _ _ h => h) (Or.inl ⟨by rfl, ?hy32_33r6⟩) ⟨⟨ja0, ja1, ja2, ja3, ja4⟩, ⟨jb0, jb1, jb2⟩⟩ ?rest32_33r6
  case hy32_33r6 => intro w hSw; (try dsimp only at hSw); go_simp; (try with_reducible rfl)
  case rest32_33r6 =>
  try simp only [List.getElem_toArray, List.getElem_cons_succ, List.getElem_cons_zero, Act.put, List.setIfInBounds_toArray, List.set_cons_zero, List.set_cons_succ]
  refine wpAnyG_take' (i := 33) (v := ?v33_34r6) rfl (by kernel_rfl) (by kernel_rfl) (by kernel_rfl) (by kernel_rfl) (fun _ _ _ h => h) (Or.inl ⟨by rfl, ?hy33_34r6⟩) ⟨⟨ja0, ja1, ja2, ja3, ja4⟩, ⟨jb0, jb1, jb2⟩⟩ ?rest33_34r6
  case hy33_34r6 => intro w hSw; (try dsimp only at hSw); go_simp; (try with_reducible rfl)
  case rest33_34r6 =>
  try simp only [List.getElem_toArray, List.getElem_cons_succ, List.getElem_cons_zero, Act.put, List.setIfInBounds_toArray, List.set_cons_zero, List.set_cons_succ]
  refine wpAnyG_done (by kernel_rfl) ?_ _
  try simp only [List.getElem_toArray, List.getElem_cons_succ, List.getElem_cons_zero, Act.put, List.setIfInBounds_toArray, List.set_cons_zero, List.set_cons_succ]
  have h12 := H12.out
  clear H12 hS HK1 HK2 HQ1 HQ2 HR1 HR2
  obtain ⟨x'0, x'1, x'2, x'3, x'4⟩ := cells5 h12.sw6
  have HCP := Lib.hid (copy_any k s o n _ lo h12 (HL1.out _ h12.low) (by rw [HE1.out]; have := HM1.out; omega))
  clear h12
  go_wp2_with fail
  refine HCP.out.mono ?_
  rintro r0 w13 ⟨ux, rfl, h13⟩
  have h13 : Sep w (LnR ux lo :: Cl b4 #[.int .i64 k', .string s'.1, .int .i64 o', .int .i64 n', .slice a2 m2 c2] 24 :: Cl b3 #[.int .i64 k, .string s.1, .int .i64 o, .int .i64 n, .slice a1 m1 c1] 24 :: Cl b5 #[.int .i64 rc, .int .i64 ra, .int .i64 rb] 26 :: []) w13 := h13.pick [0, 5, 6, 7] rfl
  obtain ⟨ax, cx, rfl, -⟩ := h13.rnForm
  have h14 := h13.alloc (.cells #[.int .i64 k, .string s.1, .int .i64 o, .int .i64 n, .slice ax lo.length cx] 24)
  obtain ⟨b15, hb15⟩ : ∃ z, z = w13.heap.size := ⟨_, rfl⟩
  obtain ⟨w14, hw14⟩ : ∃ z, z = w13.alloc (.cells #[.int .i64 k, .string s.1, .int .i64 o, .int .i64 n, .slice ax lo.length cx] 24) := ⟨_, rfl⟩
  rw [← hw14, ← hb15] at h14
  obtain ⟨x0, x1, x2, x3, x4⟩ := cells5 h14
  obtain ⟨y0, y1, y2, y3, y4⟩ := cells5 h14.sw4
  obtain ⟨z0, z1, z2, z3, z4⟩ := cells5 h14.sw3
  have HS1 := Lib.hid (rsame_any k s o n _ lo k s o n _ lo h14.drew (Sep.lnS h14.drew.sw2) (HL1.out _ h14.drew.low) (by rw [HE1.out]; have := HM1.out; omega))
  rw [same_self] at HS1
  obtain ⟨eb, heb⟩ : ∃ z : Bool, sameB k s o n lo k' s' o' n' lp = z := ⟨_, rfl⟩
  obtain ⟨nb, hnb⟩ : ∃ z : Bool, nameB s.1 = z := ⟨_, rfl⟩
  have HEB := Lib.hid heb
  have HNB := Lib.hid hnb
  have HW14 := Lib.hid hw14
  have HB15 := Lib.hid hb15
  clear h13 h14 heb hnb hw14 hb15 HCP
  go_wp2_with fail
  rw [← HW14.out]
  rw [← HB15.out]
  clear HW14 HB15
  refine wp_region_G (fun w' => (w'.cell? ⟨b15, 0, none⟩ = some (.int .i64 k) ∧ w'.cell? ⟨b15, 1, none⟩ = some (.string s.1) ∧ w'.cell? ⟨b15, 2, none⟩ = some (.int .i64 o) ∧ w'.cell? ⟨b15, 3, none⟩ = some (.int .i64 n) ∧ w'.cell? ⟨b15, 4, none⟩ = some (.slice ax lo.length cx)) ∧ (w'.cell? ⟨b3, 0, none⟩ = some (.int .i64 k) ∧ w'.cell? ⟨b3, 1, none⟩ = some (.string s.1) ∧ w'.cell? ⟨b3, 2, none⟩ = some (.int .i64 o) ∧ w'.cell? ⟨b3, 3, none⟩ = some (.int .i64 n) ∧ w'.cell? ⟨b3, 4, none⟩ = some (.slice a1 m1 c1)) ∧ (w'.cell? ⟨b4, 0, none⟩ = some (.int .i64 k') ∧ w'.cell? ⟨b4, 1, none⟩ = some (.string s'.1) ∧ w'.cell? ⟨b4, 2, none⟩ = some (.int .i64 o') ∧ w'.cell? ⟨b4, 3, none⟩ = some (.int .i64 n') ∧ w'.cell? ⟨b4, 4, none⟩ = some (.slice a2 m2 c2))) [] (by kernel_rfl) ⟨⟨x0, x1, x2, x3, x4⟩, ⟨y0, y1, y2, y3, y4⟩, ⟨z0, z1, z2, z3, z4⟩⟩ (fun hS => ?_)
  try dsimp only at hS
  refine wpAnyG_take' (i := 0) (v := ?v0_1r9) rfl (by kernel_rfl) (by kernel_rfl) (by kernel_rfl) (by kernel_rfl) (fun _ _ _ h => h) (Or.inl ⟨by rfl, ?hy0_1r9⟩) hS ?rest0_1r9
  case hy0_1r9 => intro w hSw; (try dsimp only at hSw); go_simp; (try with_reducible rfl)
  case rest0_1r9 =>
  try simp only [List.getElem_toArray, List.getElem_cons_succ, List.getElem_cons_zero, Act.put, List.setIfInBounds_toArray, List.set_cons_zero, List.set_cons_succ]
  refine wpAnyG_take' (i := 1) (v := ?v1_2r9) rfl (by kernel_rfl) (by kernel_rfl) (by kernel_rfl) (by kernel_rfl) (fun _ _ _ h => h) (Or.inl ⟨by rfl, ?hy1_2r9⟩) hS ?rest1_2r9
  case hy1_2r9 => intro w hSw; (try dsimp only at hSw); go_simp; (try with_reducible rfl)
  case rest1_2r9 =>
  try simp only [List.getElem_toArray, List.getElem_cons_succ, List.getElem_cons_zero, Act.put, List.setIfInBounds_toArray, List.set_cons_zero, List.set_cons_succ]
  refine wpAnyG_one (i := 2) (by kernel_rfl) rfl (fun K hK => ?_)
  go_simp
  refine Calls.mono HS1.out ?_
  rintro r9 w15 ⟨rfl, h15⟩
  obtain ⟨ta0, ta1, ta2, ta3, ta4⟩ := cells5 h15
  obtain ⟨tb0, tb1, tb2, tb3, tb4⟩ := cells5 h15.sw4
  obtain ⟨tc0, tc1, tc2, tc3, tc4⟩ := cells5 h15.sw3
  have HS2 := Lib.hid (same_any k s o n _ lo k' s' o' n' _ lp h15 (HL1.out _ h15.low) (HL2.out _ h15.low) (by rw [HE1.out]; have := HM1.out; omega))
  rw [HEB.out] at HS2
  clear h15
  go_wp2_with fail
  refine hK.out _ _ (fun _ => ?hS3r9) ?rest3r9
  case hS3r9 => exact ⟨⟨ta0, ta1, ta2, ta3, ta4⟩, ⟨tb0, tb1, tb2, tb3, tb4⟩, ⟨tc0, tc1, tc2, tc3, tc4⟩⟩
  clear K hK
  try simp only [List.getElem_toArray, List.getElem_cons_succ, List.getElem_cons_zero, Act.put, List.setIfInBounds_toArray, List.set_cons_zero, List.set_cons_succ]
  refine wpAnyG_take' (i := 3) (v := ?v3_4r9) rfl (by kernel_rfl) (by kernel_rfl) (by kernel_rfl) (by kernel_rfl) (fun _ _ _ h => h) (Or.inl ⟨by rfl, ?hy3_4r9⟩) ⟨⟨ta0, ta1, ta2, ta3, ta4⟩, ⟨tb0, tb1, tb2, tb3, tb4⟩, ⟨tc0, tc1, tc2, tc3, tc4⟩⟩ ?rest3_4r9
  case hy3_4r9 => intro w hSw; (try dsimp only at hSw); go_simp; (try with_reducible rfl)
  case rest3_4r9 =>
  try simp only [List.getElem_toArray, List.getElem_cons_succ, List.getElem_cons_zero, Act.put, List.setIfInBounds_toArray, List.set_cons_zero, List.set_cons_succ]
  refine wpAnyG_take' (i := 4) (v := ?v4_5r9) rfl (by kernel_rfl) (by kernel_rfl) (by kernel_rfl) (by kernel_rfl) (fun _ _ _ h => h) (Or.inl ⟨by rfl, ?hy4_5r9⟩) ⟨⟨ta0, ta1, ta2, ta3, ta4⟩, ⟨tb0, tb1, tb2, tb3, tb4⟩, ⟨tc0, tc1, tc2, tc3, tc4⟩⟩ ?rest4_5r9
  case hy4_5r9 => intro w hSw; (try dsimp only at hSw); go_simp; (try with_reducible rfl)
  case rest4_5r9 =>
  try simp only [List.getElem_toArray, List.getElem_cons_succ, List.getElem_cons_zero, Act.put, List.setIfInBounds_toArray, List.set_cons_zero, List.set_cons_succ]
  refine wpAnyG_take' (i := 5) (v := ?v5_6r9) rfl (by kernel_rfl) (by kernel_rfl) (by kernel_rfl) (by kernel_rfl) (fun _ _ _ h => h) (Or.inl ⟨by rfl, ?hy5_6r9⟩) ⟨⟨ta0, ta1, ta2, ta3, ta4⟩, ⟨tb0, tb1, tb2, tb3, tb4⟩, ⟨tc0, tc1, tc2, tc3, tc4⟩⟩ ?rest5_6r9
  case hy5_6r9 => intro w hSw; (try dsimp only at hSw); go_simp; (try with_reducible rfl)
  case rest5_6r9 =>
  try simp only [List.getElem_toArray, List.getElem_cons_succ, List.getElem_cons_zero, Act.put, List.setIfInBounds_toArray, List.set_cons_zero, List.set_cons_succ]
  refine wpAnyG_take' (i := 6) (v := ?v6_7r9) rfl (by kernel_rfl) (by kernel_rfl) (by kernel_rfl) (by kernel_rfl) (fun _ _ _ h => h) (Or.inl ⟨by rfl, ?hy6_7r9⟩) ⟨⟨ta0, ta1, ta2, ta3, ta4⟩, ⟨tb0, tb1, tb2, tb3, tb4⟩, ⟨tc0, tc1, tc2, tc3, tc4⟩⟩ ?rest6_7r9
  case hy6_7r9 => intro w hSw; (try dsimp only at hSw); go_simp; (try with_reducible rfl)
  case rest6_7r9 =>
  try simp only [List.getElem_toArray, List.getElem_cons_succ, List.getElem_cons_zero, Act.put, List.setIfInBounds_toArray, List.set_cons_zero, List.set_cons_succ]
  refine wpAnyG_take' (i := 8) (v := ?v8_8r9) rfl (by kernel_rfl) (by kernel_rfl) (by kernel_rfl) (by kernel_rfl) (fun _ _ _ h => h) (Or.inl ⟨by rfl, ?hy8_8r9⟩) ⟨⟨ta0, ta1, ta2, ta3, ta4⟩, ⟨tb0, tb1, tb2, tb3, tb4⟩, ⟨tc0, tc1, tc2, tc3, tc4⟩⟩ ?rest8_8r9
  case hy8_8r9 => intro w hSw; (try dsimp only at hSw); go_simp; (try with_reducible rfl)
  case rest8_8r9 =>
  try simp only [List.getElem_toArray, List.getElem_cons_succ, List.getElem_cons_zero, Act.put, List.setIfInBounds_toArray, List.set_cons_zero, List.set_cons_succ]
  refine wpAnyG_take' (i := 9) (v := ?v9_9r9) rfl (by kernel_rfl) (by kernel_rfl) (by kernel_rfl) (by kernel_rfl) (fun _ _ _ h => h) (Or.inl ⟨by rfl, ?hy9_9r9⟩) ⟨⟨ta0, ta1, ta2, ta3, ta4⟩, ⟨tb0, tb1, tb2, tb3, tb4⟩, ⟨tc0, tc1, tc2, tc3, tc4⟩⟩ ?rest9_9r9
  case hy9_9r9 => intro w hSw; (try dsimp only at hSw); go_simp; (try with_reducible rfl)
  case rest9_9r9 =>
  try simp only [List.getElem_toArray, List.getElem_cons_succ, List.getElem_cons_zero, Act.put, List.setIfInBounds_toArray, List.set_cons_zero, List.set_cons_succ]
  refine wpAnyG_one (i := 7) (by kernel_rfl) rfl (fun K hK => ?_)
  go_simp
  refine Calls.mono HS2.out ?_
  rintro r9 w16 ⟨rfl, h16⟩
  obtain ⟨pa0, pa1, pa2, pa3, pa4⟩ := cells5 h16
  obtain ⟨pb0, pb1, pb2, pb3, pb4⟩ := cells5 h16.sw4
  obtain ⟨pc0, pc1, pc2, pc3, pc4⟩ := cells5 h16.sw3
  have HS3 := Lib.hid (rsame_any k s o n _ lo k' s' o' n' _ lp h16 (HL1.out _ h16.low) (HL2.out _ h16.low) (by rw [HE1.out]; have := HM1.out; omega))
  rw [HEB.out] at HS3
  clear h16
  go_wp2_with fail
  refine hK.out _ _ (fun _ => ?hS10r9) ?rest10r9
  case hS10r9 => exact ⟨⟨pa0, pa1, pa2, pa3, pa4⟩, ⟨pb0, pb1, pb2, pb3, pb4⟩, ⟨pc0, pc1, pc2, pc3, pc4⟩⟩
  clear K hK
  try simp only [List.getElem_toArray, List.getElem_cons_succ, List.getElem_cons_zero, Act.put, List.setIfInBounds_toArray, List.set_cons_zero, List.set_cons_succ]
  refine wpAnyG_one (i := 10) (by kernel_rfl) rfl (fun K hK => ?_)
  go_simp
  refine Calls.mono HS3.out ?_
  rintro r9 w17 ⟨rfl, h17⟩
  obtain ⟨qa0, qa1, qa2, qa3, qa4⟩ := cells5 h17
  obtain ⟨qb0, qb1, qb2, qb3, qb4⟩ := cells5 h17.sw4
  obtain ⟨qc0, qc1, qc2, qc3, qc4⟩ := cells5 h17.sw3
  have HS4 := Lib.hid (same_any k s o n _ lo k s o n _ lo h17 (HL1.out _ h17.low) (Sep.lnS h17.sw2) (by rw [HE1.out]; have := HM1.out; omega))
  rw [same_self] at HS4
  clear h17
  go_wp2_with fail
  refine hK.out _ _ (fun _ => ?hS11r9) ?rest11r9
  case hS11r9 => exact ⟨⟨qa0, qa1, qa2, qa3, qa4⟩, ⟨qb0, qb1, qb2, qb3, qb4⟩, ⟨qc0, qc1, qc2, qc3, qc4⟩⟩
  clear K hK
  try simp only [List.getElem_toArray, List.getElem_cons_succ, List.getElem_cons_zero, Act.put, List.setIfInBounds_toArray, List.set_cons_zero, List.set_cons_succ]
  refine wpAnyG_take' (i := 11) (v := ?v11_12r9) rfl (by kernel_rfl) (by kernel_rfl) (by kernel_rfl) (by kernel_rfl) (fun _ _ _ h => h) (Or.inl ⟨by rfl, ?hy11_12r9⟩) ⟨⟨qa0, qa1, qa2, qa3, qa4⟩, ⟨qb0, qb1, qb2, qb3, qb4⟩, ⟨qc0, qc1, qc2, qc3, qc4⟩⟩ ?rest11_12r9
  case hy11_12r9 => intro w hSw; (try dsimp only at hSw); go_simp; (try with_reducible rfl)
  case rest11_12r9 =>
  try simp only [List.getElem_toArray, List.getElem_cons_succ, List.getElem_cons_zero, Act.put, List.setIfInBounds_toArray, List.set_cons_zero, List.set_cons_succ]
  refine wpAnyG_take' (i := 12) (v := ?v12_13r9) rfl (by kernel_rfl) (by kernel_rfl) (by kernel_rfl) (by kernel_rfl) (fun _ _ _ h => h) (Or.inl ⟨by rfl, ?hy12_13r9⟩) ⟨⟨qa0, qa1, qa2, qa3, qa4⟩, ⟨qb0, qb1, qb2, qb3, qb4⟩, ⟨qc0, qc1, qc2, qc3, qc4⟩⟩ ?rest12_13r9
  case hy12_13r9 => intro w hSw; (try dsimp only at hSw); go_simp; (try with_reducible rfl)
  case rest12_13r9 =>
  try simp only [List.getElem_toArray, List.getElem_cons_succ, List.getElem_cons_zero, Act.put, List.setIfInBounds_toArray, List.set_cons_zero, List.set_cons_succ]
  refine wpAnyG_take' (i := 13) (v := ?v13_14r9) rfl (by kernel_rfl) (by kernel_rfl) (by kernel_rfl) (by kernel_rfl) (fun _ _ _ h => h) (Or.inl ⟨by rfl, ?hy13_14r9⟩) ⟨⟨qa0, qa1, qa2, qa3, qa4⟩, ⟨qb0, qb1, qb2, qb3, qb4⟩, ⟨qc0, qc1, qc2, qc3, qc4⟩⟩ ?rest13_14r9
  case hy13_14r9 => intro w hSw; (try dsimp only at hSw); go_simp; (try with_reducible rfl)
  case rest13_14r9 =>
  try simp only [List.getElem_toArray, List.getElem_cons_succ, List.getElem_cons_zero, Act.put, List.setIfInBounds_toArray, List.set_cons_zero, List.set_cons_succ]
  refine wpAnyG_take' (i := 14) (v := ?v14_15r9) rfl (by kernel_rfl) (by kernel_rfl) (by kernel_rfl) (by kernel_rfl) (fun _ _ _ h => h) (Or.inl ⟨by rfl, ?hy14_15r9⟩) ⟨⟨qa0, qa1, qa2, qa3, qa4⟩, ⟨qb0, qb1, qb2, qb3, qb4⟩, ⟨qc0, qc1, qc2, qc3, qc4⟩⟩ ?rest14_15r9
  case hy14_15r9 => intro w hSw; (try dsimp only at hSw); go_simp; (try with_reducible rfl)
  case rest14_15r9 =>
  try simp only [List.getElem_toArray, List.getElem_cons_succ, List.getElem_cons_zero, Act.put, List.setIfInBounds_toArray, List.set_cons_zero, List.set_cons_succ]
  refine wpAnyG_take' (i := 15) (v := ?v15_16r9) rfl (by kernel_rfl) (by kernel_rfl) (by kernel_rfl) (by kernel_rfl) (fun _ _ _ h => h) (Or.inl ⟨by rfl, ?hy15_16r9⟩) ⟨⟨qa0, qa1, qa2, qa3, qa4⟩, ⟨qb0, qb1, qb2, qb3, qb4⟩, ⟨qc0, qc1, qc2, qc3, qc4⟩⟩ ?rest15_16r9
  case hy15_16r9 => intro w hSw; (try dsimp only at hSw); go_simp; (try with_reducible rfl)
  case rest15_16r9 =>
  try simp only [List.getElem_toArray, List.getElem_cons_succ, List.getElem_cons_zero, Act.put, List.setIfInBounds_toArray, List.set_cons_zero, List.set_cons_succ]
  refine wpAnyG_one (i := 16) (by kernel_rfl) rfl (fun K hK => ?_)
  go_simp
  refine Calls.mono HS4.out ?_
  rintro r9 w18 ⟨rfl, h18⟩
  obtain ⟨va0, va1, va2, va3, va4⟩ := cells5 h18
  obtain ⟨vb0, vb1, vb2, vb3, vb4⟩ := cells5 h18.sw4
  obtain ⟨vc0, vc1, vc2, vc3, vc4⟩ := cells5 h18.sw3
  have HN1 := Lib.hid (name_any s.1 w18 s.2)
  have HN2 := Lib.hid (rname_any s.1 w18 s.2)
  rw [HNB.out] at HN1 HN2
  have H18 := Lib.hid h18
  clear h18
  go_wp2_with fail
  refine hK.out _ _ (fun _ => ?hS17r9) ?rest17r9
  case hS17r9 => exact ⟨⟨va0, va1, va2, va3, va4⟩, ⟨vb0, vb1, vb2, vb3, vb4⟩, ⟨vc0, vc1, vc2, vc3, vc4⟩⟩
  clear K hK
  try simp only [List.getElem_toArray, List.getElem_cons_succ, List.getElem_cons_zero, Act.put, List.setIfInBounds_toArray, List.set_cons_zero, List.set_cons_succ]
  refine wpAnyG_take' (i := 17) (v := ?v17_18r9) rfl (by kernel_rfl) (by kernel_rfl) (by kernel_rfl) (by kernel_rfl) (fun _ _ _ h => h) (Or.inl ⟨by rfl, ?hy17_18r9⟩) ⟨⟨va0, va1, va2, va3, va4⟩, ⟨vb0, vb1, vb2, vb3, vb4⟩, ⟨vc0, vc1, vc2, vc3, vc4⟩⟩ ?rest17_18r9
  case hy17_18r9 => intro w hSw; (try dsimp only at hSw); go_simp; (try with_reducible rfl)
  case rest17_18r9 =>
  try simp only [List.getElem_toArray, List.getElem_cons_succ, List.getElem_cons_zero, Act.put, List.setIfInBounds_toArray, List.set_cons_zero, List.set_cons_succ]
  refine wpAnyG_take' (i := 18) (v := ?v18_19r9) rfl (by kernel_rfl) (by kernel_rfl) (by kernel_rfl) (by kernel_rfl) (fun _ _ _ h => h) (Or.inl ⟨by rfl, ?hy18_19r9⟩) ⟨⟨va0, va1, va2, va3, va4⟩, ⟨vb0, vb1, vb2, vb3, vb4⟩, ⟨vc0, vc1, vc2, vc3, vc4⟩⟩ ?rest18_19r9
  case hy18_19r9 => intro w hSw; (try dsimp only at hSw); go_simp; (try with_reducible rfl)
  case rest18_19r9 =>
  try simp only [List.getElem_toArray, List.getElem_cons_succ, List.getElem_cons_zero, Act.put, List.setIfInBounds_toArray, List.set_cons_zero, List.set_cons_succ]
  refine wpAnyG_take' (i := 19) (v := ?v19_20r9) rfl (by kernel_rfl) (by kernel_rfl) (by kernel_rfl) (by kernel_rfl) (fun _ _ _ h => h) (Or.inl ⟨by rfl, ?hy19_20r9⟩) ⟨⟨va0, va1, va2, va3, va4⟩, ⟨vb0, vb1, vb2, vb3, vb4⟩, ⟨vc0, vc1, vc2, vc3, vc4⟩⟩ ?rest19_20r9
  case hy19_20r9 => intro w hSw; (try dsimp only at hSw); go_simp; (try with_reducible rfl)
  case rest19_20r9 =>
  try simp only [List.getElem_toArray, List.getElem_cons_succ, List.getElem_cons_zero, Act.put, List.setIfInBounds_toArray, List.set_cons_zero, List.set_cons_succ]
  refine wpAnyG_take' (i := 20) (v := ?v20_21r9) rfl (by kernel_rfl) (by kernel_rfl) (by kernel_rfl) (by kernel_rfl) (fun _ _ _ h => h) (Or.inl ⟨by rfl, ?hy20_21r9⟩) ⟨⟨va0, va1, va2, va3, va4⟩, ⟨vb0, vb1, vb2, vb3, vb4⟩, ⟨vc0, vc1, vc2, vc3, vc4⟩⟩ ?rest20_21r9
  case hy20_21r9 => intro w hSw; (try dsimp only at hSw); go_simp; (try with_reducible rfl)
  case rest20_21r9 =>
  try simp only [List.getElem_toArray, List.getElem_cons_succ, List.getElem_cons_zero, Act.put, List.setIfInBounds_toArray, List.set_cons_zero, List.set_cons_succ]
  refine wpAnyG_take' (i := 21) (v := ?v21_22r9) rfl (by kernel_rfl) (by kernel_rfl) (by kernel_rfl) (by kernel_rfl) (fun _ _ _ h => h) (Or.inl ⟨by rfl, ?hy21_22r9⟩) ⟨⟨va0, va1, va2, va3, va4⟩, ⟨vb0, vb1, vb2, vb3, vb4⟩, ⟨vc0, vc1, vc2, vc3, vc4⟩⟩ ?rest21_22r9
  case hy21_22r9 => intro w hSw; (try dsimp only at hSw); go_simp; (try with_reducible rfl)
  case rest21_22r9 =>
  try simp only [List.getElem_toArray, List.getElem_cons_succ, List.getElem_cons_zero, Act.put, List.setIfInBounds_toArray, List.set_cons_zero, List.set_cons_succ]
  refine wpAnyG_take' (i := 23) (v := ?v23_23r9) rfl (by kernel_rfl) (by kernel_rfl) (by kernel_rfl) (by kernel_rfl) (fun _ _ _ h => h) (Or.inl ⟨by rfl, ?hy23_23r9⟩) ⟨⟨va0, va1, va2, va3, va4⟩, ⟨vb0, vb1, vb2, vb3, vb4⟩, ⟨vc0, vc1, vc2, vc3, vc4⟩⟩ ?rest23_23r9
  case hy23_23r9 => intro w hSw; (try dsimp only at hSw); go_simp; (try with_reducible rfl)
  case rest23_23r9 =>
  try simp only [List.getElem_toArray, List.getElem_cons_succ, List.getElem_cons_zero, Act.put, List.setIfInBounds_toArray, List.set_cons_zero, List.set_cons_succ]
  refine wpAnyG_take' (i := 24) (v := ?v24_24r9) rfl (by kernel_rfl) (by kernel_rfl) (by kernel_rfl) (by kernel_rfl) (fun _ _ _ h => h) (Or.inl ⟨by rfl, ?hy24_24r9⟩) ⟨⟨va0, va1, va2, va3, va4⟩, ⟨vb0, vb1, vb2, vb3, vb4⟩, ⟨vc0, vc1, vc2, vc3, vc4⟩⟩ ?rest24_24r9
  case hy24_24r9 => intro w hSw; (try dsimp only at hSw); go_simp; (try with_reducible rfl)
  case rest24_24r9 =>
  try simp only [List.getElem_toArray, List.getElem_cons_succ, List.getElem_cons_zero, Act.put, List.setIfInBounds_toArray, List.set_cons_zero, List.set_cons_succ]
  refine wpAnyG_one (i := 22) (by kernel_rfl) rfl (fun K hK => ?_)
  go_simp
  refine Calls.mono HN1.out ?_
  rintro r9 w8' ⟨rfl, rfl⟩
  go_wp2_with fail
  refine hK.out _ _ (fun _ => ?hS25r9) ?rest25r9
  case hS25r9 => exact ⟨⟨va0, va1, va2, va3, va4⟩, ⟨vb0, vb1, vb2, vb3, vb4⟩, ⟨vc0, vc1, vc2, vc3, vc4⟩⟩
  clear K hK
  try simp only [List.getElem_toArray, List.getElem_cons_succ, List.getElem_cons_zero, Act.put, List.setIfInBounds_toArray, List.set_cons_zero, List.set_cons_succ]
  refine wpAnyG_one (i := 25) (by kernel_rfl) rfl (fun K hK => ?_)
  go_simp
  refine Calls.mono HN2.out ?_
  rintro r9 w8' ⟨rfl, rfl⟩
  go_wp2_with fail
  refine hK.out _ _ (fun _ => ?hS26r9) ?rest26r9
  case hS26r9 => exact ⟨⟨va0, va1, va2, va3, va4⟩, ⟨vb0, vb1, vb2, vb3, vb4⟩, ⟨vc0, vc1, vc2, vc3, vc4⟩⟩
  clear K hK
  try simp only [List.getElem_toArray, List.getElem_cons_succ, List.getElem_cons_zero, Act.put, List.setIfInBounds_toArray, List.set_cons_zero, List.set_cons_succ]
  refine wpAnyG_take' (i := 26) (v := ?v26_27r9) rfl (by kernel_rfl) (by kernel_rfl) (by kernel_rfl) (by kernel_rfl) (fun _ _ _ h => h) (Or.inl ⟨by rfl, ?hy26_27r9⟩) ⟨⟨va0, va1, va2, va3, va4⟩, ⟨vb0, vb1, vb2, vb3, vb4⟩, ⟨vc0, vc1, vc2, vc3, vc4⟩⟩ ?rest26_27r9
  case hy26_27r9 => intro w hSw; (try dsimp only at hSw); go_simp; (try with_reducible rfl)
  case rest26_27r9 =>
  try simp only [List.getElem_toArray, List.getElem_cons_succ, List.getElem_cons_zero, Act.put, List.setIfInBounds_toArray, List.set_cons_zero, List.set_cons_succ]
  refine wpAnyG_take' (i := 27) (v := ?v27_28r9) rfl (by kernel_rfl) (by kernel_rfl) (by kernel_rfl) (by kernel_rfl) (fun _ _ _ h => h) (Or.inl ⟨by rfl, ?hy27_28r9⟩) ⟨⟨va0, va1, va2, va3, va4⟩, ⟨vb0, vb1, vb2, vb3, vb4⟩, ⟨vc0, vc1, vc2, vc3, vc4⟩⟩ ?rest27_28r9
  case hy27_28r9 => intro w hSw; (try dsimp only at hSw); go_simp; (try with_reducible rfl)
  case rest27_28r9 =>
  try simp only [List.getElem_toArray, List.getElem_cons_succ, List.getElem_cons_zero, Act.put, List.setIfInBounds_toArray, List.set_cons_zero, List.set_cons_succ]
  refine wpAnyG_done (by kernel_rfl) ?_ _
  try simp only [List.getElem_toArray, List.getElem_cons_succ, List.getElem_cons_zero, Act.put, List.setIfInBounds_toArray, List.set_cons_zero, List.set_cons_succ]
  have h18 := H18.out
  clear H18 hS HS1 HS2 HS3 HS4 HN1 HN2 ta0 ta1 ta2 ta3 ta4 tb0 tb1 tb2 tb3 tb4 tc0 tc1 tc2 tc3 tc4 pa0 pa1 pa2 pa3 pa4 pb0 pb1 pb2 pb3 pb4 pc0 pc1 pc2 pc3 pc4 qa0 qa1 qa2 qa3 qa4 qb0 qb1 qb2 qb3 qb4 qc0 qc1 qc2 qc3 qc4
  have HRC := Lib.hid (rcopy_any k s o n _ lo h18 (HL1.out _ h18.low) (by rw [HE1.out]; have := HM1.out; omega))
  clear h18
  go_wp2_with fail
  refine HRC.out.mono ?_
  rintro r0 w19 ⟨uw, rfl, h19⟩
  obtain ⟨aw, cw, rfl, -⟩ := h19.rnForm
  have h20 := h19.alloc (.cells #[.int .i64 k, .string s.1, .int .i64 o, .int .i64 n, .slice aw lo.length cw] 24)
  obtain ⟨b16, hb16⟩ : ∃ z, z = w19.heap.size := ⟨_, rfl⟩
  obtain ⟨w20, hw20⟩ : ∃ z, z = w19.alloc (.cells #[.int .i64 k, .string s.1, .int .i64 o, .int .i64 n, .slice aw lo.length cw] 24) := ⟨_, rfl⟩
  rw [← hw20, ← hb16] at h20
  have HH20 : Hid (∀ x, x = lo.length → Sep w (LnR (.slice ax lo.length cx) lo :: Cl b16 #[.int .i64 k, .string s.1, .int .i64 o, .int .i64 n, .slice aw lo.length cw] 24 :: LnR (.slice aw lo.length cw) lo :: Cl b15 #[.int .i64 k, .string s.1, .int .i64 o, .int .i64 n, .slice ax lo.length cx] 24 :: Cl b3 #[.int .i64 k, .string s.1, .int .i64 o, .int .i64 n, .slice a1 m1 c1] 24 :: []) w20) := Lib.hid (fun _ _ => h20.pick [3, 0, 1, 2, 5] rfl)
  have HW20 := Lib.hid hw20
  have HB16 := Lib.hid hb16
  have c20 := cells5 h20.sw3
  obtain ⟨x0, x1, x2, x3, x4⟩ := c20
  clear h19 h20 hw20 hb16 HRC
  go_wp2_with fail
  rw [← HW20.out, ← HB16.out]
  have H20 := Lib.hid (HH20.out _ rfl)
  have HLO : Hid (lo.length ≤ 8) := Lib.hid (by rw [HE1.out]; exact HM1.out)
  clear HW20 HB16 HH20 x0 x1 x2 x3 x4
  go_loopw [17] (fun i wr => ∃ (j : Nat) (lx : List Ln), j ≤ lo.length ∧ i = .int .i64 j ∧ lx.length = lo.length ∧ Sep w (LnR (.slice ax lo.length cx) lx :: Cl b16 #[.int .i64 k, .string s.1, .int .i64 o, .int .i64 n, .slice aw lo.length cw] 24 :: LnR (.slice aw lo.length cw) lo :: Cl b15 #[.int .i64 k, .string s.1, .int .i64 o, .int .i64 n, .slice ax lo.length cx] 24 :: Cl b3 #[.int .i64 k, .string s.1, .int .i64 o, .int .i64 n, .slice a1 m1 c1] 24 :: []) wr) (fun i _ => lo.length - (intOf i).toNat)
  case atStart => exact ⟨0, lo, Nat.zero_le _, rfl, rfl, H20.out⟩
  case round =>
    obtain ⟨j, lx, hj, rfl, hlx, hs⟩ := hrel
    clear H20
    have j0 : (0 : Int) ≤ (j : Int) := by omega
    have j8 : (j : Int) ≤ 8 := by have := HLO.out; omega
    obtain ⟨x0, x1, x2, x3, x4⟩ := cells5 hs.sw4
    by_cases hjn : j < lo.length
    · have hd : decide (j < lo.length) = true := decide_eq_true hjn
      have j1 : (j : Int) < (lo.length : Int) := by omega
      have hjx : j < lx.length := by omega
      obtain ⟨bx, c5, hv5, hlc, hcm, hb5, hxl, e5, g5, hset⟩ := hs.rnSet (by omega)
      simp only [Value.slice.injEq] at hv5
      obtain ⟨rfl, -, rfl⟩ := hv5
      have e6 := e5 (j * 2 + 1) (by rw [hxl]; omega)
      have hcl := (lnCells_at lx j hjx).2
      rw [(List.getElem?_eq_some_iff.1 hcl).2] at e6
      have g6 := g5 (j * 2 + 1)
      have hx := hset (j * 2 + 1) (.int .i64 (-9)) (by rw [hxl]; omega)
      rw [lnCells_put lx j _ hjx] at hx
      have HX := Lib.hid (show Sep w (LnR (.slice (some ⟨bx, 0, none⟩) lo.length cx) (lx.set j (lx[j].1, -9)) :: Cl b16 #[.int .i64 k, .string s.1, .int .i64 o, .int .i64 n, .slice aw lo.length cw] 24 :: LnR (.slice aw lo.length cw) lo :: Cl b15 #[.int .i64 k, .string s.1, .int .i64 o, .int .i64 n, .slice (some ⟨bx, 0, none⟩) lo.length cx] 24 :: Cl b3 #[.int .i64 k, .string s.1, .int .i64 o, .int .i64 n, .slice a1 m1 c1] 24 :: []) (wr.setCell ⟨bx, j * 2 + 1, none⟩ (.int .i64 (-9))) from by
        unfold LnR
        rw [List.length_set]
        exact hx)
      have HJ := Lib.hid (And.intro hjn hlx)
      generalize lx[j].2 = y at *
      generalize lx[j].1 = nm at *
      clear hs hx hset e5 g5 hcl hxl hlc hlx hjx hjn
      go_wp2_with fail
      go_roundw
      case rel => exact ⟨j + 1, _, by have := HJ.out.1; omega, by go_num, by rw [List.length_set]; exact HJ.out.2, HX.out⟩
      case measure => have := HJ.out.1; simp [intOf]; omega
    · have hd : decide (j < lo.length) = false := decide_eq_false hjn
      obtain ⟨y0, y1, y2, y3, y4⟩ := cells5 hs.sw5
      obtain ⟨z0, z1, z2, z3, z4⟩ := cells5 hs.sw2
      have HSM := Lib.hid (rsame_any k s o n _ lo k s o n _ lo hs (HL1.out _ hs.low) (Sep.lnS hs.sw3) (by have := HLO.out; omega))
      rw [same_self] at HSM
      clear hs hjn hlx
      go_wp2_with fail
      refine HSM.out.mono ?_
      rintro r0 w21 ⟨rfl, h21⟩
      have HW := Lib.hid (works_any h21 (HK.out.below h21.low))
      clear h21 HSM
      go_wp2_with (refine HW.out.mono ?_; rintro r0 w22 ⟨rfl, h22⟩)
      go_ret
      exact ⟨rfl, h22.low⟩
end Go.Proofs.YtfjodadmcfdlpaaDoor
