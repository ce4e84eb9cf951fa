/- The statement ItemBack. -/
import Derived.Test.YtfjodadmcfdlpaaDoorItem20
import Derived.Test.YtfjodadmcfdlpaaDoorItem14
import Derived.Test.YtfjodadmcfdlpaaDoorItem10
import Derived.Test.YtfjodadmcfdlpaaDoorItem11
import Derived.Test.YtfjodadmcfdlpaaDoorOpOpen
import Derived.Test.YtfjodadmcfdlpaaDoorHeldTwo
namespace Go.Proofs.YtfjodadmcfdlpaaDoor
open Go.RowKit
set_option linter.unusedVariables false
set_option linter.unusedSimpArgs false
theorem resB_mod (c a b : Int) : resB (c % 7) (a % 2147483647) (b % 2147483647) = true := by unfold resB; exact decide_eq_true (by omega)
theorem resBs_len (c a b : Int) : (resBs c a b).length ≤ 21 := by
  have h1 := vint_len a.toNat
  have h2 := vint_len b.toNat
  unfold resBs
  simp only [List.length_append, List.length_singleton]
  omega
set_option maxRecDepth 100000 in
set_option maxHeartbeats 16000000 in
theorem back03 (k : Int) (s : KS) (o n : Int) (v : Value) (ls : List Ln) (rc ra rb : Int) (w : World) (hv : LnS w v ls) (hk : KindsAt w) :
    Calls Tryd.prog 5 #[.agg #[.int .i64 k, .string s.1, .int .i64 o, .int .i64 n, v], .agg #[.int .i64 rc, .int .i64 ra, .int .i64 rb]] w fun e w' => e = .returned (.bool true) ∧ Below w.heap.size w w' := by
  obtain ⟨a, c, rfl⟩ := hv.len
  have h1 := ((Sep.start w).alloc (.cells (opCells k s o n (.slice a ls.length c)) 24)).alloc (.cells #[.int .i64 rc, .int .i64 ra, .int .i64 rb] 26)
  rw [show (w.alloc (.cells (opCells k s o n (.slice a ls.length c)) 24)).heap.size = w.heap.size + 1 by simp] at h1
  have HW1 := Lib.hid (works_any h1 (hk.below h1.low))
  have HC := Lib.hid (fun wx => bring_any rc 7 wx (by unfold Sm; omega))
  have HA := Lib.hid (fun wx => bring_any ra 2147483647 wx (by unfold Sm; omega))
  have HB := Lib.hid (fun wx => bring_any rb 2147483647 wx (by unfold Sm; omega))
  have HRB := Lib.hid (resB_mod rc ra rb)
  generalize rc % 7 = qc at *
  generalize ra % 2147483647 = qa at *
  generalize rb % 2147483647 = qb at *
  obtain ⟨w1, hw1⟩ : ∃ z, z = (w.alloc (.cells (opCells k s o n (.slice a ls.length c)) 24)).alloc (.cells #[.int .i64 rc, .int .i64 ra, .int .i64 rb] 26) := ⟨_, rfl⟩
  obtain ⟨b2, hb2⟩ : ∃ z, z = w.heap.size := ⟨_, rfl⟩
  obtain ⟨b3, hb3⟩ : ∃ z, z = w.heap.size + 1 := ⟨_, rfl⟩
  rw [← hw1, ← hb3, ← hb2] at HW1
  have HV := Lib.hid hv
  have HK := Lib.hid hk
  unfold opCells at hw1 HW1
  clear h1 hv hk
  go_enter Tryd.func5, Tryd.ntmps5
  go_wp2_with fail
  rw [← hw1, ← hb3, ← hb2]
  refine HW1.out.mono ?_
  rintro r0 w2 ⟨rfl, h2⟩
  clear hw1 hb2 hb3 HW1
  obtain ⟨c0, c1, c2, c3, c4⟩ := cells5 h2.sw2
  have HM := Lib.hid (made_any k s o n _ ls h2 (HV.out.below h2.low))
  have H2 := Lib.hid h2
  clear h2
  go_wp2_with fail
  refine HM.out.mono ?_
  rintro r0 w3 ⟨p, u, rfl, hok, h3⟩
  clear c0 c1 c2 c3 c4 H2 HM
  obtain ⟨a3, c3, rfl, -⟩ := h3.rnForm
  obtain ⟨c0, c1, c2, c3', c4⟩ := cells5 h3.sw3
  obtain ⟨f0, f1, f2, f3, f4⟩ := frz5 h3.sw3
  have h4 := store5 (u0 := .int .i64 p.k) (u1 := .string p.s.1) (u2 := .int .i64 p.o) (u3 := .int .i64 p.n) (u4 := .slice a3 p.ls.length c3) h3.sw3
  obtain ⟨k0, k1, k2, k3, k4⟩ := cells5 h4
  have HBY := Lib.hid (bytes_ok p.k p.s p.o p.n _ p.ls h4 (Sep.lnS h4.sw2) (HK.out.below h4.low) hok)
  have HOK := Lib.hid hok
  have HBL := Lib.hid (opBs_len hok)
  have HPB := Lib.hid (prs_back hok)
  clear h3 h4 hok
  go_wp2_with fail
  refine HBY.out.mono ?_
  rintro r0 w5 ⟨u5, rfl, h5⟩
  clear c0 c1 c2 c3' c4 f0 f1 f2 f3 f4 k0 k1 k2 k3 k4 HBY
  have HP := Lib.hid (parse_any u5 _ h5 h5.sl (HK.out.below h5.low) (by have := HBL.out; omega))
  clear h5
  go_wp2_with fail
  refine HP.out.mono ?_
  rintro r0 w6 ⟨p6, err, u6, rfl, hp, h6⟩
  rw [HPB.out] at hp
  obtain ⟨rfl, rfl⟩ := Prod.mk.inj hp
  try dsimp only at h6 ⊢
  obtain ⟨a6, c6, rfl, -⟩ := h6.rnForm
  have h7 := h6.alloc (.cells #[.int .i64 p.k, .string p.s.1, .int .i64 p.o, .int .i64 p.n, .slice a6 p.ls.length c6] 24)
  have H7 := Lib.hid h7
  obtain ⟨x0, x1, x2⟩ := cells3 h7.sw6
  obtain ⟨y0, y1, y2, -, -⟩ := frz5 h7.sw6
  obtain ⟨b7, hb7⟩ : ∃ z, z = w6.heap.size := ⟨_, rfl⟩
  obtain ⟨w7, hw7⟩ : ∃ z, z = w6.alloc (.cells #[.int .i64 p.k, .string p.s.1, .int .i64 p.o, .int .i64 p.n, .slice a6 p.ls.length c6] 24) := ⟨_, rfl⟩
  rw [← hw7, ← hb7] at H7
  rw [← hw7] at x0 x1 x2 y0 y1 y2
  clear hp HP h6 h7 HPB
  go_wp2_with fail
  rw [← hw7, ← hb7]
  clear hw7 hb7
  refine wp_region_G (fun w' => w'.cell? ⟨b3, 0, none⟩ = some (.int .i64 rc) ∧ w'.cell? ⟨b3, 1, none⟩ = some (.int .i64 ra) ∧ w'.cell? ⟨b3, 2, none⟩ = some (.int .i64 rb)) [10] (by kernel_rfl) ⟨x0, x1, x2⟩ (fun hS => ?_)
  try dsimp only at hS
  refine wpAnyG_take' (i := 0) (v := ?v0_1) rfl (by kernel_rfl) (by kernel_rfl) (by kernel_rfl) (by kernel_rfl) (fun _ _ _ h => h) (Or.inl ⟨by rfl, ?hy0_1⟩) hS ?rest0_1
  case hy0_1 => intro w hSw; (try dsimp only at hSw); go_simp; (try with_reducible rfl)
  case rest0_1 =>
  try simp only [Act.put, List.setIfInBounds_toArray, List.set_cons_zero, List.set_cons_succ]
  refine wpAnyG_take' (i := 1) (v := ?v1_2) rfl (by kernel_rfl) (by kernel_rfl) (by kernel_rfl) (by kernel_rfl) (fun _ _ _ h => h) (Or.inl ⟨by rfl, ?hy1_2⟩) hS ?rest1_2
  case hy1_2 => intro w hSw; (try dsimp only at hSw); go_simp; (try with_reducible rfl)
  case rest1_2 =>
  try simp only [Act.put, List.setIfInBounds_toArray, List.set_cons_zero, List.set_cons_succ]
  refine wpAnyG_take' (i := 3) (v := ?v3_3) rfl (by kernel_rfl) (by kernel_rfl) (by kernel_rfl) (by kernel_rfl) (fun _ _ _ h => h) (Or.inl ⟨by rfl, ?hy3_3⟩) hS ?rest3_3
  case hy3_3 => intro w hSw; (try dsimp only at hSw); go_simp; (try with_reducible rfl)
  case rest3_3 =>
  try simp only [Act.put, List.setIfInBounds_toArray, List.set_cons_zero, List.set_cons_succ]
  refine wpAnyG_take' (i := 4) (v := ?v4_4) rfl (by kernel_rfl) (by kernel_rfl) (by kernel_rfl) (by kernel_rfl) (fun _ _ _ h => h) (Or.inl ⟨by rfl, ?hy4_4⟩) hS ?rest4_4
  case hy4_4 => intro w hSw; (try dsimp only at hSw); go_simp; (try with_reducible rfl)
  case rest4_4 =>
  try simp only [Act.put, List.setIfInBounds_toArray, List.set_cons_zero, List.set_cons_succ]
  refine wpAnyG_take' (i := 6) (v := ?v6_5) rfl (by kernel_rfl) (by kernel_rfl) (by kernel_rfl) (by kernel_rfl) (fun _ _ _ h => h) (Or.inl ⟨by rfl, ?hy6_5⟩) hS ?rest6_5
  case hy6_5 => intro w hSw; (try dsimp only at hSw); go_simp; (try with_reducible rfl)
  case rest6_5 =>
  try simp only [Act.put, List.setIfInBounds_toArray, List.set_cons_zero, List.set_cons_succ]
  refine wpAnyG_take' (i := 7) (v := ?v7_6) rfl (by kernel_rfl) (by kernel_rfl) (by kernel_rfl) (by kernel_rfl) (fun _ _ _ h => h) (Or.inl ⟨by rfl, ?hy7_6⟩) hS ?rest7_6
  case hy7_6 => intro w hSw; (try dsimp only at hSw); go_simp; (try with_reducible rfl)
  case rest7_6 =>
  try simp only [Act.put, List.setIfInBounds_toArray, List.set_cons_zero, List.set_cons_succ]
  refine wpAnyG_one (i := 2) (by kernel_rfl) rfl (fun K hK => ?_)
  go_simp
  refine Calls.mono (HC.out _) ?_
  rintro r9 w9 ⟨rfl, rfl⟩
  go_wp2_with fail
  refine hK.out _ _ (fun _ => ?hS7) ?rest7
  case hS7 => exact ⟨x0, x1, x2⟩
  clear K hK
  try simp only [Act.put, List.setIfInBounds_toArray, List.set_cons_zero, List.set_cons_succ]
  refine wpAnyG_one (i := 5) (by kernel_rfl) rfl (fun K hK => ?_)
  go_simp
  refine Calls.mono (HA.out _) ?_
  rintro r9 w9 ⟨rfl, rfl⟩
  go_wp2_with fail
  refine hK.out _ _ (fun _ => ?hS8) ?rest8
  case hS8 => exact ⟨x0, x1, x2⟩
  clear K hK
  try simp only [Act.put, List.setIfInBounds_toArray, List.set_cons_zero, List.set_cons_succ]
  refine wpAnyG_one (i := 8) (by kernel_rfl) rfl (fun K hK => ?_)
  go_simp
  refine Calls.mono (HB.out _) ?_
  rintro r9 w9 ⟨rfl, rfl⟩
  go_wp2_with fail
  refine hK.out _ _ (fun _ => ?hS9) ?rest9
  case hS9 => exact ⟨x0, x1, x2⟩
  clear K hK
  try simp only [Act.put, List.setIfInBounds_toArray, List.set_cons_zero, List.set_cons_succ]
  refine wpAnyG_take' (i := 9) (v := ?v9_10) rfl (by kernel_rfl) (by kernel_rfl) (by kernel_rfl) (by kernel_rfl) (fun _ _ _ h => h) (Or.inl ⟨by rfl, ?hy9_10⟩) ⟨x0, x1, x2⟩ ?rest9_10
  case hy9_10 => intro w hSw; (try dsimp only at hSw); go_simp; (try with_reducible rfl)
  case rest9_10 =>
  try simp only [Act.put, List.setIfInBounds_toArray, List.set_cons_zero, List.set_cons_succ]
  refine wpAnyG_one (i := 10) (by kernel_rfl) rfl (fun K hK => ?_)
  go_simp
  refine hK.out _ _ (fun hno => by cases hno) ?_
  clear K hK
  try simp only [Act.put, List.setIfInBounds_toArray, List.set_cons_zero, List.set_cons_succ]
  refine wpAnyG_done (by kernel_rfl) ?_ _
  have h8 := store3 (u0 := .int .i64 qc) (u1 := .int .i64 qa) (u2 := .int .i64 qb) H7.out.sw6
  obtain ⟨z0, z1, z2⟩ := cells3 h8
  have HBR := Lib.hid (bytesRes_ok qc qa qb h8.drew HRB.out)
  have HRBK := Lib.hid (prsRes_back HRB.out)
  clear h8 H7 x0 x1 x2 y0 y1 y2 hS
  go_wp2_with fail
  refine HBR.out.mono ?_
  rintro r0 w9 ⟨u9, rfl, h9⟩
  clear z0 z1 z2 HBR
  have HPR := Lib.hid (parseRes_any u9 _ h9 h9.sl (by have := resBs_len qc qa qb; omega))
  clear h9
  go_wp2_with fail
  refine HPR.out.mono ?_
  rintro r0 w10 ⟨q, er, rfl, hq, h10⟩
  rw [HRBK.out] at hq
  obtain ⟨rfl, rfl⟩ := Prod.mk.inj hq
  try dsimp only at h10 ⊢
  have h11 := h10.alloc (.cells #[.int .i64 qc, .int .i64 qa, .int .i64 qb] 26)
  obtain ⟨c0, c1, c2, c3', c4⟩ := cells5 h11.sw7
  have HCK := Lib.hid (check_any p.k p.s p.o p.n _ p.ls h11 (Sep.lnS h11.sw8) (HK.out.below h11.low))
  rw [show okB p.k p.s p.o p.n p.ls = true from HOK.out] at HCK
  have hll := ok_len HOK.out
  clear h10 h11 HPR HRBK hq
  go_wp2_with fail
  refine HCK.out.mono ?_
  rintro r0 w12 ⟨rfl, h12⟩
  clear c0 c1 c2 c3' c4 HCK
  obtain ⟨c0, c1, c2, c3', c4⟩ := cells5 h12.sw7
  obtain ⟨d0, d1, d2, d3, d4⟩ := cells5 h12.sw4
  have HSM := Lib.hid (same_any p.k p.s p.o p.n _ p.ls p.k p.s p.o p.n _ p.ls h12 (Sep.lnS h12.sw8) (Sep.lnS h12.sw5) (by omega))
  rw [same_self] at HSM
  clear h12 hll
  go_wp2_with fail
  refine HSM.out.mono ?_
  rintro r0 w13 ⟨rfl, h13⟩
  clear c0 c1 c2 c3' c4 d0 d1 d2 d3 d4 HSM
  obtain ⟨z0, z1, z2⟩ := cells3 h13.sw3
  have h14 := h13.alloc0 (.cells #[.int .i64 qc, .int .i64 qa, .int .i64 qb] 26)
  have HR := Lib.hid (res_any qc qa qb w13)
  rw [HRB.out] at HR
  obtain ⟨w14, hw14⟩ : ∃ z, z = w13.alloc (.cells #[.int .i64 qc, .int .i64 qa, .int .i64 qb] 26) := ⟨_, rfl⟩
  rw [← hw14] at h14 HR
  obtain ⟨t0, t1, t2⟩ := cells3 h14.sw3
  obtain ⟨v0, v1, v2⟩ := cells3 h14
  have HLOW := Lib.hid h14.low
  clear h13 h14 hw14
  go_wp2_with (refine HR.out.mono ?_; rintro r0 w15 ⟨rfl, rfl⟩)
  go_ret
  exact ⟨rfl, HLOW.out⟩
end Go.Proofs.YtfjodadmcfdlpaaDoor
