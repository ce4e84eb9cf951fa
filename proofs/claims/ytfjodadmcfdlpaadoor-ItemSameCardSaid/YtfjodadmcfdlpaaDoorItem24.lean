/- The statement ItemSame: Lines. -/
import Derived.Test.YtfjodadmcfdlpaaDoorItem23
namespace Go.Proofs.YtfjodadmcfdlpaaDoor
open Go.RowKit
set_option linter.unusedVariables false
set_option linter.unusedSimpArgs false
set_option maxRecDepth 100000 in
set_option maxHeartbeats 16000000 in
theorem same_4 (k : Int) (s : KS) (o n : Int) (v : Value) (ls : List Ln) (which by_ : Int) (w : World) (hv : LnS w v ls) (hk : KindsAt w) (hb : -9223372036854775808 ≤ by_ ∧ by_ ≤ 9223372036854775807) (hby : by_ ≠ 0) (hq : which % 6 = 4) :
    Calls Tryd.prog 7 #[.agg #[.int .i64 k, .string s.1, .int .i64 o, .int .i64 n, v], .int .i64 which, .int .i64 by_] w fun e w' => e = .returned (.bool true) ∧ Below w.heap.size w w' := by
  obtain ⟨a, c, rfl⟩ := hv.len
  have h1 := (Sep.start w).alloc (.cells (opCells k s o n (.slice a ls.length c)) 24)
  have HM := Lib.hid (made_any k s o n _ ls h1 (hv.below h1.low))
  have H1 := Lib.hid h1
  obtain ⟨w1, hw1⟩ : ∃ z, z = w.alloc (.cells (opCells k s o n (.slice a ls.length c)) 24) := ⟨_, rfl⟩
  obtain ⟨b3, hb3⟩ : ∃ z, z = w.heap.size := ⟨_, rfl⟩
  rw [← hw1, ← hb3] at HM
  have HV := Lib.hid hv
  have HK := Lib.hid hk
  unfold opCells at hw1 h1
  have HY := Lib.hid (And.intro hb hby)
  have hy0 : (by_ == 0) = false := by rw [beq_eq_false_iff_ne]; exact hby
  have HB1 := Lib.hid (fun wx => bring_any which 6 wx (by unfold Sm; omega))
  rw [hq] at HB1
  clear hb hby hq
  clear h1 hv hk H1
  go_enter Tryd.func7, Tryd.ntmps7
  go_wp2_with fail
  rw [← hw1, ← hb3]
  clear hw1 hb3
  refine HM.out.mono ?_
  rintro r0 w3 ⟨p, u, rfl, hok, h3⟩
  clear HM
  obtain ⟨a3, c3, rfl, -⟩ := h3.rnForm
  obtain ⟨c0, c1, c2, c3', c4⟩ := cells5 h3.sw2
  obtain ⟨f0, f1, f2, f3, f4⟩ := frz5 h3.sw2
  have h4 := store5 (u0 := .int .i64 p.k) (u1 := .string p.s.1) (u2 := .int .i64 p.o) (u3 := .int .i64 p.n) (u4 := .slice a3 p.ls.length c3) h3.sw2
  obtain ⟨k0, k1, k2, k3, k4⟩ := cells5 h4
  have hll := ok_len hok
  have HLL := Lib.hid hll
  have HCP := Lib.hid (copy_any p.k p.s p.o p.n _ p.ls h4 (Sep.lnS h4.sw2) (by omega))
  have HOK := Lib.hid hok
  clear h3 h4 hok hll
  go_wp2_with fail
  refine HCP.out.mono ?_
  rintro r0 w5 ⟨u5, rfl, h5⟩
  clear c0 c1 c2 c3' c4 f0 f1 f2 f3 f4 k0 k1 k2 k3 k4 HCP
  obtain ⟨a5, c5, rfl, -⟩ := h5.rnForm
  have h6 := h5.alloc (.cells #[.int .i64 p.k, .string p.s.1, .int .i64 p.o, .int .i64 p.n, .slice a5 p.ls.length c5] 24)
  obtain ⟨b7, hb7⟩ : ∃ z, z = w5.heap.size := ⟨_, rfl⟩
  have hne : b7 ≠ b3 := by
    have := h5.sw2.blk_lt.2
    omega
  rw [← hb7] at h6
  obtain ⟨c0, c1, c2, c3', c4⟩ := cells5 h6.sw3
  obtain ⟨d0, d1, d2, d3, d4⟩ := cells5 h6
  have HS1 := Lib.hid (same_any p.k p.s p.o p.n _ p.ls p.k p.s p.o p.n _ p.ls h6 (Sep.lnS h6.sw4) (Sep.lnS h6.sw2) (by have := HLL.out; omega))
  rw [same_self] at HS1
  clear h5 h6
  have hne2 : (b7 == b3) = false := by rw [beq_eq_false_iff_ne]; exact hne
  have hne3 : (b3 == b7) = false := by rw [beq_eq_false_iff_ne]; exact hne.symm
  go_wp2_with fail
  try rw [← hb7]
  try clear hb7
  try go_wp2_with fail
  refine HS1.out.mono ?_
  rintro r0 w6 ⟨rfl, h6⟩
  clear c0 c1 c2 c3' c4 d0 d1 d2 d3 d4 HS1
  obtain ⟨c0, c1, c2, c3', c4⟩ := cells5 h6.sw3
  obtain ⟨d0, d1, d2, d3, d4⟩ := cells5 h6
  have HS1 := Lib.hid (same_any p.k p.s p.o p.n _ p.ls p.k p.s p.o p.n _ p.ls h6 (Sep.lnS h6.sw2) (Sep.lnS h6.sw4) (by have := HLL.out; omega))
  rw [same_self] at HS1
  clear h6
  go_wp2_with fail
  refine HS1.out.mono ?_
  rintro r0 w7 ⟨rfl, h7⟩
  clear c0 c1 c2 c3' c4 d0 d1 d2 d3 d4 HS1
  obtain ⟨c0, c1, c2, c3', c4⟩ := cells5 h7.sw3
  obtain ⟨d0, d1, d2, d3, d4⟩ := cells5 h7
  have H7 := Lib.hid h7
  clear h7
  go_wp2_with fail
  refine (HB1.out _).mono ?_
  rintro r0 w8 ⟨rfl, rfl⟩
  clear HB1
  obtain ⟨a8, c8, w8, hr, h8⟩ := app_line3 (ty := 22) ⟨⟨#[]⟩, Nat.zero_le _⟩ 0 H7.out.sw2 (by have := HLL.out; omega) w7.heap.size rfl
  dsimp only at hr
  have HR := Lib.hid hr
  obtain ⟨x0, x1, x2, x3, x4⟩ := cells5 h8.sw2
  obtain ⟨g0, g1, g2, g3, g4⟩ := frz5 h8.sw2
  have HUN := Lib.hid (unlike_l (p := p) (l := p.ls ++ [((⟨⟨#[]⟩, Nat.zero_le _⟩ : KS), 0)]) (by simp))
  have hx : Sep w (Cl b7 #[.int .i64 p.k, .string p.s.1, .int .i64 p.o, .int .i64 p.n, (.slice a8 (p.ls.length + 1) c8)] 24 :: LnR (.slice a8 (p.ls.length + 1) c8) (p.ls ++ [((⟨⟨#[]⟩, Nat.zero_le _⟩ : KS), 0)]) :: _) (w8.setCell ⟨b7, 4, none⟩ (.slice a8 (p.ls.length + 1) c8)) := h8.sw2.setCell 4 (.slice a8 (p.ls.length + 1) c8)
  clear H7 hr h8
  obtain ⟨y0, y1, y2, y3, y4⟩ := cells5 hx.sw3
  obtain ⟨z0, z1, z2, z3, z4⟩ := cells5 hx
  have HS1 := Lib.hid (same_any p.k p.s p.o p.n _ p.ls p.k p.s p.o p.n _ (p.ls ++ [((⟨⟨#[]⟩, Nat.zero_le _⟩ : KS), 0)]) hx (Sep.lnS hx.sw4) (Sep.lnS hx.sw2) (by have := HLL.out; omega))
  rw [HUN.out.ab] at HS1
  clear hx
  go_wp2_with (at_builtin; refine wpList_append_run rfl _ _ _ _ rfl rfl rfl HR.out ?_)
  refine HS1.out.mono ?_
  rintro r0 w9 ⟨rfl, hx⟩
  clear y0 y1 y2 y3 y4 z0 z1 z2 z3 z4 HS1
  obtain ⟨y0, y1, y2, y3, y4⟩ := cells5 hx.sw3
  obtain ⟨z0, z1, z2, z3, z4⟩ := cells5 hx
  have HS1 := Lib.hid (same_any p.k p.s p.o p.n _ (p.ls ++ [((⟨⟨#[]⟩, Nat.zero_le _⟩ : KS), 0)]) p.k p.s p.o p.n _ p.ls hx (Sep.lnS hx.sw2) (Sep.lnS hx.sw4) (by have := HLL.out; simp; omega))
  rw [HUN.out.ba] at HS1
  clear hx
  go_wp2_with fail
  refine HS1.out.mono ?_
  rintro r0 w10 ⟨rfl, hx⟩
  have HW := Lib.hid (works_any hx (HK.out.below hx.low))
  clear hx HS1 y0 y1 y2 y3 y4 z0 z1 z2 z3 z4
  go_wp2_with (refine HW.out.mono ?_; rintro r0 w11 ⟨rfl, h11⟩)
  go_ret
  exact ⟨rfl, h11.low⟩
set_option maxRecDepth 100000 in
set_option maxHeartbeats 16000000 in
theorem same_5 (k : Int) (s : KS) (o n : Int) (v : Value) (ls : List Ln) (which by_ : Int) (w : World) (hv : LnS w v ls) (hk : KindsAt w) (hb : -9223372036854775808 ≤ by_ ∧ by_ ≤ 9223372036854775807) (hby : by_ ≠ 0) (hq : which % 6 = 5) :
    Calls Tryd.prog 7 #[.agg #[.int .i64 k, .string s.1, .int .i64 o, .int .i64 n, v], .int .i64 which, .int .i64 by_] w fun e w' => e = .returned (.bool true) ∧ Below w.heap.size w w' := by
  obtain ⟨a, c, rfl⟩ := hv.len
  have h1 := (Sep.start w).alloc (.cells (opCells k s o n (.slice a ls.length c)) 24)
  have HM := Lib.hid (made_any k s o n _ ls h1 (hv.below h1.low))
  have H1 := Lib.hid h1
  obtain ⟨w1, hw1⟩ : ∃ z, z = w.alloc (.cells (opCells k s o n (.slice a ls.length c)) 24) := ⟨_, rfl⟩
  obtain ⟨b3, hb3⟩ : ∃ z, z = w.heap.size := ⟨_, rfl⟩
  rw [← hw1, ← hb3] at HM
  have HV := Lib.hid hv
  have HK := Lib.hid hk
  unfold opCells at hw1 h1
  have HY := Lib.hid (And.intro hb hby)
  have hy0 : (by_ == 0) = false := by rw [beq_eq_false_iff_ne]; exact hby
  have HB1 := Lib.hid (fun wx => bring_any which 6 wx (by unfold Sm; omega))
  rw [hq] at HB1
  clear hb hby hq
  clear h1 hv hk H1
  go_enter Tryd.func7, Tryd.ntmps7
  go_wp2_with fail
  rw [← hw1, ← hb3]
  clear hw1 hb3
  refine HM.out.mono ?_
  rintro r0 w3 ⟨p, u, rfl, hok, h3⟩
  clear HM
  obtain ⟨a3, c3, rfl, -⟩ := h3.rnForm
  obtain ⟨c0, c1, c2, c3', c4⟩ := cells5 h3.sw2
  obtain ⟨f0, f1, f2, f3, f4⟩ := frz5 h3.sw2
  have h4 := store5 (u0 := .int .i64 p.k) (u1 := .string p.s.1) (u2 := .int .i64 p.o) (u3 := .int .i64 p.n) (u4 := .slice a3 p.ls.length c3) h3.sw2
  obtain ⟨k0, k1, k2, k3, k4⟩ := cells5 h4
  have hll := ok_len hok
  have HLL := Lib.hid hll
  have HCP := Lib.hid (copy_any p.k p.s p.o p.n _ p.ls h4 (Sep.lnS h4.sw2) (by omega))
  have HOK := Lib.hid hok
  clear h3 h4 hok hll
  go_wp2_with fail
  refine HCP.out.mono ?_
  rintro r0 w5 ⟨u5, rfl, h5⟩
  clear c0 c1 c2 c3' c4 f0 f1 f2 f3 f4 k0 k1 k2 k3 k4 HCP
  obtain ⟨a5, c5, rfl, -⟩ := h5.rnForm
  have h6 := h5.alloc (.cells #[.int .i64 p.k, .string p.s.1, .int .i64 p.o, .int .i64 p.n, .slice a5 p.ls.length c5] 24)
  obtain ⟨b7, hb7⟩ : ∃ z, z = w5.heap.size := ⟨_, rfl⟩
  have hne : b7 ≠ b3 := by
    have := h5.sw2.blk_lt.2
    omega
  rw [← hb7] at h6
  obtain ⟨c0, c1, c2, c3', c4⟩ := cells5 h6.sw3
  obtain ⟨d0, d1, d2, d3, d4⟩ := cells5 h6
  have HS1 := Lib.hid (same_any p.k p.s p.o p.n _ p.ls p.k p.s p.o p.n _ p.ls h6 (Sep.lnS h6.sw4) (Sep.lnS h6.sw2) (by have := HLL.out; omega))
  rw [same_self] at HS1
  clear h5 h6
  have hne2 : (b7 == b3) = false := by rw [beq_eq_false_iff_ne]; exact hne
  have hne3 : (b3 == b7) = false := by rw [beq_eq_false_iff_ne]; exact hne.symm
  go_wp2_with fail
  try rw [← hb7]
  try clear hb7
  try go_wp2_with fail
  refine HS1.out.mono ?_
  rintro r0 w6 ⟨rfl, h6⟩
  clear c0 c1 c2 c3' c4 d0 d1 d2 d3 d4 HS1
  obtain ⟨c0, c1, c2, c3', c4⟩ := cells5 h6.sw3
  obtain ⟨d0, d1, d2, d3, d4⟩ := cells5 h6
  have HS1 := Lib.hid (same_any p.k p.s p.o p.n _ p.ls p.k p.s p.o p.n _ p.ls h6 (Sep.lnS h6.sw2) (Sep.lnS h6.sw4) (by have := HLL.out; omega))
  rw [same_self] at HS1
  clear h6
  go_wp2_with fail
  refine HS1.out.mono ?_
  rintro r0 w7 ⟨rfl, h7⟩
  clear c0 c1 c2 c3' c4 d0 d1 d2 d3 d4 HS1
  obtain ⟨c0, c1, c2, c3', c4⟩ := cells5 h7.sw3
  obtain ⟨d0, d1, d2, d3, d4⟩ := cells5 h7
  have H7 := Lib.hid h7
  clear h7
  go_wp2_with fail
  refine (HB1.out _).mono ?_
  rintro r0 w8 ⟨rfl, rfl⟩
  clear HB1
  by_cases hl0 : p.ls.length = 0
  · have hz : ((p.ls.length : Int) == 0) = true := by rw [hl0]; rfl
    have HW := Lib.hid (works_any H7.out (HK.out.below H7.out.low))
    clear hl0
    go_wp2_with (refine HW.out.mono ?_; rintro r0 w9 ⟨rfl, h9⟩)
    go_ret
    exact ⟨rfl, h9.low⟩
  · have hz : ((p.ls.length : Int) == 0) = false := by rw [beq_eq_false_iff_ne]; omega
    obtain ⟨b5, c5', hv5, hlc, hcm, hb5, hxl, e5, g5, hset⟩ := H7.out.sw2.rnSet (by omega)
    simp only [Value.slice.injEq] at hv5
    obtain ⟨rfl, -, rfl⟩ := hv5
    obtain ⟨i, hi, hil⟩ : ∃ i : Nat, by_ % (p.ls.length : Int) = (i : Int) ∧ i < p.ls.length := ⟨(by_ % (p.ls.length : Int)).toNat, by have := Int.emod_nonneg by_ (show (p.ls.length : Int) ≠ 0 by omega); omega, by have := Int.emod_nonneg by_ (show (p.ls.length : Int) ≠ 0 by omega); have := Int.emod_lt_of_pos by_ (show (0 : Int) < p.ls.length by omega); omega⟩
    have HB2 := Lib.hid (fun wx => bring_any by_ (p.ls.length : Int) wx (by unfold Sm; have := HLL.out; omega))
    rw [hi] at HB2
    have e5 := e5 (i * 2 + 1) (by rw [hxl]; omega)
    have hcl := (lnCells_at p.ls i hil).2
    rw [(List.getElem?_eq_some_iff.1 hcl).2] at e5
    have HUN := Lib.hid (unlike_i HOK.out hil HY.out.1 HY.out.2)
    have hx := hset (i * 2 + 1) (.int .i64 (IntKind.i64.wrap (p.ls[i].2 + by_))) (by rw [hxl]; omega)
    rw [lnCells_set p.ls i _ hil] at hx
    have g5 := g5 (i * 2 + 1)
    generalize hyy : p.ls[i].2 = y at *
    generalize hnn : p.ls[i].1 = nm at *
    obtain ⟨x, hxx⟩ : ∃ x, x = IntKind.i64.wrap (y + by_) := ⟨_, rfl⟩
    rw [← hxx] at hx HUN
    have hxx2 : wrap64 (y + by_) = x := by rw [hxx, IntWalk.i64_left]
    have hxx3 := hxx.symm
    have hx2 : Sep w (Cl b7 #[.int .i64 p.k, .string p.s.1, .int .i64 p.o, .int .i64 p.n, .slice (some ⟨b5, 0, none⟩) p.ls.length c5] 24 :: LnR (.slice (some ⟨b5, 0, none⟩) p.ls.length c5) (p.ls.set i (nm, x)) :: Cl b3 #[.int .i64 p.k, .string p.s.1, .int .i64 p.o, .int .i64 p.n, (.slice a3 p.ls.length c3)] 24 :: LnR (.slice a3 p.ls.length c3) p.ls :: []) (w7.setCell ⟨b5, i * 2 + 1, none⟩ (.int .i64 x)) := by
      unfold LnR
      rw [List.length_set]
      exact hx.sw2
    have HX := Lib.hid hx2
    have HI := Lib.hid hil
    have i0 : (0 : Int) ≤ (i : Int) := by omega
    have i1 : decide (i < p.ls.length) = true := decide_eq_true hil
    have i2 : (i : Int) < (p.ls.length : Int) := by omega
    clear hx hx2 hset hcl hi hl0 hxx hyy hnn hxl H7 hil
    go_wp2_with fail
    refine wp_region_G (fun w' => w'.cell? ⟨b7, 4, none⟩ = some (.slice (some ⟨b5, 0, none⟩) p.ls.length c5) ∧ w'.cell? ⟨b5, i * 2 + 1, none⟩ = some (.int .i64 y)) [14] (by kernel_rfl) ⟨d4, e5⟩ (fun hS => ?_)
    try dsimp only at hS
    refine wpAnyG_take' (i := 0) (v := ?v0_1) rfl (by kernel_rfl) (by kernel_rfl) (by kernel_rfl) (by kernel_rfl) (fun _ _ _ h => h) (Or.inl ⟨by rfl, ?hy0_1⟩) hS ?rest0_1
    case hy0_1 => intro w hSw; (try dsimp only at hSw); go_simp; (try with_reducible rfl)
    case rest0_1 =>
    try simp only [Act.put, List.setIfInBounds_toArray, List.set_cons_zero, List.set_cons_succ]
    refine wpAnyG_take' (i := 1) (v := ?v1_2) rfl (by kernel_rfl) (by kernel_rfl) (by kernel_rfl) (by kernel_rfl) (fun _ _ _ h => h) (Or.inl ⟨by rfl, ?hy1_2⟩) hS ?rest1_2
    case hy1_2 => intro w hSw; (try dsimp only at hSw); go_simp; (try with_reducible rfl)
    case rest1_2 =>
    try simp only [Act.put, List.setIfInBounds_toArray, List.set_cons_zero, List.set_cons_succ]
    refine wpAnyG_take' (i := 2) (v := ?v2_3) rfl (by kernel_rfl) (by kernel_rfl) (by kernel_rfl) (by kernel_rfl) (fun _ _ _ h => h) (Or.inl ⟨by rfl, ?hy2_3⟩) hS ?rest2_3
    case hy2_3 => intro w hSw; (try dsimp only at hSw); go_simp; (try with_reducible rfl)
    case rest2_3 =>
    try simp only [Act.put, List.setIfInBounds_toArray, List.set_cons_zero, List.set_cons_succ]
    refine wpAnyG_take' (i := 3) (v := ?v3_4) rfl (by kernel_rfl) (by kernel_rfl) (by kernel_rfl) (by kernel_rfl) (fun _ _ _ h => h) (Or.inl ⟨by rfl, ?hy3_4⟩) hS ?rest3_4
    case hy3_4 => intro w hSw; (try dsimp only at hSw); go_simp; (try with_reducible rfl)
    case rest3_4 =>
    try simp only [Act.put, List.setIfInBounds_toArray, List.set_cons_zero, List.set_cons_succ]
    refine wpAnyG_take' (i := 4) (v := ?v4_5) rfl (by kernel_rfl) (by kernel_rfl) (by kernel_rfl) (by kernel_rfl) (fun _ _ _ h => h) (Or.inl ⟨by rfl, ?hy4_5⟩) hS ?rest4_5
    case hy4_5 => intro w hSw; (try dsimp only at hSw); go_simp; (try with_reducible rfl)
    case rest4_5 =>
    try simp only [Act.put, List.setIfInBounds_toArray, List.set_cons_zero, List.set_cons_succ]
    refine wpAnyG_take' (i := 5) (v := ?v5_6) rfl (by kernel_rfl) (by kernel_rfl) (by kernel_rfl) (by kernel_rfl) (fun _ _ _ h => h) (Or.inl ⟨by rfl, ?hy5_6⟩) hS ?rest5_6
    case hy5_6 => intro w hSw; (try dsimp only at hSw); go_simp; (try with_reducible rfl)
    case rest5_6 =>
    try simp only [Act.put, List.setIfInBounds_toArray, List.set_cons_zero, List.set_cons_succ]
    refine wpAnyG_take' (i := 10) (v := ?v10_7) rfl (by kernel_rfl) (by kernel_rfl) (by kernel_rfl) (by kernel_rfl) (fun _ _ _ h => h) (Or.inl ⟨by rfl, ?hy10_7⟩) hS ?rest10_7
    case hy10_7 => intro w hSw; (try dsimp only at hSw); go_simp; (try with_reducible rfl)
    case rest10_7 =>
    try simp only [Act.put, List.setIfInBounds_toArray, List.set_cons_zero, List.set_cons_succ]
    refine wpAnyG_one (i := 6) (by kernel_rfl) rfl (fun K hK => ?_)
    go_simp
    refine Calls.mono (HB2.out _) ?_
    rintro r9 w9 ⟨rfl, rfl⟩
    go_wp2_with fail
    refine hK.out _ _ (fun _ => ?hS8) ?rest8
    case hS8 => exact ⟨d4, e5⟩
    clear K hK
    try simp only [Act.put, List.setIfInBounds_toArray, List.set_cons_zero, List.set_cons_succ]
    refine wpAnyG_take' (i := 7) (v := ?v7_9) rfl (by kernel_rfl) (by kernel_rfl) (by kernel_rfl) (by kernel_rfl) (fun _ _ _ h => h) (Or.inl ⟨by rfl, ?hy7_9⟩) ⟨d4, e5⟩ ?rest7_9
    case hy7_9 => intro w hSw; (try dsimp only at hSw); go_simp; (try with_reducible rfl)
    case rest7_9 =>
    try simp only [Act.put, List.setIfInBounds_toArray, List.set_cons_zero, List.set_cons_succ]
    refine wpAnyG_take' (i := 8) (v := ?v8_10) rfl (by kernel_rfl) (by kernel_rfl) (by kernel_rfl) (by kernel_rfl) (fun _ _ _ h => h) (Or.inl ⟨by rfl, ?hy8_10⟩) ⟨d4, e5⟩ ?rest8_10
    case hy8_10 => intro w hSw; (try dsimp only at hSw); go_simp; (try with_reducible rfl)
    case rest8_10 =>
    try simp only [Act.put, List.setIfInBounds_toArray, List.set_cons_zero, List.set_cons_succ]
    refine wpAnyG_take' (i := 9) (v := ?v9_11) rfl (by kernel_rfl) (by kernel_rfl) (by kernel_rfl) (by kernel_rfl) (fun _ _ _ h => h) (Or.inl ⟨by rfl, ?hy9_11⟩) ⟨d4, e5⟩ ?rest9_11
    case hy9_11 => intro w hSw; (try dsimp only at hSw); go_simp; (try with_reducible rfl)
    case rest9_11 =>
    try simp only [Act.put, List.setIfInBounds_toArray, List.set_cons_zero, List.set_cons_succ]
    refine wpAnyG_take' (i := 11) (v := ?v11_12) rfl (by kernel_rfl) (by kernel_rfl) (by kernel_rfl) (by kernel_rfl) (fun _ _ _ h => h) (Or.inl ⟨by rfl, ?hy11_12⟩) ⟨d4, e5⟩ ?rest11_12
    case hy11_12 => intro w hSw; (try dsimp only at hSw); go_simp; (try with_reducible rfl)
    case rest11_12 =>
    try simp only [Act.put, List.setIfInBounds_toArray, List.set_cons_zero, List.set_cons_succ]
    refine wpAnyG_take' (i := 12) (v := ?v12_13) rfl (by kernel_rfl) (by kernel_rfl) (by kernel_rfl) (by kernel_rfl) (fun _ _ _ h => h) (Or.inl ⟨by rfl, ?hy12_13⟩) ⟨d4, e5⟩ ?rest12_13
    case hy12_13 => intro w hSw; (try dsimp only at hSw); go_simp; (try with_reducible rfl)
    case rest12_13 =>
    try simp only [Act.put, List.setIfInBounds_toArray, List.set_cons_zero, List.set_cons_succ]
    refine wpAnyG_take' (i := 13) (v := ?v13_14) rfl (by kernel_rfl) (by kernel_rfl) (by kernel_rfl) (by kernel_rfl) (fun _ _ _ h => h) (Or.inl ⟨by rfl, ?hy13_14⟩) ⟨d4, e5⟩ ?rest13_14
    case hy13_14 => intro w hSw; (try dsimp only at hSw); go_simp; (try with_reducible rfl)
    case rest13_14 =>
    try simp only [Act.put, List.setIfInBounds_toArray, List.set_cons_zero, List.set_cons_succ]
    refine wpAnyG_one (i := 14) (by kernel_rfl) rfl (fun K hK => ?_)
    go_simp
    refine hK.out _ _ (fun hno => by cases hno) ?_
    clear K hK
    try simp only [Act.put, List.setIfInBounds_toArray, List.set_cons_zero, List.set_cons_succ]
    refine wpAnyG_done (by kernel_rfl) ?_ _
    have hx := HX.out.drew
    obtain ⟨y0, y1, y2, y3, y4⟩ := cells5 HX.out.sw3
    obtain ⟨z0, z1, z2, z3, z4⟩ := cells5 HX.out
    have HS1 := Lib.hid (same_any p.k p.s p.o p.n _ p.ls p.k p.s p.o p.n _ (p.ls.set i (nm, x)) hx (Sep.lnS hx.sw4) (Sep.lnS hx.sw2) (by have := HLL.out; omega))
    rw [HUN.out.ab] at HS1
    clear hx
    go_wp2_with fail
    refine HS1.out.mono ?_
    rintro r0 w9 ⟨rfl, hx⟩
    clear y0 y1 y2 y3 y4 z0 z1 z2 z3 z4 HS1
    obtain ⟨y0, y1, y2, y3, y4⟩ := cells5 hx.sw3
    obtain ⟨z0, z1, z2, z3, z4⟩ := cells5 hx
    have HS1 := Lib.hid (same_any p.k p.s p.o p.n _ (p.ls.set i (nm, x)) p.k p.s p.o p.n _ p.ls hx (Sep.lnS hx.sw2) (Sep.lnS hx.sw4) (by have := HLL.out; rw [List.length_set]; omega))
    rw [HUN.out.ba] at HS1
    clear hx
    go_wp2_with fail
    refine HS1.out.mono ?_
    rintro r0 w10 ⟨rfl, hx⟩
    have HW := Lib.hid (works_any hx (HK.out.below hx.low))
    clear hx HS1 y0 y1 y2 y3 y4 z0 z1 z2 z3 z4
    go_wp2_with (refine HW.out.mono ?_; rintro r0 w11 ⟨rfl, h11⟩)
    go_ret
    exact ⟨rfl, h11.low⟩
theorem same03 (k : Int) (s : KS) (o n : Int) (v : Value) (ls : List Ln) (which by_ : Int) (w : World) (hv : LnS w v ls) (hk : KindsAt w) (hb : -9223372036854775808 ≤ by_ ∧ by_ ≤ 9223372036854775807) :
    Calls Tryd.prog 7 #[.agg #[.int .i64 k, .string s.1, .int .i64 o, .int .i64 n, v], .int .i64 which, .int .i64 by_] w fun e w' => e = .returned (.bool true) ∧ Below w.heap.size w w' := by
  by_cases h0 : by_ = 0
  · exact same_z k s o n v ls which by_ w hv hk h0
  · rcases (show which % 6 = 0 ∨ which % 6 = 1 ∨ which % 6 = 2 ∨ which % 6 = 3 ∨ which % 6 = 4 ∨ which % 6 = 5 by omega) with h | h | h | h | h | h
    · exact same_0 k s o n v ls which by_ w hv hk hb h0 h
    · exact same_1 k s o n v ls which by_ w hv hk hb h0 h
    · exact same_2 k s o n v ls which by_ w hv hk hb h0 h
    · exact same_3 k s o n v ls which by_ w hv hk hb h0 h
    · exact same_4 k s o n v ls which by_ w hv hk hb h0 h
    · exact same_5 k s o n v ls which by_ w hv hk hb h0 h
end Go.Proofs.YtfjodadmcfdlpaaDoor
