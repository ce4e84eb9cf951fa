/- The statement ItemSame: by is 0; Kind, Order, N. -/
import Derived.Test.YtfjodadmcfdlpaaDoorItem22
namespace Go.Proofs.YtfjodadmcfdlpaaDoor
open Go.RowKit
set_option linter.unusedVariables false
set_option linter.unusedSimpArgs false
set_option maxRecDepth 100000 in
set_option maxHeartbeats 16000000 in
theorem same_z (k : Int) (s : KS) (o n : Int) (v : Value) (ls : List Ln) (which by_ : Int) (w : World) (hv : LnS w v ls) (hk : KindsAt w) (hby : by_ = 0) :
    Calls Tryd.prog 7 #[.agg #[.int .i64 k, .string s.1, .int .i64 o, .int .i64 n, v], .int .i64 which, .int .i64 by_] w fun e w' => e = .returned (.bool true) ∧ Below w.heap.size w w' := by
  obtain ⟨a, c, rfl⟩ := hv.len
  have h1 := (Sep.start w).alloc (.cells (opCells k s o n (.slice a ls.length c)) 24)
  have HM := Lib.hid (made_any k s o n _ ls h1 (hv.below h1.low))
  have H1 := Lib.hid h1
  obtain ⟨w1, hw1⟩ : ∃ z, z = w.alloc (.cells (opCells k s o n (.slice a ls.length c)) 24) := ⟨_, rfl⟩
  obtain ⟨b3, hb3⟩ : ∃ z, z = w.heap.size := ⟨_, rfl⟩
  rw [← hw1, ← hb3] at HM
  have HV := Lib.hid hv
  have HK := Lib.hid hk
  unfold opCells at hw1 h1
  subst hby
  clear h1 hv hk H1
  go_enter Tryd.func7, Tryd.ntmps7
  go_wp2_with fail
  rw [← hw1, ← hb3]
  clear hw1 hb3
  refine HM.out.mono ?_
  rintro r0 w3 ⟨p, u, rfl, hok, h3⟩
  clear HM
  obtain ⟨a3, c3, rfl, -⟩ := h3.rnForm
  obtain ⟨c0, c1, c2, c3', c4⟩ := cells5 h3.sw2
  obtain ⟨f0, f1, f2, f3, f4⟩ := frz5 h3.sw2
  have h4 := store5 (u0 := .int .i64 p.k) (u1 := .string p.s.1) (u2 := .int .i64 p.o) (u3 := .int .i64 p.n) (u4 := .slice a3 p.ls.length c3) h3.sw2
  obtain ⟨k0, k1, k2, k3, k4⟩ := cells5 h4
  have hll := ok_len hok
  have HLL := Lib.hid hll
  have HCP := Lib.hid (copy_any p.k p.s p.o p.n _ p.ls h4 (Sep.lnS h4.sw2) (by omega))
  have HOK := Lib.hid hok
  clear h3 h4 hok hll
  go_wp2_with fail
  refine HCP.out.mono ?_
  rintro r0 w5 ⟨u5, rfl, h5⟩
  clear c0 c1 c2 c3' c4 f0 f1 f2 f3 f4 k0 k1 k2 k3 k4 HCP
  obtain ⟨a5, c5, rfl, -⟩ := h5.rnForm
  have h6 := h5.alloc (.cells #[.int .i64 p.k, .string p.s.1, .int .i64 p.o, .int .i64 p.n, .slice a5 p.ls.length c5] 24)
  obtain ⟨b7, hb7⟩ : ∃ z, z = w5.heap.size := ⟨_, rfl⟩
  have hne : b7 ≠ b3 := by
    have := h5.sw2.blk_lt.2
    omega
  rw [← hb7] at h6
  obtain ⟨c0, c1, c2, c3', c4⟩ := cells5 h6.sw3
  obtain ⟨d0, d1, d2, d3, d4⟩ := cells5 h6
  have HS1 := Lib.hid (same_any p.k p.s p.o p.n _ p.ls p.k p.s p.o p.n _ p.ls h6 (Sep.lnS h6.sw4) (Sep.lnS h6.sw2) (by have := HLL.out; omega))
  rw [same_self] at HS1
  clear h5 h6
  have hne2 : (b7 == b3) = false := by rw [beq_eq_false_iff_ne]; exact hne
  have hne3 : (b3 == b7) = false := by rw [beq_eq_false_iff_ne]; exact hne.symm
  go_wp2_with fail
  try rw [← hb7]
  try clear hb7
  try go_wp2_with fail
  refine HS1.out.mono ?_
  rintro r0 w6 ⟨rfl, h6⟩
  clear c0 c1 c2 c3' c4 d0 d1 d2 d3 d4 HS1
  obtain ⟨c0, c1, c2, c3', c4⟩ := cells5 h6.sw3
  obtain ⟨d0, d1, d2, d3, d4⟩ := cells5 h6
  have HS1 := Lib.hid (same_any p.k p.s p.o p.n _ p.ls p.k p.s p.o p.n _ p.ls h6 (Sep.lnS h6.sw2) (Sep.lnS h6.sw4) (by have := HLL.out; omega))
  rw [same_self] at HS1
  clear h6
  go_wp2_with fail
  refine HS1.out.mono ?_
  rintro r0 w7 ⟨rfl, h7⟩
  clear c0 c1 c2 c3' c4 d0 d1 d2 d3 d4 HS1
  obtain ⟨c0, c1, c2, c3', c4⟩ := cells5 h7.sw3
  obtain ⟨d0, d1, d2, d3, d4⟩ := cells5 h7
  have HS1 := Lib.hid (same_any p.k p.s p.o p.n _ p.ls p.k p.s p.o p.n _ p.ls h7 (Sep.lnS h7.sw4) (Sep.lnS h7.sw2) (by have := HLL.out; omega))
  rw [same_self] at HS1
  clear h7
  go_wp2_with fail
  refine HS1.out.mono ?_
  rintro r0 w8 ⟨rfl, h8⟩
  have HW := Lib.hid (works_any h8 (HK.out.below h8.low))
  clear h8 HS1
  go_wp2_with (refine HW.out.mono ?_; rintro r0 w9 ⟨rfl, h9⟩)
  go_ret
  exact ⟨rfl, h9.low⟩
set_option maxRecDepth 100000 in
set_option maxHeartbeats 16000000 in
theorem same_0 (k : Int) (s : KS) (o n : Int) (v : Value) (ls : List Ln) (which by_ : Int) (w : World) (hv : LnS w v ls) (hk : KindsAt w) (hb : -9223372036854775808 ≤ by_ ∧ by_ ≤ 9223372036854775807) (hby : by_ ≠ 0) (hq : which % 6 = 0) :
    Calls Tryd.prog 7 #[.agg #[.int .i64 k, .string s.1, .int .i64 o, .int .i64 n, v], .int .i64 which, .int .i64 by_] w fun e w' => e = .returned (.bool true) ∧ Below w.heap.size w w' := by
  obtain ⟨a, c, rfl⟩ := hv.len
  have h1 := (Sep.start w).alloc (.cells (opCells k s o n (.slice a ls.length c)) 24)
  have HM := Lib.hid (made_any k s o n _ ls h1 (hv.below h1.low))
  have H1 := Lib.hid h1
  obtain ⟨w1, hw1⟩ : ∃ z, z = w.alloc (.cells (opCells k s o n (.slice a ls.length c)) 24) := ⟨_, rfl⟩
  obtain ⟨b3, hb3⟩ : ∃ z, z = w.heap.size := ⟨_, rfl⟩
  rw [← hw1, ← hb3] at HM
  have HV := Lib.hid hv
  have HK := Lib.hid hk
  unfold opCells at hw1 h1
  have HY := Lib.hid (And.intro hb hby)
  have hy0 : (by_ == 0) = false := by rw [beq_eq_false_iff_ne]; exact hby
  have HB1 := Lib.hid (fun wx => bring_any which 6 wx (by unfold Sm; omega))
  rw [hq] at HB1
  clear hb hby hq
  clear h1 hv hk H1
  go_enter Tryd.func7, Tryd.ntmps7
  go_wp2_with fail
  rw [← hw1, ← hb3]
  clear hw1 hb3
  refine HM.out.mono ?_
  rintro r0 w3 ⟨p, u, rfl, hok, h3⟩
  clear HM
  obtain ⟨a3, c3, rfl, -⟩ := h3.rnForm
  obtain ⟨c0, c1, c2, c3', c4⟩ := cells5 h3.sw2
  obtain ⟨f0, f1, f2, f3, f4⟩ := frz5 h3.sw2
  have h4 := store5 (u0 := .int .i64 p.k) (u1 := .string p.s.1) (u2 := .int .i64 p.o) (u3 := .int .i64 p.n) (u4 := .slice a3 p.ls.length c3) h3.sw2
  obtain ⟨k0, k1, k2, k3, k4⟩ := cells5 h4
  have hll := ok_len hok
  have HLL := Lib.hid hll
  have HCP := Lib.hid (copy_any p.k p.s p.o p.n _ p.ls h4 (Sep.lnS h4.sw2) (by omega))
  have HOK := Lib.hid hok
  clear h3 h4 hok hll
  go_wp2_with fail
  refine HCP.out.mono ?_
  rintro r0 w5 ⟨u5, rfl, h5⟩
  clear c0 c1 c2 c3' c4 f0 f1 f2 f3 f4 k0 k1 k2 k3 k4 HCP
  obtain ⟨a5, c5, rfl, -⟩ := h5.rnForm
  have h6 := h5.alloc (.cells #[.int .i64 p.k, .string p.s.1, .int .i64 p.o, .int .i64 p.n, .slice a5 p.ls.length c5] 24)
  obtain ⟨b7, hb7⟩ : ∃ z, z = w5.heap.size := ⟨_, rfl⟩
  have hne : b7 ≠ b3 := by
    have := h5.sw2.blk_lt.2
    omega
  rw [← hb7] at h6
  obtain ⟨c0, c1, c2, c3', c4⟩ := cells5 h6.sw3
  obtain ⟨d0, d1, d2, d3, d4⟩ := cells5 h6
  have HS1 := Lib.hid (same_any p.k p.s p.o p.n _ p.ls p.k p.s p.o p.n _ p.ls h6 (Sep.lnS h6.sw4) (Sep.lnS h6.sw2) (by have := HLL.out; omega))
  rw [same_self] at HS1
  clear h5 h6
  have hne2 : (b7 == b3) = false := by rw [beq_eq_false_iff_ne]; exact hne
  have hne3 : (b3 == b7) = false := by rw [beq_eq_false_iff_ne]; exact hne.symm
  go_wp2_with fail
  try rw [← hb7]
  try clear hb7
  try go_wp2_with fail
  refine HS1.out.mono ?_
  rintro r0 w6 ⟨rfl, h6⟩
  clear c0 c1 c2 c3' c4 d0 d1 d2 d3 d4 HS1
  obtain ⟨c0, c1, c2, c3', c4⟩ := cells5 h6.sw3
  obtain ⟨d0, d1, d2, d3, d4⟩ := cells5 h6
  have HS1 := Lib.hid (same_any p.k p.s p.o p.n _ p.ls p.k p.s p.o p.n _ p.ls h6 (Sep.lnS h6.sw2) (Sep.lnS h6.sw4) (by have := HLL.out; omega))
  rw [same_self] at HS1
  clear h6
  go_wp2_with fail
  refine HS1.out.mono ?_
  rintro r0 w7 ⟨rfl, h7⟩
  clear c0 c1 c2 c3' c4 d0 d1 d2 d3 d4 HS1
  obtain ⟨c0, c1, c2, c3', c4⟩ := cells5 h7.sw3
  obtain ⟨d0, d1, d2, d3, d4⟩ := cells5 h7
  have H7 := Lib.hid h7
  clear h7
  go_wp2_with fail
  refine (HB1.out _).mono ?_
  rintro r0 w8 ⟨rfl, rfl⟩
  clear HB1
  have HUN := Lib.hid (unlike_k HOK.out HY.out.1 HY.out.2)
  obtain ⟨g0, g1, g2, g3, g4⟩ := frz5 H7.out
  obtain ⟨x, hxx⟩ : ∃ x, x = IntKind.i64.wrap (p.k + by_) := ⟨_, rfl⟩
  rw [← hxx] at HUN
  have hxx2 : wrap64 (p.k + by_) = x := by rw [hxx, IntWalk.i64_left]
  have hxx3 := hxx.symm
  clear hxx
  have hx : Sep w (Cl b7 #[.int .i64 x, .string p.s.1, .int .i64 p.o, .int .i64 p.n, .slice a5 p.ls.length c5] 24 :: _) (w7.setCell ⟨b7, 0, none⟩ (.int .i64 x)) := H7.out.setCell 0 (.int .i64 x)
  clear H7
  obtain ⟨y0, y1, y2, y3, y4⟩ := cells5 hx.sw3
  obtain ⟨z0, z1, z2, z3, z4⟩ := cells5 hx
  have HS1 := Lib.hid (same_any p.k p.s p.o p.n _ p.ls x p.s p.o p.n _ p.ls hx (Sep.lnS hx.sw4) (Sep.lnS hx.sw2) (by have := HLL.out; omega))
  rw [HUN.out.ab] at HS1
  clear hx
  go_wp2_with fail
  refine HS1.out.mono ?_
  rintro r0 w9 ⟨rfl, hx⟩
  clear y0 y1 y2 y3 y4 z0 z1 z2 z3 z4 HS1
  obtain ⟨y0, y1, y2, y3, y4⟩ := cells5 hx.sw3
  obtain ⟨z0, z1, z2, z3, z4⟩ := cells5 hx
  have HS1 := Lib.hid (same_any x p.s p.o p.n _ p.ls p.k p.s p.o p.n _ p.ls hx (Sep.lnS hx.sw2) (Sep.lnS hx.sw4) (by have := HLL.out; omega))
  rw [HUN.out.ba] at HS1
  clear hx
  go_wp2_with fail
  refine HS1.out.mono ?_
  rintro r0 w10 ⟨rfl, hx⟩
  have HW := Lib.hid (works_any hx (HK.out.below hx.low))
  clear hx HS1 y0 y1 y2 y3 y4 z0 z1 z2 z3 z4
  go_wp2_with (refine HW.out.mono ?_; rintro r0 w11 ⟨rfl, h11⟩)
  go_ret
  exact ⟨rfl, h11.low⟩
set_option maxRecDepth 100000 in
set_option maxHeartbeats 16000000 in
theorem same_2 (k : Int) (s : KS) (o n : Int) (v : Value) (ls : List Ln) (which by_ : Int) (w : World) (hv : LnS w v ls) (hk : KindsAt w) (hb : -9223372036854775808 ≤ by_ ∧ by_ ≤ 9223372036854775807) (hby : by_ ≠ 0) (hq : which % 6 = 2) :
    Calls Tryd.prog 7 #[.agg #[.int .i64 k, .string s.1, .int .i64 o, .int .i64 n, v], .int .i64 which, .int .i64 by_] w fun e w' => e = .returned (.bool true) ∧ Below w.heap.size w w' := by
  obtain ⟨a, c, rfl⟩ := hv.len
  have h1 := (Sep.start w).alloc (.cells (opCells k s o n (.slice a ls.length c)) 24)
  have HM := Lib.hid (made_any k s o n _ ls h1 (hv.below h1.low))
  have H1 := Lib.hid h1
  obtain ⟨w1, hw1⟩ : ∃ z, z = w.alloc (.cells (opCells k s o n (.slice a ls.length c)) 24) := ⟨_, rfl⟩
  obtain ⟨b3, hb3⟩ : ∃ z, z = w.heap.size := ⟨_, rfl⟩
  rw [← hw1, ← hb3] at HM
  have HV := Lib.hid hv
  have HK := Lib.hid hk
  unfold opCells at hw1 h1
  have HY := Lib.hid (And.intro hb hby)
  have hy0 : (by_ == 0) = false := by rw [beq_eq_false_iff_ne]; exact hby
  have HB1 := Lib.hid (fun wx => bring_any which 6 wx (by unfold Sm; omega))
  rw [hq] at HB1
  clear hb hby hq
  clear h1 hv hk H1
  go_enter Tryd.func7, Tryd.ntmps7
  go_wp2_with fail
  rw [← hw1, ← hb3]
  clear hw1 hb3
  refine HM.out.mono ?_
  rintro r0 w3 ⟨p, u, rfl, hok, h3⟩
  clear HM
  obtain ⟨a3, c3, rfl, -⟩ := h3.rnForm
  obtain ⟨c0, c1, c2, c3', c4⟩ := cells5 h3.sw2
  obtain ⟨f0, f1, f2, f3, f4⟩ := frz5 h3.sw2
  have h4 := store5 (u0 := .int .i64 p.k) (u1 := .string p.s.1) (u2 := .int .i64 p.o) (u3 := .int .i64 p.n) (u4 := .slice a3 p.ls.length c3) h3.sw2
  obtain ⟨k0, k1, k2, k3, k4⟩ := cells5 h4
  have hll := ok_len hok
  have HLL := Lib.hid hll
  have HCP := Lib.hid (copy_any p.k p.s p.o p.n _ p.ls h4 (Sep.lnS h4.sw2) (by omega))
  have HOK := Lib.hid hok
  clear h3 h4 hok hll
  go_wp2_with fail
  refine HCP.out.mono ?_
  rintro r0 w5 ⟨u5, rfl, h5⟩
  clear c0 c1 c2 c3' c4 f0 f1 f2 f3 f4 k0 k1 k2 k3 k4 HCP
  obtain ⟨a5, c5, rfl, -⟩ := h5.rnForm
  have h6 := h5.alloc (.cells #[.int .i64 p.k, .string p.s.1, .int .i64 p.o, .int .i64 p.n, .slice a5 p.ls.length c5] 24)
  obtain ⟨b7, hb7⟩ : ∃ z, z = w5.heap.size := ⟨_, rfl⟩
  have hne : b7 ≠ b3 := by
    have := h5.sw2.blk_lt.2
    omega
  rw [← hb7] at h6
  obtain ⟨c0, c1, c2, c3', c4⟩ := cells5 h6.sw3
  obtain ⟨d0, d1, d2, d3, d4⟩ := cells5 h6
  have HS1 := Lib.hid (same_any p.k p.s p.o p.n _ p.ls p.k p.s p.o p.n _ p.ls h6 (Sep.lnS h6.sw4) (Sep.lnS h6.sw2) (by have := HLL.out; omega))
  rw [same_self] at HS1
  clear h5 h6
  have hne2 : (b7 == b3) = false := by rw [beq_eq_false_iff_ne]; exact hne
  have hne3 : (b3 == b7) = false := by rw [beq_eq_false_iff_ne]; exact hne.symm
  go_wp2_with fail
  try rw [← hb7]
  try clear hb7
  try go_wp2_with fail
  refine HS1.out.mono ?_
  rintro r0 w6 ⟨rfl, h6⟩
  clear c0 c1 c2 c3' c4 d0 d1 d2 d3 d4 HS1
  obtain ⟨c0, c1, c2, c3', c4⟩ := cells5 h6.sw3
  obtain ⟨d0, d1, d2, d3, d4⟩ := cells5 h6
  have HS1 := Lib.hid (same_any p.k p.s p.o p.n _ p.ls p.k p.s p.o p.n _ p.ls h6 (Sep.lnS h6.sw2) (Sep.lnS h6.sw4) (by have := HLL.out; omega))
  rw [same_self] at HS1
  clear h6
  go_wp2_with fail
  refine HS1.out.mono ?_
  rintro r0 w7 ⟨rfl, h7⟩
  clear c0 c1 c2 c3' c4 d0 d1 d2 d3 d4 HS1
  obtain ⟨c0, c1, c2, c3', c4⟩ := cells5 h7.sw3
  obtain ⟨d0, d1, d2, d3, d4⟩ := cells5 h7
  have H7 := Lib.hid h7
  clear h7
  go_wp2_with fail
  refine (HB1.out _).mono ?_
  rintro r0 w8 ⟨rfl, rfl⟩
  clear HB1
  have HUN := Lib.hid (unlike_o HOK.out HY.out.1 HY.out.2)
  obtain ⟨g0, g1, g2, g3, g4⟩ := frz5 H7.out
  obtain ⟨x, hxx⟩ : ∃ x, x = IntKind.i64.wrap (p.o + by_) := ⟨_, rfl⟩
  rw [← hxx] at HUN
  have hxx2 : wrap64 (p.o + by_) = x := by rw [hxx, IntWalk.i64_left]
  have hxx3 := hxx.symm
  clear hxx
  have hx : Sep w (Cl b7 #[.int .i64 p.k, .string p.s.1, .int .i64 x, .int .i64 p.n, .slice a5 p.ls.length c5] 24 :: _) (w7.setCell ⟨b7, 2, none⟩ (.int .i64 x)) := H7.out.setCell 2 (.int .i64 x)
  clear H7
  obtain ⟨y0, y1, y2, y3, y4⟩ := cells5 hx.sw3
  obtain ⟨z0, z1, z2, z3, z4⟩ := cells5 hx
  have HS1 := Lib.hid (same_any p.k p.s p.o p.n _ p.ls p.k p.s x p.n _ p.ls hx (Sep.lnS hx.sw4) (Sep.lnS hx.sw2) (by have := HLL.out; omega))
  rw [HUN.out.ab] at HS1
  clear hx
  go_wp2_with fail
  refine HS1.out.mono ?_
  rintro r0 w9 ⟨rfl, hx⟩
  clear y0 y1 y2 y3 y4 z0 z1 z2 z3 z4 HS1
  obtain ⟨y0, y1, y2, y3, y4⟩ := cells5 hx.sw3
  obtain ⟨z0, z1, z2, z3, z4⟩ := cells5 hx
  have HS1 := Lib.hid (same_any p.k p.s x p.n _ p.ls p.k p.s p.o p.n _ p.ls hx (Sep.lnS hx.sw2) (Sep.lnS hx.sw4) (by have := HLL.out; omega))
  rw [HUN.out.ba] at HS1
  clear hx
  go_wp2_with fail
  refine HS1.out.mono ?_
  rintro r0 w10 ⟨rfl, hx⟩
  have HW := Lib.hid (works_any hx (HK.out.below hx.low))
  clear hx HS1 y0 y1 y2 y3 y4 z0 z1 z2 z3 z4
  go_wp2_with (refine HW.out.mono ?_; rintro r0 w11 ⟨rfl, h11⟩)
  go_ret
  exact ⟨rfl, h11.low⟩
set_option maxRecDepth 100000 in
set_option maxHeartbeats 16000000 in
theorem same_3 (k : Int) (s : KS) (o n : Int) (v : Value) (ls : List Ln) (which by_ : Int) (w : World) (hv : LnS w v ls) (hk : KindsAt w) (hb : -9223372036854775808 ≤ by_ ∧ by_ ≤ 9223372036854775807) (hby : by_ ≠ 0) (hq : which % 6 = 3) :
    Calls Tryd.prog 7 #[.agg #[.int .i64 k, .string s.1, .int .i64 o, .int .i64 n, v], .int .i64 which, .int .i64 by_] w fun e w' => e = .returned (.bool true) ∧ Below w.heap.size w w' := by
  obtain ⟨a, c, rfl⟩ := hv.len
  have h1 := (Sep.start w).alloc (.cells (opCells k s o n (.slice a ls.length c)) 24)
  have HM := Lib.hid (made_any k s o n _ ls h1 (hv.below h1.low))
  have H1 := Lib.hid h1
  obtain ⟨w1, hw1⟩ : ∃ z, z = w.alloc (.cells (opCells k s o n (.slice a ls.length c)) 24) := ⟨_, rfl⟩
  obtain ⟨b3, hb3⟩ : ∃ z, z = w.heap.size := ⟨_, rfl⟩
  rw [← hw1, ← hb3] at HM
  have HV := Lib.hid hv
  have HK := Lib.hid hk
  unfold opCells at hw1 h1
  have HY := Lib.hid (And.intro hb hby)
  have hy0 : (by_ == 0) = false := by rw [beq_eq_false_iff_ne]; exact hby
  have HB1 := Lib.hid (fun wx => bring_any which 6 wx (by unfold Sm; omega))
  rw [hq] at HB1
  clear hb hby hq
  clear h1 hv hk H1
  go_enter Tryd.func7, Tryd.ntmps7
  go_wp2_with fail
  rw [← hw1, ← hb3]
  clear hw1 hb3
  refine HM.out.mono ?_
  rintro r0 w3 ⟨p, u, rfl, hok, h3⟩
  clear HM
  obtain ⟨a3, c3, rfl, -⟩ := h3.rnForm
  obtain ⟨c0, c1, c2, c3', c4⟩ := cells5 h3.sw2
  obtain ⟨f0, f1, f2, f3, f4⟩ := frz5 h3.sw2
  have h4 := store5 (u0 := .int .i64 p.k) (u1 := .string p.s.1) (u2 := .int .i64 p.o) (u3 := .int .i64 p.n) (u4 := .slice a3 p.ls.length c3) h3.sw2
  obtain ⟨k0, k1, k2, k3, k4⟩ := cells5 h4
  have hll := ok_len hok
  have HLL := Lib.hid hll
  have HCP := Lib.hid (copy_any p.k p.s p.o p.n _ p.ls h4 (Sep.lnS h4.sw2) (by omega))
  have HOK := Lib.hid hok
  clear h3 h4 hok hll
  go_wp2_with fail
  refine HCP.out.mono ?_
  rintro r0 w5 ⟨u5, rfl, h5⟩
  clear c0 c1 c2 c3' c4 f0 f1 f2 f3 f4 k0 k1 k2 k3 k4 HCP
  obtain ⟨a5, c5, rfl, -⟩ := h5.rnForm
  have h6 := h5.alloc (.cells #[.int .i64 p.k, .string p.s.1, .int .i64 p.o, .int .i64 p.n, .slice a5 p.ls.length c5] 24)
  obtain ⟨b7, hb7⟩ : ∃ z, z = w5.heap.size := ⟨_, rfl⟩
  have hne : b7 ≠ b3 := by
    have := h5.sw2.blk_lt.2
    omega
  rw [← hb7] at h6
  obtain ⟨c0, c1, c2, c3', c4⟩ := cells5 h6.sw3
  obtain ⟨d0, d1, d2, d3, d4⟩ := cells5 h6
  have HS1 := Lib.hid (same_any p.k p.s p.o p.n _ p.ls p.k p.s p.o p.n _ p.ls h6 (Sep.lnS h6.sw4) (Sep.lnS h6.sw2) (by have := HLL.out; omega))
  rw [same_self] at HS1
  clear h5 h6
  have hne2 : (b7 == b3) = false := by rw [beq_eq_false_iff_ne]; exact hne
  have hne3 : (b3 == b7) = false := by rw [beq_eq_false_iff_ne]; exact hne.symm
  go_wp2_with fail
  try rw [← hb7]
  try clear hb7
  try go_wp2_with fail
  refine HS1.out.mono ?_
  rintro r0 w6 ⟨rfl, h6⟩
  clear c0 c1 c2 c3' c4 d0 d1 d2 d3 d4 HS1
  obtain ⟨c0, c1, c2, c3', c4⟩ := cells5 h6.sw3
  obtain ⟨d0, d1, d2, d3, d4⟩ := cells5 h6
  have HS1 := Lib.hid (same_any p.k p.s p.o p.n _ p.ls p.k p.s p.o p.n _ p.ls h6 (Sep.lnS h6.sw2) (Sep.lnS h6.sw4) (by have := HLL.out; omega))
  rw [same_self] at HS1
  clear h6
  go_wp2_with fail
  refine HS1.out.mono ?_
  rintro r0 w7 ⟨rfl, h7⟩
  clear c0 c1 c2 c3' c4 d0 d1 d2 d3 d4 HS1
  obtain ⟨c0, c1, c2, c3', c4⟩ := cells5 h7.sw3
  obtain ⟨d0, d1, d2, d3, d4⟩ := cells5 h7
  have H7 := Lib.hid h7
  clear h7
  go_wp2_with fail
  refine (HB1.out _).mono ?_
  rintro r0 w8 ⟨rfl, rfl⟩
  clear HB1
  have HUN := Lib.hid (unlike_n HOK.out HY.out.1 HY.out.2)
  obtain ⟨g0, g1, g2, g3, g4⟩ := frz5 H7.out
  obtain ⟨x, hxx⟩ : ∃ x, x = IntKind.i64.wrap (p.n + by_) := ⟨_, rfl⟩
  rw [← hxx] at HUN
  have hxx2 : wrap64 (p.n + by_) = x := by rw [hxx, IntWalk.i64_left]
  have hxx3 := hxx.symm
  clear hxx
  have hx : Sep w (Cl b7 #[.int .i64 p.k, .string p.s.1, .int .i64 p.o, .int .i64 x, .slice a5 p.ls.length c5] 24 :: _) (w7.setCell ⟨b7, 3, none⟩ (.int .i64 x)) := H7.out.setCell 3 (.int .i64 x)
  clear H7
  obtain ⟨y0, y1, y2, y3, y4⟩ := cells5 hx.sw3
  obtain ⟨z0, z1, z2, z3, z4⟩ := cells5 hx
  have HS1 := Lib.hid (same_any p.k p.s p.o p.n _ p.ls p.k p.s p.o x _ p.ls hx (Sep.lnS hx.sw4) (Sep.lnS hx.sw2) (by have := HLL.out; omega))
  rw [HUN.out.ab] at HS1
  clear hx
  go_wp2_with fail
  refine HS1.out.mono ?_
  rintro r0 w9 ⟨rfl, hx⟩
  clear y0 y1 y2 y3 y4 z0 z1 z2 z3 z4 HS1
  obtain ⟨y0, y1, y2, y3, y4⟩ := cells5 hx.sw3
  obtain ⟨z0, z1, z2, z3, z4⟩ := cells5 hx
  have HS1 := Lib.hid (same_any p.k p.s p.o x _ p.ls p.k p.s p.o p.n _ p.ls hx (Sep.lnS hx.sw2) (Sep.lnS hx.sw4) (by have := HLL.out; omega))
  rw [HUN.out.ba] at HS1
  clear hx
  go_wp2_with fail
  refine HS1.out.mono ?_
  rintro r0 w10 ⟨rfl, hx⟩
  have HW := Lib.hid (works_any hx (HK.out.below hx.low))
  clear hx HS1 y0 y1 y2 y3 y4 z0 z1 z2 z3 z4
  go_wp2_with (refine HW.out.mono ?_; rintro r0 w11 ⟨rfl, h11⟩)
  go_ret
  exact ⟨rfl, h11.low⟩
set_option maxRecDepth 100000 in
set_option maxHeartbeats 16000000 in
theorem same_1 (k : Int) (s : KS) (o n : Int) (v : Value) (ls : List Ln) (which by_ : Int) (w : World) (hv : LnS w v ls) (hk : KindsAt w) (hb : -9223372036854775808 ≤ by_ ∧ by_ ≤ 9223372036854775807) (hby : by_ ≠ 0) (hq : which % 6 = 1) :
    Calls Tryd.prog 7 #[.agg #[.int .i64 k, .string s.1, .int .i64 o, .int .i64 n, v], .int .i64 which, .int .i64 by_] w fun e w' => e = .returned (.bool true) ∧ Below w.heap.size w w' := by
  obtain ⟨a, c, rfl⟩ := hv.len
  have h1 := (Sep.start w).alloc (.cells (opCells k s o n (.slice a ls.length c)) 24)
  have HM := Lib.hid (made_any k s o n _ ls h1 (hv.below h1.low))
  have H1 := Lib.hid h1
  obtain ⟨w1, hw1⟩ : ∃ z, z = w.alloc (.cells (opCells k s o n (.slice a ls.length c)) 24) := ⟨_, rfl⟩
  obtain ⟨b3, hb3⟩ : ∃ z, z = w.heap.size := ⟨_, rfl⟩
  rw [← hw1, ← hb3] at HM
  have HV := Lib.hid hv
  have HK := Lib.hid hk
  unfold opCells at hw1 h1
  have HY := Lib.hid (And.intro hb hby)
  have hy0 : (by_ == 0) = false := by rw [beq_eq_false_iff_ne]; exact hby
  have HB1 := Lib.hid (fun wx => bring_any which 6 wx (by unfold Sm; omega))
  rw [hq] at HB1
  clear hb hby hq
  clear h1 hv hk H1
  go_enter Tryd.func7, Tryd.ntmps7
  go_wp2_with fail
  rw [← hw1, ← hb3]
  clear hw1 hb3
  refine HM.out.mono ?_
  rintro r0 w3 ⟨p, u, rfl, hok, h3⟩
  clear HM
  obtain ⟨a3, c3, rfl, -⟩ := h3.rnForm
  obtain ⟨c0, c1, c2, c3', c4⟩ := cells5 h3.sw2
  obtain ⟨f0, f1, f2, f3, f4⟩ := frz5 h3.sw2
  have h4 := store5 (u0 := .int .i64 p.k) (u1 := .string p.s.1) (u2 := .int .i64 p.o) (u3 := .int .i64 p.n) (u4 := .slice a3 p.ls.length c3) h3.sw2
  obtain ⟨k0, k1, k2, k3, k4⟩ := cells5 h4
  have hll := ok_len hok
  have HLL := Lib.hid hll
  have HCP := Lib.hid (copy_any p.k p.s p.o p.n _ p.ls h4 (Sep.lnS h4.sw2) (by omega))
  have HOK := Lib.hid hok
  clear h3 h4 hok hll
  go_wp2_with fail
  refine HCP.out.mono ?_
  rintro r0 w5 ⟨u5, rfl, h5⟩
  clear c0 c1 c2 c3' c4 f0 f1 f2 f3 f4 k0 k1 k2 k3 k4 HCP
  obtain ⟨a5, c5, rfl, -⟩ := h5.rnForm
  have h6 := h5.alloc (.cells #[.int .i64 p.k, .string p.s.1, .int .i64 p.o, .int .i64 p.n, .slice a5 p.ls.length c5] 24)
  obtain ⟨b7, hb7⟩ : ∃ z, z = w5.heap.size := ⟨_, rfl⟩
  have hne : b7 ≠ b3 := by
    have := h5.sw2.blk_lt.2
    omega
  rw [← hb7] at h6
  obtain ⟨c0, c1, c2, c3', c4⟩ := cells5 h6.sw3
  obtain ⟨d0, d1, d2, d3, d4⟩ := cells5 h6
  have HS1 := Lib.hid (same_any p.k p.s p.o p.n _ p.ls p.k p.s p.o p.n _ p.ls h6 (Sep.lnS h6.sw4) (Sep.lnS h6.sw2) (by have := HLL.out; omega))
  rw [same_self] at HS1
  clear h5 h6
  have hne2 : (b7 == b3) = false := by rw [beq_eq_false_iff_ne]; exact hne
  have hne3 : (b3 == b7) = false := by rw [beq_eq_false_iff_ne]; exact hne.symm
  go_wp2_with fail
  try rw [← hb7]
  try clear hb7
  try go_wp2_with fail
  refine HS1.out.mono ?_
  rintro r0 w6 ⟨rfl, h6⟩
  clear c0 c1 c2 c3' c4 d0 d1 d2 d3 d4 HS1
  obtain ⟨c0, c1, c2, c3', c4⟩ := cells5 h6.sw3
  obtain ⟨d0, d1, d2, d3, d4⟩ := cells5 h6
  have HS1 := Lib.hid (same_any p.k p.s p.o p.n _ p.ls p.k p.s p.o p.n _ p.ls h6 (Sep.lnS h6.sw2) (Sep.lnS h6.sw4) (by have := HLL.out; omega))
  rw [same_self] at HS1
  clear h6
  go_wp2_with fail
  refine HS1.out.mono ?_
  rintro r0 w7 ⟨rfl, h7⟩
  clear c0 c1 c2 c3' c4 d0 d1 d2 d3 d4 HS1
  obtain ⟨c0, c1, c2, c3', c4⟩ := cells5 h7.sw3
  obtain ⟨d0, d1, d2, d3, d4⟩ := cells5 h7
  have H7 := Lib.hid h7
  clear h7
  go_wp2_with fail
  refine (HB1.out _).mono ?_
  rintro r0 w8 ⟨rfl, rfl⟩
  clear HB1
  have hle : (p.s.1 ++ ⟨#[113]⟩ : ByteArray).size ≤ maxLen := by
    rw [ByteArray.size_append]
    have h1 := (OpM.bounds HOK.out).2.2.2
    have h2 : (⟨#[113]⟩ : ByteArray).size = 1 := rfl
    unfold maxLen
    omega
  have n8 : (p.s.1.size : Int) ≤ 8 := by have := (OpM.bounds HOK.out).2.2.2; omega
  have n9 : ¬ (9223372036854775807 : Int) < (p.s.1.size : Int) + 1 := by omega
  have n7 : (p.s.1.size : Int) + 1 ≤ 9223372036854775807 := by omega
  have HUN := Lib.hid (unlike_s (p := p) (s := ⟨p.s.1 ++ (⟨#[113]⟩ : ByteArray), hle⟩) rfl)
  obtain ⟨g0, g1, g2, g3, g4⟩ := frz5 H7.out
  have hx : Sep w (Cl b7 #[.int .i64 p.k, .string (p.s.1 ++ (⟨#[113]⟩ : ByteArray)), .int .i64 p.o, .int .i64 p.n, .slice a5 p.ls.length c5] 24 :: _) (w7.setCell ⟨b7, 1, none⟩ (.string (p.s.1 ++ (⟨#[113]⟩ : ByteArray)))) := H7.out.setCell 1 (.string (p.s.1 ++ (⟨#[113]⟩ : ByteArray)))
  clear H7
  obtain ⟨y0, y1, y2, y3, y4⟩ := cells5 hx.sw3
  obtain ⟨z0, z1, z2, z3, z4⟩ := cells5 hx
  have HS1 := Lib.hid (same_any p.k p.s p.o p.n _ p.ls p.k ⟨p.s.1 ++ (⟨#[113]⟩ : ByteArray), hle⟩ p.o p.n _ p.ls hx (Sep.lnS hx.sw4) (Sep.lnS hx.sw2) (by have := HLL.out; omega))
  rw [HUN.out.ab] at HS1
  clear hx
  go_wp2_with fail
  refine HS1.out.mono ?_
  rintro r0 w9 ⟨rfl, hx⟩
  clear y0 y1 y2 y3 y4 z0 z1 z2 z3 z4 HS1
  obtain ⟨y0, y1, y2, y3, y4⟩ := cells5 hx.sw3
  obtain ⟨z0, z1, z2, z3, z4⟩ := cells5 hx
  have HS1 := Lib.hid (same_any p.k ⟨p.s.1 ++ (⟨#[113]⟩ : ByteArray), hle⟩ p.o p.n _ p.ls p.k p.s p.o p.n _ p.ls hx (Sep.lnS hx.sw2) (Sep.lnS hx.sw4) (by have := HLL.out; omega))
  rw [HUN.out.ba] at HS1
  clear hx
  go_wp2_with fail
  refine HS1.out.mono ?_
  rintro r0 w10 ⟨rfl, hx⟩
  have HW := Lib.hid (works_any hx (HK.out.below hx.low))
  clear hx HS1 y0 y1 y2 y3 y4 z0 z1 z2 z3 z4
  go_wp2_with (refine HW.out.mono ?_; rintro r0 w11 ⟨rfl, h11⟩)
  go_ret
  exact ⟨rfl, h11.low⟩
end Go.Proofs.YtfjodadmcfdlpaaDoor
