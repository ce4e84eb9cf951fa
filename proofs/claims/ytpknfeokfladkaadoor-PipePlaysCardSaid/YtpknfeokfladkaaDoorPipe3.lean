/- A pipe's Get, From, Cut, Trim; those of none. -/
import Derived.Test.YtpknfeokfladkaaDoorPipe2
namespace Go.Proofs.YtpknfeokfladkaaDoor
open Go.RowKit
set_option linter.unusedVariables false
set_option linter.unusedSimpArgs false
def enZ0 : Array Value := #[.int .i64 0, .int .i64 0, .int .i64 0, .string ⟨#[]⟩, .int .i64 0, .int .i64 0, .slice none 0 0]
set_option maxRecDepth 100000 in
set_option maxHeartbeats 16000000 in
theorem get_n {w0 w : World} {L : List Thing} {p : Value} (op : Int) (h : Sep w0 L w) (hp : NP w p) :
    Calls Tryd.prog 31 #[p, .int .i64 op] w fun e w' => e = .returned (.tuple #[.agg #[.int .i64 0, .int .i64 0, .int .i64 0, .string ⟨#[]⟩, .int .i64 0, .int .i64 0, .slice none 0 0], .int .i64 1]) ∧ Sep w0 L w' := by
  have h3 := h.alloc (.cells #[.int .i64 0, .int .i64 0, .int .i64 0, .string ⟨#[]⟩, .int .i64 0, .int .i64 0, .slice none 0 0] 34)
  have hp3 : NP (w.alloc (.cells #[.int .i64 0, .int .i64 0, .int .i64 0, .string ⟨#[]⟩, .int .i64 0, .int .i64 0, .slice none 0 0] 34)) p := by
    rcases hp with rfl | ⟨g, rfl, c0⟩
    · exact .inl rfl
    · refine .inr ⟨g, rfl, ?_⟩
      rw [((Below.refl _ w).alloc (Nat.le_refl _) _).cell (p := ⟨g, 0, none⟩) (by
        unfold World.cell? at c0
        rcases Nat.lt_or_ge g w.heap.size with h1 | h1
        · exact h1
        · simp only at c0; rw [Array.getElem?_eq_none h1] at c0; cases c0)]
      exact c0
  have HN := Lib.hid (pnone_n hp3)
  obtain ⟨f0, f1, f2, f3, f4, f5, f6⟩ := frz7 h3
  obtain ⟨d0, d1, d2, d3, d4, d5, d6⟩ := cells7 h3
  have h7 := store7 (u0 := .int .i64 0) (u1 := .int .i64 0) (u2 := .int .i64 0) (u3 := .string ⟨#[]⟩) (u4 := .int .i64 0) (u5 := .int .i64 0) (u6 := .slice none 0 0) h3
  obtain ⟨y0, y1, y2, y3, y4, y5, y6⟩ := cells7 h7
  have H7 := Lib.hid h7.drop
  clear h h3 h7 hp hp3
  obtain ⟨b4, hb4⟩ : ∃ z, z = w.heap.size := ⟨_, rfl⟩
  obtain ⟨w3, hw3⟩ : ∃ z, z = w.alloc (.cells #[.int .i64 0, .int .i64 0, .int .i64 0, .string ⟨#[]⟩, .int .i64 0, .int .i64 0, .slice none 0 0] 34) := ⟨_, rfl⟩
  rw [← hb4, ← hw3] at f0 f1 f2 f3 f4 f5 f6 d0 d1 d2 d3 d4 d5 d6 y0 y1 y2 y3 y4 y5 y6 H7
  rw [← hw3] at HN
  go_enter Tryd.func31, Tryd.ntmps31
  go_wp2_with fail
  rw [← hw3, ← hb4]
  clear hw3 hb4
  refine HN.out.mono ?_
  rintro r0 w1 ⟨rfl, rfl⟩
  clear HN
  go_wp2_with fail
  exact bodyPost_ret (v := .tuple #[.agg #[.int .i64 0, .int .i64 0, .int .i64 0, .string ⟨#[]⟩, .int .i64 0, .int .i64 0, .slice none 0 0], .int .i64 1]) (by simp [results, Tryd.results31, go_sem, y0, y1, y2, y3, y4, y5, y6]) rfl ⟨rfl, H7.out⟩
set_option maxRecDepth 100000 in
set_option maxHeartbeats 16000000 in
theorem get_bad {w0 w : World} {g : Nat} {b : Int} {ps : List (EnM × Value)} {L : List Thing} (op : Int) (hop : op ≤ b ∨ b + ps.length < op) (h : Sep w0 (PipeT g b ps :: L) w) (h0 : 0 ≤ b) (h1 : b ≤ 4611686018427380000) (hl : ps.length ≤ 1000000) :
    Calls Tryd.prog 31 #[.pointer (some ⟨g, 0, none⟩), .int .i64 op] w fun e w' => e = .returned (.tuple #[.agg #[.int .i64 0, .int .i64 0, .int .i64 0, .string ⟨#[]⟩, .int .i64 0, .int .i64 0, .slice none 0 0], .int .i64 9]) ∧ Sep w0 (PipeT g b ps :: L) w' := by
  obtain ⟨pv, h2⟩ := h.pipeOpen
  obtain ⟨pa, pc, rfl, hpc, -⟩ := h2.sw2.peForm
  have h3 := h2.alloc (.cells #[.int .i64 0, .int .i64 0, .int .i64 0, .string ⟨#[]⟩, .int .i64 0, .int .i64 0, .slice none 0 0] 34)
  obtain ⟨b4, hb4⟩ : ∃ z, z = w.heap.size := ⟨_, rfl⟩
  obtain ⟨w3, hw3⟩ : ∃ z, z = w.alloc (.cells #[.int .i64 0, .int .i64 0, .int .i64 0, .string ⟨#[]⟩, .int .i64 0, .int .i64 0, .slice none 0 0] 34) := ⟨_, rfl⟩
  rw [← hb4, ← hw3] at h3
  have HN := Lib.hid (pnone_c h3.sw2.pc)
  have HT := Lib.hid (top_c h3.sw2.pc h0 (by omega) hl)
  obtain ⟨c0, c1, c2⟩ := cells3 h3.sw2
  obtain ⟨f0, f1, f2, f3, f4, f5, f6⟩ := frz7 h3
  obtain ⟨d0, d1, d2, d3, d4, d5, d6⟩ := cells7 h3
  have H3 := Lib.hid h3
  clear h h2 h3 h0 h1 hl hpc
  obtain ⟨t, ht⟩ : ∃ t, t = b + (ps.length : Int) := ⟨_, rfl⟩
  rw [← ht] at HT hop
  clear ht
  by_cases l0 : op ≤ b
  · have e0 : decide (op ≤ b) = true := decide_eq_true l0
    have h7 := store7 (u0 := .int .i64 0) (u1 := .int .i64 0) (u2 := .int .i64 0) (u3 := .string ⟨#[]⟩) (u4 := .int .i64 0) (u5 := .int .i64 0) (u6 := .slice none 0 0) H3.out
    obtain ⟨y0, y1, y2, y3, y4, y5, y6⟩ := cells7 h7
    have H7 := Lib.hid h7.drop.pipeClose
    clear h7 hop
    go_enter Tryd.func31, Tryd.ntmps31
    go_wp2_with fail
    rw [← hw3, ← hb4]
    clear hw3 hb4 l0
    refine HN.out.mono ?_
    rintro r0 w1 ⟨rfl, rfl⟩
    clear HN
    go_wp2_with fail
    exact bodyPost_ret (v := .tuple #[.agg #[.int .i64 0, .int .i64 0, .int .i64 0, .string ⟨#[]⟩, .int .i64 0, .int .i64 0, .slice none 0 0], .int .i64 9]) (by simp [results, Tryd.results31, go_sem, y0, y1, y2, y3, y4, y5, y6]) rfl ⟨rfl, H7.out⟩
  · have e0 : decide (op ≤ b) = false := decide_eq_false l0
    have e1 : decide (t < op) = true := decide_eq_true (by omega)
    clear hop
    go_enter Tryd.func31, Tryd.ntmps31
    go_wp2_with fail
    rw [← hw3, ← hb4]
    clear hw3 hb4 l0
    refine HN.out.mono ?_
    rintro r0 w1 ⟨rfl, rfl⟩
    clear HN
    go_wp2_with fail
    refine HT.out.mono ?_
    rintro r0 w1 ⟨rfl, kk, rfl⟩
    clear HT
    have h4 := H3.out.drewN kk
    have h7 := store7 (u0 := .int .i64 0) (u1 := .int .i64 0) (u2 := .int .i64 0) (u3 := .string ⟨#[]⟩) (u4 := .int .i64 0) (u5 := .int .i64 0) (u6 := .slice none 0 0) h4
    obtain ⟨y0, y1, y2, y3, y4, y5, y6⟩ := cells7 h7
    obtain ⟨f0, f1, f2, f3, f4, f5, f6⟩ := frz7 h4
    obtain ⟨d0, d1, d2, d3, d4, d5, d6⟩ := cells7 h4
    have H7 := Lib.hid h7.drop.pipeClose
    clear h7 h4
    go_wp2_with fail
    exact bodyPost_ret (v := .tuple #[.agg #[.int .i64 0, .int .i64 0, .int .i64 0, .string ⟨#[]⟩, .int .i64 0, .int .i64 0, .slice none 0 0], .int .i64 9]) (by simp [results, Tryd.results31, go_sem, y0, y1, y2, y3, y4, y5, y6]) rfl ⟨rfl, H7.out⟩
set_option maxRecDepth 100000 in
set_option maxHeartbeats 16000000 in
theorem get_ok {w0 w : World} {g : Nat} {b : Int} {ps : List (EnM × Value)} {L : List Thing} (op : Int) (k : Nat) (hk : k < ps.length) (hop : op = b + k + 1) (hls : ps[k].1.p.ls.length ≤ 1000) (h : Sep w0 (PipeT g b ps :: L) w) (h0 : 0 ≤ b) (h1 : b ≤ 4611686018427380000) (hl : ps.length ≤ 1000000) :
    Calls Tryd.prog 31 #[.pointer (some ⟨g, 0, none⟩), .int .i64 op] w fun e w' => ∃ u, e = .returned (.tuple #[enV ps[k].1 u, .int .i64 0]) ∧ Sep w0 (LnR u ps[k].1.p.ls :: PipeT g b ps :: L) w' := by
  obtain ⟨pv, h2⟩ := h.pipeOpen
  obtain ⟨pa, pc, rfl, hpc, -⟩ := h2.sw2.peForm
  have h3 := h2.alloc (.cells #[.int .i64 0, .int .i64 0, .int .i64 0, .string ⟨#[]⟩, .int .i64 0, .int .i64 0, .slice none 0 0] 34)
  obtain ⟨b4, hb4⟩ : ∃ z, z = w.heap.size := ⟨_, rfl⟩
  obtain ⟨w3, hw3⟩ : ∃ z, z = w.alloc (.cells #[.int .i64 0, .int .i64 0, .int .i64 0, .string ⟨#[]⟩, .int .i64 0, .int .i64 0, .slice none 0 0] 34) := ⟨_, rfl⟩
  rw [← hb4, ← hw3] at h3
  have HN := Lib.hid (pnone_c h3.sw2.pc)
  have HT := Lib.hid (top_c h3.sw2.pc h0 (by omega) hl)
  obtain ⟨c0, c1, c2⟩ := cells3 h3.sw2
  obtain ⟨bx, off, rfl, -, hnc, -, ⟨e0, e1, e2, e3, e4, e5, e6⟩, hln⟩ := (h3.sw3.peS).at hk
  have HEN : Hid (∀ wx M, Sep w0 (PeT (.slice (some ⟨bx, off, none⟩) ps.length pc) ps :: M) wx → En7 wx bx (off + k * 7) ps[k].1 ps[k].2 ∧ LnS wx ps[k].2 ps[k].1.p.ls) := Lib.hid (fun wx M hx => by
    obtain ⟨bx', off', he, -, -, -, h6, h7⟩ := (hx.peS).at hk
    simp only [Option.some.injEq, Addr.mk.injEq, and_true] at he
    obtain ⟨rfl, rfl⟩ := he
    exact ⟨h6, h7⟩)
  obtain ⟨⟨x, v⟩, hxv⟩ : ∃ z, z = ps[k] := ⟨_, rfl⟩
  rw [← hxv] at e0 e1 e2 e3 e4 e5 e6 hln hls HEN ⊢
  dsimp only at e0 e1 e2 e3 e4 e5 e6 hln hls HEN ⊢
  obtain ⟨va, vc, rfl⟩ := hln.len
  have HLS := Lib.hid hls
  have H3 := Lib.hid h3
  have l0 : decide (op ≤ b) = false := decide_eq_false (by omega)
  obtain ⟨t, ht⟩ : ∃ t, t = b + (ps.length : Int) := ⟨_, rfl⟩
  rw [← ht] at HT
  have l1 : decide (t < op) = false := decide_eq_false (by omega)
  have q0 : IntKind.i64.wrap (op - b) = (k : Int) + 1 := by rw [show op - b = (k : Int) + 1 by omega]; exact IntWalk.i64_in _ (by omega)
  have q1 : IntKind.i64.wrap ((k : Int) + 1 - 1) = (k : Int) := by rw [show (k : Int) + 1 - 1 = (k : Int) by omega]; exact IntWalk.i64_in _ (by omega)
  have q2 : IntKind.i64.wrap (k : Int) = (k : Int) := IntWalk.i64_in _ (by omega)
  have k0 : (0 : Int) ≤ (k : Int) := by omega
  have k1 : (k : Int) < (ps.length : Int) := by omega
  clear h h2 h3 h0 h1 hl hpc hop ht hln hls hxv hk
  unfold enV
  go_enter Tryd.func31, Tryd.ntmps31
  go_wp2_with fail
  rw [← hw3, ← hb4]
  clear hw3 hb4
  refine HN.out.mono ?_
  rintro r0 w1 ⟨rfl, rfl⟩
  clear HN
  go_wp2_with fail
  refine HT.out.mono ?_
  rintro r0 w1 ⟨rfl, kk, rfl⟩
  clear HT
  have h5 := (H3.out.drewN kk).drew
  have HCP := Lib.hid (ecopy_any x (.slice va x.p.ls.length vc) h5 (HEN.out _ _ h5.sw3).2 HLS.out)
  unfold enV at HCP
  clear h5
  go_wp2_with fail
  refine wp_region_G (fun w' => w'.cell? ⟨g, 1, none⟩ = some (.int .i64 b) ∧ w'.cell? ⟨g, 2, none⟩ = some (.slice (some ⟨bx, off, none⟩) ps.length pc) ∧ w'.cell? ⟨bx, off + k * 7, none⟩ = some (.int .i64 x.c) ∧ w'.cell? ⟨bx, off + k * 7 + 1, none⟩ = some (.int .i64 x.m) ∧ w'.cell? ⟨bx, off + k * 7 + 2, none⟩ = some (.int .i64 x.p.k) ∧ w'.cell? ⟨bx, off + k * 7 + 3, none⟩ = some (.string x.p.s.1) ∧ w'.cell? ⟨bx, off + k * 7 + 4, none⟩ = some (.int .i64 x.p.o) ∧ w'.cell? ⟨bx, off + k * 7 + 5, none⟩ = some (.int .i64 x.p.n) ∧ w'.cell? ⟨bx, off + k * 7 + 6, none⟩ = some (.slice va x.p.ls.length vc)) [14, 15] (by kernel_rfl) ⟨c1, c2, e0, e1, e2, e3, e4, e5, e6⟩ (fun hS => ?_)
  try dsimp only at hS
  refine wpAnyG_take' (i := 0) (v := ?v0_1gt) rfl (by kernel_rfl) (by kernel_rfl) (by kernel_rfl) (by kernel_rfl) (fun _ _ _ h => h) (Or.inl ⟨by rfl, ?hy0_1gt⟩) hS ?rest0_1gt
  case hy0_1gt => intro w hSw; (try dsimp only at hSw); go_simp; (try with_reducible rfl)
  case rest0_1gt =>
  try simp only [List.getElem_toArray, List.getElem_cons_succ, List.getElem_cons_zero, Act.put, List.setIfInBounds_toArray, List.set_cons_zero, List.set_cons_succ]
  refine wpAnyG_take' (i := 1) (v := ?v1_2gt) rfl (by kernel_rfl) (by kernel_rfl) (by kernel_rfl) (by kernel_rfl) (fun _ _ _ h => h) (Or.inl ⟨by rfl, ?hy1_2gt⟩) hS ?rest1_2gt
  case hy1_2gt => intro w hSw; (try dsimp only at hSw); go_simp; (try with_reducible rfl)
  case rest1_2gt =>
  try simp only [List.getElem_toArray, List.getElem_cons_succ, List.getElem_cons_zero, Act.put, List.setIfInBounds_toArray, List.set_cons_zero, List.set_cons_succ]
  refine wpAnyG_take' (i := 2) (v := ?v2_3gt) rfl (by kernel_rfl) (by kernel_rfl) (by kernel_rfl) (by kernel_rfl) (fun _ _ _ h => h) (Or.inl ⟨by rfl, ?hy2_3gt⟩) hS ?rest2_3gt
  case hy2_3gt => intro w hSw; (try dsimp only at hSw); go_simp; (try with_reducible rfl)
  case rest2_3gt =>
  try simp only [List.getElem_toArray, List.getElem_cons_succ, List.getElem_cons_zero, Act.put, List.setIfInBounds_toArray, List.set_cons_zero, List.set_cons_succ]
  refine wpAnyG_take' (i := 3) (v := ?v3_4gt) rfl (by kernel_rfl) (by kernel_rfl) (by kernel_rfl) (by kernel_rfl) (fun _ _ _ h => h) (Or.inl ⟨by rfl, ?hy3_4gt⟩) hS ?rest3_4gt
  case hy3_4gt => intro w hSw; (try dsimp only at hSw); go_simp; (try with_reducible rfl)
  case rest3_4gt =>
  try simp only [List.getElem_toArray, List.getElem_cons_succ, List.getElem_cons_zero, Act.put, List.setIfInBounds_toArray, List.set_cons_zero, List.set_cons_succ]
  refine wpAnyG_take' (i := 4) (v := ?v4_5gt) rfl (by kernel_rfl) (by kernel_rfl) (by kernel_rfl) (by kernel_rfl) (fun _ _ _ h => h) (Or.inl ⟨by rfl, ?hy4_5gt⟩) hS ?rest4_5gt
  case hy4_5gt => intro w hSw; (try dsimp only at hSw); go_simp; (try with_reducible rfl)
  case rest4_5gt =>
  try simp only [List.getElem_toArray, List.getElem_cons_succ, List.getElem_cons_zero, Act.put, List.setIfInBounds_toArray, List.set_cons_zero, List.set_cons_succ]
  refine wpAnyG_take' (i := 5) (v := ?v5_6gt) rfl (by kernel_rfl) (by kernel_rfl) (by kernel_rfl) (by kernel_rfl) (fun _ _ _ h => h) (Or.inl ⟨by rfl, ?hy5_6gt⟩) hS ?rest5_6gt
  case hy5_6gt => intro w hSw; (try dsimp only at hSw); go_simp; (try with_reducible rfl)
  case rest5_6gt =>
  try simp only [List.getElem_toArray, List.getElem_cons_succ, List.getElem_cons_zero, Act.put, List.setIfInBounds_toArray, List.set_cons_zero, List.set_cons_succ]
  refine wpAnyG_take' (i := 6) (v := ?v6_7gt) rfl (by kernel_rfl) (by kernel_rfl) (by kernel_rfl) (by kernel_rfl) (fun _ _ _ h => h) (Or.inl ⟨by rfl, ?hy6_7gt⟩) hS ?rest6_7gt
  case hy6_7gt => intro w hSw; (try dsimp only at hSw); go_simp; (try with_reducible rfl)
  case rest6_7gt =>
  try simp only [List.getElem_toArray, List.getElem_cons_succ, List.getElem_cons_zero, Act.put, List.setIfInBounds_toArray, List.set_cons_zero, List.set_cons_succ]
  refine wpAnyG_take' (i := 7) (v := ?v7_8gt) rfl (by kernel_rfl) (by kernel_rfl) (by kernel_rfl) (by kernel_rfl) (fun _ _ _ h => h) (Or.inl ⟨by rfl, ?hy7_8gt⟩) hS ?rest7_8gt
  case hy7_8gt => intro w hSw; (try dsimp only at hSw); go_simp; (try with_reducible rfl)
  case rest7_8gt =>
  try simp only [List.getElem_toArray, List.getElem_cons_succ, List.getElem_cons_zero, Act.put, List.setIfInBounds_toArray, List.set_cons_zero, List.set_cons_succ]
  refine wpAnyG_take' (i := 8) (v := ?v8_9gt) rfl (by kernel_rfl) (by kernel_rfl) (by kernel_rfl) (by kernel_rfl) (fun _ _ _ h => h) (Or.inl ⟨by rfl, ?hy8_9gt⟩) hS ?rest8_9gt
  case hy8_9gt => intro w hSw; (try dsimp only at hSw); go_simp; (try with_reducible rfl)
  case rest8_9gt =>
  try simp only [List.getElem_toArray, List.getElem_cons_succ, List.getElem_cons_zero, Act.put, List.setIfInBounds_toArray, List.set_cons_zero, List.set_cons_succ]
  refine wpAnyG_take' (i := 9) (v := ?v9_10gt) rfl (by kernel_rfl) (by kernel_rfl) (by kernel_rfl) (by kernel_rfl) (fun _ _ _ h => h) (Or.inl ⟨by rfl, ?hy9_10gt⟩) hS ?rest9_10gt
  case hy9_10gt => intro w hSw; (try dsimp only at hSw); go_simp; (try with_reducible rfl)
  case rest9_10gt =>
  try simp only [List.getElem_toArray, List.getElem_cons_succ, List.getElem_cons_zero, Act.put, List.setIfInBounds_toArray, List.set_cons_zero, List.set_cons_succ]
  refine wpAnyG_take' (i := 10) (v := ?v10_11gt) rfl (by kernel_rfl) (by kernel_rfl) (by kernel_rfl) (by kernel_rfl) (fun _ _ _ h => h) (Or.inl ⟨by rfl, ?hy10_11gt⟩) hS ?rest10_11gt
  case hy10_11gt => intro w hSw; (try dsimp only at hSw); go_simp; (try with_reducible rfl)
  case rest10_11gt =>
  try simp only [List.getElem_toArray, List.getElem_cons_succ, List.getElem_cons_zero, Act.put, List.setIfInBounds_toArray, List.set_cons_zero, List.set_cons_succ]
  refine wpAnyG_take' (i := 11) (v := ?v11_12gt) rfl (by kernel_rfl) (by kernel_rfl) (by kernel_rfl) (by kernel_rfl) (fun _ _ _ h => h) (Or.inl ⟨by rfl, ?hy11_12gt⟩) hS ?rest11_12gt
  case hy11_12gt => intro w hSw; (try dsimp only at hSw); go_simp; (try with_reducible rfl)
  case rest11_12gt =>
  try simp only [List.getElem_toArray, List.getElem_cons_succ, List.getElem_cons_zero, Act.put, List.setIfInBounds_toArray, List.set_cons_zero, List.set_cons_succ]
  refine wpAnyG_take' (i := 12) (v := ?v12_13gt) rfl (by kernel_rfl) (by kernel_rfl) (by kernel_rfl) (by kernel_rfl) (fun _ _ _ h => h) (Or.inl ⟨by rfl, ?hy12_13gt⟩) hS ?rest12_13gt
  case hy12_13gt => intro w hSw; (try dsimp only at hSw); go_simp; (try with_reducible rfl)
  case rest12_13gt =>
  try simp only [List.getElem_toArray, List.getElem_cons_succ, List.getElem_cons_zero, Act.put, List.setIfInBounds_toArray, List.set_cons_zero, List.set_cons_succ]
  refine wpAnyG_one (i := 13) (by kernel_rfl) rfl (fun K hK => ?_)
  go_simp
  refine Calls.mono HCP.out ?_
  rintro r6 w6 ⟨u, rfl, h6⟩
  obtain ⟨au, ku, rfl, -⟩ := h6.rnForm
  clear c0 c1 c2 e0 e1 e2 e3 e4 e5 e6 HCP
  obtain ⟨c0, c1, c2⟩ := cells3 h6.sw3
  obtain ⟨e0, e1, e2, e3, e4, e5, e6⟩ := (HEN.out _ _ h6.sw4).1
  obtain ⟨d0, d1, d2, d3, d4, d5, d6⟩ := cells7 h6.sw2
  obtain ⟨f0, f1, f2, f3, f4, f5, f6⟩ := frz7 h6.sw2
  have h7 := store7 (u0 := .int .i64 x.c) (u1 := .int .i64 x.m) (u2 := .int .i64 x.p.k) (u3 := .string x.p.s.1) (u4 := .int .i64 x.p.o) (u5 := .int .i64 x.p.n) (u6 := .slice au x.p.ls.length ku) h6.sw2
  obtain ⟨y0, y1, y2, y3, y4, y5, y6⟩ := cells7 h7
  have H7 := Lib.hid (Sep.sw2 (Sep.pipeClose (h7.drop.pickL (M := [_, _, _]) [1, 2, 0] rfl)))
  clear h6 h7
  go_wp2_with fail
  refine hK.out _ _ (fun _ => ?hS14gt) ?rest14gt
  case hS14gt => exact ⟨c1, c2, e0, e1, e2, e3, e4, e5, e6⟩
  clear K hK
  try simp only [List.getElem_toArray, List.getElem_cons_succ, List.getElem_cons_zero, Act.put, List.setIfInBounds_toArray, List.set_cons_zero, List.set_cons_succ]
  refine wpAnyG_one (i := 14) (by kernel_rfl) rfl (fun K hK => ?_)
  go_simp
  refine hK.out _ _ (fun hno => by cases hno) ?_
  clear K hK
  try simp only [List.getElem_toArray, List.getElem_cons_succ, List.getElem_cons_zero, Act.put, List.setIfInBounds_toArray, List.set_cons_zero, List.set_cons_succ]
  refine wpAnyG_one (i := 15) (by kernel_rfl) rfl (fun K hK => ?_)
  go_simp
  refine hK.out _ _ (fun hno => by cases hno) ?_
  clear K hK
  try simp only [List.getElem_toArray, List.getElem_cons_succ, List.getElem_cons_zero, Act.put, List.setIfInBounds_toArray, List.set_cons_zero, List.set_cons_succ]
  refine wpAnyG_done (by kernel_rfl) ?_ _
  try simp only [List.getElem_toArray, List.getElem_cons_succ, List.getElem_cons_zero, Act.put, List.setIfInBounds_toArray, List.set_cons_zero, List.set_cons_succ]
  go_wp2_with fail
  exact bodyPost_ret (v := .tuple #[.agg #[.int .i64 x.c, .int .i64 x.m, .int .i64 x.p.k, .string x.p.s.1, .int .i64 x.p.o, .int .i64 x.p.n, .slice au x.p.ls.length ku], .int .i64 0]) (by simp [results, Tryd.results31, go_sem, y0, y1, y2, y3, y4, y5, y6]) rfl ⟨_, rfl, H7.out⟩
end Go.Proofs.YtpknfeokfladkaaDoor
