/- What a call of both does: Agree. -/
import Derived.Test.YtpknfeokfladkaaDoorPipe22
namespace Go.Proofs.YtpknfeokfladkaaDoor
open Go.RowKit
set_option linter.unusedVariables false
set_option linter.unusedSimpArgs false
set_option maxRecDepth 100000 in
set_option maxHeartbeats 32000000 in
theorem step_agreeR {w0 w : World} {g g' : Nat} {B : Int} {ps qs : List (EnM × Value)} {L : List Thing} (K A : Int) (x : EnM) (la ea : Option Addr) (lc ec n : Nat) (ys : List (EnM × Value)) (q : Int) (hq : A = q)
    (h : Sep w0 (PipeT g B ps :: DocT g' B qs :: L) w) (hpq : qs.map (·.1) = ps.map (·.1)) (h0 : 0 ≤ B) (h1 : B ≤ 4611686018427300000) (hl : ps.length ≤ 24) (hls : ∀ q ∈ ps, q.1.p.ls.length ≤ 1000) (hk : KindsAt w0)
    (hx : ∀ wx, Sep w0 L wx → LnS wx (.slice la x.p.ls.length lc) x.p.ls) (hxl : x.p.ls.length ≤ 1000) (hy : ∀ wx, Sep w0 L wx → EnS wx (.slice ea n ec) ys) (hn : ys.length = n) (hkd : K % 7 = 6) :
    Calls Tryd.prog 12 #[.pointer (some ⟨g, 0, none⟩), .pointer (some ⟨g', 0, none⟩), .agg #[.int .i64 K, .int .i64 A, .bool true, .int .i64 x.c, .int .i64 x.m, .int .i64 x.p.k, .string x.p.s.1, .int .i64 x.p.o, .int .i64 x.p.n, .slice la x.p.ls.length lc, .slice ea n ec]] w fun e w' => e = .returned (.bool true) ∧ StepQ w0 g g' B L w' := by
  subst hq
  have hlq : qs.length = ps.length := by simpa using congrArg List.length hpq
  have hlsq : ∀ q ∈ qs, q.1.p.ls.length ≤ 1000 := lnq2 hpq hls
  have h2 := h.alloc (.cells #[.int .i64 K, .int .i64 A, .bool true, .int .i64 x.c, .int .i64 x.m, .int .i64 x.p.k, .string x.p.s.1, .int .i64 x.p.o, .int .i64 x.p.n, .slice la x.p.ls.length lc, .slice ea n ec] 37)
  have c0 := h2.cell (o := 0) rfl
  have c1 := h2.cell (o := 1) rfl
  have c2 := h2.cell (o := 2) rfl
  have HBK := Lib.hid (fun wx => bring_any K 7 wx (by unfold Sm; omega))
  rw [hkd] at HBK
  obtain ⟨b5, hb5⟩ : ∃ z, z = w.heap.size := ⟨_, rfl⟩
  obtain ⟨w3, hw3⟩ : ∃ z, z = w.alloc (.cells #[.int .i64 K, .int .i64 A, .bool true, .int .i64 x.c, .int .i64 x.m, .int .i64 x.p.k, .string x.p.s.1, .int .i64 x.p.o, .int .i64 x.p.n, .slice la x.p.ls.length lc, .slice ea n ec] 37) := ⟨_, rfl⟩
  have hA : Sep w0 (Cl b5 #[.int .i64 K, .int .i64 A, .bool true, .int .i64 x.c, .int .i64 x.m, .int .i64 x.p.k, .string x.p.s.1, .int .i64 x.p.o, .int .i64 x.p.n, .slice la x.p.ls.length lc, .slice ea n ec] 37 :: PipeT g B ps :: DocT g' B qs :: L) w3 := by rw [hb5, hw3]; exact h2
  have HA := Lib.hid hA
  have HH := Lib.hid (And.intro hpq (And.intro h0 (And.intro h1 (And.intro hl (And.intro hls (And.intro hlq (And.intro hlsq hk)))))))
  have HX := Lib.hid hx
  have HXL := Lib.hid hxl
  have HY := Lib.hid hy
  have HN := Lib.hid hn
  clear h h2 hA hpq h0 h1 hl hls hlq hlsq hk hx hxl hy hn
  go_enter Tryd.func12, Tryd.ntmps12
  (try dsimp only); repeat' (first | go_values | go_skip | go_guarded | go_step | go_upon | go_back)
  refine (HBK.out _).mono ?_
  rintro r0 wz ⟨rfl, rfl⟩
  rw [← hw3, ← hb5]
  clear c0 c1 c2 HBK hw3 hb5
  have c10 := HA.out.cell (o := 10) rfl
  have hc := agree_any A ea ec n ys ((HA.out.drew).pickL (M := [_, _, _]) [1, 0, 2] rfl) (fun wx hw => HY.out wx hw.drop.drop) HN.out HH.out.2.1 (by have := HH.out.2.2.1; omega) (by have := HH.out.2.2.2.1; omega)
  have HC := Lib.hid hc
  clear hc
  (try dsimp only); repeat' (first | go_values | go_skip | go_guarded | go_step | go_upon | go_back)
  refine wp_region_G (fun w' => w'.cell? ⟨b5, 10, none⟩ = some (.slice ea n ec)) [] (by kernel_rfl) c10 (fun hS => ?_)
  try dsimp only at hS
  refine wpAnyG_take' (i := 0) (v := ?v0_1ag) rfl (by kernel_rfl) (by kernel_rfl) (by kernel_rfl) (by kernel_rfl) (fun _ _ _ h => h) (Or.inl ⟨by rfl, ?hy0_1ag⟩) hS ?rest0_1ag
  case hy0_1ag => intro w hSw; (try dsimp only at hSw); go_simp; (try with_reducible rfl)
  case rest0_1ag =>
  try simp only [List.getElem_toArray, List.getElem_cons_succ, List.getElem_cons_zero, Act.put, List.setIfInBounds_toArray, List.set_cons_zero, List.set_cons_succ]
  refine wpAnyG_take' (i := 1) (v := ?v1_2ag) rfl (by kernel_rfl) (by kernel_rfl) (by kernel_rfl) (by kernel_rfl) (fun _ _ _ h => h) (Or.inl ⟨by rfl, ?hy1_2ag⟩) hS ?rest1_2ag
  case hy1_2ag => intro w hSw; (try dsimp only at hSw); go_simp; (try with_reducible rfl)
  case rest1_2ag =>
  try simp only [List.getElem_toArray, List.getElem_cons_succ, List.getElem_cons_zero, Act.put, List.setIfInBounds_toArray, List.set_cons_zero, List.set_cons_succ]
  refine wpAnyG_take' (i := 2) (v := ?v2_3ag) rfl (by kernel_rfl) (by kernel_rfl) (by kernel_rfl) (by kernel_rfl) (fun _ _ _ h => h) (Or.inl ⟨by rfl, ?hy2_3ag⟩) hS ?rest2_3ag
  case hy2_3ag => intro w hSw; (try dsimp only at hSw); go_simp; (try with_reducible rfl)
  case rest2_3ag =>
  try simp only [List.getElem_toArray, List.getElem_cons_succ, List.getElem_cons_zero, Act.put, List.setIfInBounds_toArray, List.set_cons_zero, List.set_cons_succ]
  refine wpAnyG_take' (i := 3) (v := ?v3_4ag) rfl (by kernel_rfl) (by kernel_rfl) (by kernel_rfl) (by kernel_rfl) (fun _ _ _ h => h) (Or.inl ⟨by rfl, ?hy3_4ag⟩) hS ?rest3_4ag
  case hy3_4ag => intro w hSw; (try dsimp only at hSw); go_simp; (try with_reducible rfl)
  case rest3_4ag =>
  try simp only [List.getElem_toArray, List.getElem_cons_succ, List.getElem_cons_zero, Act.put, List.setIfInBounds_toArray, List.set_cons_zero, List.set_cons_succ]
  refine wpAnyG_take' (i := 5) (v := ?v5_5ag) rfl (by kernel_rfl) (by kernel_rfl) (by kernel_rfl) (by kernel_rfl) (fun _ _ _ h => h) (Or.inl ⟨by rfl, ?hy5_5ag⟩) hS ?rest5_5ag
  case hy5_5ag => intro w hSw; (try dsimp only at hSw); go_simp; (try with_reducible rfl)
  case rest5_5ag =>
  try simp only [List.getElem_toArray, List.getElem_cons_succ, List.getElem_cons_zero, Act.put, List.setIfInBounds_toArray, List.set_cons_zero, List.set_cons_succ]
  refine wpAnyG_take' (i := 6) (v := ?v6_6ag) rfl (by kernel_rfl) (by kernel_rfl) (by kernel_rfl) (by kernel_rfl) (fun _ _ _ h => h) (Or.inl ⟨by rfl, ?hy6_6ag⟩) hS ?rest6_6ag
  case hy6_6ag => intro w hSw; (try dsimp only at hSw); go_simp; (try with_reducible rfl)
  case rest6_6ag =>
  try simp only [List.getElem_toArray, List.getElem_cons_succ, List.getElem_cons_zero, Act.put, List.setIfInBounds_toArray, List.set_cons_zero, List.set_cons_succ]
  refine wpAnyG_take' (i := 7) (v := ?v7_7ag) rfl (by kernel_rfl) (by kernel_rfl) (by kernel_rfl) (by kernel_rfl) (fun _ _ _ h => h) (Or.inl ⟨by rfl, ?hy7_7ag⟩) hS ?rest7_7ag
  case hy7_7ag => intro w hSw; (try dsimp only at hSw); go_simp; (try with_reducible rfl)
  case rest7_7ag =>
  try simp only [List.getElem_toArray, List.getElem_cons_succ, List.getElem_cons_zero, Act.put, List.setIfInBounds_toArray, List.set_cons_zero, List.set_cons_succ]
  refine wpAnyG_take' (i := 8) (v := ?v8_8ag) rfl (by kernel_rfl) (by kernel_rfl) (by kernel_rfl) (by kernel_rfl) (fun _ _ _ h => h) (Or.inl ⟨by rfl, ?hy8_8ag⟩) hS ?rest8_8ag
  case hy8_8ag => intro w hSw; (try dsimp only at hSw); go_simp; (try with_reducible rfl)
  case rest8_8ag =>
  try simp only [List.getElem_toArray, List.getElem_cons_succ, List.getElem_cons_zero, Act.put, List.setIfInBounds_toArray, List.set_cons_zero, List.set_cons_succ]
  refine wpAnyG_one (i := 4) (by kernel_rfl) rfl (fun K hK => ?_)
  go_simp
  refine Calls.mono HC.out ?_
  rintro r4 w4 ⟨rfl, h4⟩
  have c10b := h4.sw2.cell (o := 10) rfl
  have hr := ragree_any A ea ec n ys (h4.pickL (M := [_, _, _]) [2, 0, 1] rfl) (fun wx hw => HY.out wx hw.drop.drop) HN.out HH.out.2.1 (by have := HH.out.2.2.1; omega) (by rw [HH.out.2.2.2.2.2.1]; have := HH.out.2.2.2.1; omega)
  rw [HH.out.1] at hr
  generalize agrV B (List.map (fun x => x.1) ps) A (List.map (fun x => x.1) ys) = R1 at *
  have HR := Lib.hid hr
  clear hr h4 HC
  (try dsimp only); repeat' (first | go_values | go_skip | go_guarded | go_step | go_upon | go_back)
  refine hK.out _ _ (fun _ => ?hS9ag) ?rest9ag
  case hS9ag => exact c10b
  clear K hK
  try simp only [List.getElem_toArray, List.getElem_cons_succ, List.getElem_cons_zero, Act.put, List.setIfInBounds_toArray, List.set_cons_zero, List.set_cons_succ]
  refine wpAnyG_one (i := 9) (by kernel_rfl) rfl (fun K hK => ?_)
  go_simp
  refine Calls.mono HR.out ?_
  rintro r9 w5 ⟨rfl, h5⟩
  have c10c := h5.sw3.cell (o := 10) rfl
  have H9 : Hid (StepQ w0 g g' B L _) := Lib.hid ⟨B, ps, qs, Int.le_refl _, by omega, HH.out.1, HH.out.2.2.2.1, HH.out.2.2.2.2.1, h5.pickL (M := [_, _, _]) [1, 0] rfl⟩
  clear HR h5
  (try dsimp only); repeat' (first | go_values | go_skip | go_guarded | go_step | go_upon | go_back)
  refine hK.out _ _ (fun _ => ?hS10ag) ?rest10ag
  case hS10ag => exact c10c
  clear K hK
  try simp only [List.getElem_toArray, List.getElem_cons_succ, List.getElem_cons_zero, Act.put, List.setIfInBounds_toArray, List.set_cons_zero, List.set_cons_succ]
  refine wpAnyG_take' (i := 10) (v := ?v10_11ag) rfl (by kernel_rfl) (by kernel_rfl) (by kernel_rfl) (by kernel_rfl) (fun _ _ _ h => h) (Or.inl ⟨by rfl, ?hy10_11ag⟩) c10c ?rest10_11ag
  case hy10_11ag => intro w hSw; (try dsimp only at hSw); go_simp; (try with_reducible rfl)
  case rest10_11ag =>
  try simp only [List.getElem_toArray, List.getElem_cons_succ, List.getElem_cons_zero, Act.put, List.setIfInBounds_toArray, List.set_cons_zero, List.set_cons_succ]
  refine wpAnyG_take' (i := 11) (v := ?v11_12ag) rfl (by kernel_rfl) (by kernel_rfl) (by kernel_rfl) (by kernel_rfl) (fun _ _ _ h => h) (Or.inl ⟨by rfl, ?hy11_12ag⟩) c10c ?rest11_12ag
  case hy11_12ag => intro w hSw; (try dsimp only at hSw); go_simp; (try with_reducible rfl)
  case rest11_12ag =>
  try simp only [List.getElem_toArray, List.getElem_cons_succ, List.getElem_cons_zero, Act.put, List.setIfInBounds_toArray, List.set_cons_zero, List.set_cons_succ]
  refine wpAnyG_done (by kernel_rfl) ?_ _
  try simp only [List.getElem_toArray, List.getElem_cons_succ, List.getElem_cons_zero, Act.put, List.setIfInBounds_toArray, List.set_cons_zero, List.set_cons_succ]
  (try dsimp only); repeat' (first | go_values | go_skip | go_guarded | go_step | go_upon | go_back)
  go_ret
  exact ⟨rfl, H9.out⟩
set_option maxRecDepth 100000 in
set_option maxHeartbeats 32000000 in
theorem step_agree {w0 w : World} {g g' : Nat} {B : Int} {ps qs : List (EnM × Value)} {L : List Thing} (K A : Int) (x : EnM) (la ea : Option Addr) (lc ec n : Nat) (ys : List (EnM × Value)) (q : Int) (hq : B + A % 28 - 1 = q)
    (h : Sep w0 (PipeT g B ps :: DocT g' B qs :: L) w) (hpq : qs.map (·.1) = ps.map (·.1)) (h0 : 0 ≤ B) (h1 : B ≤ 4611686018427300000) (hl : ps.length ≤ 24) (hls : ∀ q ∈ ps, q.1.p.ls.length ≤ 1000) (hk : KindsAt w0)
    (hx : ∀ wx, Sep w0 L wx → LnS wx (.slice la x.p.ls.length lc) x.p.ls) (hxl : x.p.ls.length ≤ 1000) (hy : ∀ wx, Sep w0 L wx → EnS wx (.slice ea n ec) ys) (hn : ys.length = n) (hkd : K % 7 = 6) :
    Calls Tryd.prog 12 #[.pointer (some ⟨g, 0, none⟩), .pointer (some ⟨g', 0, none⟩), .agg #[.int .i64 K, .int .i64 A, .bool false, .int .i64 x.c, .int .i64 x.m, .int .i64 x.p.k, .string x.p.s.1, .int .i64 x.p.o, .int .i64 x.p.n, .slice la x.p.ls.length lc, .slice ea n ec]] w fun e w' => e = .returned (.bool true) ∧ StepQ w0 g g' B L w' := by
  have hlq : qs.length = ps.length := by simpa using congrArg List.length hpq
  have hlsq : ∀ q ∈ qs, q.1.p.ls.length ≤ 1000 := lnq2 hpq hls
  have h2 := h.alloc (.cells #[.int .i64 K, .int .i64 A, .bool false, .int .i64 x.c, .int .i64 x.m, .int .i64 x.p.k, .string x.p.s.1, .int .i64 x.p.o, .int .i64 x.p.n, .slice la x.p.ls.length lc, .slice ea n ec] 37)
  have c0 := h2.cell (o := 0) rfl
  have c1 := h2.cell (o := 1) rfl
  have c2 := h2.cell (o := 2) rfl
  obtain ⟨mv, hD⟩ := Sep.docOpen (h2.pickL (M := [_, _, _]) [2, 0, 1] rfl)
  have d0 := hD.cell (o := 0) rfl
  clear hD
  have HBA := Lib.hid (fun wx => bring_any A 28 wx (by unfold Sm; omega))
  have wq1 : IntKind.i64.wrap (B + A % 28) = B + A % 28 := IntWalk.i64_in _ (by omega)
  have wq2 : IntKind.i64.wrap (B + A % 28 - 1) = q := by rw [hq]; exact IntWalk.i64_in _ (by omega)
  have HBK := Lib.hid (fun wx => bring_any K 7 wx (by unfold Sm; omega))
  rw [hkd] at HBK
  obtain ⟨b5, hb5⟩ : ∃ z, z = w.heap.size := ⟨_, rfl⟩
  obtain ⟨w3, hw3⟩ : ∃ z, z = (w.alloc (.cells #[.int .i64 K, .int .i64 A, .bool false, .int .i64 x.c, .int .i64 x.m, .int .i64 x.p.k, .string x.p.s.1, .int .i64 x.p.o, .int .i64 x.p.n, .slice la x.p.ls.length lc, .slice ea n ec] 37)).drew := ⟨_, rfl⟩
  have hA : Sep w0 (Cl b5 #[.int .i64 K, .int .i64 A, .bool false, .int .i64 x.c, .int .i64 x.m, .int .i64 x.p.k, .string x.p.s.1, .int .i64 x.p.o, .int .i64 x.p.n, .slice la x.p.ls.length lc, .slice ea n ec] 37 :: PipeT g B ps :: DocT g' B qs :: L) w3 := by rw [hb5, hw3]; exact h2.drew
  have HA := Lib.hid hA
  have HH := Lib.hid (And.intro hpq (And.intro h0 (And.intro h1 (And.intro hl (And.intro hls (And.intro hlq (And.intro hlsq hk)))))))
  have HX := Lib.hid hx
  have HXL := Lib.hid hxl
  have HY := Lib.hid hy
  have HN := Lib.hid hn
  clear h h2 hA hpq h0 h1 hl hls hlq hlsq hk hx hxl hy hn hq
  go_enter Tryd.func12, Tryd.ntmps12
  (try dsimp only); repeat' (first | go_values | go_skip | go_guarded | go_step | go_upon | go_back)
  refine wp_region_G (fun w' => w'.cell? ⟨g', 0, none⟩ = some (.int .i64 B) ∧ w'.cell? ⟨w.heap.size, 1, none⟩ = some (.int .i64 A)) [] (by kernel_rfl) ⟨d0, c1⟩ (fun hS => ?_)
  try dsimp only at hS
  refine wpAnyG_take' (i := 0) (v := ?v0_1r3) rfl (by kernel_rfl) (by kernel_rfl) (by kernel_rfl) (by kernel_rfl) (fun _ _ _ h => h) (Or.inl ⟨by rfl, ?hy0_1r3⟩) hS ?rest0_1r3
  case hy0_1r3 => intro w hSw; (try dsimp only at hSw); go_simp; (try with_reducible rfl)
  case rest0_1r3 =>
  try simp only [List.getElem_toArray, List.getElem_cons_succ, List.getElem_cons_zero, Act.put, List.setIfInBounds_toArray, List.set_cons_zero, List.set_cons_succ]
  refine wpAnyG_take' (i := 1) (v := ?v1_2r3) rfl (by kernel_rfl) (by kernel_rfl) (by kernel_rfl) (by kernel_rfl) (fun _ _ _ h => h) (Or.inl ⟨by rfl, ?hy1_2r3⟩) hS ?rest1_2r3
  case hy1_2r3 => intro w hSw; (try dsimp only at hSw); go_simp; (try with_reducible rfl)
  case rest1_2r3 =>
  try simp only [List.getElem_toArray, List.getElem_cons_succ, List.getElem_cons_zero, Act.put, List.setIfInBounds_toArray, List.set_cons_zero, List.set_cons_succ]
  refine wpAnyG_take' (i := 2) (v := ?v2_3r3) rfl (by kernel_rfl) (by kernel_rfl) (by kernel_rfl) (by kernel_rfl) (fun _ _ _ h => h) (Or.inl ⟨by rfl, ?hy2_3r3⟩) hS ?rest2_3r3
  case hy2_3r3 => intro w hSw; (try dsimp only at hSw); go_simp; (try with_reducible rfl)
  case rest2_3r3 =>
  try simp only [List.getElem_toArray, List.getElem_cons_succ, List.getElem_cons_zero, Act.put, List.setIfInBounds_toArray, List.set_cons_zero, List.set_cons_succ]
  refine wpAnyG_take' (i := 3) (v := ?v3_4r3) rfl (by kernel_rfl) (by kernel_rfl) (by kernel_rfl) (by kernel_rfl) (fun _ _ _ h => h) (Or.inl ⟨by rfl, ?hy3_4r3⟩) hS ?rest3_4r3
  case hy3_4r3 => intro w hSw; (try dsimp only at hSw); go_simp; (try with_reducible rfl)
  case rest3_4r3 =>
  try simp only [List.getElem_toArray, List.getElem_cons_succ, List.getElem_cons_zero, Act.put, List.setIfInBounds_toArray, List.set_cons_zero, List.set_cons_succ]
  refine wpAnyG_take' (i := 4) (v := ?v4_5r3) rfl (by kernel_rfl) (by kernel_rfl) (by kernel_rfl) (by kernel_rfl) (fun _ _ _ h => h) (Or.inl ⟨by rfl, ?hy4_5r3⟩) hS ?rest4_5r3
  case hy4_5r3 => intro w hSw; (try dsimp only at hSw); go_simp; (try with_reducible rfl)
  case rest4_5r3 =>
  try simp only [List.getElem_toArray, List.getElem_cons_succ, List.getElem_cons_zero, Act.put, List.setIfInBounds_toArray, List.set_cons_zero, List.set_cons_succ]
  refine wpAnyG_take' (i := 5) (v := ?v5_6r3) rfl (by kernel_rfl) (by kernel_rfl) (by kernel_rfl) (by kernel_rfl) (fun _ _ _ h => h) (Or.inl ⟨by rfl, ?hy5_6r3⟩) hS ?rest5_6r3
  case hy5_6r3 => intro w hSw; (try dsimp only at hSw); go_simp; (try with_reducible rfl)
  case rest5_6r3 =>
  try simp only [List.getElem_toArray, List.getElem_cons_succ, List.getElem_cons_zero, Act.put, List.setIfInBounds_toArray, List.set_cons_zero, List.set_cons_succ]
  refine wpAnyG_one (i := 6) (by kernel_rfl) rfl (fun K hK => ?_)
  go_simp
  refine Calls.mono (HBA.out _) ?_
  rintro r6 w6 ⟨rfl, rfl⟩
  (try dsimp only); repeat' (first | go_values | go_skip | go_guarded | go_step | go_upon | go_back)
  refine hK.out _ _ (fun _ => ?hS7r3) ?rest7r3
  case hS7r3 => exact hS
  clear K hK
  try simp only [List.getElem_toArray, List.getElem_cons_succ, List.getElem_cons_zero, Act.put, List.setIfInBounds_toArray, List.set_cons_zero, List.set_cons_succ]
  refine wpAnyG_take' (i := 7) (v := ?v7_8r3) rfl (by kernel_rfl) (by kernel_rfl) (by kernel_rfl) (by kernel_rfl) (fun _ _ _ h => h) (Or.inl ⟨by rfl, ?hy7_8r3⟩) hS ?rest7_8r3
  case hy7_8r3 => intro w hSw; (try dsimp only at hSw); go_simp; (try with_reducible rfl)
  case rest7_8r3 =>
  try simp only [List.getElem_toArray, List.getElem_cons_succ, List.getElem_cons_zero, Act.put, List.setIfInBounds_toArray, List.set_cons_zero, List.set_cons_succ]
  refine wpAnyG_take' (i := 8) (v := ?v8_9r3) rfl (by kernel_rfl) (by kernel_rfl) (by kernel_rfl) (by kernel_rfl) (fun _ _ _ h => h) (Or.inl ⟨by rfl, ?hy8_9r3⟩) hS ?rest8_9r3
  case hy8_9r3 => intro w hSw; (try dsimp only at hSw); go_simp; (try with_reducible rfl)
  case rest8_9r3 =>
  try simp only [List.getElem_toArray, List.getElem_cons_succ, List.getElem_cons_zero, Act.put, List.setIfInBounds_toArray, List.set_cons_zero, List.set_cons_succ]
  refine wpAnyG_take' (i := 9) (v := ?v9_10r3) rfl (by kernel_rfl) (by kernel_rfl) (by kernel_rfl) (by kernel_rfl) (fun _ _ _ h => h) (Or.inl ⟨by rfl, ?hy9_10r3⟩) hS ?rest9_10r3
  case hy9_10r3 => intro w hSw; (try dsimp only at hSw); go_simp; (try with_reducible rfl)
  case rest9_10r3 =>
  try simp only [List.getElem_toArray, List.getElem_cons_succ, List.getElem_cons_zero, Act.put, List.setIfInBounds_toArray, List.set_cons_zero, List.set_cons_succ]
  refine wpAnyG_done (by kernel_rfl) ?_ _
  try simp only [List.getElem_toArray, List.getElem_cons_succ, List.getElem_cons_zero, Act.put, List.setIfInBounds_toArray, List.set_cons_zero, List.set_cons_succ]
  (try dsimp only); repeat' (first | go_values | go_skip | go_guarded | go_step | go_upon | go_back)
  refine (HBK.out _).mono ?_
  rintro r0 wz ⟨rfl, rfl⟩
  rw [← hw3, ← hb5]
  clear c0 c1 c2 HBK hw3 hb5 d0 HBA wq1 wq2 hS
  have c10 := HA.out.cell (o := 10) rfl
  have hc := agree_any q ea ec n ys ((HA.out.drew).pickL (M := [_, _, _]) [1, 0, 2] rfl) (fun wx hw => HY.out wx hw.drop.drop) HN.out HH.out.2.1 (by have := HH.out.2.2.1; omega) (by have := HH.out.2.2.2.1; omega)
  have HC := Lib.hid hc
  clear hc
  (try dsimp only); repeat' (first | go_values | go_skip | go_guarded | go_step | go_upon | go_back)
  refine wp_region_G (fun w' => w'.cell? ⟨b5, 10, none⟩ = some (.slice ea n ec)) [] (by kernel_rfl) c10 (fun hS => ?_)
  try dsimp only at hS
  refine wpAnyG_take' (i := 0) (v := ?v0_1ag) rfl (by kernel_rfl) (by kernel_rfl) (by kernel_rfl) (by kernel_rfl) (fun _ _ _ h => h) (Or.inl ⟨by rfl, ?hy0_1ag⟩) hS ?rest0_1ag
  case hy0_1ag => intro w hSw; (try dsimp only at hSw); go_simp; (try with_reducible rfl)
  case rest0_1ag =>
  try simp only [List.getElem_toArray, List.getElem_cons_succ, List.getElem_cons_zero, Act.put, List.setIfInBounds_toArray, List.set_cons_zero, List.set_cons_succ]
  refine wpAnyG_take' (i := 1) (v := ?v1_2ag) rfl (by kernel_rfl) (by kernel_rfl) (by kernel_rfl) (by kernel_rfl) (fun _ _ _ h => h) (Or.inl ⟨by rfl, ?hy1_2ag⟩) hS ?rest1_2ag
  case hy1_2ag => intro w hSw; (try dsimp only at hSw); go_simp; (try with_reducible rfl)
  case rest1_2ag =>
  try simp only [List.getElem_toArray, List.getElem_cons_succ, List.getElem_cons_zero, Act.put, List.setIfInBounds_toArray, List.set_cons_zero, List.set_cons_succ]
  refine wpAnyG_take' (i := 2) (v := ?v2_3ag) rfl (by kernel_rfl) (by kernel_rfl) (by kernel_rfl) (by kernel_rfl) (fun _ _ _ h => h) (Or.inl ⟨by rfl, ?hy2_3ag⟩) hS ?rest2_3ag
  case hy2_3ag => intro w hSw; (try dsimp only at hSw); go_simp; (try with_reducible rfl)
  case rest2_3ag =>
  try simp only [List.getElem_toArray, List.getElem_cons_succ, List.getElem_cons_zero, Act.put, List.setIfInBounds_toArray, List.set_cons_zero, List.set_cons_succ]
  refine wpAnyG_take' (i := 3) (v := ?v3_4ag) rfl (by kernel_rfl) (by kernel_rfl) (by kernel_rfl) (by kernel_rfl) (fun _ _ _ h => h) (Or.inl ⟨by rfl, ?hy3_4ag⟩) hS ?rest3_4ag
  case hy3_4ag => intro w hSw; (try dsimp only at hSw); go_simp; (try with_reducible rfl)
  case rest3_4ag =>
  try simp only [List.getElem_toArray, List.getElem_cons_succ, List.getElem_cons_zero, Act.put, List.setIfInBounds_toArray, List.set_cons_zero, List.set_cons_succ]
  refine wpAnyG_take' (i := 5) (v := ?v5_5ag) rfl (by kernel_rfl) (by kernel_rfl) (by kernel_rfl) (by kernel_rfl) (fun _ _ _ h => h) (Or.inl ⟨by rfl, ?hy5_5ag⟩) hS ?rest5_5ag
  case hy5_5ag => intro w hSw; (try dsimp only at hSw); go_simp; (try with_reducible rfl)
  case rest5_5ag =>
  try simp only [List.getElem_toArray, List.getElem_cons_succ, List.getElem_cons_zero, Act.put, List.setIfInBounds_toArray, List.set_cons_zero, List.set_cons_succ]
  refine wpAnyG_take' (i := 6) (v := ?v6_6ag) rfl (by kernel_rfl) (by kernel_rfl) (by kernel_rfl) (by kernel_rfl) (fun _ _ _ h => h) (Or.inl ⟨by rfl, ?hy6_6ag⟩) hS ?rest6_6ag
  case hy6_6ag => intro w hSw; (try dsimp only at hSw); go_simp; (try with_reducible rfl)
  case rest6_6ag =>
  try simp only [List.getElem_toArray, List.getElem_cons_succ, List.getElem_cons_zero, Act.put, List.setIfInBounds_toArray, List.set_cons_zero, List.set_cons_succ]
  refine wpAnyG_take' (i := 7) (v := ?v7_7ag) rfl (by kernel_rfl) (by kernel_rfl) (by kernel_rfl) (by kernel_rfl) (fun _ _ _ h => h) (Or.inl ⟨by rfl, ?hy7_7ag⟩) hS ?rest7_7ag
  case hy7_7ag => intro w hSw; (try dsimp only at hSw); go_simp; (try with_reducible rfl)
  case rest7_7ag =>
  try simp only [List.getElem_toArray, List.getElem_cons_succ, List.getElem_cons_zero, Act.put, List.setIfInBounds_toArray, List.set_cons_zero, List.set_cons_succ]
  refine wpAnyG_take' (i := 8) (v := ?v8_8ag) rfl (by kernel_rfl) (by kernel_rfl) (by kernel_rfl) (by kernel_rfl) (fun _ _ _ h => h) (Or.inl ⟨by rfl, ?hy8_8ag⟩) hS ?rest8_8ag
  case hy8_8ag => intro w hSw; (try dsimp only at hSw); go_simp; (try with_reducible rfl)
  case rest8_8ag =>
  try simp only [List.getElem_toArray, List.getElem_cons_succ, List.getElem_cons_zero, Act.put, List.setIfInBounds_toArray, List.set_cons_zero, List.set_cons_succ]
  refine wpAnyG_one (i := 4) (by kernel_rfl) rfl (fun K hK => ?_)
  go_simp
  refine Calls.mono HC.out ?_
  rintro r4 w4 ⟨rfl, h4⟩
  have c10b := h4.sw2.cell (o := 10) rfl
  have hr := ragree_any q ea ec n ys (h4.pickL (M := [_, _, _]) [2, 0, 1] rfl) (fun wx hw => HY.out wx hw.drop.drop) HN.out HH.out.2.1 (by have := HH.out.2.2.1; omega) (by rw [HH.out.2.2.2.2.2.1]; have := HH.out.2.2.2.1; omega)
  rw [HH.out.1] at hr
  generalize agrV B (List.map (fun x => x.1) ps) q (List.map (fun x => x.1) ys) = R1 at *
  have HR := Lib.hid hr
  clear hr h4 HC
  (try dsimp only); repeat' (first | go_values | go_skip | go_guarded | go_step | go_upon | go_back)
  refine hK.out _ _ (fun _ => ?hS9ag) ?rest9ag
  case hS9ag => exact c10b
  clear K hK
  try simp only [List.getElem_toArray, List.getElem_cons_succ, List.getElem_cons_zero, Act.put, List.setIfInBounds_toArray, List.set_cons_zero, List.set_cons_succ]
  refine wpAnyG_one (i := 9) (by kernel_rfl) rfl (fun K hK => ?_)
  go_simp
  refine Calls.mono HR.out ?_
  rintro r9 w5 ⟨rfl, h5⟩
  have c10c := h5.sw3.cell (o := 10) rfl
  have H9 : Hid (StepQ w0 g g' B L _) := Lib.hid ⟨B, ps, qs, Int.le_refl _, by omega, HH.out.1, HH.out.2.2.2.1, HH.out.2.2.2.2.1, h5.pickL (M := [_, _, _]) [1, 0] rfl⟩
  clear HR h5
  (try dsimp only); repeat' (first | go_values | go_skip | go_guarded | go_step | go_upon | go_back)
  refine hK.out _ _ (fun _ => ?hS10ag) ?rest10ag
  case hS10ag => exact c10c
  clear K hK
  try simp only [List.getElem_toArray, List.getElem_cons_succ, List.getElem_cons_zero, Act.put, List.setIfInBounds_toArray, List.set_cons_zero, List.set_cons_succ]
  refine wpAnyG_take' (i := 10) (v := ?v10_11ag) rfl (by kernel_rfl) (by kernel_rfl) (by kernel_rfl) (by kernel_rfl) (fun _ _ _ h => h) (Or.inl ⟨by rfl, ?hy10_11ag⟩) c10c ?rest10_11ag
  case hy10_11ag => intro w hSw; (try dsimp only at hSw); go_simp; (try with_reducible rfl)
  case rest10_11ag =>
  try simp only [List.getElem_toArray, List.getElem_cons_succ, List.getElem_cons_zero, Act.put, List.setIfInBounds_toArray, List.set_cons_zero, List.set_cons_succ]
  refine wpAnyG_take' (i := 11) (v := ?v11_12ag) rfl (by kernel_rfl) (by kernel_rfl) (by kernel_rfl) (by kernel_rfl) (fun _ _ _ h => h) (Or.inl ⟨by rfl, ?hy11_12ag⟩) c10c ?rest11_12ag
  case hy11_12ag => intro w hSw; (try dsimp only at hSw); go_simp; (try with_reducible rfl)
  case rest11_12ag =>
  try simp only [List.getElem_toArray, List.getElem_cons_succ, List.getElem_cons_zero, Act.put, List.setIfInBounds_toArray, List.set_cons_zero, List.set_cons_succ]
  refine wpAnyG_done (by kernel_rfl) ?_ _
  try simp only [List.getElem_toArray, List.getElem_cons_succ, List.getElem_cons_zero, Act.put, List.setIfInBounds_toArray, List.set_cons_zero, List.set_cons_succ]
  (try dsimp only); repeat' (first | go_values | go_skip | go_guarded | go_step | go_upon | go_back)
  go_ret
  exact ⟨rfl, H9.out⟩
end Go.Proofs.YtpknfeokfladkaaDoor
