/- What a call of both does: Get, From. -/
import Derived.Test.YtpknfeokfladkaaDoorPipe25
namespace Go.Proofs.YtpknfeokfladkaaDoor
open Go.RowKit
set_option linter.unusedVariables false
set_option linter.unusedSimpArgs false
set_option maxRecDepth 100000 in
set_option maxHeartbeats 32000000 in
theorem step_get_badR {w0 w : World} {g g' : Nat} {B : Int} {ps qs : List (EnM × Value)} {L : List Thing} (K A : Int) (x : EnM) (la ea : Option Addr) (lc ec n : Nat) (ys : List (EnM × Value)) (q : Int) (hq : A = q)
    (h : Sep w0 (PipeT g B ps :: DocT g' B qs :: L) w) (hpq : qs.map (·.1) = ps.map (·.1)) (h0 : 0 ≤ B) (h1 : B ≤ 4611686018427300000) (hl : ps.length ≤ 24) (hls : ∀ q ∈ ps, q.1.p.ls.length ≤ 1000) (hk : KindsAt w0)
    (hx : ∀ wx, Sep w0 L wx → LnS wx (.slice la x.p.ls.length lc) x.p.ls) (hxl : x.p.ls.length ≤ 1000) (hy : ∀ wx, Sep w0 L wx → EnS wx (.slice ea n ec) ys) (hn : ys.length = n) (hkd : K % 7 = 3) (hop : q < B ∨ B + ps.length < q) :
    Calls Tryd.prog 12 #[.pointer (some ⟨g, 0, none⟩), .pointer (some ⟨g', 0, none⟩), .agg #[.int .i64 K, .int .i64 A, .bool true, .int .i64 x.c, .int .i64 x.m, .int .i64 x.p.k, .string x.p.s.1, .int .i64 x.p.o, .int .i64 x.p.n, .slice la x.p.ls.length lc, .slice ea n ec]] w fun e w' => e = .returned (.bool true) ∧ StepQ w0 g g' B L w' := by
  have HOP := Lib.hid hop
  clear hop
  subst hq
  have hlq : qs.length = ps.length := by simpa using congrArg List.length hpq
  have hlsq : ∀ q ∈ qs, q.1.p.ls.length ≤ 1000 := lnq2 hpq hls
  have h2 := h.alloc (.cells #[.int .i64 K, .int .i64 A, .bool true, .int .i64 x.c, .int .i64 x.m, .int .i64 x.p.k, .string x.p.s.1, .int .i64 x.p.o, .int .i64 x.p.n, .slice la x.p.ls.length lc, .slice ea n ec] 37)
  have c0 := h2.cell (o := 0) rfl
  have c1 := h2.cell (o := 1) rfl
  have c2 := h2.cell (o := 2) rfl
  have HBK := Lib.hid (fun wx => bring_any K 7 wx (by unfold Sm; omega))
  rw [hkd] at HBK
  obtain ⟨b5, hb5⟩ : ∃ z, z = w.heap.size := ⟨_, rfl⟩
  obtain ⟨w3, hw3⟩ : ∃ z, z = w.alloc (.cells #[.int .i64 K, .int .i64 A, .bool true, .int .i64 x.c, .int .i64 x.m, .int .i64 x.p.k, .string x.p.s.1, .int .i64 x.p.o, .int .i64 x.p.n, .slice la x.p.ls.length lc, .slice ea n ec] 37) := ⟨_, rfl⟩
  have hA : Sep w0 (Cl b5 #[.int .i64 K, .int .i64 A, .bool true, .int .i64 x.c, .int .i64 x.m, .int .i64 x.p.k, .string x.p.s.1, .int .i64 x.p.o, .int .i64 x.p.n, .slice la x.p.ls.length lc, .slice ea n ec] 37 :: PipeT g B ps :: DocT g' B qs :: L) w3 := by rw [hb5, hw3]; exact h2
  have HA := Lib.hid hA
  have HH := Lib.hid (And.intro hpq (And.intro h0 (And.intro h1 (And.intro hl (And.intro hls (And.intro hlq (And.intro hlsq hk)))))))
  have HX := Lib.hid hx
  have HXL := Lib.hid hxl
  have HY := Lib.hid hy
  have HN := Lib.hid hn
  clear h h2 hA hpq h0 h1 hl hls hlq hlsq hk hx hxl hy hn
  go_enter Tryd.func12, Tryd.ntmps12
  (try dsimp only); repeat' (first | go_values | go_skip | go_guarded | go_step | go_upon | go_back)
  refine (HBK.out _).mono ?_
  rintro r0 wz ⟨rfl, rfl⟩
  rw [← hw3, ← hb5]
  clear c0 c1 c2 HBK hw3 hb5
  have HC := Lib.hid (get_bad A (by have := HOP.out; omega) (HA.out.pickL (M := [_, _, _]) [1, 0, 2] rfl) HH.out.2.1 (by have := HH.out.2.2.1; omega) (by have := HH.out.2.2.2.1; omega))
  (try dsimp only); repeat' (first | go_values | go_skip | go_guarded | go_step | go_upon | go_back)
  refine HC.out.mono ?_
  rintro r1 w4 ⟨rfl, h4⟩
  have h5 := h4.alloc (.cells #[.int .i64 0, .int .i64 0, .int .i64 0, .string ⟨#[]⟩, .int .i64 0, .int .i64 0, .slice none 0 0] 34)
  obtain ⟨b8, hb8⟩ : ∃ z, z = w4.heap.size := ⟨_, rfl⟩
  obtain ⟨v8, hv8⟩ : ∃ z, z = w4.alloc (.cells #[.int .i64 0, .int .i64 0, .int .i64 0, .string ⟨#[]⟩, .int .i64 0, .int .i64 0, .slice none 0 0] 34) := ⟨_, rfl⟩
  rw [← hb8, ← hv8] at h5
  clear HC h4
  have hm := h5.pickL (M := [_, _, _, _]) [3, 0, 1, 2] rfl
  have HR := Lib.hid (rget_bad A (by rw [HH.out.2.2.2.2.2.1]; have := HOP.out; omega) hm HH.out.2.1 (by have := HH.out.2.2.1; omega) (by rw [HH.out.2.2.2.2.2.1]; have := HH.out.2.2.2.1; omega))
  clear h5 hm
  (try dsimp only); repeat' (first | go_values | go_skip | go_guarded | go_step | go_upon | go_back)
  rw [← hv8, ← hb8]
  clear hv8 hb8
  refine HR.out.mono ?_
  rintro r2 w6 ⟨rfl, h6⟩
  have h7 := h6.alloc (.cells #[.int .i64 0, .int .i64 0, .int .i64 0, .string ⟨#[]⟩, .int .i64 0, .int .i64 0, .slice none 0 0] 34)
  obtain ⟨b10, hb10⟩ : ∃ z, z = w6.heap.size := ⟨_, rfl⟩
  obtain ⟨v10, hv10⟩ : ∃ z, z = w6.alloc (.cells #[.int .i64 0, .int .i64 0, .int .i64 0, .string ⟨#[]⟩, .int .i64 0, .int .i64 0, .slice none 0 0] 34) := ⟨_, rfl⟩
  rw [← hb10, ← hv10] at h7
  clear HR h6
  have hm := h7.pickL (M := [_, _, _, _, _]) [3, 1, 2, 0] rfl
  have HF := Lib.hid (from_bad A HOP.out hm HH.out.2.1 (by have := HH.out.2.2.1; omega) (by have := HH.out.2.2.2.1; omega))
  clear h7 hm
  (try dsimp only); repeat' (first | go_values | go_skip | go_guarded | go_step | go_upon | go_back)
  rw [← hv10, ← hb10]
  clear hv10 hb10
  refine HF.out.mono ?_
  rintro r3 w7 ⟨rfl, h8⟩
  have h8 := Sep.enNil h8
  obtain ⟨rs, hrs⟩ : ∃ z : List (EnM × Value), z = [] := ⟨_, rfl⟩
  rw [← hrs] at h8
  have hrl : rs.length = 0 := by rw [hrs]; rfl
  obtain ⟨m, hm⟩ : ∃ z : Nat, z = 0 := ⟨_, rfl⟩
  clear HF
  have hm2 := h8.pickL (M := [_, _, _, _, _]) [2, 0, 1, 3, 4] rfl
  have HG := Lib.hid (rfrom_bad A (by rw [HH.out.2.2.2.2.2.1]; exact HOP.out) hm2 HH.out.2.1 (by have := HH.out.2.2.1; omega) (by rw [HH.out.2.2.2.2.2.1]; have := HH.out.2.2.2.1; omega))
  clear h8 hm2
  (try dsimp only); repeat' (first | go_values | go_skip | go_guarded | go_step | go_upon | go_back)
  refine HG.out.mono ?_
  rintro r4 w8 ⟨rfl, h9⟩
  have h9 := Sep.enNil h9
  obtain ⟨ts, hts⟩ : ∃ z : List (EnM × Value), z = [] := ⟨_, rfl⟩
  rw [← hts] at h9
  have htl : ts.length = 0 := by rw [hts]; rfl
  have hst : ts.map (·.1) = rs.map (·.1) := by rw [hts, hrs]
  clear HG
  obtain ⟨y0, y1, y2, y3, y4, y5, y6⟩ := cells7 (h9.pickL (M := [_, _, _, _, _, _]) [4, 0, 1, 2, 3, 5] rfl)
  obtain ⟨z0, z1, z2, z3, z4, z5, z6⟩ := cells7 (h9.pickL (M := [_, _, _, _, _, _]) [5, 0, 1, 2, 3, 4] rfl)
  have hs := resame_any ⟨0, 0, ⟨0, sZ, 0, 0, []⟩⟩ ⟨0, 0, ⟨0, sZ, 0, 0, []⟩⟩ (.slice none 0 0) (.slice none 0 0) h9 (.inl ⟨none, 0, rfl, fun _ => rfl, rfl⟩) (.inl ⟨none, 0, rfl, fun _ => rfl, rfl⟩) (by show 0 ≤ _; omega)
  rw [enSame_self] at hs
  unfold enV sZ at hs
  have HS := Lib.hid hs
  have HST := Lib.hid (And.intro hst (And.intro hrl htl))
  clear hs h9 hst hrl htl
  (try dsimp only); repeat' (first | go_values | go_skip | go_guarded | go_step | go_upon | go_back)
  refine HS.out.mono ?_
  rintro r5 w9 ⟨rfl, h10⟩
  clear HS y0 y1 y2 y3 y4 y5 y6 z0 z1 z2 z3 z4 z5 z6
  have hr9 := resamerow_w none none 0 0 rs ts (by rw [HST.out.2.1]; exact (h10.sw3).enS) (by rw [HST.out.2.2]; exact h10.enS) (by rw [HST.out.2.1]; omega) (by rw [HST.out.2.2]; omega)
  rw [HST.out.2.1, HST.out.2.2] at hr9
  have HR9 := Lib.hid hr9
  have H10 := Lib.hid h10
  clear hr9 h10
  (try dsimp only); repeat' (first | go_values | go_skip | go_guarded | go_step | go_upon | go_back)
  refine HR9.out.mono ?_
  rintro r6 w10 ⟨rb, rfl, hrb, hb⟩
  obtain rfl : rb = true := hrb.2 (sameP_of2 HST.out.1)
  have H11 := Lib.hid ((H10.out.below hb.low).pickL (M := [_, _, _, _, _, _]) [2, 3, 1] rfl)
  clear HR9 H10 hrb hb
  (try dsimp only); repeat' (first | go_values | go_skip | go_guarded | go_step | go_upon | go_back)
  refine own25 0 none 0 rs _ H11 HST.out.2.1 (by omega) (Lib.hid fun wx hx => ⟨B, ps, qs, Int.le_refl _, by omega, HH.out.1, HH.out.2.2.2.1, HH.out.2.2.2.2.1, hx⟩) ?_ _ _ _ _ _ _ _ _ _ _ _ _ _ _ _ _ _ _ _ _ _ _ _ _ _ _ _ _ _ _ _ _ _ _ _ _ _ _ _ _ _ _ _ _ _ _ _ _ _ _ _ _ _ _ _ _ _ _ _ _ _ _ _ _ _ _ _ _ _ _ _ _ _ _ _ _ _ _ _ _ _ _ _ _ _ _ _ _ _ _ _ _ _ _ _ _ _ _ _ _ _ _ _ _ _ _ _ _ _ _ _ _ _ _ _ _ _ _ _ _ _ _ _ _ _ _ _ _ _ _ _ _ _ _ _ _ _ _ _ _ _ _ _ _ _ _ _ _ _ _ _ _ _ _ _ _ _ _ _ _ _ _ _ _ _ _
  assumption
set_option maxRecDepth 100000 in
set_option maxHeartbeats 32000000 in
theorem step_get_baseR {w0 w : World} {g g' : Nat} {B : Int} {ps qs : List (EnM × Value)} {L : List Thing} (K A : Int) (x : EnM) (la ea : Option Addr) (lc ec n : Nat) (ys : List (EnM × Value)) (q : Int) (hq : A = q)
    (h : Sep w0 (PipeT g B ps :: DocT g' B qs :: L) w) (hpq : qs.map (·.1) = ps.map (·.1)) (h0 : 0 ≤ B) (h1 : B ≤ 4611686018427300000) (hl : ps.length ≤ 24) (hls : ∀ q ∈ ps, q.1.p.ls.length ≤ 1000) (hk : KindsAt w0)
    (hx : ∀ wx, Sep w0 L wx → LnS wx (.slice la x.p.ls.length lc) x.p.ls) (hxl : x.p.ls.length ≤ 1000) (hy : ∀ wx, Sep w0 L wx → EnS wx (.slice ea n ec) ys) (hn : ys.length = n) (hkd : K % 7 = 3) (hop : q = B) :
    Calls Tryd.prog 12 #[.pointer (some ⟨g, 0, none⟩), .pointer (some ⟨g', 0, none⟩), .agg #[.int .i64 K, .int .i64 A, .bool true, .int .i64 x.c, .int .i64 x.m, .int .i64 x.p.k, .string x.p.s.1, .int .i64 x.p.o, .int .i64 x.p.n, .slice la x.p.ls.length lc, .slice ea n ec]] w fun e w' => e = .returned (.bool true) ∧ StepQ w0 g g' B L w' := by
  have HOP := Lib.hid hop
  clear hop
  subst hq
  have hlq : qs.length = ps.length := by simpa using congrArg List.length hpq
  have hlsq : ∀ q ∈ qs, q.1.p.ls.length ≤ 1000 := lnq2 hpq hls
  have h2 := h.alloc (.cells #[.int .i64 K, .int .i64 A, .bool true, .int .i64 x.c, .int .i64 x.m, .int .i64 x.p.k, .string x.p.s.1, .int .i64 x.p.o, .int .i64 x.p.n, .slice la x.p.ls.length lc, .slice ea n ec] 37)
  have c0 := h2.cell (o := 0) rfl
  have c1 := h2.cell (o := 1) rfl
  have c2 := h2.cell (o := 2) rfl
  have HBK := Lib.hid (fun wx => bring_any K 7 wx (by unfold Sm; omega))
  rw [hkd] at HBK
  obtain ⟨b5, hb5⟩ : ∃ z, z = w.heap.size := ⟨_, rfl⟩
  obtain ⟨w3, hw3⟩ : ∃ z, z = w.alloc (.cells #[.int .i64 K, .int .i64 A, .bool true, .int .i64 x.c, .int .i64 x.m, .int .i64 x.p.k, .string x.p.s.1, .int .i64 x.p.o, .int .i64 x.p.n, .slice la x.p.ls.length lc, .slice ea n ec] 37) := ⟨_, rfl⟩
  have hA : Sep w0 (Cl b5 #[.int .i64 K, .int .i64 A, .bool true, .int .i64 x.c, .int .i64 x.m, .int .i64 x.p.k, .string x.p.s.1, .int .i64 x.p.o, .int .i64 x.p.n, .slice la x.p.ls.length lc, .slice ea n ec] 37 :: PipeT g B ps :: DocT g' B qs :: L) w3 := by rw [hb5, hw3]; exact h2
  have HA := Lib.hid hA
  have HH := Lib.hid (And.intro hpq (And.intro h0 (And.intro h1 (And.intro hl (And.intro hls (And.intro hlq (And.intro hlsq hk)))))))
  have HX := Lib.hid hx
  have HXL := Lib.hid hxl
  have HY := Lib.hid hy
  have HN := Lib.hid hn
  clear h h2 hA hpq h0 h1 hl hls hlq hlsq hk hx hxl hy hn
  go_enter Tryd.func12, Tryd.ntmps12
  (try dsimp only); repeat' (first | go_values | go_skip | go_guarded | go_step | go_upon | go_back)
  refine (HBK.out _).mono ?_
  rintro r0 wz ⟨rfl, rfl⟩
  rw [← hw3, ← hb5]
  clear c0 c1 c2 HBK hw3 hb5
  have HC := Lib.hid (get_bad A (by have := HOP.out; omega) (HA.out.pickL (M := [_, _, _]) [1, 0, 2] rfl) HH.out.2.1 (by have := HH.out.2.2.1; omega) (by have := HH.out.2.2.2.1; omega))
  (try dsimp only); repeat' (first | go_values | go_skip | go_guarded | go_step | go_upon | go_back)
  refine HC.out.mono ?_
  rintro r1 w4 ⟨rfl, h4⟩
  have h5 := h4.alloc (.cells #[.int .i64 0, .int .i64 0, .int .i64 0, .string ⟨#[]⟩, .int .i64 0, .int .i64 0, .slice none 0 0] 34)
  obtain ⟨b8, hb8⟩ : ∃ z, z = w4.heap.size := ⟨_, rfl⟩
  obtain ⟨v8, hv8⟩ : ∃ z, z = w4.alloc (.cells #[.int .i64 0, .int .i64 0, .int .i64 0, .string ⟨#[]⟩, .int .i64 0, .int .i64 0, .slice none 0 0] 34) := ⟨_, rfl⟩
  rw [← hb8, ← hv8] at h5
  clear HC h4
  have hm := h5.pickL (M := [_, _, _, _]) [3, 0, 1, 2] rfl
  have HR := Lib.hid (rget_bad A (by rw [HH.out.2.2.2.2.2.1]; have := HOP.out; omega) hm HH.out.2.1 (by have := HH.out.2.2.1; omega) (by rw [HH.out.2.2.2.2.2.1]; have := HH.out.2.2.2.1; omega))
  clear h5 hm
  (try dsimp only); repeat' (first | go_values | go_skip | go_guarded | go_step | go_upon | go_back)
  rw [← hv8, ← hb8]
  clear hv8 hb8
  refine HR.out.mono ?_
  rintro r2 w6 ⟨rfl, h6⟩
  have h7 := h6.alloc (.cells #[.int .i64 0, .int .i64 0, .int .i64 0, .string ⟨#[]⟩, .int .i64 0, .int .i64 0, .slice none 0 0] 34)
  obtain ⟨b10, hb10⟩ : ∃ z, z = w6.heap.size := ⟨_, rfl⟩
  obtain ⟨v10, hv10⟩ : ∃ z, z = w6.alloc (.cells #[.int .i64 0, .int .i64 0, .int .i64 0, .string ⟨#[]⟩, .int .i64 0, .int .i64 0, .slice none 0 0] 34) := ⟨_, rfl⟩
  rw [← hb10, ← hv10] at h7
  clear HR h6
  have hm := h7.pickL (M := [_, _, _, _, _]) [3, 1, 2, 0] rfl
  have HF := Lib.hid (from_ok A 0 (by omega) (by have := HOP.out; omega) HH.out.2.2.2.2.1 hm HH.out.2.1 (by have := HH.out.2.2.1; omega) (by have := HH.out.2.2.2.1; omega))
  clear h7 hm
  (try dsimp only); repeat' (first | go_values | go_skip | go_guarded | go_step | go_upon | go_back)
  rw [← hv10, ← hb10]
  clear hv10 hb10
  refine HF.out.mono ?_
  rintro r3 w7 ⟨u3, rfl, rs, hrs, h8⟩
  obtain ⟨m, hm⟩ : ∃ z, z = (ps.drop 0).length := ⟨_, rfl⟩
  have hrl : rs.length = m := by have := congrArg List.length hrs; rw [hm]; simpa using this
  obtain ⟨ra, rc, rfl, -⟩ := h8.enForm
  rw [hrl] at h8 ⊢
  have HM := Lib.hid hm
  clear hm
  clear HF
  have hm2 := h8.pickL (M := [_, _, _, _, _]) [2, 0, 1, 3, 4] rfl
  have HG := Lib.hid (rfrom_ok A 0 (by rw [HH.out.2.2.2.2.2.1]; omega) (by have := HOP.out; omega) HH.out.2.2.2.2.2.2.1 hm2 HH.out.2.1 (by have := HH.out.2.2.1; omega) (by rw [HH.out.2.2.2.2.2.1]; have := HH.out.2.2.2.1; omega))
  clear h8 hm2
  (try dsimp only); repeat' (first | go_values | go_skip | go_guarded | go_step | go_upon | go_back)
  refine HG.out.mono ?_
  rintro r4 w8 ⟨u4, rfl, ts, hts, h9⟩
  have hst : ts.map (·.1) = rs.map (·.1) := by rw [hts, hrs, List.map_drop, List.map_drop, HH.out.1]
  have htl : ts.length = m := by have := congrArg List.length hst; rw [← hrl]; simpa using this
  obtain ⟨sa, sc, rfl, -⟩ := h9.enForm
  rw [htl] at h9 ⊢
  clear HG
  obtain ⟨y0, y1, y2, y3, y4, y5, y6⟩ := cells7 (h9.pickL (M := [_, _, _, _, _, _]) [4, 0, 1, 2, 3, 5] rfl)
  obtain ⟨z0, z1, z2, z3, z4, z5, z6⟩ := cells7 (h9.pickL (M := [_, _, _, _, _, _]) [5, 0, 1, 2, 3, 4] rfl)
  have hs := resame_any ⟨0, 0, ⟨0, sZ, 0, 0, []⟩⟩ ⟨0, 0, ⟨0, sZ, 0, 0, []⟩⟩ (.slice none 0 0) (.slice none 0 0) h9 (.inl ⟨none, 0, rfl, fun _ => rfl, rfl⟩) (.inl ⟨none, 0, rfl, fun _ => rfl, rfl⟩) (by show 0 ≤ _; omega)
  rw [enSame_self] at hs
  unfold enV sZ at hs
  have HS := Lib.hid hs
  have HST := Lib.hid (And.intro hst (And.intro hrl htl))
  clear hs h9 hst hrl htl
  (try dsimp only); repeat' (first | go_values | go_skip | go_guarded | go_step | go_upon | go_back)
  refine HS.out.mono ?_
  rintro r5 w9 ⟨rfl, h10⟩
  clear HS y0 y1 y2 y3 y4 y5 y6 z0 z1 z2 z3 z4 z5 z6
  have hm24 : m ≤ 24 := by rw [HM.out, List.length_drop]; have := HH.out.2.2.2.1; omega
  have hr9 := resamerow_w ra sa rc sc rs ts (by rw [HST.out.2.1]; exact (h10.sw3).enS) (by rw [HST.out.2.2]; exact h10.enS) (by rw [HST.out.2.1]; omega) (by rw [HST.out.2.2]; omega)
  rw [HST.out.2.1, HST.out.2.2] at hr9
  have HR9 := Lib.hid hr9
  have H10 := Lib.hid h10
  clear hr9 h10
  (try dsimp only); repeat' (first | go_values | go_skip | go_guarded | go_step | go_upon | go_back)
  refine HR9.out.mono ?_
  rintro r6 w10 ⟨rb, rfl, hrb, hb⟩
  obtain rfl : rb = true := hrb.2 (sameP_of2 HST.out.1)
  have H11 := Lib.hid ((H10.out.below hb.low).pickL (M := [_, _, _, _, _, _]) [2, 3, 1] rfl)
  clear HR9 H10 hrb hb
  have HM24 := Lib.hid hm24
  clear hm24
  (try dsimp only); repeat' (first | go_values | go_skip | go_guarded | go_step | go_upon | go_back)
  refine own25 m ra rc rs _ H11 HST.out.2.1 HM24.out (Lib.hid fun wx hx => ⟨B, ps, qs, Int.le_refl _, by omega, HH.out.1, HH.out.2.2.2.1, HH.out.2.2.2.2.1, hx⟩) ?_ _ _ _ _ _ _ _ _ _ _ _ _ _ _ _ _ _ _ _ _ _ _ _ _ _ _ _ _ _ _ _ _ _ _ _ _ _ _ _ _ _ _ _ _ _ _ _ _ _ _ _ _ _ _ _ _ _ _ _ _ _ _ _ _ _ _ _ _ _ _ _ _ _ _ _ _ _ _ _ _ _ _ _ _ _ _ _ _ _ _ _ _ _ _ _ _ _ _ _ _ _ _ _ _ _ _ _ _ _ _ _ _ _ _ _ _ _ _ _ _ _ _ _ _ _ _ _ _ _ _ _ _ _ _ _ _ _ _ _ _ _ _ _ _ _ _ _ _ _ _ _ _ _ _ _ _ _ _ _ _ _ _ _ _ _ _
  assumption
set_option maxRecDepth 100000 in
set_option maxHeartbeats 32000000 in
theorem step_get_okR {w0 w : World} {g g' : Nat} {B : Int} {ps qs : List (EnM × Value)} {L : List Thing} (K A : Int) (x : EnM) (la ea : Option Addr) (lc ec n : Nat) (ys : List (EnM × Value)) (q : Int) (hq : A = q)
    (h : Sep w0 (PipeT g B ps :: DocT g' B qs :: L) w) (hpq : qs.map (·.1) = ps.map (·.1)) (h0 : 0 ≤ B) (h1 : B ≤ 4611686018427300000) (hl : ps.length ≤ 24) (hls : ∀ q ∈ ps, q.1.p.ls.length ≤ 1000) (hk : KindsAt w0)
    (hx : ∀ wx, Sep w0 L wx → LnS wx (.slice la x.p.ls.length lc) x.p.ls) (hxl : x.p.ls.length ≤ 1000) (hy : ∀ wx, Sep w0 L wx → EnS wx (.slice ea n ec) ys) (hn : ys.length = n) (hkd : K % 7 = 3) (j : Nat) (hj : j < ps.length) (hop : q = B + j + 1) :
    Calls Tryd.prog 12 #[.pointer (some ⟨g, 0, none⟩), .pointer (some ⟨g', 0, none⟩), .agg #[.int .i64 K, .int .i64 A, .bool true, .int .i64 x.c, .int .i64 x.m, .int .i64 x.p.k, .string x.p.s.1, .int .i64 x.p.o, .int .i64 x.p.n, .slice la x.p.ls.length lc, .slice ea n ec]] w fun e w' => e = .returned (.bool true) ∧ StepQ w0 g g' B L w' := by
  have HOP := Lib.hid hop
  clear hop
  have HJ := Lib.hid hj
  clear hj
  subst hq
  have hlq : qs.length = ps.length := by simpa using congrArg List.length hpq
  have hlsq : ∀ q ∈ qs, q.1.p.ls.length ≤ 1000 := lnq2 hpq hls
  have h2 := h.alloc (.cells #[.int .i64 K, .int .i64 A, .bool true, .int .i64 x.c, .int .i64 x.m, .int .i64 x.p.k, .string x.p.s.1, .int .i64 x.p.o, .int .i64 x.p.n, .slice la x.p.ls.length lc, .slice ea n ec] 37)
  have c0 := h2.cell (o := 0) rfl
  have c1 := h2.cell (o := 1) rfl
  have c2 := h2.cell (o := 2) rfl
  have HBK := Lib.hid (fun wx => bring_any K 7 wx (by unfold Sm; omega))
  rw [hkd] at HBK
  obtain ⟨b5, hb5⟩ : ∃ z, z = w.heap.size := ⟨_, rfl⟩
  obtain ⟨w3, hw3⟩ : ∃ z, z = w.alloc (.cells #[.int .i64 K, .int .i64 A, .bool true, .int .i64 x.c, .int .i64 x.m, .int .i64 x.p.k, .string x.p.s.1, .int .i64 x.p.o, .int .i64 x.p.n, .slice la x.p.ls.length lc, .slice ea n ec] 37) := ⟨_, rfl⟩
  have hA : Sep w0 (Cl b5 #[.int .i64 K, .int .i64 A, .bool true, .int .i64 x.c, .int .i64 x.m, .int .i64 x.p.k, .string x.p.s.1, .int .i64 x.p.o, .int .i64 x.p.n, .slice la x.p.ls.length lc, .slice ea n ec] 37 :: PipeT g B ps :: DocT g' B qs :: L) w3 := by rw [hb5, hw3]; exact h2
  have HA := Lib.hid hA
  have HH := Lib.hid (And.intro hpq (And.intro h0 (And.intro h1 (And.intro hl (And.intro hls (And.intro hlq (And.intro hlsq hk)))))))
  have HX := Lib.hid hx
  have HXL := Lib.hid hxl
  have HY := Lib.hid hy
  have HN := Lib.hid hn
  clear h h2 hA hpq h0 h1 hl hls hlq hlsq hk hx hxl hy hn
  go_enter Tryd.func12, Tryd.ntmps12
  (try dsimp only); repeat' (first | go_values | go_skip | go_guarded | go_step | go_upon | go_back)
  refine (HBK.out _).mono ?_
  rintro r0 wz ⟨rfl, rfl⟩
  rw [← hw3, ← hb5]
  clear c0 c1 c2 HBK hw3 hb5
  have HC := Lib.hid (get_ok A j HJ.out (by have := HOP.out; omega) (HH.out.2.2.2.2.1 _ (List.getElem_mem HJ.out)) (HA.out.pickL (M := [_, _, _]) [1, 0, 2] rfl) HH.out.2.1 (by have := HH.out.2.2.1; omega) (by have := HH.out.2.2.2.1; omega))
  obtain ⟨X, hX⟩ : ∃ z, z = ps[j]'HJ.out := ⟨_, rfl⟩
  have hXl : X.1.p.ls.length ≤ 1000 := by rw [hX]; exact HH.out.2.2.2.2.1 _ (List.getElem_mem HJ.out)
  have hXq : ∀ (h9 : j < qs.length), qs[j].1 = X.1 := fun h9 => by
    have e9 := List.getElem_map (fun z : EnM × Value => z.1) (l := qs) (i := j) (h := by simpa using h9)
    rw [← e9, List.getElem_of_eq HH.out.1, List.getElem_map, hX]
  rw [← hX] at HC
  have HXX := Lib.hid (And.intro hXl hXq)
  clear hX hXl hXq
  unfold enV at HC
  (try dsimp only); repeat' (first | go_values | go_skip | go_guarded | go_step | go_upon | go_back)
  refine HC.out.mono ?_
  rintro r1 w4 ⟨u, rfl, h4⟩
  obtain ⟨ua, uc, rfl, -⟩ := h4.rnForm
  have h5 := h4.alloc (.cells (enC X.1 (.slice ua X.1.p.ls.length uc)) 34)
  unfold enC at h5
  obtain ⟨b8, hb8⟩ : ∃ z, z = w4.heap.size := ⟨_, rfl⟩
  obtain ⟨v8, hv8⟩ : ∃ z, z = w4.alloc (.cells #[.int .i64 X.1.c, .int .i64 X.1.m, .int .i64 X.1.p.k, .string X.1.p.s.1, .int .i64 X.1.p.o, .int .i64 X.1.p.n, .slice ua X.1.p.ls.length uc] 34) := ⟨_, rfl⟩
  rw [← hb8, ← hv8] at h5
  clear HC h4
  have hm := h5.pickL (M := [_, _, _, _, _]) [4, 0, 1, 2, 3] rfl
  have hr := rget_ok A j (by rw [HH.out.2.2.2.2.2.1]; exact HJ.out) (by have := HOP.out; omega) (HH.out.2.2.2.2.2.2.1 _ (List.getElem_mem _)) hm HH.out.2.1 (by have := HH.out.2.2.1; omega) (by rw [HH.out.2.2.2.2.2.1]; have := HH.out.2.2.2.1; omega)
  rw [HXX.out.2] at hr
  have HR := Lib.hid hr
  clear h5 hm hr
  unfold enV at HR
  (try dsimp only); repeat' (first | go_values | go_skip | go_guarded | go_step | go_upon | go_back)
  rw [← hv8, ← hb8]
  clear hv8 hb8
  refine HR.out.mono ?_
  rintro r2 w6 ⟨t, rfl, h6⟩
  obtain ⟨ta, tc, rfl, -⟩ := h6.rnForm
  have h7 := h6.alloc (.cells (enC X.1 (.slice ta X.1.p.ls.length tc)) 34)
  unfold enC at h7
  obtain ⟨b10, hb10⟩ : ∃ z, z = w6.heap.size := ⟨_, rfl⟩
  obtain ⟨v10, hv10⟩ : ∃ z, z = w6.alloc (.cells #[.int .i64 X.1.c, .int .i64 X.1.m, .int .i64 X.1.p.k, .string X.1.p.s.1, .int .i64 X.1.p.o, .int .i64 X.1.p.n, .slice ta X.1.p.ls.length tc] 34) := ⟨_, rfl⟩
  rw [← hb10, ← hv10] at h7
  clear HR h6
  have hm := h7.pickL (M := [_, _, _, _, _, _, _]) [5, 2, 3, 0, 4, 1] rfl
  have HF := Lib.hid (from_ok A (j + 1) (by have := HJ.out; omega) (by have := HOP.out; omega) HH.out.2.2.2.2.1 hm HH.out.2.1 (by have := HH.out.2.2.1; omega) (by have := HH.out.2.2.2.1; omega))
  clear h7 hm
  (try dsimp only); repeat' (first | go_values | go_skip | go_guarded | go_step | go_upon | go_back)
  rw [← hv10, ← hb10]
  clear hv10 hb10
  refine HF.out.mono ?_
  rintro r3 w7 ⟨u3, rfl, rs, hrs, h8⟩
  obtain ⟨m, hm⟩ : ∃ z, z = (ps.drop (j + 1)).length := ⟨_, rfl⟩
  have hrl : rs.length = m := by have := congrArg List.length hrs; rw [hm]; simpa using this
  obtain ⟨ra, rc, rfl, -⟩ := h8.enForm
  rw [hrl] at h8 ⊢
  have HM := Lib.hid hm
  clear hm
  clear HF
  have hm2 := h8.pickL (M := [_, _, _, _, _, _, _]) [2, 0, 1, 3, 4, 5, 6] rfl
  have HG := Lib.hid (rfrom_ok A (j + 1) (by rw [HH.out.2.2.2.2.2.1]; have := HJ.out; omega) (by have := HOP.out; omega) HH.out.2.2.2.2.2.2.1 hm2 HH.out.2.1 (by have := HH.out.2.2.1; omega) (by rw [HH.out.2.2.2.2.2.1]; have := HH.out.2.2.2.1; omega))
  clear h8 hm2
  (try dsimp only); repeat' (first | go_values | go_skip | go_guarded | go_step | go_upon | go_back)
  refine HG.out.mono ?_
  rintro r4 w8 ⟨u4, rfl, ts, hts, h9⟩
  have hst : ts.map (·.1) = rs.map (·.1) := by rw [hts, hrs, List.map_drop, List.map_drop, HH.out.1]
  have htl : ts.length = m := by have := congrArg List.length hst; rw [← hrl]; simpa using this
  obtain ⟨sa, sc, rfl, -⟩ := h9.enForm
  rw [htl] at h9 ⊢
  clear HG
  obtain ⟨y0, y1, y2, y3, y4, y5, y6⟩ := cells7 (h9.pickL (M := [_, _, _, _, _, _, _, _]) [4, 0, 1, 2, 3, 5, 6, 7] rfl)
  obtain ⟨z0, z1, z2, z3, z4, z5, z6⟩ := cells7 (h9.pickL (M := [_, _, _, _, _, _, _, _]) [5, 0, 1, 2, 3, 4, 6, 7] rfl)
  have hs := resame_any X.1 X.1 (.slice ua X.1.p.ls.length uc) (.slice ta X.1.p.ls.length tc) h9 ((h9.pickL (M := [_, _, _, _, _, _, _, _]) [6, 0, 1, 2, 3, 4, 5, 7] rfl).lnS) ((h9.pickL (M := [_, _, _, _, _, _, _, _]) [7, 0, 1, 2, 3, 4, 5, 6] rfl).lnS) (by have := HXX.out.1; omega)
  rw [enSame_self] at hs
  unfold enV at hs
  have HS := Lib.hid hs
  have HST := Lib.hid (And.intro hst (And.intro hrl htl))
  clear hs h9 hst hrl htl
  (try dsimp only); repeat' (first | go_values | go_skip | go_guarded | go_step | go_upon | go_back)
  refine HS.out.mono ?_
  rintro r5 w9 ⟨rfl, h10⟩
  clear HS y0 y1 y2 y3 y4 y5 y6 z0 z1 z2 z3 z4 z5 z6
  have hm24 : m ≤ 24 := by rw [HM.out, List.length_drop]; have := HH.out.2.2.2.1; omega
  have hr9 := resamerow_w ra sa rc sc rs ts (by rw [HST.out.2.1]; exact (h10.sw3).enS) (by rw [HST.out.2.2]; exact h10.enS) (by rw [HST.out.2.1]; omega) (by rw [HST.out.2.2]; omega)
  rw [HST.out.2.1, HST.out.2.2] at hr9
  have HR9 := Lib.hid hr9
  have H10 := Lib.hid h10
  clear hr9 h10
  (try dsimp only); repeat' (first | go_values | go_skip | go_guarded | go_step | go_upon | go_back)
  refine HR9.out.mono ?_
  rintro r6 w10 ⟨rb, rfl, hrb, hb⟩
  obtain rfl : rb = true := hrb.2 (sameP_of2 HST.out.1)
  have H11 := Lib.hid ((H10.out.below hb.low).pickL (M := [_, _, _, _, _, _, _, _]) [2, 3, 1] rfl)
  clear HR9 H10 hrb hb
  have HM24 := Lib.hid hm24
  clear hm24
  (try dsimp only); repeat' (first | go_values | go_skip | go_guarded | go_step | go_upon | go_back)
  refine own25 m ra rc rs _ H11 HST.out.2.1 HM24.out (Lib.hid fun wx hx => ⟨B, ps, qs, Int.le_refl _, by omega, HH.out.1, HH.out.2.2.2.1, HH.out.2.2.2.2.1, hx⟩) ?_ _ _ _ _ _ _ _ _ _ _ _ _ _ _ _ _ _ _ _ _ _ _ _ _ _ _ _ _ _ _ _ _ _ _ _ _ _ _ _ _ _ _ _ _ _ _ _ _ _ _ _ _ _ _ _ _ _ _ _ _ _ _ _ _ _ _ _ _ _ _ _ _ _ _ _ _ _ _ _ _ _ _ _ _ _ _ _ _ _ _ _ _ _ _ _ _ _ _ _ _ _ _ _ _ _ _ _ _ _ _ _ _ _ _ _ _ _ _ _ _ _ _ _ _ _ _ _ _ _ _ _ _ _ _ _ _ _ _ _ _ _ _ _ _ _ _ _ _ _ _ _ _ _ _ _ _ _ _ _ _ _ _ _ _ _ _
  assumption
set_option maxRecDepth 100000 in
set_option maxHeartbeats 32000000 in
theorem step_get_bad {w0 w : World} {g g' : Nat} {B : Int} {ps qs : List (EnM × Value)} {L : List Thing} (K A : Int) (x : EnM) (la ea : Option Addr) (lc ec n : Nat) (ys : List (EnM × Value)) (q : Int) (hq : B + A % 28 - 1 = q)
    (h : Sep w0 (PipeT g B ps :: DocT g' B qs :: L) w) (hpq : qs.map (·.1) = ps.map (·.1)) (h0 : 0 ≤ B) (h1 : B ≤ 4611686018427300000) (hl : ps.length ≤ 24) (hls : ∀ q ∈ ps, q.1.p.ls.length ≤ 1000) (hk : KindsAt w0)
    (hx : ∀ wx, Sep w0 L wx → LnS wx (.slice la x.p.ls.length lc) x.p.ls) (hxl : x.p.ls.length ≤ 1000) (hy : ∀ wx, Sep w0 L wx → EnS wx (.slice ea n ec) ys) (hn : ys.length = n) (hkd : K % 7 = 3) (hop : q < B ∨ B + ps.length < q) :
    Calls Tryd.prog 12 #[.pointer (some ⟨g, 0, none⟩), .pointer (some ⟨g', 0, none⟩), .agg #[.int .i64 K, .int .i64 A, .bool false, .int .i64 x.c, .int .i64 x.m, .int .i64 x.p.k, .string x.p.s.1, .int .i64 x.p.o, .int .i64 x.p.n, .slice la x.p.ls.length lc, .slice ea n ec]] w fun e w' => e = .returned (.bool true) ∧ StepQ w0 g g' B L w' := by
  have HOP := Lib.hid hop
  clear hop
  have hlq : qs.length = ps.length := by simpa using congrArg List.length hpq
  have hlsq : ∀ q ∈ qs, q.1.p.ls.length ≤ 1000 := lnq2 hpq hls
  have h2 := h.alloc (.cells #[.int .i64 K, .int .i64 A, .bool false, .int .i64 x.c, .int .i64 x.m, .int .i64 x.p.k, .string x.p.s.1, .int .i64 x.p.o, .int .i64 x.p.n, .slice la x.p.ls.length lc, .slice ea n ec] 37)
  have c0 := h2.cell (o := 0) rfl
  have c1 := h2.cell (o := 1) rfl
  have c2 := h2.cell (o := 2) rfl
  obtain ⟨mv, hD⟩ := Sep.docOpen (h2.pickL (M := [_, _, _]) [2, 0, 1] rfl)
  have d0 := hD.cell (o := 0) rfl
  clear hD
  have HBA := Lib.hid (fun wx => bring_any A 28 wx (by unfold Sm; omega))
  have wq1 : IntKind.i64.wrap (B + A % 28) = B + A % 28 := IntWalk.i64_in _ (by omega)
  have wq2 : IntKind.i64.wrap (B + A % 28 - 1) = q := by rw [hq]; exact IntWalk.i64_in _ (by omega)
  have HBK := Lib.hid (fun wx => bring_any K 7 wx (by unfold Sm; omega))
  rw [hkd] at HBK
  obtain ⟨b5, hb5⟩ : ∃ z, z = w.heap.size := ⟨_, rfl⟩
  obtain ⟨w3, hw3⟩ : ∃ z, z = (w.alloc (.cells #[.int .i64 K, .int .i64 A, .bool false, .int .i64 x.c, .int .i64 x.m, .int .i64 x.p.k, .string x.p.s.1, .int .i64 x.p.o, .int .i64 x.p.n, .slice la x.p.ls.length lc, .slice ea n ec] 37)).drew := ⟨_, rfl⟩
  have hA : Sep w0 (Cl b5 #[.int .i64 K, .int .i64 A, .bool false, .int .i64 x.c, .int .i64 x.m, .int .i64 x.p.k, .string x.p.s.1, .int .i64 x.p.o, .int .i64 x.p.n, .slice la x.p.ls.length lc, .slice ea n ec] 37 :: PipeT g B ps :: DocT g' B qs :: L) w3 := by rw [hb5, hw3]; exact h2.drew
  have HA := Lib.hid hA
  have HH := Lib.hid (And.intro hpq (And.intro h0 (And.intro h1 (And.intro hl (And.intro hls (And.intro hlq (And.intro hlsq hk)))))))
  have HX := Lib.hid hx
  have HXL := Lib.hid hxl
  have HY := Lib.hid hy
  have HN := Lib.hid hn
  clear h h2 hA hpq h0 h1 hl hls hlq hlsq hk hx hxl hy hn hq
  go_enter Tryd.func12, Tryd.ntmps12
  (try dsimp only); repeat' (first | go_values | go_skip | go_guarded | go_step | go_upon | go_back)
  refine wp_region_G (fun w' => w'.cell? ⟨g', 0, none⟩ = some (.int .i64 B) ∧ w'.cell? ⟨w.heap.size, 1, none⟩ = some (.int .i64 A)) [] (by kernel_rfl) ⟨d0, c1⟩ (fun hS => ?_)
  try dsimp only at hS
  refine wpAnyG_take' (i := 0) (v := ?v0_1r3) rfl (by kernel_rfl) (by kernel_rfl) (by kernel_rfl) (by kernel_rfl) (fun _ _ _ h => h) (Or.inl ⟨by rfl, ?hy0_1r3⟩) hS ?rest0_1r3
  case hy0_1r3 => intro w hSw; (try dsimp only at hSw); go_simp; (try with_reducible rfl)
  case rest0_1r3 =>
  try simp only [List.getElem_toArray, List.getElem_cons_succ, List.getElem_cons_zero, Act.put, List.setIfInBounds_toArray, List.set_cons_zero, List.set_cons_succ]
  refine wpAnyG_take' (i := 1) (v := ?v1_2r3) rfl (by kernel_rfl) (by kernel_rfl) (by kernel_rfl) (by kernel_rfl) (fun _ _ _ h => h) (Or.inl ⟨by rfl, ?hy1_2r3⟩) hS ?rest1_2r3
  case hy1_2r3 => intro w hSw; (try dsimp only at hSw); go_simp; (try with_reducible rfl)
  case rest1_2r3 =>
  try simp only [List.getElem_toArray, List.getElem_cons_succ, List.getElem_cons_zero, Act.put, List.setIfInBounds_toArray, List.set_cons_zero, List.set_cons_succ]
  refine wpAnyG_take' (i := 2) (v := ?v2_3r3) rfl (by kernel_rfl) (by kernel_rfl) (by kernel_rfl) (by kernel_rfl) (fun _ _ _ h => h) (Or.inl ⟨by rfl, ?hy2_3r3⟩) hS ?rest2_3r3
  case hy2_3r3 => intro w hSw; (try dsimp only at hSw); go_simp; (try with_reducible rfl)
  case rest2_3r3 =>
  try simp only [List.getElem_toArray, List.getElem_cons_succ, List.getElem_cons_zero, Act.put, List.setIfInBounds_toArray, List.set_cons_zero, List.set_cons_succ]
  refine wpAnyG_take' (i := 3) (v := ?v3_4r3) rfl (by kernel_rfl) (by kernel_rfl) (by kernel_rfl) (by kernel_rfl) (fun _ _ _ h => h) (Or.inl ⟨by rfl, ?hy3_4r3⟩) hS ?rest3_4r3
  case hy3_4r3 => intro w hSw; (try dsimp only at hSw); go_simp; (try with_reducible rfl)
  case rest3_4r3 =>
  try simp only [List.getElem_toArray, List.getElem_cons_succ, List.getElem_cons_zero, Act.put, List.setIfInBounds_toArray, List.set_cons_zero, List.set_cons_succ]
  refine wpAnyG_take' (i := 4) (v := ?v4_5r3) rfl (by kernel_rfl) (by kernel_rfl) (by kernel_rfl) (by kernel_rfl) (fun _ _ _ h => h) (Or.inl ⟨by rfl, ?hy4_5r3⟩) hS ?rest4_5r3
  case hy4_5r3 => intro w hSw; (try dsimp only at hSw); go_simp; (try with_reducible rfl)
  case rest4_5r3 =>
  try simp only [List.getElem_toArray, List.getElem_cons_succ, List.getElem_cons_zero, Act.put, List.setIfInBounds_toArray, List.set_cons_zero, List.set_cons_succ]
  refine wpAnyG_take' (i := 5) (v := ?v5_6r3) rfl (by kernel_rfl) (by kernel_rfl) (by kernel_rfl) (by kernel_rfl) (fun _ _ _ h => h) (Or.inl ⟨by rfl, ?hy5_6r3⟩) hS ?rest5_6r3
  case hy5_6r3 => intro w hSw; (try dsimp only at hSw); go_simp; (try with_reducible rfl)
  case rest5_6r3 =>
  try simp only [List.getElem_toArray, List.getElem_cons_succ, List.getElem_cons_zero, Act.put, List.setIfInBounds_toArray, List.set_cons_zero, List.set_cons_succ]
  refine wpAnyG_one (i := 6) (by kernel_rfl) rfl (fun K hK => ?_)
  go_simp
  refine Calls.mono (HBA.out _) ?_
  rintro r6 w6 ⟨rfl, rfl⟩
  (try dsimp only); repeat' (first | go_values | go_skip | go_guarded | go_step | go_upon | go_back)
  refine hK.out _ _ (fun _ => ?hS7r3) ?rest7r3
  case hS7r3 => exact hS
  clear K hK
  try simp only [List.getElem_toArray, List.getElem_cons_succ, List.getElem_cons_zero, Act.put, List.setIfInBounds_toArray, List.set_cons_zero, List.set_cons_succ]
  refine wpAnyG_take' (i := 7) (v := ?v7_8r3) rfl (by kernel_rfl) (by kernel_rfl) (by kernel_rfl) (by kernel_rfl) (fun _ _ _ h => h) (Or.inl ⟨by rfl, ?hy7_8r3⟩) hS ?rest7_8r3
  case hy7_8r3 => intro w hSw; (try dsimp only at hSw); go_simp; (try with_reducible rfl)
  case rest7_8r3 =>
  try simp only [List.getElem_toArray, List.getElem_cons_succ, List.getElem_cons_zero, Act.put, List.setIfInBounds_toArray, List.set_cons_zero, List.set_cons_succ]
  refine wpAnyG_take' (i := 8) (v := ?v8_9r3) rfl (by kernel_rfl) (by kernel_rfl) (by kernel_rfl) (by kernel_rfl) (fun _ _ _ h => h) (Or.inl ⟨by rfl, ?hy8_9r3⟩) hS ?rest8_9r3
  case hy8_9r3 => intro w hSw; (try dsimp only at hSw); go_simp; (try with_reducible rfl)
  case rest8_9r3 =>
  try simp only [List.getElem_toArray, List.getElem_cons_succ, List.getElem_cons_zero, Act.put, List.setIfInBounds_toArray, List.set_cons_zero, List.set_cons_succ]
  refine wpAnyG_take' (i := 9) (v := ?v9_10r3) rfl (by kernel_rfl) (by kernel_rfl) (by kernel_rfl) (by kernel_rfl) (fun _ _ _ h => h) (Or.inl ⟨by rfl, ?hy9_10r3⟩) hS ?rest9_10r3
  case hy9_10r3 => intro w hSw; (try dsimp only at hSw); go_simp; (try with_reducible rfl)
  case rest9_10r3 =>
  try simp only [List.getElem_toArray, List.getElem_cons_succ, List.getElem_cons_zero, Act.put, List.setIfInBounds_toArray, List.set_cons_zero, List.set_cons_succ]
  refine wpAnyG_done (by kernel_rfl) ?_ _
  try simp only [List.getElem_toArray, List.getElem_cons_succ, List.getElem_cons_zero, Act.put, List.setIfInBounds_toArray, List.set_cons_zero, List.set_cons_succ]
  (try dsimp only); repeat' (first | go_values | go_skip | go_guarded | go_step | go_upon | go_back)
  refine (HBK.out _).mono ?_
  rintro r0 wz ⟨rfl, rfl⟩
  rw [← hw3, ← hb5]
  clear c0 c1 c2 HBK hw3 hb5 d0 HBA wq1 wq2 hS
  have HC := Lib.hid (get_bad q (by have := HOP.out; omega) (HA.out.pickL (M := [_, _, _]) [1, 0, 2] rfl) HH.out.2.1 (by have := HH.out.2.2.1; omega) (by have := HH.out.2.2.2.1; omega))
  (try dsimp only); repeat' (first | go_values | go_skip | go_guarded | go_step | go_upon | go_back)
  refine HC.out.mono ?_
  rintro r1 w4 ⟨rfl, h4⟩
  have h5 := h4.alloc (.cells #[.int .i64 0, .int .i64 0, .int .i64 0, .string ⟨#[]⟩, .int .i64 0, .int .i64 0, .slice none 0 0] 34)
  obtain ⟨b8, hb8⟩ : ∃ z, z = w4.heap.size := ⟨_, rfl⟩
  obtain ⟨v8, hv8⟩ : ∃ z, z = w4.alloc (.cells #[.int .i64 0, .int .i64 0, .int .i64 0, .string ⟨#[]⟩, .int .i64 0, .int .i64 0, .slice none 0 0] 34) := ⟨_, rfl⟩
  rw [← hb8, ← hv8] at h5
  clear HC h4
  have hm := h5.pickL (M := [_, _, _, _]) [3, 0, 1, 2] rfl
  have HR := Lib.hid (rget_bad q (by rw [HH.out.2.2.2.2.2.1]; have := HOP.out; omega) hm HH.out.2.1 (by have := HH.out.2.2.1; omega) (by rw [HH.out.2.2.2.2.2.1]; have := HH.out.2.2.2.1; omega))
  clear h5 hm
  (try dsimp only); repeat' (first | go_values | go_skip | go_guarded | go_step | go_upon | go_back)
  rw [← hv8, ← hb8]
  clear hv8 hb8
  refine HR.out.mono ?_
  rintro r2 w6 ⟨rfl, h6⟩
  have h7 := h6.alloc (.cells #[.int .i64 0, .int .i64 0, .int .i64 0, .string ⟨#[]⟩, .int .i64 0, .int .i64 0, .slice none 0 0] 34)
  obtain ⟨b10, hb10⟩ : ∃ z, z = w6.heap.size := ⟨_, rfl⟩
  obtain ⟨v10, hv10⟩ : ∃ z, z = w6.alloc (.cells #[.int .i64 0, .int .i64 0, .int .i64 0, .string ⟨#[]⟩, .int .i64 0, .int .i64 0, .slice none 0 0] 34) := ⟨_, rfl⟩
  rw [← hb10, ← hv10] at h7
  clear HR h6
  have hm := h7.pickL (M := [_, _, _, _, _]) [3, 1, 2, 0] rfl
  have HF := Lib.hid (from_bad q HOP.out hm HH.out.2.1 (by have := HH.out.2.2.1; omega) (by have := HH.out.2.2.2.1; omega))
  clear h7 hm
  (try dsimp only); repeat' (first | go_values | go_skip | go_guarded | go_step | go_upon | go_back)
  rw [← hv10, ← hb10]
  clear hv10 hb10
  refine HF.out.mono ?_
  rintro r3 w7 ⟨rfl, h8⟩
  have h8 := Sep.enNil h8
  obtain ⟨rs, hrs⟩ : ∃ z : List (EnM × Value), z = [] := ⟨_, rfl⟩
  rw [← hrs] at h8
  have hrl : rs.length = 0 := by rw [hrs]; rfl
  obtain ⟨m, hm⟩ : ∃ z : Nat, z = 0 := ⟨_, rfl⟩
  clear HF
  have hm2 := h8.pickL (M := [_, _, _, _, _]) [2, 0, 1, 3, 4] rfl
  have HG := Lib.hid (rfrom_bad q (by rw [HH.out.2.2.2.2.2.1]; exact HOP.out) hm2 HH.out.2.1 (by have := HH.out.2.2.1; omega) (by rw [HH.out.2.2.2.2.2.1]; have := HH.out.2.2.2.1; omega))
  clear h8 hm2
  (try dsimp only); repeat' (first | go_values | go_skip | go_guarded | go_step | go_upon | go_back)
  refine HG.out.mono ?_
  rintro r4 w8 ⟨rfl, h9⟩
  have h9 := Sep.enNil h9
  obtain ⟨ts, hts⟩ : ∃ z : List (EnM × Value), z = [] := ⟨_, rfl⟩
  rw [← hts] at h9
  have htl : ts.length = 0 := by rw [hts]; rfl
  have hst : ts.map (·.1) = rs.map (·.1) := by rw [hts, hrs]
  clear HG
  obtain ⟨y0, y1, y2, y3, y4, y5, y6⟩ := cells7 (h9.pickL (M := [_, _, _, _, _, _]) [4, 0, 1, 2, 3, 5] rfl)
  obtain ⟨z0, z1, z2, z3, z4, z5, z6⟩ := cells7 (h9.pickL (M := [_, _, _, _, _, _]) [5, 0, 1, 2, 3, 4] rfl)
  have hs := resame_any ⟨0, 0, ⟨0, sZ, 0, 0, []⟩⟩ ⟨0, 0, ⟨0, sZ, 0, 0, []⟩⟩ (.slice none 0 0) (.slice none 0 0) h9 (.inl ⟨none, 0, rfl, fun _ => rfl, rfl⟩) (.inl ⟨none, 0, rfl, fun _ => rfl, rfl⟩) (by show 0 ≤ _; omega)
  rw [enSame_self] at hs
  unfold enV sZ at hs
  have HS := Lib.hid hs
  have HST := Lib.hid (And.intro hst (And.intro hrl htl))
  clear hs h9 hst hrl htl
  (try dsimp only); repeat' (first | go_values | go_skip | go_guarded | go_step | go_upon | go_back)
  refine HS.out.mono ?_
  rintro r5 w9 ⟨rfl, h10⟩
  clear HS y0 y1 y2 y3 y4 y5 y6 z0 z1 z2 z3 z4 z5 z6
  have hr9 := resamerow_w none none 0 0 rs ts (by rw [HST.out.2.1]; exact (h10.sw3).enS) (by rw [HST.out.2.2]; exact h10.enS) (by rw [HST.out.2.1]; omega) (by rw [HST.out.2.2]; omega)
  rw [HST.out.2.1, HST.out.2.2] at hr9
  have HR9 := Lib.hid hr9
  have H10 := Lib.hid h10
  clear hr9 h10
  (try dsimp only); repeat' (first | go_values | go_skip | go_guarded | go_step | go_upon | go_back)
  refine HR9.out.mono ?_
  rintro r6 w10 ⟨rb, rfl, hrb, hb⟩
  obtain rfl : rb = true := hrb.2 (sameP_of2 HST.out.1)
  have H11 := Lib.hid ((H10.out.below hb.low).pickL (M := [_, _, _, _, _, _]) [2, 3, 1] rfl)
  clear HR9 H10 hrb hb
  (try dsimp only); repeat' (first | go_values | go_skip | go_guarded | go_step | go_upon | go_back)
  refine own25 0 none 0 rs _ H11 HST.out.2.1 (by omega) (Lib.hid fun wx hx => ⟨B, ps, qs, Int.le_refl _, by omega, HH.out.1, HH.out.2.2.2.1, HH.out.2.2.2.2.1, hx⟩) ?_ _ _ _ _ _ _ _ _ _ _ _ _ _ _ _ _ _ _ _ _ _ _ _ _ _ _ _ _ _ _ _ _ _ _ _ _ _ _ _ _ _ _ _ _ _ _ _ _ _ _ _ _ _ _ _ _ _ _ _ _ _ _ _ _ _ _ _ _ _ _ _ _ _ _ _ _ _ _ _ _ _ _ _ _ _ _ _ _ _ _ _ _ _ _ _ _ _ _ _ _ _ _ _ _ _ _ _ _ _ _ _ _ _ _ _ _ _ _ _ _ _ _ _ _ _ _ _ _ _ _ _ _ _ _ _ _ _ _ _ _ _ _ _ _ _ _ _ _ _ _ _ _ _ _ _ _ _ _ _ _ _ _ _ _ _ _
  assumption
set_option maxRecDepth 100000 in
set_option maxHeartbeats 32000000 in
theorem step_get_base {w0 w : World} {g g' : Nat} {B : Int} {ps qs : List (EnM × Value)} {L : List Thing} (K A : Int) (x : EnM) (la ea : Option Addr) (lc ec n : Nat) (ys : List (EnM × Value)) (q : Int) (hq : B + A % 28 - 1 = q)
    (h : Sep w0 (PipeT g B ps :: DocT g' B qs :: L) w) (hpq : qs.map (·.1) = ps.map (·.1)) (h0 : 0 ≤ B) (h1 : B ≤ 4611686018427300000) (hl : ps.length ≤ 24) (hls : ∀ q ∈ ps, q.1.p.ls.length ≤ 1000) (hk : KindsAt w0)
    (hx : ∀ wx, Sep w0 L wx → LnS wx (.slice la x.p.ls.length lc) x.p.ls) (hxl : x.p.ls.length ≤ 1000) (hy : ∀ wx, Sep w0 L wx → EnS wx (.slice ea n ec) ys) (hn : ys.length = n) (hkd : K % 7 = 3) (hop : q = B) :
    Calls Tryd.prog 12 #[.pointer (some ⟨g, 0, none⟩), .pointer (some ⟨g', 0, none⟩), .agg #[.int .i64 K, .int .i64 A, .bool false, .int .i64 x.c, .int .i64 x.m, .int .i64 x.p.k, .string x.p.s.1, .int .i64 x.p.o, .int .i64 x.p.n, .slice la x.p.ls.length lc, .slice ea n ec]] w fun e w' => e = .returned (.bool true) ∧ StepQ w0 g g' B L w' := by
  have HOP := Lib.hid hop
  clear hop
  have hlq : qs.length = ps.length := by simpa using congrArg List.length hpq
  have hlsq : ∀ q ∈ qs, q.1.p.ls.length ≤ 1000 := lnq2 hpq hls
  have h2 := h.alloc (.cells #[.int .i64 K, .int .i64 A, .bool false, .int .i64 x.c, .int .i64 x.m, .int .i64 x.p.k, .string x.p.s.1, .int .i64 x.p.o, .int .i64 x.p.n, .slice la x.p.ls.length lc, .slice ea n ec] 37)
  have c0 := h2.cell (o := 0) rfl
  have c1 := h2.cell (o := 1) rfl
  have c2 := h2.cell (o := 2) rfl
  obtain ⟨mv, hD⟩ := Sep.docOpen (h2.pickL (M := [_, _, _]) [2, 0, 1] rfl)
  have d0 := hD.cell (o := 0) rfl
  clear hD
  have HBA := Lib.hid (fun wx => bring_any A 28 wx (by unfold Sm; omega))
  have wq1 : IntKind.i64.wrap (B + A % 28) = B + A % 28 := IntWalk.i64_in _ (by omega)
  have wq2 : IntKind.i64.wrap (B + A % 28 - 1) = q := by rw [hq]; exact IntWalk.i64_in _ (by omega)
  have HBK := Lib.hid (fun wx => bring_any K 7 wx (by unfold Sm; omega))
  rw [hkd] at HBK
  obtain ⟨b5, hb5⟩ : ∃ z, z = w.heap.size := ⟨_, rfl⟩
  obtain ⟨w3, hw3⟩ : ∃ z, z = (w.alloc (.cells #[.int .i64 K, .int .i64 A, .bool false, .int .i64 x.c, .int .i64 x.m, .int .i64 x.p.k, .string x.p.s.1, .int .i64 x.p.o, .int .i64 x.p.n, .slice la x.p.ls.length lc, .slice ea n ec] 37)).drew := ⟨_, rfl⟩
  have hA : Sep w0 (Cl b5 #[.int .i64 K, .int .i64 A, .bool false, .int .i64 x.c, .int .i64 x.m, .int .i64 x.p.k, .string x.p.s.1, .int .i64 x.p.o, .int .i64 x.p.n, .slice la x.p.ls.length lc, .slice ea n ec] 37 :: PipeT g B ps :: DocT g' B qs :: L) w3 := by rw [hb5, hw3]; exact h2.drew
  have HA := Lib.hid hA
  have HH := Lib.hid (And.intro hpq (And.intro h0 (And.intro h1 (And.intro hl (And.intro hls (And.intro hlq (And.intro hlsq hk)))))))
  have HX := Lib.hid hx
  have HXL := Lib.hid hxl
  have HY := Lib.hid hy
  have HN := Lib.hid hn
  clear h h2 hA hpq h0 h1 hl hls hlq hlsq hk hx hxl hy hn hq
  go_enter Tryd.func12, Tryd.ntmps12
  (try dsimp only); repeat' (first | go_values | go_skip | go_guarded | go_step | go_upon | go_back)
  refine wp_region_G (fun w' => w'.cell? ⟨g', 0, none⟩ = some (.int .i64 B) ∧ w'.cell? ⟨w.heap.size, 1, none⟩ = some (.int .i64 A)) [] (by kernel_rfl) ⟨d0, c1⟩ (fun hS => ?_)
  try dsimp only at hS
  refine wpAnyG_take' (i := 0) (v := ?v0_1r3) rfl (by kernel_rfl) (by kernel_rfl) (by kernel_rfl) (by kernel_rfl) (fun _ _ _ h => h) (Or.inl ⟨by rfl, ?hy0_1r3⟩) hS ?rest0_1r3
  case hy0_1r3 => intro w hSw; (try dsimp only at hSw); go_simp; (try with_reducible rfl)
  case rest0_1r3 =>
  try simp only [List.getElem_toArray, List.getElem_cons_succ, List.getElem_cons_zero, Act.put, List.setIfInBounds_toArray, List.set_cons_zero, List.set_cons_succ]
  refine wpAnyG_take' (i := 1) (v := ?v1_2r3) rfl (by kernel_rfl) (by kernel_rfl) (by kernel_rfl) (by kernel_rfl) (fun _ _ _ h => h) (Or.inl ⟨by rfl, ?hy1_2r3⟩) hS ?rest1_2r3
  case hy1_2r3 => intro w hSw; (try dsimp only at hSw); go_simp; (try with_reducible rfl)
  case rest1_2r3 =>
  try simp only [List.getElem_toArray, List.getElem_cons_succ, List.getElem_cons_zero, Act.put, List.setIfInBounds_toArray, List.set_cons_zero, List.set_cons_succ]
  refine wpAnyG_take' (i := 2) (v := ?v2_3r3) rfl (by kernel_rfl) (by kernel_rfl) (by kernel_rfl) (by kernel_rfl) (fun _ _ _ h => h) (Or.inl ⟨by rfl, ?hy2_3r3⟩) hS ?rest2_3r3
  case hy2_3r3 => intro w hSw; (try dsimp only at hSw); go_simp; (try with_reducible rfl)
  case rest2_3r3 =>
  try simp only [List.getElem_toArray, List.getElem_cons_succ, List.getElem_cons_zero, Act.put, List.setIfInBounds_toArray, List.set_cons_zero, List.set_cons_succ]
  refine wpAnyG_take' (i := 3) (v := ?v3_4r3) rfl (by kernel_rfl) (by kernel_rfl) (by kernel_rfl) (by kernel_rfl) (fun _ _ _ h => h) (Or.inl ⟨by rfl, ?hy3_4r3⟩) hS ?rest3_4r3
  case hy3_4r3 => intro w hSw; (try dsimp only at hSw); go_simp; (try with_reducible rfl)
  case rest3_4r3 =>
  try simp only [List.getElem_toArray, List.getElem_cons_succ, List.getElem_cons_zero, Act.put, List.setIfInBounds_toArray, List.set_cons_zero, List.set_cons_succ]
  refine wpAnyG_take' (i := 4) (v := ?v4_5r3) rfl (by kernel_rfl) (by kernel_rfl) (by kernel_rfl) (by kernel_rfl) (fun _ _ _ h => h) (Or.inl ⟨by rfl, ?hy4_5r3⟩) hS ?rest4_5r3
  case hy4_5r3 => intro w hSw; (try dsimp only at hSw); go_simp; (try with_reducible rfl)
  case rest4_5r3 =>
  try simp only [List.getElem_toArray, List.getElem_cons_succ, List.getElem_cons_zero, Act.put, List.setIfInBounds_toArray, List.set_cons_zero, List.set_cons_succ]
  refine wpAnyG_take' (i := 5) (v := ?v5_6r3) rfl (by kernel_rfl) (by kernel_rfl) (by kernel_rfl) (by kernel_rfl) (fun _ _ _ h => h) (Or.inl ⟨by rfl, ?hy5_6r3⟩) hS ?rest5_6r3
  case hy5_6r3 => intro w hSw; (try dsimp only at hSw); go_simp; (try with_reducible rfl)
  case rest5_6r3 =>
  try simp only [List.getElem_toArray, List.getElem_cons_succ, List.getElem_cons_zero, Act.put, List.setIfInBounds_toArray, List.set_cons_zero, List.set_cons_succ]
  refine wpAnyG_one (i := 6) (by kernel_rfl) rfl (fun K hK => ?_)
  go_simp
  refine Calls.mono (HBA.out _) ?_
  rintro r6 w6 ⟨rfl, rfl⟩
  (try dsimp only); repeat' (first | go_values | go_skip | go_guarded | go_step | go_upon | go_back)
  refine hK.out _ _ (fun _ => ?hS7r3) ?rest7r3
  case hS7r3 => exact hS
  clear K hK
  try simp only [List.getElem_toArray, List.getElem_cons_succ, List.getElem_cons_zero, Act.put, List.setIfInBounds_toArray, List.set_cons_zero, List.set_cons_succ]
  refine wpAnyG_take' (i := 7) (v := ?v7_8r3) rfl (by kernel_rfl) (by kernel_rfl) (by kernel_rfl) (by kernel_rfl) (fun _ _ _ h => h) (Or.inl ⟨by rfl, ?hy7_8r3⟩) hS ?rest7_8r3
  case hy7_8r3 => intro w hSw; (try dsimp only at hSw); go_simp; (try with_reducible rfl)
  case rest7_8r3 =>
  try simp only [List.getElem_toArray, List.getElem_cons_succ, List.getElem_cons_zero, Act.put, List.setIfInBounds_toArray, List.set_cons_zero, List.set_cons_succ]
  refine wpAnyG_take' (i := 8) (v := ?v8_9r3) rfl (by kernel_rfl) (by kernel_rfl) (by kernel_rfl) (by kernel_rfl) (fun _ _ _ h => h) (Or.inl ⟨by rfl, ?hy8_9r3⟩) hS ?rest8_9r3
  case hy8_9r3 => intro w hSw; (try dsimp only at hSw); go_simp; (try with_reducible rfl)
  case rest8_9r3 =>
  try simp only [List.getElem_toArray, List.getElem_cons_succ, List.getElem_cons_zero, Act.put, List.setIfInBounds_toArray, List.set_cons_zero, List.set_cons_succ]
  refine wpAnyG_take' (i := 9) (v := ?v9_10r3) rfl (by kernel_rfl) (by kernel_rfl) (by kernel_rfl) (by kernel_rfl) (fun _ _ _ h => h) (Or.inl ⟨by rfl, ?hy9_10r3⟩) hS ?rest9_10r3
  case hy9_10r3 => intro w hSw; (try dsimp only at hSw); go_simp; (try with_reducible rfl)
  case rest9_10r3 =>
  try simp only [List.getElem_toArray, List.getElem_cons_succ, List.getElem_cons_zero, Act.put, List.setIfInBounds_toArray, List.set_cons_zero, List.set_cons_succ]
  refine wpAnyG_done (by kernel_rfl) ?_ _
  try simp only [List.getElem_toArray, List.getElem_cons_succ, List.getElem_cons_zero, Act.put, List.setIfInBounds_toArray, List.set_cons_zero, List.set_cons_succ]
  (try dsimp only); repeat' (first | go_values | go_skip | go_guarded | go_step | go_upon | go_back)
  refine (HBK.out _).mono ?_
  rintro r0 wz ⟨rfl, rfl⟩
  rw [← hw3, ← hb5]
  clear c0 c1 c2 HBK hw3 hb5 d0 HBA wq1 wq2 hS
  have HC := Lib.hid (get_bad q (by have := HOP.out; omega) (HA.out.pickL (M := [_, _, _]) [1, 0, 2] rfl) HH.out.2.1 (by have := HH.out.2.2.1; omega) (by have := HH.out.2.2.2.1; omega))
  (try dsimp only); repeat' (first | go_values | go_skip | go_guarded | go_step | go_upon | go_back)
  refine HC.out.mono ?_
  rintro r1 w4 ⟨rfl, h4⟩
  have h5 := h4.alloc (.cells #[.int .i64 0, .int .i64 0, .int .i64 0, .string ⟨#[]⟩, .int .i64 0, .int .i64 0, .slice none 0 0] 34)
  obtain ⟨b8, hb8⟩ : ∃ z, z = w4.heap.size := ⟨_, rfl⟩
  obtain ⟨v8, hv8⟩ : ∃ z, z = w4.alloc (.cells #[.int .i64 0, .int .i64 0, .int .i64 0, .string ⟨#[]⟩, .int .i64 0, .int .i64 0, .slice none 0 0] 34) := ⟨_, rfl⟩
  rw [← hb8, ← hv8] at h5
  clear HC h4
  have hm := h5.pickL (M := [_, _, _, _]) [3, 0, 1, 2] rfl
  have HR := Lib.hid (rget_bad q (by rw [HH.out.2.2.2.2.2.1]; have := HOP.out; omega) hm HH.out.2.1 (by have := HH.out.2.2.1; omega) (by rw [HH.out.2.2.2.2.2.1]; have := HH.out.2.2.2.1; omega))
  clear h5 hm
  (try dsimp only); repeat' (first | go_values | go_skip | go_guarded | go_step | go_upon | go_back)
  rw [← hv8, ← hb8]
  clear hv8 hb8
  refine HR.out.mono ?_
  rintro r2 w6 ⟨rfl, h6⟩
  have h7 := h6.alloc (.cells #[.int .i64 0, .int .i64 0, .int .i64 0, .string ⟨#[]⟩, .int .i64 0, .int .i64 0, .slice none 0 0] 34)
  obtain ⟨b10, hb10⟩ : ∃ z, z = w6.heap.size := ⟨_, rfl⟩
  obtain ⟨v10, hv10⟩ : ∃ z, z = w6.alloc (.cells #[.int .i64 0, .int .i64 0, .int .i64 0, .string ⟨#[]⟩, .int .i64 0, .int .i64 0, .slice none 0 0] 34) := ⟨_, rfl⟩
  rw [← hb10, ← hv10] at h7
  clear HR h6
  have hm := h7.pickL (M := [_, _, _, _, _]) [3, 1, 2, 0] rfl
  have HF := Lib.hid (from_ok q 0 (by omega) (by have := HOP.out; omega) HH.out.2.2.2.2.1 hm HH.out.2.1 (by have := HH.out.2.2.1; omega) (by have := HH.out.2.2.2.1; omega))
  clear h7 hm
  (try dsimp only); repeat' (first | go_values | go_skip | go_guarded | go_step | go_upon | go_back)
  rw [← hv10, ← hb10]
  clear hv10 hb10
  refine HF.out.mono ?_
  rintro r3 w7 ⟨u3, rfl, rs, hrs, h8⟩
  obtain ⟨m, hm⟩ : ∃ z, z = (ps.drop 0).length := ⟨_, rfl⟩
  have hrl : rs.length = m := by have := congrArg List.length hrs; rw [hm]; simpa using this
  obtain ⟨ra, rc, rfl, -⟩ := h8.enForm
  rw [hrl] at h8 ⊢
  have HM := Lib.hid hm
  clear hm
  clear HF
  have hm2 := h8.pickL (M := [_, _, _, _, _]) [2, 0, 1, 3, 4] rfl
  have HG := Lib.hid (rfrom_ok q 0 (by rw [HH.out.2.2.2.2.2.1]; omega) (by have := HOP.out; omega) HH.out.2.2.2.2.2.2.1 hm2 HH.out.2.1 (by have := HH.out.2.2.1; omega) (by rw [HH.out.2.2.2.2.2.1]; have := HH.out.2.2.2.1; omega))
  clear h8 hm2
  (try dsimp only); repeat' (first | go_values | go_skip | go_guarded | go_step | go_upon | go_back)
  refine HG.out.mono ?_
  rintro r4 w8 ⟨u4, rfl, ts, hts, h9⟩
  have hst : ts.map (·.1) = rs.map (·.1) := by rw [hts, hrs, List.map_drop, List.map_drop, HH.out.1]
  have htl : ts.length = m := by have := congrArg List.length hst; rw [← hrl]; simpa using this
  obtain ⟨sa, sc, rfl, -⟩ := h9.enForm
  rw [htl] at h9 ⊢
  clear HG
  obtain ⟨y0, y1, y2, y3, y4, y5, y6⟩ := cells7 (h9.pickL (M := [_, _, _, _, _, _]) [4, 0, 1, 2, 3, 5] rfl)
  obtain ⟨z0, z1, z2, z3, z4, z5, z6⟩ := cells7 (h9.pickL (M := [_, _, _, _, _, _]) [5, 0, 1, 2, 3, 4] rfl)
  have hs := resame_any ⟨0, 0, ⟨0, sZ, 0, 0, []⟩⟩ ⟨0, 0, ⟨0, sZ, 0, 0, []⟩⟩ (.slice none 0 0) (.slice none 0 0) h9 (.inl ⟨none, 0, rfl, fun _ => rfl, rfl⟩) (.inl ⟨none, 0, rfl, fun _ => rfl, rfl⟩) (by show 0 ≤ _; omega)
  rw [enSame_self] at hs
  unfold enV sZ at hs
  have HS := Lib.hid hs
  have HST := Lib.hid (And.intro hst (And.intro hrl htl))
  clear hs h9 hst hrl htl
  (try dsimp only); repeat' (first | go_values | go_skip | go_guarded | go_step | go_upon | go_back)
  refine HS.out.mono ?_
  rintro r5 w9 ⟨rfl, h10⟩
  clear HS y0 y1 y2 y3 y4 y5 y6 z0 z1 z2 z3 z4 z5 z6
  have hm24 : m ≤ 24 := by rw [HM.out, List.length_drop]; have := HH.out.2.2.2.1; omega
  have hr9 := resamerow_w ra sa rc sc rs ts (by rw [HST.out.2.1]; exact (h10.sw3).enS) (by rw [HST.out.2.2]; exact h10.enS) (by rw [HST.out.2.1]; omega) (by rw [HST.out.2.2]; omega)
  rw [HST.out.2.1, HST.out.2.2] at hr9
  have HR9 := Lib.hid hr9
  have H10 := Lib.hid h10
  clear hr9 h10
  (try dsimp only); repeat' (first | go_values | go_skip | go_guarded | go_step | go_upon | go_back)
  refine HR9.out.mono ?_
  rintro r6 w10 ⟨rb, rfl, hrb, hb⟩
  obtain rfl : rb = true := hrb.2 (sameP_of2 HST.out.1)
  have H11 := Lib.hid ((H10.out.below hb.low).pickL (M := [_, _, _, _, _, _]) [2, 3, 1] rfl)
  clear HR9 H10 hrb hb
  have HM24 := Lib.hid hm24
  clear hm24
  (try dsimp only); repeat' (first | go_values | go_skip | go_guarded | go_step | go_upon | go_back)
  refine own25 m ra rc rs _ H11 HST.out.2.1 HM24.out (Lib.hid fun wx hx => ⟨B, ps, qs, Int.le_refl _, by omega, HH.out.1, HH.out.2.2.2.1, HH.out.2.2.2.2.1, hx⟩) ?_ _ _ _ _ _ _ _ _ _ _ _ _ _ _ _ _ _ _ _ _ _ _ _ _ _ _ _ _ _ _ _ _ _ _ _ _ _ _ _ _ _ _ _ _ _ _ _ _ _ _ _ _ _ _ _ _ _ _ _ _ _ _ _ _ _ _ _ _ _ _ _ _ _ _ _ _ _ _ _ _ _ _ _ _ _ _ _ _ _ _ _ _ _ _ _ _ _ _ _ _ _ _ _ _ _ _ _ _ _ _ _ _ _ _ _ _ _ _ _ _ _ _ _ _ _ _ _ _ _ _ _ _ _ _ _ _ _ _ _ _ _ _ _ _ _ _ _ _ _ _ _ _ _ _ _ _ _ _ _ _ _ _ _ _ _ _
  assumption
set_option maxRecDepth 100000 in
set_option maxHeartbeats 32000000 in
theorem step_get_ok {w0 w : World} {g g' : Nat} {B : Int} {ps qs : List (EnM × Value)} {L : List Thing} (K A : Int) (x : EnM) (la ea : Option Addr) (lc ec n : Nat) (ys : List (EnM × Value)) (q : Int) (hq : B + A % 28 - 1 = q)
    (h : Sep w0 (PipeT g B ps :: DocT g' B qs :: L) w) (hpq : qs.map (·.1) = ps.map (·.1)) (h0 : 0 ≤ B) (h1 : B ≤ 4611686018427300000) (hl : ps.length ≤ 24) (hls : ∀ q ∈ ps, q.1.p.ls.length ≤ 1000) (hk : KindsAt w0)
    (hx : ∀ wx, Sep w0 L wx → LnS wx (.slice la x.p.ls.length lc) x.p.ls) (hxl : x.p.ls.length ≤ 1000) (hy : ∀ wx, Sep w0 L wx → EnS wx (.slice ea n ec) ys) (hn : ys.length = n) (hkd : K % 7 = 3) (j : Nat) (hj : j < ps.length) (hop : q = B + j + 1) :
    Calls Tryd.prog 12 #[.pointer (some ⟨g, 0, none⟩), .pointer (some ⟨g', 0, none⟩), .agg #[.int .i64 K, .int .i64 A, .bool false, .int .i64 x.c, .int .i64 x.m, .int .i64 x.p.k, .string x.p.s.1, .int .i64 x.p.o, .int .i64 x.p.n, .slice la x.p.ls.length lc, .slice ea n ec]] w fun e w' => e = .returned (.bool true) ∧ StepQ w0 g g' B L w' := by
  have HOP := Lib.hid hop
  clear hop
  have HJ := Lib.hid hj
  clear hj
  have hlq : qs.length = ps.length := by simpa using congrArg List.length hpq
  have hlsq : ∀ q ∈ qs, q.1.p.ls.length ≤ 1000 := lnq2 hpq hls
  have h2 := h.alloc (.cells #[.int .i64 K, .int .i64 A, .bool false, .int .i64 x.c, .int .i64 x.m, .int .i64 x.p.k, .string x.p.s.1, .int .i64 x.p.o, .int .i64 x.p.n, .slice la x.p.ls.length lc, .slice ea n ec] 37)
  have c0 := h2.cell (o := 0) rfl
  have c1 := h2.cell (o := 1) rfl
  have c2 := h2.cell (o := 2) rfl
  obtain ⟨mv, hD⟩ := Sep.docOpen (h2.pickL (M := [_, _, _]) [2, 0, 1] rfl)
  have d0 := hD.cell (o := 0) rfl
  clear hD
  have HBA := Lib.hid (fun wx => bring_any A 28 wx (by unfold Sm; omega))
  have wq1 : IntKind.i64.wrap (B + A % 28) = B + A % 28 := IntWalk.i64_in _ (by omega)
  have wq2 : IntKind.i64.wrap (B + A % 28 - 1) = q := by rw [hq]; exact IntWalk.i64_in _ (by omega)
  have HBK := Lib.hid (fun wx => bring_any K 7 wx (by unfold Sm; omega))
  rw [hkd] at HBK
  obtain ⟨b5, hb5⟩ : ∃ z, z = w.heap.size := ⟨_, rfl⟩
  obtain ⟨w3, hw3⟩ : ∃ z, z = (w.alloc (.cells #[.int .i64 K, .int .i64 A, .bool false, .int .i64 x.c, .int .i64 x.m, .int .i64 x.p.k, .string x.p.s.1, .int .i64 x.p.o, .int .i64 x.p.n, .slice la x.p.ls.length lc, .slice ea n ec] 37)).drew := ⟨_, rfl⟩
  have hA : Sep w0 (Cl b5 #[.int .i64 K, .int .i64 A, .bool false, .int .i64 x.c, .int .i64 x.m, .int .i64 x.p.k, .string x.p.s.1, .int .i64 x.p.o, .int .i64 x.p.n, .slice la x.p.ls.length lc, .slice ea n ec] 37 :: PipeT g B ps :: DocT g' B qs :: L) w3 := by rw [hb5, hw3]; exact h2.drew
  have HA := Lib.hid hA
  have HH := Lib.hid (And.intro hpq (And.intro h0 (And.intro h1 (And.intro hl (And.intro hls (And.intro hlq (And.intro hlsq hk)))))))
  have HX := Lib.hid hx
  have HXL := Lib.hid hxl
  have HY := Lib.hid hy
  have HN := Lib.hid hn
  clear h h2 hA hpq h0 h1 hl hls hlq hlsq hk hx hxl hy hn hq
  go_enter Tryd.func12, Tryd.ntmps12
  (try dsimp only); repeat' (first | go_values | go_skip | go_guarded | go_step | go_upon | go_back)
  refine wp_region_G (fun w' => w'.cell? ⟨g', 0, none⟩ = some (.int .i64 B) ∧ w'.cell? ⟨w.heap.size, 1, none⟩ = some (.int .i64 A)) [] (by kernel_rfl) ⟨d0, c1⟩ (fun hS => ?_)
  try dsimp only at hS
  refine wpAnyG_take' (i := 0) (v := ?v0_1r3) rfl (by kernel_rfl) (by kernel_rfl) (by kernel_rfl) (by kernel_rfl) (fun _ _ _ h => h) (Or.inl ⟨by rfl, ?hy0_1r3⟩) hS ?rest0_1r3
  case hy0_1r3 => intro w hSw; (try dsimp only at hSw); go_simp; (try with_reducible rfl)
  case rest0_1r3 =>
  try simp only [List.getElem_toArray, List.getElem_cons_succ, List.getElem_cons_zero, Act.put, List.setIfInBounds_toArray, List.set_cons_zero, List.set_cons_succ]
  refine wpAnyG_take' (i := 1) (v := ?v1_2r3) rfl (by kernel_rfl) (by kernel_rfl) (by kernel_rfl) (by kernel_rfl) (fun _ _ _ h => h) (Or.inl ⟨by rfl, ?hy1_2r3⟩) hS ?rest1_2r3
  case hy1_2r3 => intro w hSw; (try dsimp only at hSw); go_simp; (try with_reducible rfl)
  case rest1_2r3 =>
  try simp only [List.getElem_toArray, List.getElem_cons_succ, List.getElem_cons_zero, Act.put, List.setIfInBounds_toArray, List.set_cons_zero, List.set_cons_succ]
  refine wpAnyG_take' (i := 2) (v := ?v2_3r3) rfl (by kernel_rfl) (by kernel_rfl) (by kernel_rfl) (by kernel_rfl) (fun _ _ _ h => h) (Or.inl ⟨by rfl, ?hy2_3r3⟩) hS ?rest2_3r3
  case hy2_3r3 => intro w hSw; (try dsimp only at hSw); go_simp; (try with_reducible rfl)
  case rest2_3r3 =>
  try simp only [List.getElem_toArray, List.getElem_cons_succ, List.getElem_cons_zero, Act.put, List.setIfInBounds_toArray, List.set_cons_zero, List.set_cons_succ]
  refine wpAnyG_take' (i := 3) (v := ?v3_4r3) rfl (by kernel_rfl) (by kernel_rfl) (by kernel_rfl) (by kernel_rfl) (fun _ _ _ h => h) (Or.inl ⟨by rfl, ?hy3_4r3⟩) hS ?rest3_4r3
  case hy3_4r3 => intro w hSw; (try dsimp only at hSw); go_simp; (try with_reducible rfl)
  case rest3_4r3 =>
  try simp only [List.getElem_toArray, List.getElem_cons_succ, List.getElem_cons_zero, Act.put, List.setIfInBounds_toArray, List.set_cons_zero, List.set_cons_succ]
  refine wpAnyG_take' (i := 4) (v := ?v4_5r3) rfl (by kernel_rfl) (by kernel_rfl) (by kernel_rfl) (by kernel_rfl) (fun _ _ _ h => h) (Or.inl ⟨by rfl, ?hy4_5r3⟩) hS ?rest4_5r3
  case hy4_5r3 => intro w hSw; (try dsimp only at hSw); go_simp; (try with_reducible rfl)
  case rest4_5r3 =>
  try simp only [List.getElem_toArray, List.getElem_cons_succ, List.getElem_cons_zero, Act.put, List.setIfInBounds_toArray, List.set_cons_zero, List.set_cons_succ]
  refine wpAnyG_take' (i := 5) (v := ?v5_6r3) rfl (by kernel_rfl) (by kernel_rfl) (by kernel_rfl) (by kernel_rfl) (fun _ _ _ h => h) (Or.inl ⟨by rfl, ?hy5_6r3⟩) hS ?rest5_6r3
  case hy5_6r3 => intro w hSw; (try dsimp only at hSw); go_simp; (try with_reducible rfl)
  case rest5_6r3 =>
  try simp only [List.getElem_toArray, List.getElem_cons_succ, List.getElem_cons_zero, Act.put, List.setIfInBounds_toArray, List.set_cons_zero, List.set_cons_succ]
  refine wpAnyG_one (i := 6) (by kernel_rfl) rfl (fun K hK => ?_)
  go_simp
  refine Calls.mono (HBA.out _) ?_
  rintro r6 w6 ⟨rfl, rfl⟩
  (try dsimp only); repeat' (first | go_values | go_skip | go_guarded | go_step | go_upon | go_back)
  refine hK.out _ _ (fun _ => ?hS7r3) ?rest7r3
  case hS7r3 => exact hS
  clear K hK
  try simp only [List.getElem_toArray, List.getElem_cons_succ, List.getElem_cons_zero, Act.put, List.setIfInBounds_toArray, List.set_cons_zero, List.set_cons_succ]
  refine wpAnyG_take' (i := 7) (v := ?v7_8r3) rfl (by kernel_rfl) (by kernel_rfl) (by kernel_rfl) (by kernel_rfl) (fun _ _ _ h => h) (Or.inl ⟨by rfl, ?hy7_8r3⟩) hS ?rest7_8r3
  case hy7_8r3 => intro w hSw; (try dsimp only at hSw); go_simp; (try with_reducible rfl)
  case rest7_8r3 =>
  try simp only [List.getElem_toArray, List.getElem_cons_succ, List.getElem_cons_zero, Act.put, List.setIfInBounds_toArray, List.set_cons_zero, List.set_cons_succ]
  refine wpAnyG_take' (i := 8) (v := ?v8_9r3) rfl (by kernel_rfl) (by kernel_rfl) (by kernel_rfl) (by kernel_rfl) (fun _ _ _ h => h) (Or.inl ⟨by rfl, ?hy8_9r3⟩) hS ?rest8_9r3
  case hy8_9r3 => intro w hSw; (try dsimp only at hSw); go_simp; (try with_reducible rfl)
  case rest8_9r3 =>
  try simp only [List.getElem_toArray, List.getElem_cons_succ, List.getElem_cons_zero, Act.put, List.setIfInBounds_toArray, List.set_cons_zero, List.set_cons_succ]
  refine wpAnyG_take' (i := 9) (v := ?v9_10r3) rfl (by kernel_rfl) (by kernel_rfl) (by kernel_rfl) (by kernel_rfl) (fun _ _ _ h => h) (Or.inl ⟨by rfl, ?hy9_10r3⟩) hS ?rest9_10r3
  case hy9_10r3 => intro w hSw; (try dsimp only at hSw); go_simp; (try with_reducible rfl)
  case rest9_10r3 =>
  try simp only [List.getElem_toArray, List.getElem_cons_succ, List.getElem_cons_zero, Act.put, List.setIfInBounds_toArray, List.set_cons_zero, List.set_cons_succ]
  refine wpAnyG_done (by kernel_rfl) ?_ _
  try simp only [List.getElem_toArray, List.getElem_cons_succ, List.getElem_cons_zero, Act.put, List.setIfInBounds_toArray, List.set_cons_zero, List.set_cons_succ]
  (try dsimp only); repeat' (first | go_values | go_skip | go_guarded | go_step | go_upon | go_back)
  refine (HBK.out _).mono ?_
  rintro r0 wz ⟨rfl, rfl⟩
  rw [← hw3, ← hb5]
  clear c0 c1 c2 HBK hw3 hb5 d0 HBA wq1 wq2 hS
  have HC := Lib.hid (get_ok q j HJ.out (by have := HOP.out; omega) (HH.out.2.2.2.2.1 _ (List.getElem_mem HJ.out)) (HA.out.pickL (M := [_, _, _]) [1, 0, 2] rfl) HH.out.2.1 (by have := HH.out.2.2.1; omega) (by have := HH.out.2.2.2.1; omega))
  obtain ⟨X, hX⟩ : ∃ z, z = ps[j]'HJ.out := ⟨_, rfl⟩
  have hXl : X.1.p.ls.length ≤ 1000 := by rw [hX]; exact HH.out.2.2.2.2.1 _ (List.getElem_mem HJ.out)
  have hXq : ∀ (h9 : j < qs.length), qs[j].1 = X.1 := fun h9 => by
    have e9 := List.getElem_map (fun z : EnM × Value => z.1) (l := qs) (i := j) (h := by simpa using h9)
    rw [← e9, List.getElem_of_eq HH.out.1, List.getElem_map, hX]
  rw [← hX] at HC
  have HXX := Lib.hid (And.intro hXl hXq)
  clear hX hXl hXq
  unfold enV at HC
  (try dsimp only); repeat' (first | go_values | go_skip | go_guarded | go_step | go_upon | go_back)
  refine HC.out.mono ?_
  rintro r1 w4 ⟨u, rfl, h4⟩
  obtain ⟨ua, uc, rfl, -⟩ := h4.rnForm
  have h5 := h4.alloc (.cells (enC X.1 (.slice ua X.1.p.ls.length uc)) 34)
  unfold enC at h5
  obtain ⟨b8, hb8⟩ : ∃ z, z = w4.heap.size := ⟨_, rfl⟩
  obtain ⟨v8, hv8⟩ : ∃ z, z = w4.alloc (.cells #[.int .i64 X.1.c, .int .i64 X.1.m, .int .i64 X.1.p.k, .string X.1.p.s.1, .int .i64 X.1.p.o, .int .i64 X.1.p.n, .slice ua X.1.p.ls.length uc] 34) := ⟨_, rfl⟩
  rw [← hb8, ← hv8] at h5
  clear HC h4
  have hm := h5.pickL (M := [_, _, _, _, _]) [4, 0, 1, 2, 3] rfl
  have hr := rget_ok q j (by rw [HH.out.2.2.2.2.2.1]; exact HJ.out) (by have := HOP.out; omega) (HH.out.2.2.2.2.2.2.1 _ (List.getElem_mem _)) hm HH.out.2.1 (by have := HH.out.2.2.1; omega) (by rw [HH.out.2.2.2.2.2.1]; have := HH.out.2.2.2.1; omega)
  rw [HXX.out.2] at hr
  have HR := Lib.hid hr
  clear h5 hm hr
  unfold enV at HR
  (try dsimp only); repeat' (first | go_values | go_skip | go_guarded | go_step | go_upon | go_back)
  rw [← hv8, ← hb8]
  clear hv8 hb8
  refine HR.out.mono ?_
  rintro r2 w6 ⟨t, rfl, h6⟩
  obtain ⟨ta, tc, rfl, -⟩ := h6.rnForm
  have h7 := h6.alloc (.cells (enC X.1 (.slice ta X.1.p.ls.length tc)) 34)
  unfold enC at h7
  obtain ⟨b10, hb10⟩ : ∃ z, z = w6.heap.size := ⟨_, rfl⟩
  obtain ⟨v10, hv10⟩ : ∃ z, z = w6.alloc (.cells #[.int .i64 X.1.c, .int .i64 X.1.m, .int .i64 X.1.p.k, .string X.1.p.s.1, .int .i64 X.1.p.o, .int .i64 X.1.p.n, .slice ta X.1.p.ls.length tc] 34) := ⟨_, rfl⟩
  rw [← hb10, ← hv10] at h7
  clear HR h6
  have hm := h7.pickL (M := [_, _, _, _, _, _, _]) [5, 2, 3, 0, 4, 1] rfl
  have HF := Lib.hid (from_ok q (j + 1) (by have := HJ.out; omega) (by have := HOP.out; omega) HH.out.2.2.2.2.1 hm HH.out.2.1 (by have := HH.out.2.2.1; omega) (by have := HH.out.2.2.2.1; omega))
  clear h7 hm
  (try dsimp only); repeat' (first | go_values | go_skip | go_guarded | go_step | go_upon | go_back)
  rw [← hv10, ← hb10]
  clear hv10 hb10
  refine HF.out.mono ?_
  rintro r3 w7 ⟨u3, rfl, rs, hrs, h8⟩
  obtain ⟨m, hm⟩ : ∃ z, z = (ps.drop (j + 1)).length := ⟨_, rfl⟩
  have hrl : rs.length = m := by have := congrArg List.length hrs; rw [hm]; simpa using this
  obtain ⟨ra, rc, rfl, -⟩ := h8.enForm
  rw [hrl] at h8 ⊢
  have HM := Lib.hid hm
  clear hm
  clear HF
  have hm2 := h8.pickL (M := [_, _, _, _, _, _, _]) [2, 0, 1, 3, 4, 5, 6] rfl
  have HG := Lib.hid (rfrom_ok q (j + 1) (by rw [HH.out.2.2.2.2.2.1]; have := HJ.out; omega) (by have := HOP.out; omega) HH.out.2.2.2.2.2.2.1 hm2 HH.out.2.1 (by have := HH.out.2.2.1; omega) (by rw [HH.out.2.2.2.2.2.1]; have := HH.out.2.2.2.1; omega))
  clear h8 hm2
  (try dsimp only); repeat' (first | go_values | go_skip | go_guarded | go_step | go_upon | go_back)
  refine HG.out.mono ?_
  rintro r4 w8 ⟨u4, rfl, ts, hts, h9⟩
  have hst : ts.map (·.1) = rs.map (·.1) := by rw [hts, hrs, List.map_drop, List.map_drop, HH.out.1]
  have htl : ts.length = m := by have := congrArg List.length hst; rw [← hrl]; simpa using this
  obtain ⟨sa, sc, rfl, -⟩ := h9.enForm
  rw [htl] at h9 ⊢
  clear HG
  obtain ⟨y0, y1, y2, y3, y4, y5, y6⟩ := cells7 (h9.pickL (M := [_, _, _, _, _, _, _, _]) [4, 0, 1, 2, 3, 5, 6, 7] rfl)
  obtain ⟨z0, z1, z2, z3, z4, z5, z6⟩ := cells7 (h9.pickL (M := [_, _, _, _, _, _, _, _]) [5, 0, 1, 2, 3, 4, 6, 7] rfl)
  have hs := resame_any X.1 X.1 (.slice ua X.1.p.ls.length uc) (.slice ta X.1.p.ls.length tc) h9 ((h9.pickL (M := [_, _, _, _, _, _, _, _]) [6, 0, 1, 2, 3, 4, 5, 7] rfl).lnS) ((h9.pickL (M := [_, _, _, _, _, _, _, _]) [7, 0, 1, 2, 3, 4, 5, 6] rfl).lnS) (by have := HXX.out.1; omega)
  rw [enSame_self] at hs
  unfold enV at hs
  have HS := Lib.hid hs
  have HST := Lib.hid (And.intro hst (And.intro hrl htl))
  clear hs h9 hst hrl htl
  (try dsimp only); repeat' (first | go_values | go_skip | go_guarded | go_step | go_upon | go_back)
  refine HS.out.mono ?_
  rintro r5 w9 ⟨rfl, h10⟩
  clear HS y0 y1 y2 y3 y4 y5 y6 z0 z1 z2 z3 z4 z5 z6
  have hm24 : m ≤ 24 := by rw [HM.out, List.length_drop]; have := HH.out.2.2.2.1; omega
  have hr9 := resamerow_w ra sa rc sc rs ts (by rw [HST.out.2.1]; exact (h10.sw3).enS) (by rw [HST.out.2.2]; exact h10.enS) (by rw [HST.out.2.1]; omega) (by rw [HST.out.2.2]; omega)
  rw [HST.out.2.1, HST.out.2.2] at hr9
  have HR9 := Lib.hid hr9
  have H10 := Lib.hid h10
  clear hr9 h10
  (try dsimp only); repeat' (first | go_values | go_skip | go_guarded | go_step | go_upon | go_back)
  refine HR9.out.mono ?_
  rintro r6 w10 ⟨rb, rfl, hrb, hb⟩
  obtain rfl : rb = true := hrb.2 (sameP_of2 HST.out.1)
  have H11 := Lib.hid ((H10.out.below hb.low).pickL (M := [_, _, _, _, _, _, _, _]) [2, 3, 1] rfl)
  clear HR9 H10 hrb hb
  have HM24 := Lib.hid hm24
  clear hm24
  (try dsimp only); repeat' (first | go_values | go_skip | go_guarded | go_step | go_upon | go_back)
  refine own25 m ra rc rs _ H11 HST.out.2.1 HM24.out (Lib.hid fun wx hx => ⟨B, ps, qs, Int.le_refl _, by omega, HH.out.1, HH.out.2.2.2.1, HH.out.2.2.2.2.1, hx⟩) ?_ _ _ _ _ _ _ _ _ _ _ _ _ _ _ _ _ _ _ _ _ _ _ _ _ _ _ _ _ _ _ _ _ _ _ _ _ _ _ _ _ _ _ _ _ _ _ _ _ _ _ _ _ _ _ _ _ _ _ _ _ _ _ _ _ _ _ _ _ _ _ _ _ _ _ _ _ _ _ _ _ _ _ _ _ _ _ _ _ _ _ _ _ _ _ _ _ _ _ _ _ _ _ _ _ _ _ _ _ _ _ _ _ _ _ _ _ _ _ _ _ _ _ _ _ _ _ _ _ _ _ _ _ _ _ _ _ _ _ _ _ _ _ _ _ _ _ _ _ _ _ _ _ _ _ _ _ _ _ _ _ _ _ _ _ _ _
  assumption
end Go.Proofs.YtpknfeokfladkaaDoor
