/- What a call of both does: what it stands on; Append. -/
import Derived.Test.YtpknfeokfladkaaDoorPipe21
import Derived.Test.YtpknfeokfladkaaDoorPipe19
import Derived.Test.YtpknfeokfladkaaDoorPipe9
namespace Go.Proofs.YtpknfeokfladkaaDoor
open Go.RowKit
set_option linter.unusedVariables false
set_option linter.unusedSimpArgs false
def StepQ (w0 : World) (g g' : Nat) (B : Int) (L : List Thing) (w' : World) : Prop :=
  ∃ (B' : Int) (ps' qs' : List (EnM × Value)), B ≤ B' ∧ B' ≤ B + 24 ∧ qs'.map (·.1) = ps'.map (·.1) ∧ ps'.length ≤ 24 ∧ (∀ q ∈ ps', q.1.p.ls.length ≤ 1000) ∧ Sep w0 (PipeT g B' ps' :: DocT g' B' qs' :: L) w'
theorem lnq2 {ows ps : List (EnM × Value)} (he : ps.map (·.1) = ows.map (·.1)) (h : ∀ q ∈ ows, q.1.p.ls.length ≤ 1000) : ∀ q ∈ ps, q.1.p.ls.length ≤ 1000 := fun q hq => by
  have h9 : q.1 ∈ ows.map (·.1) := he ▸ List.mem_map_of_mem hq
  obtain ⟨z, hz, hz2⟩ := List.mem_map.1 h9
  rw [← hz2]; exact h z hz
set_option maxRecDepth 100000 in
set_option maxHeartbeats 32000000 in
theorem step_app_badR {w0 w : World} {g g' : Nat} {B : Int} {ps qs : List (EnM × Value)} {L : List Thing} (K A : Int) (x : EnM) (la ea : Option Addr) (lc ec n : Nat) (ys : List (EnM × Value)) (q : Int) (hq : A = q)
    (h : Sep w0 (PipeT g B ps :: DocT g' B qs :: L) w) (hpq : qs.map (·.1) = ps.map (·.1)) (h0 : 0 ≤ B) (h1 : B ≤ 4611686018427300000) (hl : ps.length ≤ 24) (hls : ∀ q ∈ ps, q.1.p.ls.length ≤ 1000) (hk : KindsAt w0)
    (hx : ∀ wx, Sep w0 L wx → LnS wx (.slice la x.p.ls.length lc) x.p.ls) (hxl : x.p.ls.length ≤ 1000) (hy : ∀ wx, Sep w0 L wx → EnS wx (.slice ea n ec) ys) (hn : ys.length = n) (r : Int) (hkd : K % 7 = r) (e3 : (r == 3) = false) (e4 : (r == 4) = false) (e5 : (r == 5) = false) (e6 : (r == 6) = false) (hok : x.ok = false) :
    Calls Tryd.prog 12 #[.pointer (some ⟨g, 0, none⟩), .pointer (some ⟨g', 0, none⟩), .agg #[.int .i64 K, .int .i64 A, .bool true, .int .i64 x.c, .int .i64 x.m, .int .i64 x.p.k, .string x.p.s.1, .int .i64 x.p.o, .int .i64 x.p.n, .slice la x.p.ls.length lc, .slice ea n ec]] w fun e w' => e = .returned (.bool true) ∧ StepQ w0 g g' B L w' := by
  have HOK := Lib.hid hok
  clear hok
  have hlq : qs.length = ps.length := by simpa using congrArg List.length hpq
  have hlsq : ∀ q ∈ qs, q.1.p.ls.length ≤ 1000 := lnq2 hpq hls
  have h2 := h.alloc (.cells #[.int .i64 K, .int .i64 A, .bool true, .int .i64 x.c, .int .i64 x.m, .int .i64 x.p.k, .string x.p.s.1, .int .i64 x.p.o, .int .i64 x.p.n, .slice la x.p.ls.length lc, .slice ea n ec] 37)
  have c0 := h2.cell (o := 0) rfl
  have c1 := h2.cell (o := 1) rfl
  have c2 := h2.cell (o := 2) rfl
  have HBK := Lib.hid (fun wx => bring_any K 7 wx (by unfold Sm; omega))
  rw [hkd] at HBK
  obtain ⟨b5, hb5⟩ : ∃ z, z = w.heap.size := ⟨_, rfl⟩
  obtain ⟨w3, hw3⟩ : ∃ z, z = w.alloc (.cells #[.int .i64 K, .int .i64 A, .bool true, .int .i64 x.c, .int .i64 x.m, .int .i64 x.p.k, .string x.p.s.1, .int .i64 x.p.o, .int .i64 x.p.n, .slice la x.p.ls.length lc, .slice ea n ec] 37) := ⟨_, rfl⟩
  have hA : Sep w0 (Cl b5 #[.int .i64 K, .int .i64 A, .bool true, .int .i64 x.c, .int .i64 x.m, .int .i64 x.p.k, .string x.p.s.1, .int .i64 x.p.o, .int .i64 x.p.n, .slice la x.p.ls.length lc, .slice ea n ec] 37 :: PipeT g B ps :: DocT g' B qs :: L) w3 := by rw [hb5, hw3]; exact h2
  have HA := Lib.hid hA
  have HH := Lib.hid (And.intro hpq (And.intro h0 (And.intro h1 (And.intro hl (And.intro hls (And.intro hlq (And.intro hlsq hk)))))))
  have HX := Lib.hid hx
  have HXL := Lib.hid hxl
  have HY := Lib.hid hy
  have HN := Lib.hid hn
  subst hq
  clear h h2 hA hpq h0 h1 hl hls hlq hlsq hk hx hxl hy hn
  go_enter Tryd.func12, Tryd.ntmps12
  (try dsimp only); repeat' (first | go_values | go_skip | go_guarded | go_step | go_upon | go_back)
  refine (HBK.out _).mono ?_
  rintro r0 wz ⟨rfl, rfl⟩
  rw [← hw3, ← hb5]
  clear c0 c1 c2 HBK hw3 hb5
  have c3 := HA.out.cell (o := 3) rfl
  have c4 := HA.out.cell (o := 4) rfl
  have c5 := HA.out.cell (o := 5) rfl
  have c6 := HA.out.cell (o := 6) rfl
  have c7 := HA.out.cell (o := 7) rfl
  have c8 := HA.out.cell (o := 8) rfl
  have c9 := HA.out.cell (o := 9) rfl
  have hc := append_bad x (.slice la x.p.ls.length lc) (HA.out.pickL (M := [_, _, _]) [1, 0, 2] rfl) (fun wx hw => HX.out wx hw.drop.drop) HH.out.2.2.2.2.2.2.2 HOK.out
  unfold enV at hc
  have HC := Lib.hid hc
  clear hc
  (try dsimp only); repeat' (first | go_values | go_skip | go_guarded | go_step | go_upon | go_back)
  refine HC.out.mono ?_
  rintro r1 w4 ⟨rfl, h4⟩
  have hr := rappend_bad x (.slice la x.p.ls.length lc) (h4.pickL (M := [_, _, _]) [2, 0, 1] rfl) (fun wx hw => HX.out wx hw.drop.drop) HOK.out
  unfold enV at hr
  have HR := Lib.hid hr
  clear HC hr c3 c4 c5 c6 c7 c8 c9
  have c3 := h4.sw2.cell (o := 3) rfl
  have c4 := h4.sw2.cell (o := 4) rfl
  have c5 := h4.sw2.cell (o := 5) rfl
  have c6 := h4.sw2.cell (o := 6) rfl
  have c7 := h4.sw2.cell (o := 7) rfl
  have c8 := h4.sw2.cell (o := 8) rfl
  have c9 := h4.sw2.cell (o := 9) rfl
  clear h4
  (try dsimp only); repeat' (first | go_values | go_skip | go_guarded | go_step | go_upon | go_back)
  refine HR.out.mono ?_
  rintro r2 w5 ⟨rfl, h5⟩
  have H9 : Hid (StepQ w0 g g' B L _) := Lib.hid ⟨B, ps, qs, Int.le_refl _, by omega, HH.out.1, HH.out.2.2.2.1, HH.out.2.2.2.2.1, h5.pickL (M := [_, _, _]) [1, 0] rfl⟩
  clear HR h5 c3 c4 c5 c6 c7 c8 c9
  (try dsimp only); repeat' (first | go_values | go_skip | go_guarded | go_step | go_upon | go_back)
  go_ret
  exact ⟨rfl, H9.out⟩
set_option maxRecDepth 100000 in
set_option maxHeartbeats 32000000 in
theorem step_app_fullR {w0 w : World} {g g' : Nat} {B : Int} {ps qs : List (EnM × Value)} {L : List Thing} (K A : Int) (x : EnM) (la ea : Option Addr) (lc ec n : Nat) (ys : List (EnM × Value)) (q : Int) (hq : A = q)
    (h : Sep w0 (PipeT g B ps :: DocT g' B qs :: L) w) (hpq : qs.map (·.1) = ps.map (·.1)) (h0 : 0 ≤ B) (h1 : B ≤ 4611686018427300000) (hl : ps.length ≤ 24) (hls : ∀ q ∈ ps, q.1.p.ls.length ≤ 1000) (hk : KindsAt w0)
    (hx : ∀ wx, Sep w0 L wx → LnS wx (.slice la x.p.ls.length lc) x.p.ls) (hxl : x.p.ls.length ≤ 1000) (hy : ∀ wx, Sep w0 L wx → EnS wx (.slice ea n ec) ys) (hn : ys.length = n) (r : Int) (hkd : K % 7 = r) (e3 : (r == 3) = false) (e4 : (r == 4) = false) (e5 : (r == 5) = false) (e6 : (r == 6) = false) (hok : x.ok = true) (hfull : ps.length = 24) :
    Calls Tryd.prog 12 #[.pointer (some ⟨g, 0, none⟩), .pointer (some ⟨g', 0, none⟩), .agg #[.int .i64 K, .int .i64 A, .bool true, .int .i64 x.c, .int .i64 x.m, .int .i64 x.p.k, .string x.p.s.1, .int .i64 x.p.o, .int .i64 x.p.n, .slice la x.p.ls.length lc, .slice ea n ec]] w fun e w' => e = .returned (.bool true) ∧ StepQ w0 g g' B L w' := by
  have HOK := Lib.hid hok
  clear hok
  have HF := Lib.hid hfull
  clear hfull
  have hlq : qs.length = ps.length := by simpa using congrArg List.length hpq
  have hlsq : ∀ q ∈ qs, q.1.p.ls.length ≤ 1000 := lnq2 hpq hls
  have h2 := h.alloc (.cells #[.int .i64 K, .int .i64 A, .bool true, .int .i64 x.c, .int .i64 x.m, .int .i64 x.p.k, .string x.p.s.1, .int .i64 x.p.o, .int .i64 x.p.n, .slice la x.p.ls.length lc, .slice ea n ec] 37)
  have c0 := h2.cell (o := 0) rfl
  have c1 := h2.cell (o := 1) rfl
  have c2 := h2.cell (o := 2) rfl
  have HBK := Lib.hid (fun wx => bring_any K 7 wx (by unfold Sm; omega))
  rw [hkd] at HBK
  obtain ⟨b5, hb5⟩ : ∃ z, z = w.heap.size := ⟨_, rfl⟩
  obtain ⟨w3, hw3⟩ : ∃ z, z = w.alloc (.cells #[.int .i64 K, .int .i64 A, .bool true, .int .i64 x.c, .int .i64 x.m, .int .i64 x.p.k, .string x.p.s.1, .int .i64 x.p.o, .int .i64 x.p.n, .slice la x.p.ls.length lc, .slice ea n ec] 37) := ⟨_, rfl⟩
  have hA : Sep w0 (Cl b5 #[.int .i64 K, .int .i64 A, .bool true, .int .i64 x.c, .int .i64 x.m, .int .i64 x.p.k, .string x.p.s.1, .int .i64 x.p.o, .int .i64 x.p.n, .slice la x.p.ls.length lc, .slice ea n ec] 37 :: PipeT g B ps :: DocT g' B qs :: L) w3 := by rw [hb5, hw3]; exact h2
  have HA := Lib.hid hA
  have HH := Lib.hid (And.intro hpq (And.intro h0 (And.intro h1 (And.intro hl (And.intro hls (And.intro hlq (And.intro hlsq hk)))))))
  have HX := Lib.hid hx
  have HXL := Lib.hid hxl
  have HY := Lib.hid hy
  have HN := Lib.hid hn
  subst hq
  clear h h2 hA hpq h0 h1 hl hls hlq hlsq hk hx hxl hy hn
  go_enter Tryd.func12, Tryd.ntmps12
  (try dsimp only); repeat' (first | go_values | go_skip | go_guarded | go_step | go_upon | go_back)
  refine (HBK.out _).mono ?_
  rintro r0 wz ⟨rfl, rfl⟩
  rw [← hw3, ← hb5]
  clear c0 c1 c2 HBK hw3 hb5
  have c3 := HA.out.cell (o := 3) rfl
  have c4 := HA.out.cell (o := 4) rfl
  have c5 := HA.out.cell (o := 5) rfl
  have c6 := HA.out.cell (o := 6) rfl
  have c7 := HA.out.cell (o := 7) rfl
  have c8 := HA.out.cell (o := 8) rfl
  have c9 := HA.out.cell (o := 9) rfl
  have hc := append_full x (.slice la x.p.ls.length lc) (HA.out.pickL (M := [_, _, _]) [1, 0, 2] rfl) (fun wx hw => HX.out wx hw.drop.drop) HH.out.2.2.2.2.2.2.2 HOK.out (by rw [HF.out]; omega) (by rw [HF.out]; omega)
  unfold enV at hc
  have HC := Lib.hid hc
  clear hc
  (try dsimp only); repeat' (first | go_values | go_skip | go_guarded | go_step | go_upon | go_back)
  refine HC.out.mono ?_
  rintro r1 w4 ⟨rfl, h4⟩
  have hr := rappend_full x (.slice la x.p.ls.length lc) (h4.pickL (M := [_, _, _]) [2, 0, 1] rfl) (fun wx hw => HX.out wx hw.drop.drop) HOK.out (by rw [HH.out.2.2.2.2.2.1]; exact HF.out)
  unfold enV at hr
  have HR := Lib.hid hr
  clear HC hr c3 c4 c5 c6 c7 c8 c9
  have c3 := h4.sw2.cell (o := 3) rfl
  have c4 := h4.sw2.cell (o := 4) rfl
  have c5 := h4.sw2.cell (o := 5) rfl
  have c6 := h4.sw2.cell (o := 6) rfl
  have c7 := h4.sw2.cell (o := 7) rfl
  have c8 := h4.sw2.cell (o := 8) rfl
  have c9 := h4.sw2.cell (o := 9) rfl
  clear h4
  (try dsimp only); repeat' (first | go_values | go_skip | go_guarded | go_step | go_upon | go_back)
  refine HR.out.mono ?_
  rintro r2 w5 ⟨rfl, h5⟩
  have H9 : Hid (StepQ w0 g g' B L _) := Lib.hid ⟨B, ps, qs, Int.le_refl _, by omega, HH.out.1, HH.out.2.2.2.1, HH.out.2.2.2.2.1, h5.pickL (M := [_, _, _]) [1, 0] rfl⟩
  clear HR h5 c3 c4 c5 c6 c7 c8 c9
  (try dsimp only); repeat' (first | go_values | go_skip | go_guarded | go_step | go_upon | go_back)
  go_ret
  exact ⟨rfl, H9.out⟩
set_option maxRecDepth 100000 in
set_option maxHeartbeats 32000000 in
theorem step_app_okR {w0 w : World} {g g' : Nat} {B : Int} {ps qs : List (EnM × Value)} {L : List Thing} (K A : Int) (x : EnM) (la ea : Option Addr) (lc ec n : Nat) (ys : List (EnM × Value)) (q : Int) (hq : A = q)
    (h : Sep w0 (PipeT g B ps :: DocT g' B qs :: L) w) (hpq : qs.map (·.1) = ps.map (·.1)) (h0 : 0 ≤ B) (h1 : B ≤ 4611686018427300000) (hl : ps.length ≤ 24) (hls : ∀ q ∈ ps, q.1.p.ls.length ≤ 1000) (hk : KindsAt w0)
    (hx : ∀ wx, Sep w0 L wx → LnS wx (.slice la x.p.ls.length lc) x.p.ls) (hxl : x.p.ls.length ≤ 1000) (hy : ∀ wx, Sep w0 L wx → EnS wx (.slice ea n ec) ys) (hn : ys.length = n) (r : Int) (hkd : K % 7 = r) (e3 : (r == 3) = false) (e4 : (r == 4) = false) (e5 : (r == 5) = false) (e6 : (r == 6) = false) (hok : x.ok = true) (hfull : ps.length < 24) :
    Calls Tryd.prog 12 #[.pointer (some ⟨g, 0, none⟩), .pointer (some ⟨g', 0, none⟩), .agg #[.int .i64 K, .int .i64 A, .bool true, .int .i64 x.c, .int .i64 x.m, .int .i64 x.p.k, .string x.p.s.1, .int .i64 x.p.o, .int .i64 x.p.n, .slice la x.p.ls.length lc, .slice ea n ec]] w fun e w' => e = .returned (.bool true) ∧ StepQ w0 g g' B L w' := by
  have HOK := Lib.hid hok
  clear hok
  have HF := Lib.hid hfull
  clear hfull
  have hlq : qs.length = ps.length := by simpa using congrArg List.length hpq
  have hlsq : ∀ q ∈ qs, q.1.p.ls.length ≤ 1000 := lnq2 hpq hls
  have h2 := h.alloc (.cells #[.int .i64 K, .int .i64 A, .bool true, .int .i64 x.c, .int .i64 x.m, .int .i64 x.p.k, .string x.p.s.1, .int .i64 x.p.o, .int .i64 x.p.n, .slice la x.p.ls.length lc, .slice ea n ec] 37)
  have c0 := h2.cell (o := 0) rfl
  have c1 := h2.cell (o := 1) rfl
  have c2 := h2.cell (o := 2) rfl
  have HBK := Lib.hid (fun wx => bring_any K 7 wx (by unfold Sm; omega))
  rw [hkd] at HBK
  obtain ⟨b5, hb5⟩ : ∃ z, z = w.heap.size := ⟨_, rfl⟩
  obtain ⟨w3, hw3⟩ : ∃ z, z = w.alloc (.cells #[.int .i64 K, .int .i64 A, .bool true, .int .i64 x.c, .int .i64 x.m, .int .i64 x.p.k, .string x.p.s.1, .int .i64 x.p.o, .int .i64 x.p.n, .slice la x.p.ls.length lc, .slice ea n ec] 37) := ⟨_, rfl⟩
  have hA : Sep w0 (Cl b5 #[.int .i64 K, .int .i64 A, .bool true, .int .i64 x.c, .int .i64 x.m, .int .i64 x.p.k, .string x.p.s.1, .int .i64 x.p.o, .int .i64 x.p.n, .slice la x.p.ls.length lc, .slice ea n ec] 37 :: PipeT g B ps :: DocT g' B qs :: L) w3 := by rw [hb5, hw3]; exact h2
  have HA := Lib.hid hA
  have HH := Lib.hid (And.intro hpq (And.intro h0 (And.intro h1 (And.intro hl (And.intro hls (And.intro hlq (And.intro hlsq hk)))))))
  have HX := Lib.hid hx
  have HXL := Lib.hid hxl
  have HY := Lib.hid hy
  have HN := Lib.hid hn
  subst hq
  clear h h2 hA hpq h0 h1 hl hls hlq hlsq hk hx hxl hy hn
  go_enter Tryd.func12, Tryd.ntmps12
  (try dsimp only); repeat' (first | go_values | go_skip | go_guarded | go_step | go_upon | go_back)
  refine (HBK.out _).mono ?_
  rintro r0 wz ⟨rfl, rfl⟩
  rw [← hw3, ← hb5]
  clear c0 c1 c2 HBK hw3 hb5
  have c3 := HA.out.cell (o := 3) rfl
  have c4 := HA.out.cell (o := 4) rfl
  have c5 := HA.out.cell (o := 5) rfl
  have c6 := HA.out.cell (o := 6) rfl
  have c7 := HA.out.cell (o := 7) rfl
  have c8 := HA.out.cell (o := 8) rfl
  have c9 := HA.out.cell (o := 9) rfl
  have hc := append_ok x (.slice la x.p.ls.length lc) (HA.out.pickL (M := [_, _, _]) [1, 0, 2] rfl) (fun wx hw => HX.out wx hw.drop.drop) HH.out.2.2.2.2.2.2.2 HOK.out HH.out.2.1 (by have := HH.out.2.2.1; omega) HF.out
  unfold enV at hc
  obtain ⟨tp, htp⟩ : ∃ z : Int, z = B + ((ps.length + 1 : Nat) : Int) := ⟨_, rfl⟩
  rw [← htp] at hc
  have HC := Lib.hid hc
  clear hc
  (try dsimp only); repeat' (first | go_values | go_skip | go_guarded | go_step | go_upon | go_back)
  refine HC.out.mono ?_
  rintro r1 w4 ⟨u, rfl, h4⟩
  have hr := rappend_ok x (.slice la x.p.ls.length lc) (h4.pickL (M := [_, _, _]) [2, 0, 1] rfl) (fun wx hw => HX.out wx hw.drop.drop) HOK.out HH.out.2.1 (by have := HH.out.2.2.1; omega) (by rw [HH.out.2.2.2.2.2.1]; exact HF.out) HH.out.2.2.2.2.2.2.1
  unfold enV at hr
  rw [HH.out.2.2.2.2.2.1, ← htp] at hr
  clear htp
  have HR := Lib.hid hr
  clear HC hr c3 c4 c5 c6 c7 c8 c9
  have c3 := h4.sw2.cell (o := 3) rfl
  have c4 := h4.sw2.cell (o := 4) rfl
  have c5 := h4.sw2.cell (o := 5) rfl
  have c6 := h4.sw2.cell (o := 6) rfl
  have c7 := h4.sw2.cell (o := 7) rfl
  have c8 := h4.sw2.cell (o := 8) rfl
  have c9 := h4.sw2.cell (o := 9) rfl
  clear h4
  (try dsimp only); repeat' (first | go_values | go_skip | go_guarded | go_step | go_upon | go_back)
  refine HR.out.mono ?_
  rintro r2 w5 ⟨t, qs2, rfl, hq2, h5⟩
  have H9 : Hid (StepQ w0 g g' B L _) := Lib.hid ⟨B, ps ++ [(x, u)], qs2 ++ [(x, t)], Int.le_refl _, by omega, by rw [List.map_append, List.map_append, hq2, HH.out.1]; rfl, by rw [List.length_append]; have := HF.out; simp; omega, fun z hz => (List.mem_append.1 hz).elim (HH.out.2.2.2.2.1 z) (fun hz => by rw [List.mem_singleton.1 hz]; exact HXL.out), h5.pickL (M := [_, _, _]) [1, 0] rfl⟩
  clear hq2
  clear HR h5 c3 c4 c5 c6 c7 c8 c9
  (try dsimp only); repeat' (first | go_values | go_skip | go_guarded | go_step | go_upon | go_back)
  go_ret
  exact ⟨rfl, H9.out⟩
set_option maxRecDepth 100000 in
set_option maxHeartbeats 32000000 in
theorem step_app_bad {w0 w : World} {g g' : Nat} {B : Int} {ps qs : List (EnM × Value)} {L : List Thing} (K A : Int) (x : EnM) (la ea : Option Addr) (lc ec n : Nat) (ys : List (EnM × Value)) (q : Int) (hq : B + A % 28 - 1 = q)
    (h : Sep w0 (PipeT g B ps :: DocT g' B qs :: L) w) (hpq : qs.map (·.1) = ps.map (·.1)) (h0 : 0 ≤ B) (h1 : B ≤ 4611686018427300000) (hl : ps.length ≤ 24) (hls : ∀ q ∈ ps, q.1.p.ls.length ≤ 1000) (hk : KindsAt w0)
    (hx : ∀ wx, Sep w0 L wx → LnS wx (.slice la x.p.ls.length lc) x.p.ls) (hxl : x.p.ls.length ≤ 1000) (hy : ∀ wx, Sep w0 L wx → EnS wx (.slice ea n ec) ys) (hn : ys.length = n) (r : Int) (hkd : K % 7 = r) (e3 : (r == 3) = false) (e4 : (r == 4) = false) (e5 : (r == 5) = false) (e6 : (r == 6) = false) (hok : x.ok = false) :
    Calls Tryd.prog 12 #[.pointer (some ⟨g, 0, none⟩), .pointer (some ⟨g', 0, none⟩), .agg #[.int .i64 K, .int .i64 A, .bool false, .int .i64 x.c, .int .i64 x.m, .int .i64 x.p.k, .string x.p.s.1, .int .i64 x.p.o, .int .i64 x.p.n, .slice la x.p.ls.length lc, .slice ea n ec]] w fun e w' => e = .returned (.bool true) ∧ StepQ w0 g g' B L w' := by
  have HOK := Lib.hid hok
  clear hok
  have hlq : qs.length = ps.length := by simpa using congrArg List.length hpq
  have hlsq : ∀ q ∈ qs, q.1.p.ls.length ≤ 1000 := lnq2 hpq hls
  have h2 := h.alloc (.cells #[.int .i64 K, .int .i64 A, .bool false, .int .i64 x.c, .int .i64 x.m, .int .i64 x.p.k, .string x.p.s.1, .int .i64 x.p.o, .int .i64 x.p.n, .slice la x.p.ls.length lc, .slice ea n ec] 37)
  have c0 := h2.cell (o := 0) rfl
  have c1 := h2.cell (o := 1) rfl
  have c2 := h2.cell (o := 2) rfl
  obtain ⟨mv, hD⟩ := Sep.docOpen (h2.pickL (M := [_, _, _]) [2, 0, 1] rfl)
  have d0 := hD.cell (o := 0) rfl
  clear hD
  have HBA := Lib.hid (fun wx => bring_any A 28 wx (by unfold Sm; omega))
  have wq1 : IntKind.i64.wrap (B + A % 28) = B + A % 28 := IntWalk.i64_in _ (by omega)
  have wq2 : IntKind.i64.wrap (B + A % 28 - 1) = q := by rw [hq]; exact IntWalk.i64_in _ (by omega)
  have HBK := Lib.hid (fun wx => bring_any K 7 wx (by unfold Sm; omega))
  rw [hkd] at HBK
  obtain ⟨b5, hb5⟩ : ∃ z, z = w.heap.size := ⟨_, rfl⟩
  obtain ⟨w3, hw3⟩ : ∃ z, z = (w.alloc (.cells #[.int .i64 K, .int .i64 A, .bool false, .int .i64 x.c, .int .i64 x.m, .int .i64 x.p.k, .string x.p.s.1, .int .i64 x.p.o, .int .i64 x.p.n, .slice la x.p.ls.length lc, .slice ea n ec] 37)).drew := ⟨_, rfl⟩
  have hA : Sep w0 (Cl b5 #[.int .i64 K, .int .i64 A, .bool false, .int .i64 x.c, .int .i64 x.m, .int .i64 x.p.k, .string x.p.s.1, .int .i64 x.p.o, .int .i64 x.p.n, .slice la x.p.ls.length lc, .slice ea n ec] 37 :: PipeT g B ps :: DocT g' B qs :: L) w3 := by rw [hb5, hw3]; exact h2.drew
  have HA := Lib.hid hA
  have HH := Lib.hid (And.intro hpq (And.intro h0 (And.intro h1 (And.intro hl (And.intro hls (And.intro hlq (And.intro hlsq hk)))))))
  have HX := Lib.hid hx
  have HXL := Lib.hid hxl
  have HY := Lib.hid hy
  have HN := Lib.hid hn
  clear h h2 hA hpq h0 h1 hl hls hlq hlsq hk hx hxl hy hn hq
  go_enter Tryd.func12, Tryd.ntmps12
  (try dsimp only); repeat' (first | go_values | go_skip | go_guarded | go_step | go_upon | go_back)
  refine wp_region_G (fun w' => w'.cell? ⟨g', 0, none⟩ = some (.int .i64 B) ∧ w'.cell? ⟨w.heap.size, 1, none⟩ = some (.int .i64 A)) [] (by kernel_rfl) ⟨d0, c1⟩ (fun hS => ?_)
  try dsimp only at hS
  refine wpAnyG_take' (i := 0) (v := ?v0_1r3) rfl (by kernel_rfl) (by kernel_rfl) (by kernel_rfl) (by kernel_rfl) (fun _ _ _ h => h) (Or.inl ⟨by rfl, ?hy0_1r3⟩) hS ?rest0_1r3
  case hy0_1r3 => intro w hSw; (try dsimp only at hSw); go_simp; (try with_reducible rfl)
  case rest0_1r3 =>
  try simp only [List.getElem_toArray, List.getElem_cons_succ, List.getElem_cons_zero, Act.put, List.setIfInBounds_toArray, List.set_cons_zero, List.set_cons_succ]
  refine wpAnyG_take' (i := 1) (v := ?v1_2r3) rfl (by kernel_rfl) (by kernel_rfl) (by kernel_rfl) (by kernel_rfl) (fun _ _ _ h => h) (Or.inl ⟨by rfl, ?hy1_2r3⟩) hS ?rest1_2r3
  case hy1_2r3 => intro w hSw; (try dsimp only at hSw); go_simp; (try with_reducible rfl)
  case rest1_2r3 =>
  try simp only [List.getElem_toArray, List.getElem_cons_succ, List.getElem_cons_zero, Act.put, List.setIfInBounds_toArray, List.set_cons_zero, List.set_cons_succ]
  refine wpAnyG_take' (i := 2) (v := ?v2_3r3) rfl (by kernel_rfl) (by kernel_rfl) (by kernel_rfl) (by kernel_rfl) (fun _ _ _ h => h) (Or.inl ⟨by rfl, ?hy2_3r3⟩) hS ?rest2_3r3
  case hy2_3r3 => intro w hSw; (try dsimp only at hSw); go_simp; (try with_reducible rfl)
  case rest2_3r3 =>
  try simp only [List.getElem_toArray, List.getElem_cons_succ, List.getElem_cons_zero, Act.put, List.setIfInBounds_toArray, List.set_cons_zero, List.set_cons_succ]
  refine wpAnyG_take' (i := 3) (v := ?v3_4r3) rfl (by kernel_rfl) (by kernel_rfl) (by kernel_rfl) (by kernel_rfl) (fun _ _ _ h => h) (Or.inl ⟨by rfl, ?hy3_4r3⟩) hS ?rest3_4r3
  case hy3_4r3 => intro w hSw; (try dsimp only at hSw); go_simp; (try with_reducible rfl)
  case rest3_4r3 =>
  try simp only [List.getElem_toArray, List.getElem_cons_succ, List.getElem_cons_zero, Act.put, List.setIfInBounds_toArray, List.set_cons_zero, List.set_cons_succ]
  refine wpAnyG_take' (i := 4) (v := ?v4_5r3) rfl (by kernel_rfl) (by kernel_rfl) (by kernel_rfl) (by kernel_rfl) (fun _ _ _ h => h) (Or.inl ⟨by rfl, ?hy4_5r3⟩) hS ?rest4_5r3
  case hy4_5r3 => intro w hSw; (try dsimp only at hSw); go_simp; (try with_reducible rfl)
  case rest4_5r3 =>
  try simp only [List.getElem_toArray, List.getElem_cons_succ, List.getElem_cons_zero, Act.put, List.setIfInBounds_toArray, List.set_cons_zero, List.set_cons_succ]
  refine wpAnyG_take' (i := 5) (v := ?v5_6r3) rfl (by kernel_rfl) (by kernel_rfl) (by kernel_rfl) (by kernel_rfl) (fun _ _ _ h => h) (Or.inl ⟨by rfl, ?hy5_6r3⟩) hS ?rest5_6r3
  case hy5_6r3 => intro w hSw; (try dsimp only at hSw); go_simp; (try with_reducible rfl)
  case rest5_6r3 =>
  try simp only [List.getElem_toArray, List.getElem_cons_succ, List.getElem_cons_zero, Act.put, List.setIfInBounds_toArray, List.set_cons_zero, List.set_cons_succ]
  refine wpAnyG_one (i := 6) (by kernel_rfl) rfl (fun K hK => ?_)
  go_simp
  refine Calls.mono (HBA.out _) ?_
  rintro r6 w6 ⟨rfl, rfl⟩
  (try dsimp only); repeat' (first | go_values | go_skip | go_guarded | go_step | go_upon | go_back)
  refine hK.out _ _ (fun _ => ?hS7r3) ?rest7r3
  case hS7r3 => exact hS
  clear K hK
  try simp only [List.getElem_toArray, List.getElem_cons_succ, List.getElem_cons_zero, Act.put, List.setIfInBounds_toArray, List.set_cons_zero, List.set_cons_succ]
  refine wpAnyG_take' (i := 7) (v := ?v7_8r3) rfl (by kernel_rfl) (by kernel_rfl) (by kernel_rfl) (by kernel_rfl) (fun _ _ _ h => h) (Or.inl ⟨by rfl, ?hy7_8r3⟩) hS ?rest7_8r3
  case hy7_8r3 => intro w hSw; (try dsimp only at hSw); go_simp; (try with_reducible rfl)
  case rest7_8r3 =>
  try simp only [List.getElem_toArray, List.getElem_cons_succ, List.getElem_cons_zero, Act.put, List.setIfInBounds_toArray, List.set_cons_zero, List.set_cons_succ]
  refine wpAnyG_take' (i := 8) (v := ?v8_9r3) rfl (by kernel_rfl) (by kernel_rfl) (by kernel_rfl) (by kernel_rfl) (fun _ _ _ h => h) (Or.inl ⟨by rfl, ?hy8_9r3⟩) hS ?rest8_9r3
  case hy8_9r3 => intro w hSw; (try dsimp only at hSw); go_simp; (try with_reducible rfl)
  case rest8_9r3 =>
  try simp only [List.getElem_toArray, List.getElem_cons_succ, List.getElem_cons_zero, Act.put, List.setIfInBounds_toArray, List.set_cons_zero, List.set_cons_succ]
  refine wpAnyG_take' (i := 9) (v := ?v9_10r3) rfl (by kernel_rfl) (by kernel_rfl) (by kernel_rfl) (by kernel_rfl) (fun _ _ _ h => h) (Or.inl ⟨by rfl, ?hy9_10r3⟩) hS ?rest9_10r3
  case hy9_10r3 => intro w hSw; (try dsimp only at hSw); go_simp; (try with_reducible rfl)
  case rest9_10r3 =>
  try simp only [List.getElem_toArray, List.getElem_cons_succ, List.getElem_cons_zero, Act.put, List.setIfInBounds_toArray, List.set_cons_zero, List.set_cons_succ]
  refine wpAnyG_done (by kernel_rfl) ?_ _
  try simp only [List.getElem_toArray, List.getElem_cons_succ, List.getElem_cons_zero, Act.put, List.setIfInBounds_toArray, List.set_cons_zero, List.set_cons_succ]
  (try dsimp only); repeat' (first | go_values | go_skip | go_guarded | go_step | go_upon | go_back)
  refine (HBK.out _).mono ?_
  rintro r0 wz ⟨rfl, rfl⟩
  rw [← hw3, ← hb5]
  clear c0 c1 c2 HBK hw3 hb5 d0 HBA wq1 wq2 hS
  have c3 := HA.out.cell (o := 3) rfl
  have c4 := HA.out.cell (o := 4) rfl
  have c5 := HA.out.cell (o := 5) rfl
  have c6 := HA.out.cell (o := 6) rfl
  have c7 := HA.out.cell (o := 7) rfl
  have c8 := HA.out.cell (o := 8) rfl
  have c9 := HA.out.cell (o := 9) rfl
  have hc := append_bad x (.slice la x.p.ls.length lc) (HA.out.pickL (M := [_, _, _]) [1, 0, 2] rfl) (fun wx hw => HX.out wx hw.drop.drop) HH.out.2.2.2.2.2.2.2 HOK.out
  unfold enV at hc
  have HC := Lib.hid hc
  clear hc
  (try dsimp only); repeat' (first | go_values | go_skip | go_guarded | go_step | go_upon | go_back)
  refine HC.out.mono ?_
  rintro r1 w4 ⟨rfl, h4⟩
  have hr := rappend_bad x (.slice la x.p.ls.length lc) (h4.pickL (M := [_, _, _]) [2, 0, 1] rfl) (fun wx hw => HX.out wx hw.drop.drop) HOK.out
  unfold enV at hr
  have HR := Lib.hid hr
  clear HC hr c3 c4 c5 c6 c7 c8 c9
  have c3 := h4.sw2.cell (o := 3) rfl
  have c4 := h4.sw2.cell (o := 4) rfl
  have c5 := h4.sw2.cell (o := 5) rfl
  have c6 := h4.sw2.cell (o := 6) rfl
  have c7 := h4.sw2.cell (o := 7) rfl
  have c8 := h4.sw2.cell (o := 8) rfl
  have c9 := h4.sw2.cell (o := 9) rfl
  clear h4
  (try dsimp only); repeat' (first | go_values | go_skip | go_guarded | go_step | go_upon | go_back)
  refine HR.out.mono ?_
  rintro r2 w5 ⟨rfl, h5⟩
  have H9 : Hid (StepQ w0 g g' B L _) := Lib.hid ⟨B, ps, qs, Int.le_refl _, by omega, HH.out.1, HH.out.2.2.2.1, HH.out.2.2.2.2.1, h5.pickL (M := [_, _, _]) [1, 0] rfl⟩
  clear HR h5 c3 c4 c5 c6 c7 c8 c9
  (try dsimp only); repeat' (first | go_values | go_skip | go_guarded | go_step | go_upon | go_back)
  go_ret
  exact ⟨rfl, H9.out⟩
set_option maxRecDepth 100000 in
set_option maxHeartbeats 32000000 in
theorem step_app_full {w0 w : World} {g g' : Nat} {B : Int} {ps qs : List (EnM × Value)} {L : List Thing} (K A : Int) (x : EnM) (la ea : Option Addr) (lc ec n : Nat) (ys : List (EnM × Value)) (q : Int) (hq : B + A % 28 - 1 = q)
    (h : Sep w0 (PipeT g B ps :: DocT g' B qs :: L) w) (hpq : qs.map (·.1) = ps.map (·.1)) (h0 : 0 ≤ B) (h1 : B ≤ 4611686018427300000) (hl : ps.length ≤ 24) (hls : ∀ q ∈ ps, q.1.p.ls.length ≤ 1000) (hk : KindsAt w0)
    (hx : ∀ wx, Sep w0 L wx → LnS wx (.slice la x.p.ls.length lc) x.p.ls) (hxl : x.p.ls.length ≤ 1000) (hy : ∀ wx, Sep w0 L wx → EnS wx (.slice ea n ec) ys) (hn : ys.length = n) (r : Int) (hkd : K % 7 = r) (e3 : (r == 3) = false) (e4 : (r == 4) = false) (e5 : (r == 5) = false) (e6 : (r == 6) = false) (hok : x.ok = true) (hfull : ps.length = 24) :
    Calls Tryd.prog 12 #[.pointer (some ⟨g, 0, none⟩), .pointer (some ⟨g', 0, none⟩), .agg #[.int .i64 K, .int .i64 A, .bool false, .int .i64 x.c, .int .i64 x.m, .int .i64 x.p.k, .string x.p.s.1, .int .i64 x.p.o, .int .i64 x.p.n, .slice la x.p.ls.length lc, .slice ea n ec]] w fun e w' => e = .returned (.bool true) ∧ StepQ w0 g g' B L w' := by
  have HOK := Lib.hid hok
  clear hok
  have HF := Lib.hid hfull
  clear hfull
  have hlq : qs.length = ps.length := by simpa using congrArg List.length hpq
  have hlsq : ∀ q ∈ qs, q.1.p.ls.length ≤ 1000 := lnq2 hpq hls
  have h2 := h.alloc (.cells #[.int .i64 K, .int .i64 A, .bool false, .int .i64 x.c, .int .i64 x.m, .int .i64 x.p.k, .string x.p.s.1, .int .i64 x.p.o, .int .i64 x.p.n, .slice la x.p.ls.length lc, .slice ea n ec] 37)
  have c0 := h2.cell (o := 0) rfl
  have c1 := h2.cell (o := 1) rfl
  have c2 := h2.cell (o := 2) rfl
  obtain ⟨mv, hD⟩ := Sep.docOpen (h2.pickL (M := [_, _, _]) [2, 0, 1] rfl)
  have d0 := hD.cell (o := 0) rfl
  clear hD
  have HBA := Lib.hid (fun wx => bring_any A 28 wx (by unfold Sm; omega))
  have wq1 : IntKind.i64.wrap (B + A % 28) = B + A % 28 := IntWalk.i64_in _ (by omega)
  have wq2 : IntKind.i64.wrap (B + A % 28 - 1) = q := by rw [hq]; exact IntWalk.i64_in _ (by omega)
  have HBK := Lib.hid (fun wx => bring_any K 7 wx (by unfold Sm; omega))
  rw [hkd] at HBK
  obtain ⟨b5, hb5⟩ : ∃ z, z = w.heap.size := ⟨_, rfl⟩
  obtain ⟨w3, hw3⟩ : ∃ z, z = (w.alloc (.cells #[.int .i64 K, .int .i64 A, .bool false, .int .i64 x.c, .int .i64 x.m, .int .i64 x.p.k, .string x.p.s.1, .int .i64 x.p.o, .int .i64 x.p.n, .slice la x.p.ls.length lc, .slice ea n ec] 37)).drew := ⟨_, rfl⟩
  have hA : Sep w0 (Cl b5 #[.int .i64 K, .int .i64 A, .bool false, .int .i64 x.c, .int .i64 x.m, .int .i64 x.p.k, .string x.p.s.1, .int .i64 x.p.o, .int .i64 x.p.n, .slice la x.p.ls.length lc, .slice ea n ec] 37 :: PipeT g B ps :: DocT g' B qs :: L) w3 := by rw [hb5, hw3]; exact h2.drew
  have HA := Lib.hid hA
  have HH := Lib.hid (And.intro hpq (And.intro h0 (And.intro h1 (And.intro hl (And.intro hls (And.intro hlq (And.intro hlsq hk)))))))
  have HX := Lib.hid hx
  have HXL := Lib.hid hxl
  have HY := Lib.hid hy
  have HN := Lib.hid hn
  clear h h2 hA hpq h0 h1 hl hls hlq hlsq hk hx hxl hy hn hq
  go_enter Tryd.func12, Tryd.ntmps12
  (try dsimp only); repeat' (first | go_values | go_skip | go_guarded | go_step | go_upon | go_back)
  refine wp_region_G (fun w' => w'.cell? ⟨g', 0, none⟩ = some (.int .i64 B) ∧ w'.cell? ⟨w.heap.size, 1, none⟩ = some (.int .i64 A)) [] (by kernel_rfl) ⟨d0, c1⟩ (fun hS => ?_)
  try dsimp only at hS
  refine wpAnyG_take' (i := 0) (v := ?v0_1r3) rfl (by kernel_rfl) (by kernel_rfl) (by kernel_rfl) (by kernel_rfl) (fun _ _ _ h => h) (Or.inl ⟨by rfl, ?hy0_1r3⟩) hS ?rest0_1r3
  case hy0_1r3 => intro w hSw; (try dsimp only at hSw); go_simp; (try with_reducible rfl)
  case rest0_1r3 =>
  try simp only [List.getElem_toArray, List.getElem_cons_succ, List.getElem_cons_zero, Act.put, List.setIfInBounds_toArray, List.set_cons_zero, List.set_cons_succ]
  refine wpAnyG_take' (i := 1) (v := ?v1_2r3) rfl (by kernel_rfl) (by kernel_rfl) (by kernel_rfl) (by kernel_rfl) (fun _ _ _ h => h) (Or.inl ⟨by rfl, ?hy1_2r3⟩) hS ?rest1_2r3
  case hy1_2r3 => intro w hSw; (try dsimp only at hSw); go_simp; (try with_reducible rfl)
  case rest1_2r3 =>
  try simp only [List.getElem_toArray, List.getElem_cons_succ, List.getElem_cons_zero, Act.put, List.setIfInBounds_toArray, List.set_cons_zero, List.set_cons_succ]
  refine wpAnyG_take' (i := 2) (v := ?v2_3r3) rfl (by kernel_rfl) (by kernel_rfl) (by kernel_rfl) (by kernel_rfl) (fun _ _ _ h => h) (Or.inl ⟨by rfl, ?hy2_3r3⟩) hS ?rest2_3r3
  case hy2_3r3 => intro w hSw; (try dsimp only at hSw); go_simp; (try with_reducible rfl)
  case rest2_3r3 =>
  try simp only [List.getElem_toArray, List.getElem_cons_succ, List.getElem_cons_zero, Act.put, List.setIfInBounds_toArray, List.set_cons_zero, List.set_cons_succ]
  refine wpAnyG_take' (i := 3) (v := ?v3_4r3) rfl (by kernel_rfl) (by kernel_rfl) (by kernel_rfl) (by kernel_rfl) (fun _ _ _ h => h) (Or.inl ⟨by rfl, ?hy3_4r3⟩) hS ?rest3_4r3
  case hy3_4r3 => intro w hSw; (try dsimp only at hSw); go_simp; (try with_reducible rfl)
  case rest3_4r3 =>
  try simp only [List.getElem_toArray, List.getElem_cons_succ, List.getElem_cons_zero, Act.put, List.setIfInBounds_toArray, List.set_cons_zero, List.set_cons_succ]
  refine wpAnyG_take' (i := 4) (v := ?v4_5r3) rfl (by kernel_rfl) (by kernel_rfl) (by kernel_rfl) (by kernel_rfl) (fun _ _ _ h => h) (Or.inl ⟨by rfl, ?hy4_5r3⟩) hS ?rest4_5r3
  case hy4_5r3 => intro w hSw; (try dsimp only at hSw); go_simp; (try with_reducible rfl)
  case rest4_5r3 =>
  try simp only [List.getElem_toArray, List.getElem_cons_succ, List.getElem_cons_zero, Act.put, List.setIfInBounds_toArray, List.set_cons_zero, List.set_cons_succ]
  refine wpAnyG_take' (i := 5) (v := ?v5_6r3) rfl (by kernel_rfl) (by kernel_rfl) (by kernel_rfl) (by kernel_rfl) (fun _ _ _ h => h) (Or.inl ⟨by rfl, ?hy5_6r3⟩) hS ?rest5_6r3
  case hy5_6r3 => intro w hSw; (try dsimp only at hSw); go_simp; (try with_reducible rfl)
  case rest5_6r3 =>
  try simp only [List.getElem_toArray, List.getElem_cons_succ, List.getElem_cons_zero, Act.put, List.setIfInBounds_toArray, List.set_cons_zero, List.set_cons_succ]
  refine wpAnyG_one (i := 6) (by kernel_rfl) rfl (fun K hK => ?_)
  go_simp
  refine Calls.mono (HBA.out _) ?_
  rintro r6 w6 ⟨rfl, rfl⟩
  (try dsimp only); repeat' (first | go_values | go_skip | go_guarded | go_step | go_upon | go_back)
  refine hK.out _ _ (fun _ => ?hS7r3) ?rest7r3
  case hS7r3 => exact hS
  clear K hK
  try simp only [List.getElem_toArray, List.getElem_cons_succ, List.getElem_cons_zero, Act.put, List.setIfInBounds_toArray, List.set_cons_zero, List.set_cons_succ]
  refine wpAnyG_take' (i := 7) (v := ?v7_8r3) rfl (by kernel_rfl) (by kernel_rfl) (by kernel_rfl) (by kernel_rfl) (fun _ _ _ h => h) (Or.inl ⟨by rfl, ?hy7_8r3⟩) hS ?rest7_8r3
  case hy7_8r3 => intro w hSw; (try dsimp only at hSw); go_simp; (try with_reducible rfl)
  case rest7_8r3 =>
  try simp only [List.getElem_toArray, List.getElem_cons_succ, List.getElem_cons_zero, Act.put, List.setIfInBounds_toArray, List.set_cons_zero, List.set_cons_succ]
  refine wpAnyG_take' (i := 8) (v := ?v8_9r3) rfl (by kernel_rfl) (by kernel_rfl) (by kernel_rfl) (by kernel_rfl) (fun _ _ _ h => h) (Or.inl ⟨by rfl, ?hy8_9r3⟩) hS ?rest8_9r3
  case hy8_9r3 => intro w hSw; (try dsimp only at hSw); go_simp; (try with_reducible rfl)
  case rest8_9r3 =>
  try simp only [List.getElem_toArray, List.getElem_cons_succ, List.getElem_cons_zero, Act.put, List.setIfInBounds_toArray, List.set_cons_zero, List.set_cons_succ]
  refine wpAnyG_take' (i := 9) (v := ?v9_10r3) rfl (by kernel_rfl) (by kernel_rfl) (by kernel_rfl) (by kernel_rfl) (fun _ _ _ h => h) (Or.inl ⟨by rfl, ?hy9_10r3⟩) hS ?rest9_10r3
  case hy9_10r3 => intro w hSw; (try dsimp only at hSw); go_simp; (try with_reducible rfl)
  case rest9_10r3 =>
  try simp only [List.getElem_toArray, List.getElem_cons_succ, List.getElem_cons_zero, Act.put, List.setIfInBounds_toArray, List.set_cons_zero, List.set_cons_succ]
  refine wpAnyG_done (by kernel_rfl) ?_ _
  try simp only [List.getElem_toArray, List.getElem_cons_succ, List.getElem_cons_zero, Act.put, List.setIfInBounds_toArray, List.set_cons_zero, List.set_cons_succ]
  (try dsimp only); repeat' (first | go_values | go_skip | go_guarded | go_step | go_upon | go_back)
  refine (HBK.out _).mono ?_
  rintro r0 wz ⟨rfl, rfl⟩
  rw [← hw3, ← hb5]
  clear c0 c1 c2 HBK hw3 hb5 d0 HBA wq1 wq2 hS
  have c3 := HA.out.cell (o := 3) rfl
  have c4 := HA.out.cell (o := 4) rfl
  have c5 := HA.out.cell (o := 5) rfl
  have c6 := HA.out.cell (o := 6) rfl
  have c7 := HA.out.cell (o := 7) rfl
  have c8 := HA.out.cell (o := 8) rfl
  have c9 := HA.out.cell (o := 9) rfl
  have hc := append_full x (.slice la x.p.ls.length lc) (HA.out.pickL (M := [_, _, _]) [1, 0, 2] rfl) (fun wx hw => HX.out wx hw.drop.drop) HH.out.2.2.2.2.2.2.2 HOK.out (by rw [HF.out]; omega) (by rw [HF.out]; omega)
  unfold enV at hc
  have HC := Lib.hid hc
  clear hc
  (try dsimp only); repeat' (first | go_values | go_skip | go_guarded | go_step | go_upon | go_back)
  refine HC.out.mono ?_
  rintro r1 w4 ⟨rfl, h4⟩
  have hr := rappend_full x (.slice la x.p.ls.length lc) (h4.pickL (M := [_, _, _]) [2, 0, 1] rfl) (fun wx hw => HX.out wx hw.drop.drop) HOK.out (by rw [HH.out.2.2.2.2.2.1]; exact HF.out)
  unfold enV at hr
  have HR := Lib.hid hr
  clear HC hr c3 c4 c5 c6 c7 c8 c9
  have c3 := h4.sw2.cell (o := 3) rfl
  have c4 := h4.sw2.cell (o := 4) rfl
  have c5 := h4.sw2.cell (o := 5) rfl
  have c6 := h4.sw2.cell (o := 6) rfl
  have c7 := h4.sw2.cell (o := 7) rfl
  have c8 := h4.sw2.cell (o := 8) rfl
  have c9 := h4.sw2.cell (o := 9) rfl
  clear h4
  (try dsimp only); repeat' (first | go_values | go_skip | go_guarded | go_step | go_upon | go_back)
  refine HR.out.mono ?_
  rintro r2 w5 ⟨rfl, h5⟩
  have H9 : Hid (StepQ w0 g g' B L _) := Lib.hid ⟨B, ps, qs, Int.le_refl _, by omega, HH.out.1, HH.out.2.2.2.1, HH.out.2.2.2.2.1, h5.pickL (M := [_, _, _]) [1, 0] rfl⟩
  clear HR h5 c3 c4 c5 c6 c7 c8 c9
  (try dsimp only); repeat' (first | go_values | go_skip | go_guarded | go_step | go_upon | go_back)
  go_ret
  exact ⟨rfl, H9.out⟩
set_option maxRecDepth 100000 in
set_option maxHeartbeats 32000000 in
theorem step_app_ok {w0 w : World} {g g' : Nat} {B : Int} {ps qs : List (EnM × Value)} {L : List Thing} (K A : Int) (x : EnM) (la ea : Option Addr) (lc ec n : Nat) (ys : List (EnM × Value)) (q : Int) (hq : B + A % 28 - 1 = q)
    (h : Sep w0 (PipeT g B ps :: DocT g' B qs :: L) w) (hpq : qs.map (·.1) = ps.map (·.1)) (h0 : 0 ≤ B) (h1 : B ≤ 4611686018427300000) (hl : ps.length ≤ 24) (hls : ∀ q ∈ ps, q.1.p.ls.length ≤ 1000) (hk : KindsAt w0)
    (hx : ∀ wx, Sep w0 L wx → LnS wx (.slice la x.p.ls.length lc) x.p.ls) (hxl : x.p.ls.length ≤ 1000) (hy : ∀ wx, Sep w0 L wx → EnS wx (.slice ea n ec) ys) (hn : ys.length = n) (r : Int) (hkd : K % 7 = r) (e3 : (r == 3) = false) (e4 : (r == 4) = false) (e5 : (r == 5) = false) (e6 : (r == 6) = false) (hok : x.ok = true) (hfull : ps.length < 24) :
    Calls Tryd.prog 12 #[.pointer (some ⟨g, 0, none⟩), .pointer (some ⟨g', 0, none⟩), .agg #[.int .i64 K, .int .i64 A, .bool false, .int .i64 x.c, .int .i64 x.m, .int .i64 x.p.k, .string x.p.s.1, .int .i64 x.p.o, .int .i64 x.p.n, .slice la x.p.ls.length lc, .slice ea n ec]] w fun e w' => e = .returned (.bool true) ∧ StepQ w0 g g' B L w' := by
  have HOK := Lib.hid hok
  clear hok
  have HF := Lib.hid hfull
  clear hfull
  have hlq : qs.length = ps.length := by simpa using congrArg List.length hpq
  have hlsq : ∀ q ∈ qs, q.1.p.ls.length ≤ 1000 := lnq2 hpq hls
  have h2 := h.alloc (.cells #[.int .i64 K, .int .i64 A, .bool false, .int .i64 x.c, .int .i64 x.m, .int .i64 x.p.k, .string x.p.s.1, .int .i64 x.p.o, .int .i64 x.p.n, .slice la x.p.ls.length lc, .slice ea n ec] 37)
  have c0 := h2.cell (o := 0) rfl
  have c1 := h2.cell (o := 1) rfl
  have c2 := h2.cell (o := 2) rfl
  obtain ⟨mv, hD⟩ := Sep.docOpen (h2.pickL (M := [_, _, _]) [2, 0, 1] rfl)
  have d0 := hD.cell (o := 0) rfl
  clear hD
  have HBA := Lib.hid (fun wx => bring_any A 28 wx (by unfold Sm; omega))
  have wq1 : IntKind.i64.wrap (B + A % 28) = B + A % 28 := IntWalk.i64_in _ (by omega)
  have wq2 : IntKind.i64.wrap (B + A % 28 - 1) = q := by rw [hq]; exact IntWalk.i64_in _ (by omega)
  have HBK := Lib.hid (fun wx => bring_any K 7 wx (by unfold Sm; omega))
  rw [hkd] at HBK
  obtain ⟨b5, hb5⟩ : ∃ z, z = w.heap.size := ⟨_, rfl⟩
  obtain ⟨w3, hw3⟩ : ∃ z, z = (w.alloc (.cells #[.int .i64 K, .int .i64 A, .bool false, .int .i64 x.c, .int .i64 x.m, .int .i64 x.p.k, .string x.p.s.1, .int .i64 x.p.o, .int .i64 x.p.n, .slice la x.p.ls.length lc, .slice ea n ec] 37)).drew := ⟨_, rfl⟩
  have hA : Sep w0 (Cl b5 #[.int .i64 K, .int .i64 A, .bool false, .int .i64 x.c, .int .i64 x.m, .int .i64 x.p.k, .string x.p.s.1, .int .i64 x.p.o, .int .i64 x.p.n, .slice la x.p.ls.length lc, .slice ea n ec] 37 :: PipeT g B ps :: DocT g' B qs :: L) w3 := by rw [hb5, hw3]; exact h2.drew
  have HA := Lib.hid hA
  have HH := Lib.hid (And.intro hpq (And.intro h0 (And.intro h1 (And.intro hl (And.intro hls (And.intro hlq (And.intro hlsq hk)))))))
  have HX := Lib.hid hx
  have HXL := Lib.hid hxl
  have HY := Lib.hid hy
  have HN := Lib.hid hn
  clear h h2 hA hpq h0 h1 hl hls hlq hlsq hk hx hxl hy hn hq
  go_enter Tryd.func12, Tryd.ntmps12
  (try dsimp only); repeat' (first | go_values | go_skip | go_guarded | go_step | go_upon | go_back)
  refine wp_region_G (fun w' => w'.cell? ⟨g', 0, none⟩ = some (.int .i64 B) ∧ w'.cell? ⟨w.heap.size, 1, none⟩ = some (.int .i64 A)) [] (by kernel_rfl) ⟨d0, c1⟩ (fun hS => ?_)
  try dsimp only at hS
  refine wpAnyG_take' (i := 0) (v := ?v0_1r3) rfl (by kernel_rfl) (by kernel_rfl) (by kernel_rfl) (by kernel_rfl) (fun _ _ _ h => h) (Or.inl ⟨by rfl, ?hy0_1r3⟩) hS ?rest0_1r3
  case hy0_1r3 => intro w hSw; (try dsimp only at hSw); go_simp; (try with_reducible rfl)
  case rest0_1r3 =>
  try simp only [List.getElem_toArray, List.getElem_cons_succ, List.getElem_cons_zero, Act.put, List.setIfInBounds_toArray, List.set_cons_zero, List.set_cons_succ]
  refine wpAnyG_take' (i := 1) (v := ?v1_2r3) rfl (by kernel_rfl) (by kernel_rfl) (by kernel_rfl) (by kernel_rfl) (fun _ _ _ h => h) (Or.inl ⟨by rfl, ?hy1_2r3⟩) hS ?rest1_2r3
  case hy1_2r3 => intro w hSw; (try dsimp only at hSw); go_simp; (try with_reducible rfl)
  case rest1_2r3 =>
  try simp only [List.getElem_toArray, List.getElem_cons_succ, List.getElem_cons_zero, Act.put, List.setIfInBounds_toArray, List.set_cons_zero, List.set_cons_succ]
  refine wpAnyG_take' (i := 2) (v := ?v2_3r3) rfl (by kernel_rfl) (by kernel_rfl) (by kernel_rfl) (by kernel_rfl) (fun _ _ _ h => h) (Or.inl ⟨by rfl, ?hy2_3r3⟩) hS ?rest2_3r3
  case hy2_3r3 => intro w hSw; (try dsimp only at hSw); go_simp; (try with_reducible rfl)
  case rest2_3r3 =>
  try simp only [List.getElem_toArray, List.getElem_cons_succ, List.getElem_cons_zero, Act.put, List.setIfInBounds_toArray, List.set_cons_zero, List.set_cons_succ]
  refine wpAnyG_take' (i := 3) (v := ?v3_4r3) rfl (by kernel_rfl) (by kernel_rfl) (by kernel_rfl) (by kernel_rfl) (fun _ _ _ h => h) (Or.inl ⟨by rfl, ?hy3_4r3⟩) hS ?rest3_4r3
  case hy3_4r3 => intro w hSw; (try dsimp only at hSw); go_simp; (try with_reducible rfl)
  case rest3_4r3 =>
  try simp only [List.getElem_toArray, List.getElem_cons_succ, List.getElem_cons_zero, Act.put, List.setIfInBounds_toArray, List.set_cons_zero, List.set_cons_succ]
  refine wpAnyG_take' (i := 4) (v := ?v4_5r3) rfl (by kernel_rfl) (by kernel_rfl) (by kernel_rfl) (by kernel_rfl) (fun _ _ _ h => h) (Or.inl ⟨by rfl, ?hy4_5r3⟩) hS ?rest4_5r3
  case hy4_5r3 => intro w hSw; (try dsimp only at hSw); go_simp; (try with_reducible rfl)
  case rest4_5r3 =>
  try simp only [List.getElem_toArray, List.getElem_cons_succ, List.getElem_cons_zero, Act.put, List.setIfInBounds_toArray, List.set_cons_zero, List.set_cons_succ]
  refine wpAnyG_take' (i := 5) (v := ?v5_6r3) rfl (by kernel_rfl) (by kernel_rfl) (by kernel_rfl) (by kernel_rfl) (fun _ _ _ h => h) (Or.inl ⟨by rfl, ?hy5_6r3⟩) hS ?rest5_6r3
  case hy5_6r3 => intro w hSw; (try dsimp only at hSw); go_simp; (try with_reducible rfl)
  case rest5_6r3 =>
  try simp only [List.getElem_toArray, List.getElem_cons_succ, List.getElem_cons_zero, Act.put, List.setIfInBounds_toArray, List.set_cons_zero, List.set_cons_succ]
  refine wpAnyG_one (i := 6) (by kernel_rfl) rfl (fun K hK => ?_)
  go_simp
  refine Calls.mono (HBA.out _) ?_
  rintro r6 w6 ⟨rfl, rfl⟩
  (try dsimp only); repeat' (first | go_values | go_skip | go_guarded | go_step | go_upon | go_back)
  refine hK.out _ _ (fun _ => ?hS7r3) ?rest7r3
  case hS7r3 => exact hS
  clear K hK
  try simp only [List.getElem_toArray, List.getElem_cons_succ, List.getElem_cons_zero, Act.put, List.setIfInBounds_toArray, List.set_cons_zero, List.set_cons_succ]
  refine wpAnyG_take' (i := 7) (v := ?v7_8r3) rfl (by kernel_rfl) (by kernel_rfl) (by kernel_rfl) (by kernel_rfl) (fun _ _ _ h => h) (Or.inl ⟨by rfl, ?hy7_8r3⟩) hS ?rest7_8r3
  case hy7_8r3 => intro w hSw; (try dsimp only at hSw); go_simp; (try with_reducible rfl)
  case rest7_8r3 =>
  try simp only [List.getElem_toArray, List.getElem_cons_succ, List.getElem_cons_zero, Act.put, List.setIfInBounds_toArray, List.set_cons_zero, List.set_cons_succ]
  refine wpAnyG_take' (i := 8) (v := ?v8_9r3) rfl (by kernel_rfl) (by kernel_rfl) (by kernel_rfl) (by kernel_rfl) (fun _ _ _ h => h) (Or.inl ⟨by rfl, ?hy8_9r3⟩) hS ?rest8_9r3
  case hy8_9r3 => intro w hSw; (try dsimp only at hSw); go_simp; (try with_reducible rfl)
  case rest8_9r3 =>
  try simp only [List.getElem_toArray, List.getElem_cons_succ, List.getElem_cons_zero, Act.put, List.setIfInBounds_toArray, List.set_cons_zero, List.set_cons_succ]
  refine wpAnyG_take' (i := 9) (v := ?v9_10r3) rfl (by kernel_rfl) (by kernel_rfl) (by kernel_rfl) (by kernel_rfl) (fun _ _ _ h => h) (Or.inl ⟨by rfl, ?hy9_10r3⟩) hS ?rest9_10r3
  case hy9_10r3 => intro w hSw; (try dsimp only at hSw); go_simp; (try with_reducible rfl)
  case rest9_10r3 =>
  try simp only [List.getElem_toArray, List.getElem_cons_succ, List.getElem_cons_zero, Act.put, List.setIfInBounds_toArray, List.set_cons_zero, List.set_cons_succ]
  refine wpAnyG_done (by kernel_rfl) ?_ _
  try simp only [List.getElem_toArray, List.getElem_cons_succ, List.getElem_cons_zero, Act.put, List.setIfInBounds_toArray, List.set_cons_zero, List.set_cons_succ]
  (try dsimp only); repeat' (first | go_values | go_skip | go_guarded | go_step | go_upon | go_back)
  refine (HBK.out _).mono ?_
  rintro r0 wz ⟨rfl, rfl⟩
  rw [← hw3, ← hb5]
  clear c0 c1 c2 HBK hw3 hb5 d0 HBA wq1 wq2 hS
  have c3 := HA.out.cell (o := 3) rfl
  have c4 := HA.out.cell (o := 4) rfl
  have c5 := HA.out.cell (o := 5) rfl
  have c6 := HA.out.cell (o := 6) rfl
  have c7 := HA.out.cell (o := 7) rfl
  have c8 := HA.out.cell (o := 8) rfl
  have c9 := HA.out.cell (o := 9) rfl
  have hc := append_ok x (.slice la x.p.ls.length lc) (HA.out.pickL (M := [_, _, _]) [1, 0, 2] rfl) (fun wx hw => HX.out wx hw.drop.drop) HH.out.2.2.2.2.2.2.2 HOK.out HH.out.2.1 (by have := HH.out.2.2.1; omega) HF.out
  unfold enV at hc
  obtain ⟨tp, htp⟩ : ∃ z : Int, z = B + ((ps.length + 1 : Nat) : Int) := ⟨_, rfl⟩
  rw [← htp] at hc
  have HC := Lib.hid hc
  clear hc
  (try dsimp only); repeat' (first | go_values | go_skip | go_guarded | go_step | go_upon | go_back)
  refine HC.out.mono ?_
  rintro r1 w4 ⟨u, rfl, h4⟩
  have hr := rappend_ok x (.slice la x.p.ls.length lc) (h4.pickL (M := [_, _, _]) [2, 0, 1] rfl) (fun wx hw => HX.out wx hw.drop.drop) HOK.out HH.out.2.1 (by have := HH.out.2.2.1; omega) (by rw [HH.out.2.2.2.2.2.1]; exact HF.out) HH.out.2.2.2.2.2.2.1
  unfold enV at hr
  rw [HH.out.2.2.2.2.2.1, ← htp] at hr
  clear htp
  have HR := Lib.hid hr
  clear HC hr c3 c4 c5 c6 c7 c8 c9
  have c3 := h4.sw2.cell (o := 3) rfl
  have c4 := h4.sw2.cell (o := 4) rfl
  have c5 := h4.sw2.cell (o := 5) rfl
  have c6 := h4.sw2.cell (o := 6) rfl
  have c7 := h4.sw2.cell (o := 7) rfl
  have c8 := h4.sw2.cell (o := 8) rfl
  have c9 := h4.sw2.cell (o := 9) rfl
  clear h4
  (try dsimp only); repeat' (first | go_values | go_skip | go_guarded | go_step | go_upon | go_back)
  refine HR.out.mono ?_
  rintro r2 w5 ⟨t, qs2, rfl, hq2, h5⟩
  have H9 : Hid (StepQ w0 g g' B L _) := Lib.hid ⟨B, ps ++ [(x, u)], qs2 ++ [(x, t)], Int.le_refl _, by omega, by rw [List.map_append, List.map_append, hq2, HH.out.1]; rfl, by rw [List.length_append]; have := HF.out; simp; omega, fun z hz => (List.mem_append.1 hz).elim (HH.out.2.2.2.2.1 z) (fun hz => by rw [List.mem_singleton.1 hz]; exact HXL.out), h5.pickL (M := [_, _, _]) [1, 0] rfl⟩
  clear hq2
  clear HR h5 c3 c4 c5 c6 c7 c8 c9
  (try dsimp only); repeat' (first | go_values | go_skip | go_guarded | go_step | go_upon | go_back)
  go_ret
  exact ⟨rfl, H9.out⟩
end Go.Proofs.YtpknfeokfladkaaDoor
