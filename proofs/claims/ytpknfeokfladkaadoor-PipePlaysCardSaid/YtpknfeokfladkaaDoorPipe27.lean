/- What a call of both does; calls that came in. -/
import Derived.Test.YtpknfeokfladkaaDoorPipe23
import Derived.Test.YtpknfeokfladkaaDoorPipe24
import Derived.Test.YtpknfeokfladkaaDoorPipe26
namespace Go.Proofs.YtpknfeokfladkaaDoor
open Go.RowKit
set_option linter.unusedVariables false
set_option linter.unusedSimpArgs false
theorem step12 {w0 w : World} {g g' : Nat} {B : Int} {ps qs : List (EnM × Value)} {L : List Thing} (K A : Int) (R : Bool) (x : EnM) (la ea : Option Addr) (lc ec n : Nat) (ys : List (EnM × Value))
    (h : Sep w0 (PipeT g B ps :: DocT g' B qs :: L) w) (hpq : qs.map (·.1) = ps.map (·.1)) (h0 : 0 ≤ B) (h1 : B ≤ 4611686018427300000) (hl : ps.length ≤ 24) (hls : ∀ q ∈ ps, q.1.p.ls.length ≤ 1000) (hk : KindsAt w0)
    (hx : ∀ wx, Sep w0 L wx → LnS wx (.slice la x.p.ls.length lc) x.p.ls) (hxl : x.p.ls.length ≤ 1000) (hy : ∀ wx, Sep w0 L wx → EnS wx (.slice ea n ec) ys) (hn : ys.length = n) :
    Calls Tryd.prog 12 #[.pointer (some ⟨g, 0, none⟩), .pointer (some ⟨g', 0, none⟩), .agg #[.int .i64 K, .int .i64 A, .bool R, .int .i64 x.c, .int .i64 x.m, .int .i64 x.p.k, .string x.p.s.1, .int .i64 x.p.o, .int .i64 x.p.n, .slice la x.p.ls.length lc, .slice ea n ec]] w fun e w' => e = .returned (.bool true) ∧ StepQ w0 g g' B L w' := by
  have hr : 0 ≤ K % 7 ∧ K % 7 < 7 := by omega
  cases R
  · by_cases k3 : K % 7 = 3
    · by_cases q1 : (B + A % 28 - 1) < B ∨ B + ps.length < (B + A % 28 - 1)
      · exact step_get_bad K A x la ea lc ec n ys (B + A % 28 - 1) rfl h hpq h0 h1 hl hls hk hx hxl hy hn k3 q1
      · by_cases q2 : (B + A % 28 - 1) = B
        · exact step_get_base K A x la ea lc ec n ys (B + A % 28 - 1) rfl h hpq h0 h1 hl hls hk hx hxl hy hn k3 q2
        · exact step_get_ok K A x la ea lc ec n ys (B + A % 28 - 1) rfl h hpq h0 h1 hl hls hk hx hxl hy hn k3 ((B + A % 28 - 1) - B - 1).toNat (by omega) (by omega)
    · by_cases k4 : K % 7 = 4
      · by_cases q1 : (B + A % 28 - 1) < B ∨ B + ps.length < (B + A % 28 - 1)
        · exact step_cut_bad K A x la ea lc ec n ys (B + A % 28 - 1) rfl h hpq h0 h1 hl hls hk hx hxl hy hn k4 q1
        · exact step_cut_ok K A x la ea lc ec n ys (B + A % 28 - 1) rfl h hpq h0 h1 hl hls hk hx hxl hy hn k4 ((B + A % 28 - 1) - B).toNat (by omega) (by omega)
      · by_cases k5 : K % 7 = 5
        · by_cases q1 : (B + A % 28 - 1) < B ∨ B + ps.length < (B + A % 28 - 1)
          · exact step_trim_bad K A x la ea lc ec n ys (B + A % 28 - 1) rfl h hpq h0 h1 hl hls hk hx hxl hy hn k5 q1
          · exact step_trim_ok K A x la ea lc ec n ys (B + A % 28 - 1) rfl h hpq h0 h1 hl hls hk hx hxl hy hn k5 ((B + A % 28 - 1) - B).toNat (by omega) (by omega)
        · by_cases k6 : K % 7 = 6
          · exact step_agree K A x la ea lc ec n ys (B + A % 28 - 1) rfl h hpq h0 h1 hl hls hk hx hxl hy hn k6
          · have e3 : (K % 7 == 3) = false := beq_eq_false_iff_ne.2 k3
            have e4 : (K % 7 == 4) = false := beq_eq_false_iff_ne.2 k4
            have e5 : (K % 7 == 5) = false := beq_eq_false_iff_ne.2 k5
            have e6 : (K % 7 == 6) = false := beq_eq_false_iff_ne.2 k6
            cases hok : x.ok with
            | false => exact step_app_bad K A x la ea lc ec n ys (B + A % 28 - 1) rfl h hpq h0 h1 hl hls hk hx hxl hy hn _ rfl e3 e4 e5 e6 hok
            | true =>
              by_cases hf : ps.length = 24
              · exact step_app_full K A x la ea lc ec n ys (B + A % 28 - 1) rfl h hpq h0 h1 hl hls hk hx hxl hy hn _ rfl e3 e4 e5 e6 hok hf
              · exact step_app_ok K A x la ea lc ec n ys (B + A % 28 - 1) rfl h hpq h0 h1 hl hls hk hx hxl hy hn _ rfl e3 e4 e5 e6 hok (by omega)
  · by_cases k3 : K % 7 = 3
    · by_cases q1 : A < B ∨ B + ps.length < A
      · exact step_get_badR K A x la ea lc ec n ys A rfl h hpq h0 h1 hl hls hk hx hxl hy hn k3 q1
      · by_cases q2 : A = B
        · exact step_get_baseR K A x la ea lc ec n ys A rfl h hpq h0 h1 hl hls hk hx hxl hy hn k3 q2
        · exact step_get_okR K A x la ea lc ec n ys A rfl h hpq h0 h1 hl hls hk hx hxl hy hn k3 (A - B - 1).toNat (by omega) (by omega)
    · by_cases k4 : K % 7 = 4
      · by_cases q1 : A < B ∨ B + ps.length < A
        · exact step_cut_badR K A x la ea lc ec n ys A rfl h hpq h0 h1 hl hls hk hx hxl hy hn k4 q1
        · exact step_cut_okR K A x la ea lc ec n ys A rfl h hpq h0 h1 hl hls hk hx hxl hy hn k4 (A - B).toNat (by omega) (by omega)
      · by_cases k5 : K % 7 = 5
        · by_cases q1 : A < B ∨ B + ps.length < A
          · exact step_trim_badR K A x la ea lc ec n ys A rfl h hpq h0 h1 hl hls hk hx hxl hy hn k5 q1
          · exact step_trim_okR K A x la ea lc ec n ys A rfl h hpq h0 h1 hl hls hk hx hxl hy hn k5 (A - B).toNat (by omega) (by omega)
        · by_cases k6 : K % 7 = 6
          · exact step_agreeR K A x la ea lc ec n ys A rfl h hpq h0 h1 hl hls hk hx hxl hy hn k6
          · have e3 : (K % 7 == 3) = false := beq_eq_false_iff_ne.2 k3
            have e4 : (K % 7 == 4) = false := beq_eq_false_iff_ne.2 k4
            have e5 : (K % 7 == 5) = false := beq_eq_false_iff_ne.2 k5
            have e6 : (K % 7 == 6) = false := beq_eq_false_iff_ne.2 k6
            cases hok : x.ok with
            | false => exact step_app_badR K A x la ea lc ec n ys A rfl h hpq h0 h1 hl hls hk hx hxl hy hn _ rfl e3 e4 e5 e6 hok
            | true =>
              by_cases hf : ps.length = 24
              · exact step_app_fullR K A x la ea lc ec n ys A rfl h hpq h0 h1 hl hls hk hx hxl hy hn _ rfl e3 e4 e5 e6 hok hf
              · exact step_app_okR K A x la ea lc ec n ys A rfl h hpq h0 h1 hl hls hk hx hxl hy hn _ rfl e3 e4 e5 e6 hok (by omega)
theorem do_of {w : World} {cs : List Value} (h : RdC Tryd.prog w 37 cs) : ∃ (K A : Int) (R : Bool) (x : EnM) (v u : Value) (ys : List (EnM × Value)),
    cs = [.int .i64 K, .int .i64 A, .bool R, .int .i64 x.c, .int .i64 x.m, .int .i64 x.p.k, .string x.p.s.1, .int .i64 x.p.o, .int .i64 x.p.n, v, u] ∧ LnS w v x.p.ls ∧ EnS w u ys := by
  obtain ⟨hl, hf⟩ := h.struct Tryd.underlying37
  rw [show Tryd.prog.cellsOf 37 = 11 by kernel_rfl] at hl
  match cs, hl with
  | [u0, u1, u2, u3, u4, u5, u6, u7, u8, u9, u10], _ =>
    have g0 := hf _ (List.mem_cons_self ..)
    have g1 := hf _ (List.mem_cons_of_mem _ (List.mem_cons_self ..))
    have g2 := hf _ (List.mem_cons_of_mem _ (List.mem_cons_of_mem _ (List.mem_cons_self ..)))
    have g3 := hf _ (List.mem_cons_of_mem _ (List.mem_cons_of_mem _ (List.mem_cons_of_mem _ (List.mem_cons_self ..))))
    have g4 := hf _ (List.mem_cons_of_mem _ (List.mem_cons_of_mem _ (List.mem_cons_of_mem _ (List.mem_cons_of_mem _ (List.mem_cons_self ..)))))
    rw [show Tryd.prog.cellsOf 3 = 1 by kernel_rfl] at g0 g1
    rw [show Tryd.prog.cellsOf 4 = 1 by kernel_rfl] at g2
    rw [show Tryd.prog.cellsOf 34 = 7 by kernel_rfl] at g3
    rw [show Tryd.prog.cellsOf 35 = 1 by kernel_rfl] at g4
    simp only [List.drop_zero, List.drop_succ_cons, List.take_succ_cons, List.take_zero] at g0 g1 g2 g3 g4
    obtain ⟨K, e0, _⟩ := g0.int Tryd.underlying3
    obtain ⟨A, e1, _⟩ := g1.int Tryd.underlying3
    obtain ⟨R, e2⟩ := g2.bool Tryd.underlying4
    obtain ⟨c, m, k, s, o, n, v, ls, e3, hv⟩ := en_of g3
    obtain ⟨ys, hy⟩ := ens_of2 g4
    simp only [List.cons.injEq, and_true] at e0 e1 e2 e3
    obtain ⟨e3, e4, e5, e6, e7, e8, e9⟩ := e3
    exact ⟨K, A, R, ⟨c, m, ⟨k, s, o, n, ls⟩⟩, v, u10, ys, by rw [e0, e1, e2, e3, e4, e5, e6, e7, e8, e9], hv, hy⟩
/-- A call that came in lies there. -/
def DoAt (w : World) (b off : Nat) (K A : Int) (R : Bool) (x : EnM) (v u : Value) : Prop :=
  ∀ j z, [.int .i64 K, .int .i64 A, .bool R, .int .i64 x.c, .int .i64 x.m, .int .i64 x.p.k, .string x.p.s.1, .int .i64 x.p.o, .int .i64 x.p.n, v, u][j]? = some z → w.cell? ⟨b, off + j, none⟩ = some z
theorem dos_of {w : World} {v : Value} (h : RdC Tryd.prog w 22 [v]) : ∃ (a : Option Addr) (len cap : Nat), v = .slice a len cap ∧ len ≤ cap ∧ cap ≤ maxLen ∧ ∀ i, i < len → ∃ b off, a = some ⟨b, off, none⟩ ∧ b < w.heap.size ∧
    ∃ (K A : Int) (R : Bool) (x : EnM) (xv u : Value) (ys : List (EnM × Value)), DoAt w b (off + i * 11) K A R x xv u ∧ LnS w xv x.p.ls ∧ EnS w u ys := by
  obtain ⟨a, len, cap, rfl, h1, h2, h3⟩ := h.rows Tryd.underlying22 (show Tryd.prog.cellsOf 37 = 11 by kernel_rfl) (by decide)
  refine ⟨a, len, cap, rfl, h1, h2, fun i hi => ?_⟩
  obtain ⟨b, off, hab, hb, cs, hl, hc, hr⟩ := h3 i hi
  obtain ⟨K, A, R, x, xv, u, ys, rfl, hv, hy⟩ := do_of hr
  exact ⟨b, off, hab, hb, K, A, R, x, xv, u, ys, fun j z hj => by
    obtain ⟨h9, rfl⟩ := List.getElem?_eq_some_iff.1 hj
    exact hc j h9, hv, hy⟩
end Go.Proofs.YtpknfeokfladkaaDoor
