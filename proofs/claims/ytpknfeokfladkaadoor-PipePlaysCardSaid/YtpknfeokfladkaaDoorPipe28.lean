/- PipePlays. -/
import Derived.Test.YtpknfeokfladkaaDoorPipe27
namespace Go.Proofs.YtpknfeokfladkaaDoor
open Go.RowKit
set_option linter.unusedVariables false
set_option linter.unusedSimpArgs false
set_option maxRecDepth 100000 in
set_option maxHeartbeats 32000000 in
theorem plays12 (base : Int) (v : Value) (w : World) (h : RdC Tryd.prog w 22 [v]) (hk : KindsAt w) :
    Calls Tryd.prog 3 #[.int .i64 base, v] w fun e w' => e = .returned (.bool true) ∧ Below w.heap.size w w' := by
  obtain ⟨a, len, cap, rfl, hlc, hcm, hd⟩ := dos_of h
  have HD := Lib.hid hd
  have HK := Lib.hid hk
  have n0 : (0 : Int) ≤ (len : Int) := by omega
  clear h hd hk hlc hcm
  by_cases hb : 0 ≤ base ∧ base ≤ 9007199254740991
  · have HB := Lib.hid hb
    have HP := Lib.hid (pnew_any base (Sep.start w) hb.1 hb.2)
    clear hb
    go_enter Tryd.func3, Tryd.ntmps3
    (try dsimp only); repeat' (first | go_values | go_skip | go_guarded | go_step | go_upon | go_back)
    refine HP.out.mono ?_
    rintro r0 w1 ⟨g, rfl, h1⟩
    have HR := Lib.hid (rnew_any base h1 HB.out.1 HB.out.2)
    clear HP h1
    (try dsimp only); repeat' (first | go_values | go_skip | go_guarded | go_step | go_upon | go_back)
    refine HR.out.mono ?_
    rintro r0 w2 ⟨g', rfl, h2⟩
    have H2 := Lib.hid (h2.pick [1, 0] rfl : Sep w [PipeT g base [], DocT g' base []] w2)
    clear HR h2
    (try dsimp only); repeat' (first | go_values | go_skip | go_guarded | go_step | go_upon | go_back)
    go_loopw [9] (fun i wr => ∃ (k : Nat) (B : Int) (ps qs : List (EnM × Value)), k ≤ len ∧ k ≤ 80 ∧ i = .int .i64 k ∧ 0 ≤ B ∧ B ≤ base + 24 * k ∧ qs.map (·.1) = ps.map (·.1) ∧ ps.length ≤ 24 ∧ (∀ q ∈ ps, q.1.p.ls.length ≤ 1000) ∧ Sep w [PipeT g B ps, DocT g' B qs] wr) (fun i _ => 80 - (intOf i).toNat)
    case atStart => exact ⟨0, base, [], [], Nat.zero_le _, by omega, rfl, HB.out.1, by omega, rfl, by simp, by simp, H2.out⟩
    case round =>
      obtain ⟨k, B, ps, qs, hkl, hk80, rfl, hB0, hB1, hpq, hl, hls, hs⟩ := hrel
      clear H2
      have k0 : (0 : Int) ≤ (k : Int) := by omega
      have k80 : (k : Int) ≤ 80 := by omega
      have HQ := Lib.hid (And.intro hB0 (And.intro hB1 (And.intro hpq (And.intro hl hls))))
      by_cases hgo : k < len ∧ k < 80
      · have d0 : decide (k < len) = true := decide_eq_true hgo.1
        have d1 : decide ((k : Int) < 80) = true := decide_eq_true (by omega)
        have k1 : (k : Int) < (len : Int) := by omega
        obtain ⟨b, off, rfl, hbl, K, A, R, x, xv, u, ys, hat, hln, hes⟩ := HD.out k hgo.1
        obtain ⟨la, lc, rfl⟩ := hln.len
        obtain ⟨ea, ec, rfl⟩ := hes.len
        have q : ∀ j z, [.int .i64 K, .int .i64 A, .bool R, .int .i64 x.c, .int .i64 x.m, .int .i64 x.p.k, .string x.p.s.1, .int .i64 x.p.o, .int .i64 x.p.n, .slice la x.p.ls.length lc, .slice ea ys.length ec][j]? = some z → wr.cell? ⟨b, off + k * 11 + j, none⟩ = some z := fun j z hj => (hs.low.cell (p := ⟨b, off + k * 11 + j, none⟩) hbl).trans (hat j z hj)
        have e0 := q 0 _ rfl
        have e1 := q 1 _ rfl
        have e2 := q 2 _ rfl
        have e3 := q 3 _ rfl
        have e4 := q 4 _ rfl
        have e5 := q 5 _ rfl
        have e6 := q 6 _ rfl
        have e7 := q 7 _ rfl
        have e8 := q 8 _ rfl
        have e9 := q 9 _ rfl
        have e10 := q 10 _ rfl
        simp only [Nat.add_zero] at e0
        have HC := Lib.hid (cut12 K A R x (.slice la x.p.ls.length lc) (.slice ea ys.length ec) ys hs (fun wx hb => hln.below hb) (fun wx hb => hes.below hb))
        have HG := Lib.hid hgo
        clear hs hat hln hes q hgo hkl hk80 hB0 hB1 hpq hl hls
        (try dsimp only); repeat' (first | go_values | go_skip | go_guarded | go_step | go_upon | go_back)
        refine HC.out.mono ?_
        rintro r0 w3 ⟨v', u', rfl, hv', zs, hz30, hzl, hz6, h3⟩
        obtain ⟨la2, lc2, rfl⟩ := (hv' _ h3.low).len
        obtain ⟨za, zc, rfl, -⟩ := h3.rnForm
        obtain ⟨n, hn⟩ : ∃ z, z = zs.length := ⟨_, rfl⟩
        obtain ⟨m6, hm6⟩ : ∃ z, z = (x.p.ls.take 6).length := ⟨_, rfl⟩
        have hm6' : m6 ≤ 6 := by rw [hm6, List.length_take]; omega
        rw [← hn] at h3 ⊢
        rw [← hm6] at hv' ⊢
        have h4 := h3.alloc (.cells #[.int .i64 K, .int .i64 A, .bool R, .int .i64 x.c, .int .i64 x.m, .int .i64 x.p.k, .string x.p.s.1, .int .i64 x.p.o, .int .i64 x.p.n, .slice la2 m6 lc2, .slice za n zc] 37)
        obtain ⟨b10, hb10⟩ : ∃ z, z = w3.heap.size := ⟨_, rfl⟩
        obtain ⟨w4, hw4⟩ : ∃ z, z = w3.alloc (.cells #[.int .i64 K, .int .i64 A, .bool R, .int .i64 x.c, .int .i64 x.m, .int .i64 x.p.k, .string x.p.s.1, .int .i64 x.p.o, .int .i64 x.p.n, .slice la2 m6 lc2, .slice za n zc] 37) := ⟨_, rfl⟩
        rw [← hb10, ← hw4] at h4
        have h5 : Sep w (PipeT g B ps :: DocT g' B qs :: [Cl b10 #[.int .i64 K, .int .i64 A, .bool R, .int .i64 x.c, .int .i64 x.m, .int .i64 x.p.k, .string x.p.s.1, .int .i64 x.p.o, .int .i64 x.p.n, .slice la2 m6 lc2, .slice za n zc] 37, EnR (.slice za n zc) zs]) w4 := h4.pick [2, 3, 0, 1] rfl
        have hst := step12 K A R ⟨x.c, x.m, ⟨x.p.k, x.p.s, x.p.o, x.p.n, x.p.ls.take 6⟩⟩ la2 za lc2 zc n zs h5 HQ.out.2.2.1 HQ.out.1 (by have := HQ.out.2.1; have := HB.out; omega) HQ.out.2.2.2.1 HQ.out.2.2.2.2 HK.out (fun wx hw => by rw [← hm6]; exact hv' wx hw.low) (by rw [← hm6]; omega) (fun wx hw => by
          have h9 := (Sep.sw2 hw).enRS (fun q hq => hzl q hq wx hw.low)
          exact h9) hn.symm
        rw [← hm6] at hst
        have HST := Lib.hid hst
        have c0 := h4.cell (o := 0) rfl
        have c1 := h4.cell (o := 1) rfl
        have c2 := h4.cell (o := 2) rfl
        have c3 := h4.cell (o := 3) rfl
        have c4 := h4.cell (o := 4) rfl
        have c5 := h4.cell (o := 5) rfl
        have c6 := h4.cell (o := 6) rfl
        have c7 := h4.cell (o := 7) rfl
        have c8 := h4.cell (o := 8) rfl
        have c9 := h4.cell (o := 9) rfl
        have c10 := h4.cell (o := 10) rfl
        rw [hw4, hb10] at c0 c1 c2 c3 c4 c5 c6 c7 c8 c9 c10
        have HN := Lib.hid (And.intro hn hz30)
        have hn30 : (n : Int) ≤ 30 := by omega
        have hn0 : (0 : Int) ≤ (n : Int) := by omega
        clear HC hv' h3 h4 h5 hst hm6 hzl hz6 hn hz30 e0 e1 e2 e3 e4 e5 e6 e7 e8 e9 e10 hm6'
        (try dsimp only); repeat' (first | go_values | go_skip | go_guarded | go_step | go_upon | go_back)
        rw [← hw4, ← hb10]
        refine HST.out.mono ?_
        rintro r0 w5 ⟨rfl, B2, ps2, qs2, hB3, hB4, hpq2, hl2, hls2, h6⟩
        have HM := Lib.hid (same12 h6 hpq2 (by have := HQ.out.1; omega) (by have := HQ.out.2.1; have := HB.out; omega) hl2 hls2)
        have HQ2 : Hid (0 ≤ B2 ∧ B2 ≤ base + 24 * ((k + 1 : Nat) : Int) ∧ qs2.map (·.1) = ps2.map (·.1) ∧ ps2.length ≤ 24 ∧ (∀ q ∈ ps2, q.1.p.ls.length ≤ 1000)) := Lib.hid ⟨by have := HQ.out.1; omega, by have := HQ.out.2.1; omega, hpq2, hl2, hls2⟩
        clear HST h6 hB3 hB4 hpq2 hl2 hls2 HQ hw4 hb10 c0 c1 c2 c3 c4 c5 c6 c7 c8 c9 c10
        (try dsimp only); repeat' (first | go_values | go_skip | go_guarded | go_step | go_upon | go_back)
        refine HM.out.mono ?_
        rintro r0 w6 ⟨rfl, h7⟩
        have H7 : Hid (∃ xs : List Value, Sep w [Rn 7 34 (.slice za n zc) n xs, Cl b10 #[.int .i64 K, .int .i64 A, .bool R, .int .i64 x.c, .int .i64 x.m, .int .i64 x.p.k, .string x.p.s.1, .int .i64 x.p.o, .int .i64 x.p.n, .slice la2 m6 lc2, .slice za n zc] 37, PipeT g B2 ps2, DocT g' B2 qs2] w6) := Lib.hid ⟨enCs zs, by
          have h8 : Sep w [EnR (.slice za n zc) zs, Cl b10 #[.int .i64 K, .int .i64 A, .bool R, .int .i64 x.c, .int .i64 x.m, .int .i64 x.p.k, .string x.p.s.1, .int .i64 x.p.o, .int .i64 x.p.n, .slice la2 m6 lc2, .slice za n zc] 37, PipeT g B2 ps2, DocT g' B2 qs2] w6 := h7.pick [3, 2, 0, 1] rfl
          have h9 : EnR (.slice za n zc) zs = Rn 7 34 (.slice za n zc) n (enCs zs) := by rw [HN.out.1]
          rw [h9] at h8
          exact h8⟩
        clear HM h7
        (try dsimp only); repeat' (first | go_values | go_skip | go_guarded | go_step | go_upon | go_back)
        go_loopw [11] (fun i wz => ∃ (j : Nat) (xs : List Value), j ≤ n ∧ i = .int .i64 j ∧ Sep w [Rn 7 34 (.slice za n zc) n xs, Cl b10 #[.int .i64 K, .int .i64 A, .bool R, .int .i64 x.c, .int .i64 x.m, .int .i64 x.p.k, .string x.p.s.1, .int .i64 x.p.o, .int .i64 x.p.n, .slice la2 m6 lc2, .slice za n zc] 37, PipeT g B2 ps2, DocT g' B2 qs2] wz) (fun i _ => 30 - (intOf i).toNat)
        case atStart =>
          obtain ⟨xs, h8⟩ := H7.out
          exact ⟨0, xs, Nat.zero_le _, rfl, h8⟩
        case round =>
          obtain ⟨j, xs, hjn, rfl, hs⟩ := hrel
          clear H7
          have j0 : (0 : Int) ≤ (j : Int) := by omega
          have c10 := hs.sw2.cell (o := 10) rfl
          by_cases hj : j < n
          · have f0 : decide (j < n) = true := decide_eq_true hj
            have j1 : (j : Int) < (n : Int) := by omega
            obtain ⟨bz, c9, hv9, hn9, -, -, hx9, hc9, hf9, hset⟩ := hs.rnSet (by omega)
            simp only [Value.slice.injEq] at hv9
            obtain ⟨rfl, -, rfl⟩ := hv9
            have g0 := hc9 (j * 7) (by omega)
            have g1 := hf9 (j * 7)
            generalize xs[j * 7]'(by omega) = gx at g0
            have H8 := Lib.hid (And.intro hj (hset (j * 7) (.int .i64 (-1)) (by omega)))
            clear hs hset hc9 hf9 hx9 hn9 hj hjn
            (try dsimp only); repeat' (first | go_values | go_skip | go_guarded | go_step | go_upon | go_back)
            go_roundw
            case rel => exact ⟨j + 1, _, H8.out.1, by go_num, H8.out.2⟩
            case measure => have := H8.out.1; simp [intOf]; omega
          · have f0 : decide (j < n) = false := decide_eq_false hj
            have H8 := Lib.hid (hs.pick [2, 3] rfl : Sep w [PipeT g B2 ps2, DocT g' B2 qs2] _)
            clear hs hj hjn
            (try dsimp only); repeat' (first | go_values | go_skip | go_guarded | go_step | go_upon | go_back)
            go_roundw
            case rel => exact ⟨k + 1, B2, ps2, qs2, HG.out.1, HG.out.2, by go_num, HQ2.out.1, HQ2.out.2.1, HQ2.out.2.2.1, HQ2.out.2.2.2.1, HQ2.out.2.2.2.2, H8.out⟩
            case measure => have := HG.out.2; simp [intOf]; omega
      · have HW := Lib.hid (works12_any hs (HK.out.below hs.low))
        by_cases hkx : k < len
        · have d0 : decide (k < len) = true := decide_eq_true hkx
          have d1 : decide ((k : Int) < 80) = false := decide_eq_false (by omega)
          clear hs hgo hkl hk80 hB0 hB1 hpq hl hls hkx
          (try dsimp only); repeat' (first | go_values | go_skip | go_guarded | go_step | go_upon | go_back)
          refine HW.out.mono ?_
          rintro r0 w3 ⟨rfl, h4⟩
          have HE := Lib.hid h4.low
          clear HW h4
          (try dsimp only); repeat' (first | go_values | go_skip | go_guarded | go_step | go_upon | go_back)
          go_ret
          exact ⟨rfl, HE.out⟩
        · have d0 : decide (k < len) = false := decide_eq_false hkx
          clear hs hgo hkl hk80 hB0 hB1 hpq hl hls hkx
          (try dsimp only); repeat' (first | go_values | go_skip | go_guarded | go_step | go_upon | go_back)
          refine HW.out.mono ?_
          rintro r0 w3 ⟨rfl, h4⟩
          have HE := Lib.hid h4.low
          clear HW h4
          (try dsimp only); repeat' (first | go_values | go_skip | go_guarded | go_step | go_upon | go_back)
          go_ret
          exact ⟨rfl, HE.out⟩
  · have hb2 : base < 0 ∨ 9007199254740991 < base := by omega
    have HP := Lib.hid (pnew_bad (w := w) base hb2)
    have HR := Lib.hid (rnew_bad (w := w) base hb2)
    have HW := Lib.hid (works12_any (Sep.start w) HK.out)
    clear hb hb2 HD
    go_enter Tryd.func3, Tryd.ntmps3
    (try dsimp only); repeat' (first | go_values | go_skip | go_guarded | go_step | go_upon | go_back)
    refine HP.out.mono ?_
    rintro r0 w1 ⟨rfl, rfl⟩
    (try dsimp only); repeat' (first | go_values | go_skip | go_guarded | go_step | go_upon | go_back)
    refine HR.out.mono ?_
    rintro r0 w1 ⟨rfl, rfl⟩
    (try dsimp only); repeat' (first | go_values | go_skip | go_guarded | go_step | go_upon | go_back)
    go_loopw [9] (fun i wr => i = .int .i64 0 ∧ wr = w) (fun _ _ => 0)
    case atStart => exact ⟨rfl, rfl⟩
    case round =>
      obtain ⟨rfl, rfl⟩ := hrel
      by_cases hl0 : 0 < len
      · have d0 : decide (0 < len) = true := decide_eq_true hl0
        clear hl0
        (try dsimp only); repeat' (first | go_values | go_skip | go_guarded | go_step | go_upon | go_back)
        refine HW.out.mono ?_
        rintro r0 w3 ⟨rfl, h4⟩
        have HE := Lib.hid h4.low
        clear HW h4
        (try dsimp only); repeat' (first | go_values | go_skip | go_guarded | go_step | go_upon | go_back)
        go_ret
        exact ⟨rfl, HE.out⟩
      · have d0 : decide (0 < len) = false := decide_eq_false hl0
        clear hl0
        (try dsimp only); repeat' (first | go_values | go_skip | go_guarded | go_step | go_upon | go_back)
        refine HW.out.mono ?_
        rintro r0 w3 ⟨rfl, h4⟩
        have HE := Lib.hid h4.low
        clear HW h4
        (try dsimp only); repeat' (first | go_values | go_skip | go_guarded | go_step | go_upon | go_back)
        go_ret
        exact ⟨rfl, HE.out⟩
end Go.Proofs.YtpknfeokfladkaaDoor
