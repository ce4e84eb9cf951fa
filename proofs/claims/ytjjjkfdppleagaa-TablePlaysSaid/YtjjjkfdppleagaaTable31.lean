/- TablePlays. -/
import Derived.Test.YtjjjkfdppleagaaTable31a
namespace Go.Proofs.Ytjjjkfdppleagaa
open Go Go.RowKit
set_option linter.unusedVariables false
set_option linter.unusedSimpArgs false
set_option maxRecDepth 100000 in
theorem was_of {w : World} {cs : List Value} (h : RdC Try.prog w 33 cs) : ∃ (d : Bool) (c n o k a b : Int), cs = [.bool d, .int .i64 c, .int .i64 n, .int .i64 o, .int .i64 k, .int .i64 a, .int .i64 b] := by
  obtain ⟨hl, hf⟩ := h.struct Try.underlying33
  rw [show Try.prog.cellsOf 33 = 7 by kernel_rfl] at hl
  match cs, hl with
  | [u0, u1, u2, u3, u4, u5, u6], _ =>
    have g0 := hf _ (List.mem_cons_self ..)
    have g1 := hf _ (List.mem_cons_of_mem _ (List.mem_cons_self ..))
    rw [show Try.prog.cellsOf 4 = 1 by kernel_rfl] at g0
    rw [show Try.prog.cellsOf 31 = 6 by kernel_rfl] at g1
    simp only [List.drop_zero, List.drop_succ_cons, List.take_succ_cons, List.take_zero] at g0 g1
    obtain ⟨d, e0⟩ := g0.bool Try.underlying4
    obtain ⟨c, n, o, k, a, b, e1⟩ := seat_of g1
    simp only [List.cons.injEq, and_true] at e0 e1
    obtain ⟨e1, e2, e3, e4, e5, e6⟩ := e1
    exact ⟨d, c, n, o, k, a, b, by rw [e0, e1, e2, e3, e4, e5, e6]⟩
set_option maxRecDepth 100000 in
theorem do_of {w : World} {cs : List Value} (h : RdC Try.prog w 35 cs) : ∃ (dk sc sn so sk sa sb : Int) (wd : Bool) (wc wn wo wk wa wb : Int), cs = [.int .i64 dk, .int .i64 sc, .int .i64 sn, .int .i64 so, .int .i64 sk, .int .i64 sa, .int .i64 sb, .bool wd, .int .i64 wc, .int .i64 wn, .int .i64 wo, .int .i64 wk, .int .i64 wa, .int .i64 wb] := by
  obtain ⟨hl, hf⟩ := h.struct Try.underlying35
  rw [show Try.prog.cellsOf 35 = 14 by kernel_rfl] at hl
  match cs, hl with
  | [u0, u1, u2, u3, u4, u5, u6, u7, u8, u9, u10, u11, u12, u13], _ =>
    have g0 := hf _ (List.mem_cons_self ..)
    have g1 := hf _ (List.mem_cons_of_mem _ (List.mem_cons_self ..))
    have g2 := hf _ (List.mem_cons_of_mem _ (List.mem_cons_of_mem _ (List.mem_cons_self ..)))
    rw [show Try.prog.cellsOf 3 = 1 by kernel_rfl] at g0
    rw [show Try.prog.cellsOf 31 = 6 by kernel_rfl] at g1
    rw [show Try.prog.cellsOf 33 = 7 by kernel_rfl] at g2
    simp only [List.drop_zero, List.drop_succ_cons, List.take_succ_cons, List.take_zero] at g0 g1 g2
    obtain ⟨dk, e0, _⟩ := g0.int Try.underlying3
    obtain ⟨sc, sn, so, sk, sa, sb, e1⟩ := seat_of g1
    obtain ⟨wd, wc, wn, wo, wk, wa, wb, e2⟩ := was_of g2
    simp only [List.cons.injEq, and_true] at e0 e1 e2
    obtain ⟨e1, e3, e4, e5, e6, e7⟩ := e1
    obtain ⟨f0, f1, f2, f3, f4, f5, f6⟩ := e2
    exact ⟨dk, sc, sn, so, sk, sa, sb, wd, wc, wn, wo, wk, wa, wb, by rw [e0, e1, e3, e4, e5, e6, e7, f0, f1, f2, f3, f4, f5, f6]⟩
theorem dos_of {w : World} {v : Value} (h : RdC Try.prog w 22 [v]) : ∃ (a : Option Addr) (len cap : Nat), v = .slice a len cap ∧ len ≤ cap ∧ cap ≤ maxLen ∧ ∀ i, i < len → ∃ b off, a = some ⟨b, off, none⟩ ∧ b < w.heap.size ∧
    ∃ (dk sc sn so sk sa sb : Int) (wd : Bool) (wc wn wo wk wa wb : Int), ∀ j z, [.int .i64 dk, .int .i64 sc, .int .i64 sn, .int .i64 so, .int .i64 sk, .int .i64 sa, .int .i64 sb, .bool wd, .int .i64 wc, .int .i64 wn, .int .i64 wo, .int .i64 wk, .int .i64 wa, .int .i64 wb][j]? = some z → w.cell? ⟨b, off + i * 14 + j, none⟩ = some z := by
  obtain ⟨a, len, cap, rfl, h1, h2, h3⟩ := h.rows Try.underlying22 (show Try.prog.cellsOf 35 = 14 by kernel_rfl) (by decide)
  refine ⟨a, len, cap, rfl, h1, h2, fun i hi => ?_⟩
  obtain ⟨b, off, hab, hb, cs, hl, hc, hr⟩ := h3 i hi
  obtain ⟨dk, sc, sn, so, sk, sa, sb, wd, wc, wn, wo, wk, wa, wb, rfl⟩ := do_of hr
  exact ⟨b, off, hab, hb, dk, sc, sn, so, sk, sa, sb, wd, wc, wn, wo, wk, wa, wb, fun j z hj => by
    obtain ⟨h9, rfl⟩ := List.getElem?_eq_some_iff.1 hj
    exact hc j h9⟩
theorem buildDn (w : World) (v0 v1 v2 v3 v4 v5 v6 v7 : Value) :
    (Instr.buildSlice 27 1 #[(0, .agg #[v0, v1, v2, v3, v4, v5, v6, v7])]).run Try.prog w = .ok (.slice (some ⟨w.heap.size, 0, none⟩) 1 1) (w.alloc (.cells #[v0, v1, v2, v3, v4, v5, v6, v7] 40)) := by
  simp [go_sem]
theorem wpList_buildDn {w : World} {ops : Array Oper} {rest : List Oper} {o : Oper} {a : Act} {Q : Exit → Act → World → Prop} (hgd : o.guard = none) (x : Operand)
    (ho : o.op = .buildSlice 27 1 #[(0, x)]) {v0 v1 v2 v3 v4 v5 v6 v7 : Value} (hx : a.eval x = .agg #[v0, v1, v2, v3, v4, v5, v6, v7])
    (h : wpList Try.prog ops Q rest (a.put o.dst (.slice (some ⟨w.heap.size, 0, none⟩) 1 1)) (w.alloc (.cells #[v0, v1, v2, v3, v4, v5, v6, v7] 40))) : wpList Try.prog ops Q (o :: rest) a w := by
  refine wpList_plain hgd fun K hK => ?_
  unfold Oper.wp
  simp [execOp, ho, hx, buildDn, Result.andThen]
  exact hK _ _ h
set_option maxRecDepth 100000 in
set_option maxHeartbeats 0 in
theorem plays10_any (v : Value) (w : World) (h : RdC Try.prog w 22 [v]) :
    Calls Try.prog 3 #[v] w fun e w' => e = .returned (.bool true) ∧ Below w.heap.size w w' := by
  obtain ⟨la, len, cap, rfl, hlc, hcm, hd⟩ := dos_of h
  have HD := Lib.hid hd
  have l0 : (0 : Int) ≤ (len : Int) := by omega
  have HN := Lib.hid (tnew_any (Sep.start w))
  clear h hd hlc hcm
  go_enter Try.func3, Try.ntmps3
  (try dsimp only); repeat' (first | go_values | go_skip | go_guarded | go_step | go_upon | go_back)
  refine HN.out.mono ?_
  rintro r0 w1 ⟨t, rfl, h1⟩
  have HN2 := Lib.hid (dnew_any h1)
  clear HN h1
  (try dsimp only); repeat' (first | go_values | go_skip | go_guarded | go_step | go_upon | go_back)
  refine HN2.out.mono ?_
  rintro r0 w2 ⟨m, rfl, h2⟩
  have h3 : Sep w [DnT (.slice none 0 0) 0 [], TabT t T0, DocT m (seatsOf T0)] w2 := (h2.rnNil 8 40).pick [0, 2, 1] rfl
  have H3 := Lib.hid h3
  clear HN2 h2 h3
  (try dsimp only); repeat' (first | go_values | go_skip | go_guarded | go_step | go_upon | go_back)
  go_loopw [5, 6] (fun rv i wr => ∃ (k n : Nat) (a : Option Addr) (c : Nat) (T : List SW) (D : List (Int × SW)), k ≤ len ∧ k ≤ 80 ∧ n ≤ k ∧ rv = .slice a n c ∧ i = .int .i64 k ∧ TabI T ∧ Sep w [DnT (.slice a n c) n D, TabT t T, DocT m (seatsOf T)] wr) (fun _ i _ => 80 - (intOf i).toNat)
  case atStart => exact ⟨0, 0, none, 0, T0, [], Nat.zero_le _, by omega, Nat.le_refl _, rfl, rfl, TabI.zero, H3.out⟩
  case round =>
    obtain ⟨k, n, a, c, T, D, hkl, hk80, hnk, rfl, rfl, hT, hs⟩ := hrel
    clear H3
    have k0 : (0 : Int) ≤ (k : Int) := by omega
    have k80 : (k : Int) ≤ 80 := by omega
    have n0 : (0 : Int) ≤ (n : Int) := by omega
    have n80 : (n : Int) ≤ 80 := by omega
    have HT := Lib.hid hT
    by_cases hgo : k < len ∧ k < 80
    · have d0 : decide (k < len) = true := decide_eq_true hgo.1
      have d1 : decide ((k : Int) < 80) = true := decide_eq_true (by omega)
      have k1 : (k : Int) < (len : Int) := by omega
      obtain ⟨b, off, rfl, hbl, dk, sc, sn, so, sk, sa, sb, wd, wc, wn, wo, wk, wa, wb, hat⟩ := HD.out k hgo.1
      have q : ∀ j z, [.int .i64 dk, .int .i64 sc, .int .i64 sn, .int .i64 so, .int .i64 sk, .int .i64 sa, .int .i64 sb, .bool wd, .int .i64 wc, .int .i64 wn, .int .i64 wo, .int .i64 wk, .int .i64 wa, .int .i64 wb][j]? = some z → ∀ wx, Below w.heap.size w wx → wx.cell? ⟨b, off + k * 14 + j, none⟩ = some z := fun j z hj wx hb => (hb.cell (p := ⟨b, off + k * 14 + j, none⟩) hbl).trans (hat j z hj)
      have e0 := q 0 _ rfl wr hs.low
      have e1 := q 1 _ rfl wr hs.low
      have e2 := q 2 _ rfl wr hs.low
      have e3 := q 3 _ rfl wr hs.low
      have e4 := q 4 _ rfl wr hs.low
      have e5 := q 5 _ rfl wr hs.low
      have e6 := q 6 _ rfl wr hs.low
      have e7 := q 7 _ rfl wr hs.low
      have e8 := q 8 _ rfl wr hs.low
      have e9 := q 9 _ rfl wr hs.low
      have e10 := q 10 _ rfl wr hs.low
      have e11 := q 11 _ rfl wr hs.low
      have e12 := q 12 _ rfl wr hs.low
      have e13 := q 13 _ rfl wr hs.low
      simp only [Nat.add_zero] at e0
      have hs4 := hs.alloc (.cells #[.int .i64 dk, .int .i64 sc, .int .i64 sn, .int .i64 so, .int .i64 sk, .int .i64 sa, .int .i64 sb, .bool wd, .int .i64 wc, .int .i64 wn, .int .i64 wo, .int .i64 wk, .int .i64 wa, .int .i64 wb] 35)
      have hs5 : Sep w [Cl wr.heap.size #[.int .i64 dk, .int .i64 sc, .int .i64 sn, .int .i64 so, .int .i64 sk, .int .i64 sa, .int .i64 sb, .bool wd, .int .i64 wc, .int .i64 wn, .int .i64 wo, .int .i64 wk, .int .i64 wa, .int .i64 wb] 35, DnT (.slice a n c) n D, TabT t T, DocT m (seatsOf T)] _ := hs4
      obtain ⟨b7, hb7⟩ : ∃ z, z = wr.heap.size := ⟨_, rfl⟩
      obtain ⟨w4, hw4⟩ : ∃ z, z = wr.alloc (.cells #[.int .i64 dk, .int .i64 sc, .int .i64 sn, .int .i64 so, .int .i64 sk, .int .i64 sa, .int .i64 sb, .bool wd, .int .i64 wc, .int .i64 wn, .int .i64 wo, .int .i64 wk, .int .i64 wa, .int .i64 wb] 35) := ⟨_, rfl⟩
      have x0 := hs5.cell (o := 0) rfl
      have HBR := Lib.hid (bring_any dk 5 (wr.alloc (.cells #[.int .i64 dk, .int .i64 sc, .int .i64 sn, .int .i64 so, .int .i64 sk, .int .i64 sa, .int .i64 sb, .bool wd, .int .i64 wc, .int .i64 wn, .int .i64 wo, .int .i64 wk, .int .i64 wa, .int .i64 wb] 35)) (by unfold Sm; omega))
      obtain ⟨kd, hkd, hkd5⟩ : ∃ kd : Nat, dk % 5 = (kd : Int) ∧ kd < 5 := ⟨(dk % 5).toNat, by omega, by omega⟩
      rw [hkd] at HBR
      rw [← hb7, ← hw4] at hs5
      rw [← hw4] at HBR
      have HS := Lib.hid hs5
      have HG := Lib.hid (And.intro hgo hnk)
      clear hs hs4 hs5 hat q hgo hkl hk80 hnk hT hkd HD
      (try dsimp only); repeat' (first | go_values | go_skip | go_guarded | go_step | go_upon | go_back)
      rw [← hw4, ← hb7]
      clear hw4 hb7 x0 e0 e1 e2 e3 e4 e5 e6 e7 e8 e9 e10 e11 e12 e13
      refine HBR.out.mono ?_
      rintro r0 w5 ⟨rfl, rfl⟩
      clear HBR
      rcases (show kd = 2 ∨ kd = 3 ∨ kd = 4 ∨ (kd = 0 ∨ kd = 1) by omega) with rfl | rfl | rfl | hk01
      · have d2 : (((2 : Nat) : Int) == 2) = true := rfl
        by_cases hn0 : n = 0
        · subst hn0
          as_aux_lemma =>
            have hs8 : Sep w [TabT t T, DnT (.slice a 0 c) 0 D, DocT m (seatsOf T)] _ := HS.out.pick [2, 1, 3] rfl
            have HS8 := Lib.hid hs8
            have e9 : (((0 : Nat) : Int) - 1) = -1 := rfl
            clear hs8 HS hkd5
            have hs0 := HS8.out
            have HTL := Lib.hid (tlist_any hs0 HT.out.len)
            obtain ⟨nF, hnF⟩ : ∃ z, z = (seatsOf T).length := ⟨_, rfl⟩
            have hnF8 : nF ≤ 8 := by rw [hnF]; exact seats_len8 HT.out.len
            rw [← hnF] at HTL
            have HNF := Lib.hid hnF
            have f0 : (0 : Int) ≤ (nF : Int) := by omega
            have f8 : (nF : Int) ≤ 8 := by omega
            clear hs0 HS8 hnF hnF8
            (try dsimp only); repeat' (first | go_values | go_skip | go_guarded | go_step | go_upon | go_back)
            refine HTL.out.mono ?_
            rintro rL wL ⟨aL, cL, rfl, hL⟩
            have hL2 : Sep w [DocT m (seatsOf T), SsT (.slice aL nF cL) (seatsOf T), TabT t T, DnT (.slice a 0 c) 0 D] wL := hL.pick [3, 0, 1, 2] rfl
            obtain ⟨aM, cM, hL3⟩ := hL2.docOpen
            rw [← HNF.out] at hL3
            have g0 := hL3.cell (o := 0) rfl
            have HL3 := Lib.hid hL3
            clear HTL hL hL2 hL3
            (try dsimp only); repeat' (first | go_values | go_skip | go_guarded | go_step | go_upon | go_back)
            refine tail26 HT HNF HL3 g0 f0 f8 ?_ ?_ ?_ ?_
            · exact fun _ _ _ _ _ h => h
            · assumption
            · assumption
            intro y19 y170 y171 y172 y173 y174 y175 y176 y177 y178 y179 y180 y181 y182 y183 y184 y185 y186 y187 y188 y189 y190 y191 y192 y193 y194 y195 y196 y197 y198 y199 y200 y201 y202 y203 y204 y205 y206 y207 y208 y209 y210 y211 y212 y213 y214 y215 y216 y217 w13 h13
            have H13 := Lib.hid h13
            clear h13 HL3 g0
            (try dsimp only); repeat' (first | go_values | go_skip | go_guarded | go_step | go_upon | go_back)
            go_roundw
            case rel => exact ⟨k + 1, 0, a, c, T, D, by have := HG.out.1.1; omega, by have := HG.out.1.2; omega, by omega, rfl, by go_num, HT.out, H13.out⟩
            case measure => have := HG.out.1.2; simp [intOf]; omega
        · obtain ⟨p, hp9⟩ : ∃ p, n = p + 1 := ⟨n - 1, by omega⟩
          as_aux_lemma =>
            have hp : p < D.length := by obtain ⟨_, _, _, h9⟩ := (HS.out.pick [1] rfl : Sep w [DnT (.slice a n c) n D] _).dnForm; omega
            have hs8 : Sep w [DnT (.slice a n c) n D, TabT t T, DocT m (seatsOf T)] _ := HS.out.pick [1, 2, 3] rfl
            obtain ⟨bD, rfl, hxx⟩ := hs8.dnAt p hp
            obtain ⟨a9, c9, hv9, hle9, -⟩ := Sep.rnForm (hs8.pick [0] rfl : Sep w [Rn 8 40 (.slice (some ⟨bD, 0, none⟩) n c) n (dnCs D)] _)
            simp only [Value.slice.injEq] at hv9
            obtain ⟨-, -, rfl⟩ := hv9
            have pc : (p : Int) ≤ (c : Int) := by omega
            have pc2 : decide (p ≤ c) = true := decide_eq_true (by omega)
            obtain ⟨⟨dc, u⟩, hu⟩ : ∃ z, z = D[p]'hp := ⟨_, rfl⟩
            obtain ⟨T', z, hI', hb1, hb2⟩ := back_pair HT.out dc u
            obtain ⟨ud, uc, un, uo, uk, ua, ub⟩ := u
            unfold swC at hb1 hb2
            dsimp only at hb1 hb2
            have HXX : Hid (∀ (wx : World) {M : List Thing}, Sep w (M) wx → True) := Lib.hid fun _ _ _ => trivial
            clear HXX
            have HXX : Hid (∀ wx, Sep w [DocT m (seatsOf T), DnT (.slice (some ⟨bD, 0, none⟩) n c) n D, TabT t T'] wx → wx.cell? ⟨bD, p * 8, none⟩ = some (.int .i64 dc) ∧ wx.cell? ⟨bD, p * 8 + 1, none⟩ = some (.bool ud) ∧ wx.cell? ⟨bD, p * 8 + 1 + 1, none⟩ = some (.int .i64 uc) ∧ wx.cell? ⟨bD, p * 8 + 1 + 2, none⟩ = some (.int .i64 un) ∧ wx.cell? ⟨bD, p * 8 + 1 + 3, none⟩ = some (.int .i64 uo) ∧ wx.cell? ⟨bD, p * 8 + 1 + 4, none⟩ = some (.int .i64 uk) ∧ wx.cell? ⟨bD, p * 8 + 1 + 5, none⟩ = some (.int .i64 ua) ∧ wx.cell? ⟨bD, p * 8 + 1 + 6, none⟩ = some (.int .i64 ub)) := Lib.hid fun wx hx => by
              obtain ⟨b9, hb9, hx9⟩ := (hx.pick [1] rfl : Sep w [DnT (.slice (some ⟨bD, 0, none⟩) n c) n D] wx).dnAt p hp
              simp only [Option.some.injEq, Addr.mk.injEq, and_true] at hb9
              subst hb9
              rw [← hu] at hx9
              exact ⟨hx9 0 _ (by omega) rfl, hx9 1 _ (by omega) rfl, hx9 2 _ (by omega) rfl, hx9 3 _ (by omega) rfl, hx9 4 _ (by omega) rfl, hx9 5 _ (by omega) rfl, hx9 6 _ (by omega) rfl, hx9 7 _ (by omega) rfl⟩
            rw [← hu] at hxx
            have x0 := hxx 0 _ (by omega) rfl
            have x1 := hxx 1 _ (by omega) rfl
            have x2 := hxx 2 _ (by omega) rfl
            have x3 := hxx 3 _ (by omega) rfl
            have x4 := hxx 4 _ (by omega) rfl
            have x5 := hxx 5 _ (by omega) rfl
            have x6 := hxx 6 _ (by omega) rfl
            have x7 := hxx 7 _ (by omega) rfl
            rw [Nat.add_zero] at x0
            have HB1 := Lib.hid hb1
            have HB2 := Lib.hid hb2
            have HI2 := Lib.hid hI'
            have HS8 := Lib.hid hs8
            have e9 : ((n : Int) - 1) = (p : Int) := by omega
            have p0 : (0 : Int) ≤ (p : Int) := by omega
            have p1 : (p : Int) < (n : Int) := by omega
            have p80 : (p : Int) ≤ 80 := by omega
            have dp : decide ((0 : Int) ≤ (p : Int)) = true := decide_eq_true p0
            have dp2 : decide (p < n) = true := decide_eq_true (by omega)
            have HP9 := Lib.hid hp9
            clear hp hs8 hxx hu hb1 hb2 hI' HS hkd5 hp9 hn0 hle9
            (try dsimp only); repeat' (first | go_values | go_skip | go_guarded | go_step | go_upon | go_back)
            refine wp_region_G (fun w' => w'.cell? ⟨bD, p * 8, none⟩ = some (.int .i64 dc) ∧ w'.cell? ⟨bD, p * 8 + 1, none⟩ = some (.bool ud) ∧ w'.cell? ⟨bD, p * 8 + 1 + 1, none⟩ = some (.int .i64 uc) ∧ w'.cell? ⟨bD, p * 8 + 1 + 2, none⟩ = some (.int .i64 un) ∧ w'.cell? ⟨bD, p * 8 + 1 + 3, none⟩ = some (.int .i64 uo) ∧ w'.cell? ⟨bD, p * 8 + 1 + 4, none⟩ = some (.int .i64 uk) ∧ w'.cell? ⟨bD, p * 8 + 1 + 5, none⟩ = some (.int .i64 ua) ∧ w'.cell? ⟨bD, p * 8 + 1 + 6, none⟩ = some (.int .i64 ub)) [23, 24, 25] (by kernel_rfl) ⟨x0, x1, x2, x3, x4, x5, x6, x7⟩ (fun hS => ?_)
            try dsimp only at hS
            refine wpAnyG_take' (i := 0) (v := ?v0_1k2) rfl (by kernel_rfl) (by kernel_rfl) (by kernel_rfl) (by kernel_rfl) (fun _ _ _ h => h) (Or.inl ⟨by rfl, ?hy0_1k2⟩) hS ?rest0_1k2
            case hy0_1k2 => intro w hSw; (try dsimp only at hSw); go_simp; (try with_reducible rfl)
            case rest0_1k2 =>
            try simp only [List.getElem_toArray, List.getElem_cons_succ, List.getElem_cons_zero, Act.put, List.setIfInBounds_toArray, List.set_cons_zero, List.set_cons_succ]
            refine wpAnyG_take' (i := 1) (v := ?v1_2k2) rfl (by kernel_rfl) (by kernel_rfl) (by kernel_rfl) (by kernel_rfl) (fun _ _ _ h => h) (Or.inl ⟨by rfl, ?hy1_2k2⟩) hS ?rest1_2k2
            case hy1_2k2 => intro w hSw; (try dsimp only at hSw); go_simp; (try with_reducible rfl)
            case rest1_2k2 =>
            try simp only [List.getElem_toArray, List.getElem_cons_succ, List.getElem_cons_zero, Act.put, List.setIfInBounds_toArray, List.set_cons_zero, List.set_cons_succ]
            refine wpAnyG_take' (i := 2) (v := ?v2_3k2) rfl (by kernel_rfl) (by kernel_rfl) (by kernel_rfl) (by kernel_rfl) (fun _ _ _ h => h) (Or.inl ⟨by rfl, ?hy2_3k2⟩) hS ?rest2_3k2
            case hy2_3k2 => intro w hSw; (try dsimp only at hSw); go_simp; (try with_reducible rfl)
            case rest2_3k2 =>
            try simp only [List.getElem_toArray, List.getElem_cons_succ, List.getElem_cons_zero, Act.put, List.setIfInBounds_toArray, List.set_cons_zero, List.set_cons_succ]
            refine wpAnyG_take' (i := 3) (v := ?v3_4k2) rfl (by kernel_rfl) (by kernel_rfl) (by kernel_rfl) (by kernel_rfl) (fun _ _ _ h => h) (Or.inl ⟨by rfl, ?hy3_4k2⟩) hS ?rest3_4k2
            case hy3_4k2 => intro w hSw; (try dsimp only at hSw); go_simp; (try with_reducible rfl)
            case rest3_4k2 =>
            try simp only [List.getElem_toArray, List.getElem_cons_succ, List.getElem_cons_zero, Act.put, List.setIfInBounds_toArray, List.set_cons_zero, List.set_cons_succ]
            refine wpAnyG_take' (i := 4) (v := ?v4_5k2) rfl (by kernel_rfl) (by kernel_rfl) (by kernel_rfl) (by kernel_rfl) (fun _ _ _ h => h) (Or.inl ⟨by rfl, ?hy4_5k2⟩) hS ?rest4_5k2
            case hy4_5k2 => intro w hSw; (try dsimp only at hSw); go_simp; (try with_reducible rfl)
            case rest4_5k2 =>
            try simp only [List.getElem_toArray, List.getElem_cons_succ, List.getElem_cons_zero, Act.put, List.setIfInBounds_toArray, List.set_cons_zero, List.set_cons_succ]
            refine wpAnyG_take' (i := 5) (v := ?v5_6k2) rfl (by kernel_rfl) (by kernel_rfl) (by kernel_rfl) (by kernel_rfl) (fun _ _ _ h => h) (Or.inl ⟨by rfl, ?hy5_6k2⟩) hS ?rest5_6k2
            case hy5_6k2 => intro w hSw; (try dsimp only at hSw); go_simp; (try with_reducible rfl)
            case rest5_6k2 =>
            try simp only [List.getElem_toArray, List.getElem_cons_succ, List.getElem_cons_zero, Act.put, List.setIfInBounds_toArray, List.set_cons_zero, List.set_cons_succ]
            refine wpAnyG_take' (i := 6) (v := ?v6_7k2) rfl (by kernel_rfl) (by kernel_rfl) (by kernel_rfl) (by kernel_rfl) (fun _ _ _ h => h) (Or.inl ⟨by rfl, ?hy6_7k2⟩) hS ?rest6_7k2
            case hy6_7k2 => intro w hSw; (try dsimp only at hSw); go_simp; (try with_reducible rfl)
            case rest6_7k2 =>
            try simp only [List.getElem_toArray, List.getElem_cons_succ, List.getElem_cons_zero, Act.put, List.setIfInBounds_toArray, List.set_cons_zero, List.set_cons_succ]
            refine wpAnyG_take' (i := 7) (v := ?v7_8k2) rfl (by kernel_rfl) (by kernel_rfl) (by kernel_rfl) (by kernel_rfl) (fun _ _ _ h => h) (Or.inl ⟨by rfl, ?hy7_8k2⟩) hS ?rest7_8k2
            case hy7_8k2 => intro w hSw; (try dsimp only at hSw); go_simp; (try with_reducible rfl)
            case rest7_8k2 =>
            try simp only [List.getElem_toArray, List.getElem_cons_succ, List.getElem_cons_zero, Act.put, List.setIfInBounds_toArray, List.set_cons_zero, List.set_cons_succ]
            refine wpAnyG_take' (i := 8) (v := ?v8_9k2) rfl (by kernel_rfl) (by kernel_rfl) (by kernel_rfl) (by kernel_rfl) (fun _ _ _ h => h) (Or.inl ⟨by rfl, ?hy8_9k2⟩) hS ?rest8_9k2
            case hy8_9k2 => intro w hSw; (try dsimp only at hSw); go_simp; (try with_reducible rfl)
            case rest8_9k2 =>
            try simp only [List.getElem_toArray, List.getElem_cons_succ, List.getElem_cons_zero, Act.put, List.setIfInBounds_toArray, List.set_cons_zero, List.set_cons_succ]
            refine wpAnyG_take' (i := 9) (v := ?v9_10k2) rfl (by kernel_rfl) (by kernel_rfl) (by kernel_rfl) (by kernel_rfl) (fun _ _ _ h => h) (Or.inl ⟨by rfl, ?hy9_10k2⟩) hS ?rest9_10k2
            case hy9_10k2 => intro w hSw; (try dsimp only at hSw); go_simp; (try with_reducible rfl)
            case rest9_10k2 =>
            try simp only [List.getElem_toArray, List.getElem_cons_succ, List.getElem_cons_zero, Act.put, List.setIfInBounds_toArray, List.set_cons_zero, List.set_cons_succ]
            refine wpAnyG_take' (i := 10) (v := ?v10_11k2) rfl (by kernel_rfl) (by kernel_rfl) (by kernel_rfl) (by kernel_rfl) (fun _ _ _ h => h) (Or.inl ⟨by rfl, ?hy10_11k2⟩) hS ?rest10_11k2
            case hy10_11k2 => intro w hSw; (try dsimp only at hSw); go_simp; (try with_reducible rfl)
            case rest10_11k2 =>
            try simp only [List.getElem_toArray, List.getElem_cons_succ, List.getElem_cons_zero, Act.put, List.setIfInBounds_toArray, List.set_cons_zero, List.set_cons_succ]
            refine wpAnyG_take' (i := 12) (v := ?v12_12k2) rfl (by kernel_rfl) (by kernel_rfl) (by kernel_rfl) (by kernel_rfl) (fun _ _ _ h => h) (Or.inl ⟨by rfl, ?hy12_12k2⟩) hS ?rest12_12k2
            case hy12_12k2 => intro w hSw; (try dsimp only at hSw); go_simp; (try with_reducible rfl)
            case rest12_12k2 =>
            try simp only [List.getElem_toArray, List.getElem_cons_succ, List.getElem_cons_zero, Act.put, List.setIfInBounds_toArray, List.set_cons_zero, List.set_cons_succ]
            refine wpAnyG_take' (i := 13) (v := ?v13_13k2) rfl (by kernel_rfl) (by kernel_rfl) (by kernel_rfl) (by kernel_rfl) (fun _ _ _ h => h) (Or.inl ⟨by rfl, ?hy13_13k2⟩) hS ?rest13_13k2
            case hy13_13k2 => intro w hSw; (try dsimp only at hSw); go_simp; (try with_reducible rfl)
            case rest13_13k2 =>
            try simp only [List.getElem_toArray, List.getElem_cons_succ, List.getElem_cons_zero, Act.put, List.setIfInBounds_toArray, List.set_cons_zero, List.set_cons_succ]
            refine wpAnyG_take' (i := 14) (v := ?v14_14k2) rfl (by kernel_rfl) (by kernel_rfl) (by kernel_rfl) (by kernel_rfl) (fun _ _ _ h => h) (Or.inl ⟨by rfl, ?hy14_14k2⟩) hS ?rest14_14k2
            case hy14_14k2 => intro w hSw; (try dsimp only at hSw); go_simp; (try with_reducible rfl)
            case rest14_14k2 =>
            try simp only [List.getElem_toArray, List.getElem_cons_succ, List.getElem_cons_zero, Act.put, List.setIfInBounds_toArray, List.set_cons_zero, List.set_cons_succ]
            refine wpAnyG_take' (i := 15) (v := ?v15_15k2) rfl (by kernel_rfl) (by kernel_rfl) (by kernel_rfl) (by kernel_rfl) (fun _ _ _ h => h) (Or.inl ⟨by rfl, ?hy15_15k2⟩) hS ?rest15_15k2
            case hy15_15k2 => intro w hSw; (try dsimp only at hSw); go_simp; (try with_reducible rfl)
            case rest15_15k2 =>
            try simp only [List.getElem_toArray, List.getElem_cons_succ, List.getElem_cons_zero, Act.put, List.setIfInBounds_toArray, List.set_cons_zero, List.set_cons_succ]
            refine wpAnyG_take' (i := 16) (v := ?v16_16k2) rfl (by kernel_rfl) (by kernel_rfl) (by kernel_rfl) (by kernel_rfl) (fun _ _ _ h => h) (Or.inl ⟨by rfl, ?hy16_16k2⟩) hS ?rest16_16k2
            case hy16_16k2 => intro w hSw; (try dsimp only at hSw); go_simp; (try with_reducible rfl)
            case rest16_16k2 =>
            try simp only [List.getElem_toArray, List.getElem_cons_succ, List.getElem_cons_zero, Act.put, List.setIfInBounds_toArray, List.set_cons_zero, List.set_cons_succ]
            refine wpAnyG_take' (i := 17) (v := ?v17_17k2) rfl (by kernel_rfl) (by kernel_rfl) (by kernel_rfl) (by kernel_rfl) (fun _ _ _ h => h) (Or.inl ⟨by rfl, ?hy17_17k2⟩) hS ?rest17_17k2
            case hy17_17k2 => intro w hSw; (try dsimp only at hSw); go_simp; (try with_reducible rfl)
            case rest17_17k2 =>
            try simp only [List.getElem_toArray, List.getElem_cons_succ, List.getElem_cons_zero, Act.put, List.setIfInBounds_toArray, List.set_cons_zero, List.set_cons_succ]
            refine wpAnyG_take' (i := 18) (v := ?v18_18k2) rfl (by kernel_rfl) (by kernel_rfl) (by kernel_rfl) (by kernel_rfl) (fun _ _ _ h => h) (Or.inl ⟨by rfl, ?hy18_18k2⟩) hS ?rest18_18k2
            case hy18_18k2 => intro w hSw; (try dsimp only at hSw); go_simp; (try with_reducible rfl)
            case rest18_18k2 =>
            try simp only [List.getElem_toArray, List.getElem_cons_succ, List.getElem_cons_zero, Act.put, List.setIfInBounds_toArray, List.set_cons_zero, List.set_cons_succ]
            refine wpAnyG_take' (i := 19) (v := ?v19_19k2) rfl (by kernel_rfl) (by kernel_rfl) (by kernel_rfl) (by kernel_rfl) (fun _ _ _ h => h) (Or.inl ⟨by rfl, ?hy19_19k2⟩) hS ?rest19_19k2
            case hy19_19k2 => intro w hSw; (try dsimp only at hSw); go_simp; (try with_reducible rfl)
            case rest19_19k2 =>
            try simp only [List.getElem_toArray, List.getElem_cons_succ, List.getElem_cons_zero, Act.put, List.setIfInBounds_toArray, List.set_cons_zero, List.set_cons_succ]
            refine wpAnyG_take' (i := 20) (v := ?v20_20k2) rfl (by kernel_rfl) (by kernel_rfl) (by kernel_rfl) (by kernel_rfl) (fun _ _ _ h => h) (Or.inl ⟨by rfl, ?hy20_20k2⟩) hS ?rest20_20k2
            case hy20_20k2 => intro w hSw; (try dsimp only at hSw); go_simp; (try with_reducible rfl)
            case rest20_20k2 =>
            try simp only [List.getElem_toArray, List.getElem_cons_succ, List.getElem_cons_zero, Act.put, List.setIfInBounds_toArray, List.set_cons_zero, List.set_cons_succ]
            refine wpAnyG_take' (i := 21) (v := ?v21_21k2) rfl (by kernel_rfl) (by kernel_rfl) (by kernel_rfl) (by kernel_rfl) (fun _ _ _ h => h) (Or.inl ⟨by rfl, ?hy21_21k2⟩) hS ?rest21_21k2
            case hy21_21k2 => intro w hSw; (try dsimp only at hSw); go_simp; (try with_reducible rfl)
            case rest21_21k2 =>
            try simp only [List.getElem_toArray, List.getElem_cons_succ, List.getElem_cons_zero, Act.put, List.setIfInBounds_toArray, List.set_cons_zero, List.set_cons_succ]
            refine wpAnyG_take' (i := 22) (v := ?v22_22k2) rfl (by kernel_rfl) (by kernel_rfl) (by kernel_rfl) (by kernel_rfl) (fun _ _ _ h => h) (Or.inl ⟨by rfl, ?hy22_22k2⟩) hS ?rest22_22k2
            case hy22_22k2 => intro w hSw; (try dsimp only at hSw); go_simp; (try with_reducible rfl)
            case rest22_22k2 =>
            try simp only [List.getElem_toArray, List.getElem_cons_succ, List.getElem_cons_zero, Act.put, List.setIfInBounds_toArray, List.set_cons_zero, List.set_cons_succ]
            refine wpAnyG_one (i := 11) (by kernel_rfl) rfl (fun K hK => ?_)
            go_simp
            refine Calls.mono (HB1.out _ _ _ _ (HS8.out.drew.pick [1, 0, 2] rfl : Sep w [TabT t T, DnT (.slice (some ⟨bD, 0, none⟩) n c) n D, DocT m (seatsOf T)] _)) ?_
            rintro r11 w11 ⟨rfl, h11⟩
            have h12 : Sep w [DocT m (seatsOf T), DnT (.slice (some ⟨bD, 0, none⟩) n c) n D, TabT t T'] _ := h11.pick [2, 1, 0] rfl
            obtain ⟨y0, y1, y2, y3, y4, y5, y6, y7⟩ := HXX.out _ h12
            have H12 := Lib.hid h12
            clear h11 h12 HS8 HB1
            (try dsimp only); repeat' (first | go_values | go_skip | go_guarded | go_step | go_upon | go_back)
            refine hK.out _ _ (fun _ => ?hS23k2) ?rest23k2
            case hS23k2 => exact ⟨y0, y1, y2, y3, y4, y5, y6, y7⟩
            clear K hK
            try simp only [List.getElem_toArray, List.getElem_cons_succ, List.getElem_cons_zero, Act.put, List.setIfInBounds_toArray, List.set_cons_zero, List.set_cons_succ]
            refine wpAnyG_one (i := 23) (by kernel_rfl) rfl (fun K hK => ?_)
            go_simp
            refine Calls.mono (HB2.out _ _ _ _ H12.out) ?_
            rintro r23 w23 ⟨rfl, h13⟩
            have H13 := Lib.hid h13
            clear h13 H12 HB2
            (try dsimp only); repeat' (first | go_values | go_skip | go_guarded | go_step | go_upon | go_back)
            refine hK.out _ _ (fun hno => by cases hno) ?_
            clear K hK
            try simp only [List.getElem_toArray, List.getElem_cons_succ, List.getElem_cons_zero, Act.put, List.setIfInBounds_toArray, List.set_cons_zero, List.set_cons_succ]
            refine wpAnyG_one (i := 24) (by kernel_rfl) rfl (fun K hK => ?_)
            go_simp
            refine hK.out _ _ (fun hno => by cases hno) ?_
            clear K hK
            try simp only [List.getElem_toArray, List.getElem_cons_succ, List.getElem_cons_zero, Act.put, List.setIfInBounds_toArray, List.set_cons_zero, List.set_cons_succ]
            refine wpAnyG_one (i := 25) (by kernel_rfl) rfl (fun K hK => ?_)
            go_simp
            refine hK.out _ _ (fun hno => by cases hno) ?_
            clear K hK
            try simp only [List.getElem_toArray, List.getElem_cons_succ, List.getElem_cons_zero, Act.put, List.setIfInBounds_toArray, List.set_cons_zero, List.set_cons_succ]
            refine wpAnyG_done (by kernel_rfl) ?_ _
            try simp only [List.getElem_toArray, List.getElem_cons_succ, List.getElem_cons_zero, Act.put, List.setIfInBounds_toArray, List.set_cons_zero, List.set_cons_succ]
            clear hS x0 x1 x2 x3 x4 x5 x6 x7 y0 y1 y2 y3 y4 y5 y6 y7
            have h14 : Sep w [DnT (.slice (some ⟨bD, 0, none⟩) p c) p (D.take p), TabT t T', DocT m (seatsOf T')] _ := (H13.out.pick [1, 2, 0] rfl : Sep w [DnT (.slice (some ⟨bD, 0, none⟩) n c) n D, TabT t T', DocT m (seatsOf T')] _).dnTake p (by have := HP9.out; omega)
            have h15 : Sep w [TabT t T', DnT (.slice (some ⟨bD, 0, none⟩) p c) p (D.take p), DocT m (seatsOf T')] _ := h14.pick [1, 0, 2] rfl
            have HS9 := Lib.hid h15
            clear h14 h15 H13 HXX
            have hs0 := HS9.out
            have HTL := Lib.hid (tlist_any hs0 HI2.out.len)
            obtain ⟨nF, hnF⟩ : ∃ z, z = (seatsOf T').length := ⟨_, rfl⟩
            have hnF8 : nF ≤ 8 := by rw [hnF]; exact seats_len8 HI2.out.len
            rw [← hnF] at HTL
            have HNF := Lib.hid hnF
            have f0 : (0 : Int) ≤ (nF : Int) := by omega
            have f8 : (nF : Int) ≤ 8 := by omega
            clear hs0 HS9 hnF hnF8
            (try dsimp only); repeat' (first | go_values | go_skip | go_guarded | go_step | go_upon | go_back)
            refine HTL.out.mono ?_
            rintro rL wL ⟨aL, cL, rfl, hL⟩
            have hL2 : Sep w [DocT m (seatsOf T'), SsT (.slice aL nF cL) (seatsOf T'), TabT t T', DnT (.slice (some ⟨bD, 0, none⟩) p c) p (D.take p)] wL := hL.pick [3, 0, 1, 2] rfl
            obtain ⟨aM, cM, hL3⟩ := hL2.docOpen
            rw [← HNF.out] at hL3
            have g0 := hL3.cell (o := 0) rfl
            have HL3 := Lib.hid hL3
            clear HTL hL hL2 hL3
            (try dsimp only); repeat' (first | go_values | go_skip | go_guarded | go_step | go_upon | go_back)
            refine tail26 HI2 HNF HL3 g0 f0 f8 ?_ ?_ ?_ ?_
            · exact fun _ _ _ _ _ h => h
            · assumption
            · assumption
            intro y19 y170 y171 y172 y173 y174 y175 y176 y177 y178 y179 y180 y181 y182 y183 y184 y185 y186 y187 y188 y189 y190 y191 y192 y193 y194 y195 y196 y197 y198 y199 y200 y201 y202 y203 y204 y205 y206 y207 y208 y209 y210 y211 y212 y213 y214 y215 y216 y217 w13 h13
            have H13 := Lib.hid h13
            clear h13 HL3 g0
            (try dsimp only); repeat' (first | go_values | go_skip | go_guarded | go_step | go_upon | go_back)
            go_roundw
            case rel => exact ⟨k + 1, p, (some ⟨bD, 0, none⟩), c, T', (D.take p), by have := HG.out.1.1; omega, by have := HG.out.1.2; omega, by have := HG.out.2; have := HP9.out; omega, rfl, by go_num, HI2.out, H13.out⟩
            case measure => have := HG.out.1.2; simp [intOf]; omega
      · have d2 : (((3 : Nat) : Int) == 2) = false := rfl
        have d3 : (((3 : Nat) : Int) == 3) = true := rfl
        as_aux_lemma =>
            obtain ⟨T', z, hI', hb1, hb2⟩ := back_pair HT.out sc ⟨wd, wc, wn, wo, wk, wa, wb⟩
            unfold swC at hb1 hb2
            dsimp only at hb1 hb2
            have x1 := HS.out.cell (o := 1) rfl
            have x7 := HS.out.cell (o := 7) rfl
            have x8 := HS.out.cell (o := 8) rfl
            have x9 := HS.out.cell (o := 9) rfl
            have x10 := HS.out.cell (o := 10) rfl
            have x11 := HS.out.cell (o := 11) rfl
            have x12 := HS.out.cell (o := 12) rfl
            have x13 := HS.out.cell (o := 13) rfl
            have HB1 := Lib.hid hb1
            have HB2 := Lib.hid hb2
            have HI2 := Lib.hid hI'
            clear hb1 hb2 hI' hkd5
            (try dsimp only); repeat' (first | go_values | go_skip | go_guarded | go_step | go_upon | go_back)
            refine wp_region_G (fun w' => w'.cell? ⟨b7, 1, none⟩ = some (.int .i64 sc) ∧ w'.cell? ⟨b7, 7, none⟩ = some (.bool wd) ∧ w'.cell? ⟨b7, 8, none⟩ = some (.int .i64 wc) ∧ w'.cell? ⟨b7, 9, none⟩ = some (.int .i64 wn) ∧ w'.cell? ⟨b7, 10, none⟩ = some (.int .i64 wo) ∧ w'.cell? ⟨b7, 11, none⟩ = some (.int .i64 wk) ∧ w'.cell? ⟨b7, 12, none⟩ = some (.int .i64 wa) ∧ w'.cell? ⟨b7, 13, none⟩ = some (.int .i64 wb)) [13, 14, 15] (by kernel_rfl) ⟨x1, x7, x8, x9, x10, x11, x12, x13⟩ (fun hS => ?_)
            try dsimp only at hS
            refine wpAnyG_take' (i := 0) (v := ?v0_1k3) rfl (by kernel_rfl) (by kernel_rfl) (by kernel_rfl) (by kernel_rfl) (fun _ _ _ h => h) (Or.inl ⟨by rfl, ?hy0_1k3⟩) hS ?rest0_1k3
            case hy0_1k3 => intro w hSw; (try dsimp only at hSw); go_simp; (try with_reducible rfl)
            case rest0_1k3 =>
            try simp only [List.getElem_toArray, List.getElem_cons_succ, List.getElem_cons_zero, Act.put, List.setIfInBounds_toArray, List.set_cons_zero, List.set_cons_succ]
            refine wpAnyG_take' (i := 1) (v := ?v1_2k3) rfl (by kernel_rfl) (by kernel_rfl) (by kernel_rfl) (by kernel_rfl) (fun _ _ _ h => h) (Or.inl ⟨by rfl, ?hy1_2k3⟩) hS ?rest1_2k3
            case hy1_2k3 => intro w hSw; (try dsimp only at hSw); go_simp; (try with_reducible rfl)
            case rest1_2k3 =>
            try simp only [List.getElem_toArray, List.getElem_cons_succ, List.getElem_cons_zero, Act.put, List.setIfInBounds_toArray, List.set_cons_zero, List.set_cons_succ]
            refine wpAnyG_take' (i := 2) (v := ?v2_3k3) rfl (by kernel_rfl) (by kernel_rfl) (by kernel_rfl) (by kernel_rfl) (fun _ _ _ h => h) (Or.inl ⟨by rfl, ?hy2_3k3⟩) hS ?rest2_3k3
            case hy2_3k3 => intro w hSw; (try dsimp only at hSw); go_simp; (try with_reducible rfl)
            case rest2_3k3 =>
            try simp only [List.getElem_toArray, List.getElem_cons_succ, List.getElem_cons_zero, Act.put, List.setIfInBounds_toArray, List.set_cons_zero, List.set_cons_succ]
            refine wpAnyG_take' (i := 3) (v := ?v3_4k3) rfl (by kernel_rfl) (by kernel_rfl) (by kernel_rfl) (by kernel_rfl) (fun _ _ _ h => h) (Or.inl ⟨by rfl, ?hy3_4k3⟩) hS ?rest3_4k3
            case hy3_4k3 => intro w hSw; (try dsimp only at hSw); go_simp; (try with_reducible rfl)
            case rest3_4k3 =>
            try simp only [List.getElem_toArray, List.getElem_cons_succ, List.getElem_cons_zero, Act.put, List.setIfInBounds_toArray, List.set_cons_zero, List.set_cons_succ]
            refine wpAnyG_take' (i := 4) (v := ?v4_5k3) rfl (by kernel_rfl) (by kernel_rfl) (by kernel_rfl) (by kernel_rfl) (fun _ _ _ h => h) (Or.inl ⟨by rfl, ?hy4_5k3⟩) hS ?rest4_5k3
            case hy4_5k3 => intro w hSw; (try dsimp only at hSw); go_simp; (try with_reducible rfl)
            case rest4_5k3 =>
            try simp only [List.getElem_toArray, List.getElem_cons_succ, List.getElem_cons_zero, Act.put, List.setIfInBounds_toArray, List.set_cons_zero, List.set_cons_succ]
            refine wpAnyG_take' (i := 5) (v := ?v5_6k3) rfl (by kernel_rfl) (by kernel_rfl) (by kernel_rfl) (by kernel_rfl) (fun _ _ _ h => h) (Or.inl ⟨by rfl, ?hy5_6k3⟩) hS ?rest5_6k3
            case hy5_6k3 => intro w hSw; (try dsimp only at hSw); go_simp; (try with_reducible rfl)
            case rest5_6k3 =>
            try simp only [List.getElem_toArray, List.getElem_cons_succ, List.getElem_cons_zero, Act.put, List.setIfInBounds_toArray, List.set_cons_zero, List.set_cons_succ]
            refine wpAnyG_take' (i := 7) (v := ?v7_7k3) rfl (by kernel_rfl) (by kernel_rfl) (by kernel_rfl) (by kernel_rfl) (fun _ _ _ h => h) (Or.inl ⟨by rfl, ?hy7_7k3⟩) hS ?rest7_7k3
            case hy7_7k3 => intro w hSw; (try dsimp only at hSw); go_simp; (try with_reducible rfl)
            case rest7_7k3 =>
            try simp only [List.getElem_toArray, List.getElem_cons_succ, List.getElem_cons_zero, Act.put, List.setIfInBounds_toArray, List.set_cons_zero, List.set_cons_succ]
            refine wpAnyG_take' (i := 8) (v := ?v8_8k3) rfl (by kernel_rfl) (by kernel_rfl) (by kernel_rfl) (by kernel_rfl) (fun _ _ _ h => h) (Or.inl ⟨by rfl, ?hy8_8k3⟩) hS ?rest8_8k3
            case hy8_8k3 => intro w hSw; (try dsimp only at hSw); go_simp; (try with_reducible rfl)
            case rest8_8k3 =>
            try simp only [List.getElem_toArray, List.getElem_cons_succ, List.getElem_cons_zero, Act.put, List.setIfInBounds_toArray, List.set_cons_zero, List.set_cons_succ]
            refine wpAnyG_take' (i := 9) (v := ?v9_9k3) rfl (by kernel_rfl) (by kernel_rfl) (by kernel_rfl) (by kernel_rfl) (fun _ _ _ h => h) (Or.inl ⟨by rfl, ?hy9_9k3⟩) hS ?rest9_9k3
            case hy9_9k3 => intro w hSw; (try dsimp only at hSw); go_simp; (try with_reducible rfl)
            case rest9_9k3 =>
            try simp only [List.getElem_toArray, List.getElem_cons_succ, List.getElem_cons_zero, Act.put, List.setIfInBounds_toArray, List.set_cons_zero, List.set_cons_succ]
            refine wpAnyG_take' (i := 10) (v := ?v10_10k3) rfl (by kernel_rfl) (by kernel_rfl) (by kernel_rfl) (by kernel_rfl) (fun _ _ _ h => h) (Or.inl ⟨by rfl, ?hy10_10k3⟩) hS ?rest10_10k3
            case hy10_10k3 => intro w hSw; (try dsimp only at hSw); go_simp; (try with_reducible rfl)
            case rest10_10k3 =>
            try simp only [List.getElem_toArray, List.getElem_cons_succ, List.getElem_cons_zero, Act.put, List.setIfInBounds_toArray, List.set_cons_zero, List.set_cons_succ]
            refine wpAnyG_take' (i := 11) (v := ?v11_11k3) rfl (by kernel_rfl) (by kernel_rfl) (by kernel_rfl) (by kernel_rfl) (fun _ _ _ h => h) (Or.inl ⟨by rfl, ?hy11_11k3⟩) hS ?rest11_11k3
            case hy11_11k3 => intro w hSw; (try dsimp only at hSw); go_simp; (try with_reducible rfl)
            case rest11_11k3 =>
            try simp only [List.getElem_toArray, List.getElem_cons_succ, List.getElem_cons_zero, Act.put, List.setIfInBounds_toArray, List.set_cons_zero, List.set_cons_succ]
            refine wpAnyG_take' (i := 12) (v := ?v12_12k3) rfl (by kernel_rfl) (by kernel_rfl) (by kernel_rfl) (by kernel_rfl) (fun _ _ _ h => h) (Or.inl ⟨by rfl, ?hy12_12k3⟩) hS ?rest12_12k3
            case hy12_12k3 => intro w hSw; (try dsimp only at hSw); go_simp; (try with_reducible rfl)
            case rest12_12k3 =>
            try simp only [List.getElem_toArray, List.getElem_cons_succ, List.getElem_cons_zero, Act.put, List.setIfInBounds_toArray, List.set_cons_zero, List.set_cons_succ]
            refine wpAnyG_one (i := 6) (by kernel_rfl) rfl (fun K hK => ?_)
            go_simp
            refine Calls.mono (HB1.out _ _ _ _ (HS.out.drew.pick [2, 0, 1, 3] rfl : Sep w [TabT t T, Cl b7 #[.int .i64 dk, .int .i64 sc, .int .i64 sn, .int .i64 so, .int .i64 sk, .int .i64 sa, .int .i64 sb, .bool wd, .int .i64 wc, .int .i64 wn, .int .i64 wo, .int .i64 wk, .int .i64 wa, .int .i64 wb] 35, DnT (.slice a n c) n D, DocT m (seatsOf T)] _)) ?_
            rintro r11 w11 ⟨rfl, h11⟩
            have h12 : Sep w [DocT m (seatsOf T), Cl b7 #[.int .i64 dk, .int .i64 sc, .int .i64 sn, .int .i64 so, .int .i64 sk, .int .i64 sa, .int .i64 sb, .bool wd, .int .i64 wc, .int .i64 wn, .int .i64 wo, .int .i64 wk, .int .i64 wa, .int .i64 wb] 35, DnT (.slice a n c) n D, TabT t T'] _ := h11.pick [3, 1, 2, 0] rfl
            have z1 := h12.sw2.cell (o := 1) rfl
            have z7 := h12.sw2.cell (o := 7) rfl
            have z8 := h12.sw2.cell (o := 8) rfl
            have z9 := h12.sw2.cell (o := 9) rfl
            have z10 := h12.sw2.cell (o := 10) rfl
            have z11 := h12.sw2.cell (o := 11) rfl
            have z12 := h12.sw2.cell (o := 12) rfl
            have z13 := h12.sw2.cell (o := 13) rfl
            have H12 := Lib.hid h12
            clear h11 h12 HS HB1
            (try dsimp only); repeat' (first | go_values | go_skip | go_guarded | go_step | go_upon | go_back)
            refine hK.out _ _ (fun _ => ?hS13k3) ?rest13k3
            case hS13k3 => exact ⟨z1, z7, z8, z9, z10, z11, z12, z13⟩
            clear K hK
            try simp only [List.getElem_toArray, List.getElem_cons_succ, List.getElem_cons_zero, Act.put, List.setIfInBounds_toArray, List.set_cons_zero, List.set_cons_succ]
            refine wpAnyG_one (i := 13) (by kernel_rfl) rfl (fun K hK => ?_)
            go_simp
            refine Calls.mono (HB2.out _ _ _ _ H12.out) ?_
            rintro r23 w23 ⟨rfl, h13⟩
            have H13 := Lib.hid h13
            clear h13 H12 HB2
            (try dsimp only); repeat' (first | go_values | go_skip | go_guarded | go_step | go_upon | go_back)
            refine hK.out _ _ (fun hno => by cases hno) ?_
            clear K hK
            try simp only [List.getElem_toArray, List.getElem_cons_succ, List.getElem_cons_zero, Act.put, List.setIfInBounds_toArray, List.set_cons_zero, List.set_cons_succ]
            refine wpAnyG_one (i := 14) (by kernel_rfl) rfl (fun K hK => ?_)
            go_simp
            refine hK.out _ _ (fun hno => by cases hno) ?_
            clear K hK
            try simp only [List.getElem_toArray, List.getElem_cons_succ, List.getElem_cons_zero, Act.put, List.setIfInBounds_toArray, List.set_cons_zero, List.set_cons_succ]
            refine wpAnyG_one (i := 15) (by kernel_rfl) rfl (fun K hK => ?_)
            go_simp
            refine hK.out _ _ (fun hno => by cases hno) ?_
            clear K hK
            try simp only [List.getElem_toArray, List.getElem_cons_succ, List.getElem_cons_zero, Act.put, List.setIfInBounds_toArray, List.set_cons_zero, List.set_cons_succ]
            refine wpAnyG_done (by kernel_rfl) ?_ _
            try simp only [List.getElem_toArray, List.getElem_cons_succ, List.getElem_cons_zero, Act.put, List.setIfInBounds_toArray, List.set_cons_zero, List.set_cons_succ]
            clear hS x1 x7 x8 x9 x10 x11 x12 x13 z1 z7 z8 z9 z10 z11 z12 z13
            have h15 : Sep w [TabT t T', DnT (.slice a n c) n D, DocT m (seatsOf T')] _ := H13.out.pick [3, 2, 0] rfl
            have HS9 := Lib.hid h15
            clear h15 H13
            have hs0 := HS9.out
            have HTL := Lib.hid (tlist_any hs0 HI2.out.len)
            obtain ⟨nF, hnF⟩ : ∃ z, z = (seatsOf T').length := ⟨_, rfl⟩
            have hnF8 : nF ≤ 8 := by rw [hnF]; exact seats_len8 HI2.out.len
            rw [← hnF] at HTL
            have HNF := Lib.hid hnF
            have f0 : (0 : Int) ≤ (nF : Int) := by omega
            have f8 : (nF : Int) ≤ 8 := by omega
            clear hs0 HS9 hnF hnF8
            (try dsimp only); repeat' (first | go_values | go_skip | go_guarded | go_step | go_upon | go_back)
            refine HTL.out.mono ?_
            rintro rL wL ⟨aL, cL, rfl, hL⟩
            have hL2 : Sep w [DocT m (seatsOf T'), SsT (.slice aL nF cL) (seatsOf T'), TabT t T', DnT (.slice a n c) n D] wL := hL.pick [3, 0, 1, 2] rfl
            obtain ⟨aM, cM, hL3⟩ := hL2.docOpen
            rw [← HNF.out] at hL3
            have g0 := hL3.cell (o := 0) rfl
            have HL3 := Lib.hid hL3
            clear HTL hL hL2 hL3
            (try dsimp only); repeat' (first | go_values | go_skip | go_guarded | go_step | go_upon | go_back)
            refine tail26 HI2 HNF HL3 g0 f0 f8 ?_ ?_ ?_ ?_
            · exact fun _ _ _ _ _ h => h
            · assumption
            · assumption
            intro y19 y170 y171 y172 y173 y174 y175 y176 y177 y178 y179 y180 y181 y182 y183 y184 y185 y186 y187 y188 y189 y190 y191 y192 y193 y194 y195 y196 y197 y198 y199 y200 y201 y202 y203 y204 y205 y206 y207 y208 y209 y210 y211 y212 y213 y214 y215 y216 y217 w13 h13
            have H13 := Lib.hid h13
            clear h13 HL3 g0
            (try dsimp only); repeat' (first | go_values | go_skip | go_guarded | go_step | go_upon | go_back)
            go_roundw
            case rel => exact ⟨k + 1, n, a, c, T', D, by have := HG.out.1.1; omega, by have := HG.out.1.2; omega, by have := HG.out.2; omega, rfl, by go_num, HI2.out, H13.out⟩
            case measure => have := HG.out.1.2; simp [intOf]; omega
      · have d2 : (((4 : Nat) : Int) == 2) = false := rfl
        have d3 : (((4 : Nat) : Int) == 3) = false := rfl
        have d4 : (((4 : Nat) : Int) == 4) = true := rfl
        as_aux_lemma =>
            have x1 := HS.out.cell (o := 1) rfl
            have hs6 : Sep w [TabT t T, Cl b7 #[.int .i64 dk, .int .i64 sc, .int .i64 sn, .int .i64 so, .int .i64 sk, .int .i64 sa, .int .i64 sb, .bool wd, .int .i64 wc, .int .i64 wn, .int .i64 wo, .int .i64 wk, .int .i64 wa, .int .i64 wb] 35, DnT (.slice a n c) n D, DocT m (seatsOf T)] _ := HS.out.pick [2, 0, 1, 3] rfl
            have HF1 := Lib.hid (find_any sc hs6 HT.out.len)
            have HF2 : Hid (∀ wx M, Sep w (DocT m (seatsOf T) :: M) wx → Calls Try.prog 15 #[.pointer (some ⟨m, 0, none⟩), .int .i64 sc] wx fun e w' => e = .returned (.tuple #[(seatAt T sc).val, .bool (seatAt T sc).had]) ∧ Sep w (DocT m (seatsOf T) :: M) w') := Lib.hid fun wx M hx => dfind_any sc hx HT.out
            obtain ⟨fd, fc, fn, fo, fk, fa, fb, hf⟩ := seatAt_form T sc
            rw [hf] at HF1 HF2
            unfold SW.val at HF1 HF2
            dsimp only at HF1 HF2
            clear hs6 HS hf hkd5
            (try dsimp only); repeat' (first | go_values | go_skip | go_guarded | go_step | go_upon | go_back)
            refine HF1.out.mono ?_
            rintro r0 w6 ⟨rfl, h6⟩
            have h7 := h6.alloc (.cells #[.int .i64 fc, .int .i64 fn, .int .i64 fo, .int .i64 fk, .int .i64 fa, .int .i64 fb] 31)
            obtain ⟨b10, hb10⟩ : ∃ z, z = w6.heap.size := ⟨_, rfl⟩
            obtain ⟨w7', hw7⟩ : ∃ z, z = w6.alloc (.cells #[.int .i64 fc, .int .i64 fn, .int .i64 fo, .int .i64 fk, .int .i64 fa, .int .i64 fb] 31) := ⟨_, rfl⟩
            have h7q : Sep w [DocT m (seatsOf T), Cl w6.heap.size #[.int .i64 fc, .int .i64 fn, .int .i64 fo, .int .i64 fk, .int .i64 fa, .int .i64 fb] 31, TabT t T, Cl b7 #[.int .i64 dk, .int .i64 sc, .int .i64 sn, .int .i64 so, .int .i64 sk, .int .i64 sa, .int .i64 sb, .bool wd, .int .i64 wc, .int .i64 wn, .int .i64 wo, .int .i64 wk, .int .i64 wa, .int .i64 wb] 35, DnT (.slice a n c) n D] _ := h7.pick [4, 0, 1, 2, 3] rfl
            have v1 := (h7.pick [2] rfl : Sep w [Cl b7 _ _] _).cell (o := 1) rfl
            have HF3 := Lib.hid (HF2.out _ _ h7q)
            clear h6 h7 h7q HF1 HF2 x1
            (try dsimp only); repeat' (first | go_values | go_skip | go_guarded | go_step | go_upon | go_back)
            rw [← hw7, ← hb10]
            rw [← hw7, ← hb10] at HF3
            clear hw7 hb10 v1
            refine HF3.out.mono ?_
            rintro r0 w7 ⟨rfl, h8⟩
            have h9 := h8.alloc (.cells #[.int .i64 fc, .int .i64 fn, .int .i64 fo, .int .i64 fk, .int .i64 fa, .int .i64 fb] 31)
            have h9q : Sep w [Cl w7.heap.size #[.int .i64 fc, .int .i64 fn, .int .i64 fo, .int .i64 fk, .int .i64 fa, .int .i64 fb] 31, TabT t T, Cl b10 #[.int .i64 fc, .int .i64 fn, .int .i64 fo, .int .i64 fk, .int .i64 fa, .int .i64 fb] 31, Cl b7 #[.int .i64 dk, .int .i64 sc, .int .i64 sn, .int .i64 so, .int .i64 sk, .int .i64 sa, .int .i64 sb, .bool wd, .int .i64 wc, .int .i64 wn, .int .i64 wo, .int .i64 wk, .int .i64 wa, .int .i64 wb] 35, DnT (.slice a n c) n D, DocT m (seatsOf T)] _ := h9.pick [0, 3, 2, 4, 5, 1] rfl
            obtain ⟨z0, z1, z2, z3, z4, z5⟩ := cells6z h9q
            obtain ⟨y0, y1, y2, y3, y4, y5⟩ := cells6z h9q.sw3
            have x1 := h9q.sw4.cell (o := 1) rfl
            have x2 := h9q.sw4.cell (o := 2) rfl
            have H9 := Lib.hid h9q
            clear h8 h9 h9q HF3
            (try dsimp only); repeat' (first | go_values | go_skip | go_guarded | go_step | go_upon | go_back)
            refine wp_region_G (fun w' => w'.cell? ⟨b10, 0, none⟩ = some (.int .i64 fc) ∧ w'.cell? ⟨b10, 1, none⟩ = some (.int .i64 fn) ∧ w'.cell? ⟨b10, 2, none⟩ = some (.int .i64 fo) ∧ w'.cell? ⟨b10, 3, none⟩ = some (.int .i64 fk) ∧ w'.cell? ⟨b10, 4, none⟩ = some (.int .i64 fa) ∧ w'.cell? ⟨b10, 5, none⟩ = some (.int .i64 fb) ∧ w'.cell? ⟨w7.heap.size, 0, none⟩ = some (.int .i64 fc) ∧ w'.cell? ⟨w7.heap.size, 1, none⟩ = some (.int .i64 fn) ∧ w'.cell? ⟨w7.heap.size, 2, none⟩ = some (.int .i64 fo) ∧ w'.cell? ⟨w7.heap.size, 3, none⟩ = some (.int .i64 fk) ∧ w'.cell? ⟨w7.heap.size, 4, none⟩ = some (.int .i64 fa) ∧ w'.cell? ⟨w7.heap.size, 5, none⟩ = some (.int .i64 fb) ∧ w'.cell? ⟨b7, 1, none⟩ = some (.int .i64 sc) ∧ w'.cell? ⟨b7, 2, none⟩ = some (.int .i64 sn)) [24, 25, 26, 27] (by kernel_rfl) ⟨y0, y1, y2, y3, y4, y5, z0, z1, z2, z3, z4, z5, x1, x2⟩ (fun hS => ?_)
            try dsimp only at hS
            refine wpAnyG_take' (i := 0) (v := ?v0_1k4) rfl (by kernel_rfl) (by kernel_rfl) (by kernel_rfl) (by kernel_rfl) (fun _ _ _ h => h) (Or.inl ⟨by rfl, ?hy0_1k4⟩) hS ?rest0_1k4
            case hy0_1k4 => intro w hSw; (try dsimp only at hSw); go_simp; (try with_reducible rfl)
            case rest0_1k4 =>
            try simp only [List.getElem_toArray, List.getElem_cons_succ, List.getElem_cons_zero, Act.put, List.setIfInBounds_toArray, List.set_cons_zero, List.set_cons_succ]
            refine wpAnyG_take' (i := 1) (v := ?v1_2k4) rfl (by kernel_rfl) (by kernel_rfl) (by kernel_rfl) (by kernel_rfl) (fun _ _ _ h => h) (Or.inl ⟨by rfl, ?hy1_2k4⟩) hS ?rest1_2k4
            case hy1_2k4 => intro w hSw; (try dsimp only at hSw); go_simp; (try with_reducible rfl)
            case rest1_2k4 =>
            try simp only [List.getElem_toArray, List.getElem_cons_succ, List.getElem_cons_zero, Act.put, List.setIfInBounds_toArray, List.set_cons_zero, List.set_cons_succ]
            refine wpAnyG_take' (i := 2) (v := ?v2_3k4) rfl (by kernel_rfl) (by kernel_rfl) (by kernel_rfl) (by kernel_rfl) (fun _ _ _ h => h) (Or.inl ⟨by rfl, ?hy2_3k4⟩) hS ?rest2_3k4
            case hy2_3k4 => intro w hSw; (try dsimp only at hSw); go_simp; (try with_reducible rfl)
            case rest2_3k4 =>
            try simp only [List.getElem_toArray, List.getElem_cons_succ, List.getElem_cons_zero, Act.put, List.setIfInBounds_toArray, List.set_cons_zero, List.set_cons_succ]
            refine wpAnyG_take' (i := 3) (v := ?v3_4k4) rfl (by kernel_rfl) (by kernel_rfl) (by kernel_rfl) (by kernel_rfl) (fun _ _ _ h => h) (Or.inl ⟨by rfl, ?hy3_4k4⟩) hS ?rest3_4k4
            case hy3_4k4 => intro w hSw; (try dsimp only at hSw); go_simp; (try with_reducible rfl)
            case rest3_4k4 =>
            try simp only [List.getElem_toArray, List.getElem_cons_succ, List.getElem_cons_zero, Act.put, List.setIfInBounds_toArray, List.set_cons_zero, List.set_cons_succ]
            refine wpAnyG_take' (i := 4) (v := ?v4_5k4) rfl (by kernel_rfl) (by kernel_rfl) (by kernel_rfl) (by kernel_rfl) (fun _ _ _ h => h) (Or.inl ⟨by rfl, ?hy4_5k4⟩) hS ?rest4_5k4
            case hy4_5k4 => intro w hSw; (try dsimp only at hSw); go_simp; (try with_reducible rfl)
            case rest4_5k4 =>
            try simp only [List.getElem_toArray, List.getElem_cons_succ, List.getElem_cons_zero, Act.put, List.setIfInBounds_toArray, List.set_cons_zero, List.set_cons_succ]
            refine wpAnyG_take' (i := 5) (v := ?v5_6k4) rfl (by kernel_rfl) (by kernel_rfl) (by kernel_rfl) (by kernel_rfl) (fun _ _ _ h => h) (Or.inl ⟨by rfl, ?hy5_6k4⟩) hS ?rest5_6k4
            case hy5_6k4 => intro w hSw; (try dsimp only at hSw); go_simp; (try with_reducible rfl)
            case rest5_6k4 =>
            try simp only [List.getElem_toArray, List.getElem_cons_succ, List.getElem_cons_zero, Act.put, List.setIfInBounds_toArray, List.set_cons_zero, List.set_cons_succ]
            refine wpAnyG_take' (i := 6) (v := ?v6_7k4) rfl (by kernel_rfl) (by kernel_rfl) (by kernel_rfl) (by kernel_rfl) (fun _ _ _ h => h) (Or.inl ⟨by rfl, ?hy6_7k4⟩) hS ?rest6_7k4
            case hy6_7k4 => intro w hSw; (try dsimp only at hSw); go_simp; (try with_reducible rfl)
            case rest6_7k4 =>
            try simp only [List.getElem_toArray, List.getElem_cons_succ, List.getElem_cons_zero, Act.put, List.setIfInBounds_toArray, List.set_cons_zero, List.set_cons_succ]
            refine wpAnyG_take' (i := 7) (v := ?v7_8k4) rfl (by kernel_rfl) (by kernel_rfl) (by kernel_rfl) (by kernel_rfl) (fun _ _ _ h => h) (Or.inl ⟨by rfl, ?hy7_8k4⟩) hS ?rest7_8k4
            case hy7_8k4 => intro w hSw; (try dsimp only at hSw); go_simp; (try with_reducible rfl)
            case rest7_8k4 =>
            try simp only [List.getElem_toArray, List.getElem_cons_succ, List.getElem_cons_zero, Act.put, List.setIfInBounds_toArray, List.set_cons_zero, List.set_cons_succ]
            refine wpAnyG_take' (i := 8) (v := ?v8_9k4) rfl (by kernel_rfl) (by kernel_rfl) (by kernel_rfl) (by kernel_rfl) (fun _ _ _ h => h) (Or.inl ⟨by rfl, ?hy8_9k4⟩) hS ?rest8_9k4
            case hy8_9k4 => intro w hSw; (try dsimp only at hSw); go_simp; (try with_reducible rfl)
            case rest8_9k4 =>
            try simp only [List.getElem_toArray, List.getElem_cons_succ, List.getElem_cons_zero, Act.put, List.setIfInBounds_toArray, List.set_cons_zero, List.set_cons_succ]
            refine wpAnyG_take' (i := 9) (v := ?v9_10k4) rfl (by kernel_rfl) (by kernel_rfl) (by kernel_rfl) (by kernel_rfl) (fun _ _ _ h => h) (Or.inl ⟨by rfl, ?hy9_10k4⟩) hS ?rest9_10k4
            case hy9_10k4 => intro w hSw; (try dsimp only at hSw); go_simp; (try with_reducible rfl)
            case rest9_10k4 =>
            try simp only [List.getElem_toArray, List.getElem_cons_succ, List.getElem_cons_zero, Act.put, List.setIfInBounds_toArray, List.set_cons_zero, List.set_cons_succ]
            refine wpAnyG_take' (i := 10) (v := ?v10_11k4) rfl (by kernel_rfl) (by kernel_rfl) (by kernel_rfl) (by kernel_rfl) (fun _ _ _ h => h) (Or.inl ⟨by rfl, ?hy10_11k4⟩) hS ?rest10_11k4
            case hy10_11k4 => intro w hSw; (try dsimp only at hSw); go_simp; (try with_reducible rfl)
            case rest10_11k4 =>
            try simp only [List.getElem_toArray, List.getElem_cons_succ, List.getElem_cons_zero, Act.put, List.setIfInBounds_toArray, List.set_cons_zero, List.set_cons_succ]
            refine wpAnyG_take' (i := 11) (v := ?v11_12k4) rfl (by kernel_rfl) (by kernel_rfl) (by kernel_rfl) (by kernel_rfl) (fun _ _ _ h => h) (Or.inl ⟨by rfl, ?hy11_12k4⟩) hS ?rest11_12k4
            case hy11_12k4 => intro w hSw; (try dsimp only at hSw); go_simp; (try with_reducible rfl)
            case rest11_12k4 =>
            try simp only [List.getElem_toArray, List.getElem_cons_succ, List.getElem_cons_zero, Act.put, List.setIfInBounds_toArray, List.set_cons_zero, List.set_cons_succ]
            refine wpAnyG_take' (i := 12) (v := ?v12_13k4) rfl (by kernel_rfl) (by kernel_rfl) (by kernel_rfl) (by kernel_rfl) (fun _ _ _ h => h) (Or.inl ⟨by rfl, ?hy12_13k4⟩) hS ?rest12_13k4
            case hy12_13k4 => intro w hSw; (try dsimp only at hSw); go_simp; (try with_reducible rfl)
            case rest12_13k4 =>
            try simp only [List.getElem_toArray, List.getElem_cons_succ, List.getElem_cons_zero, Act.put, List.setIfInBounds_toArray, List.set_cons_zero, List.set_cons_succ]
            refine wpAnyG_take' (i := 13) (v := ?v13_14k4) rfl (by kernel_rfl) (by kernel_rfl) (by kernel_rfl) (by kernel_rfl) (fun _ _ _ h => h) (Or.inl ⟨by rfl, ?hy13_14k4⟩) hS ?rest13_14k4
            case hy13_14k4 => intro w hSw; (try dsimp only at hSw); go_simp; (try with_reducible rfl)
            case rest13_14k4 =>
            try simp only [List.getElem_toArray, List.getElem_cons_succ, List.getElem_cons_zero, Act.put, List.setIfInBounds_toArray, List.set_cons_zero, List.set_cons_succ]
            refine wpAnyG_take' (i := 14) (v := ?v14_15k4) rfl (by kernel_rfl) (by kernel_rfl) (by kernel_rfl) (by kernel_rfl) (fun _ _ _ h => h) (Or.inl ⟨by rfl, ?hy14_15k4⟩) hS ?rest14_15k4
            case hy14_15k4 => intro w hSw; (try dsimp only at hSw); go_simp; (try with_reducible rfl)
            case rest14_15k4 =>
            try simp only [List.getElem_toArray, List.getElem_cons_succ, List.getElem_cons_zero, Act.put, List.setIfInBounds_toArray, List.set_cons_zero, List.set_cons_succ]
            refine wpAnyG_take' (i := 15) (v := ?v15_16k4) rfl (by kernel_rfl) (by kernel_rfl) (by kernel_rfl) (by kernel_rfl) (fun _ _ _ h => h) (Or.inl ⟨by rfl, ?hy15_16k4⟩) hS ?rest15_16k4
            case hy15_16k4 => intro w hSw; (try dsimp only at hSw); go_simp; (try with_reducible rfl)
            case rest15_16k4 =>
            try simp only [List.getElem_toArray, List.getElem_cons_succ, List.getElem_cons_zero, Act.put, List.setIfInBounds_toArray, List.set_cons_zero, List.set_cons_succ]
            refine wpAnyG_take' (i := 17) (v := ?v17_17k4) rfl (by kernel_rfl) (by kernel_rfl) (by kernel_rfl) (by kernel_rfl) (fun _ _ _ h => h) (Or.inl ⟨by rfl, ?hy17_17k4⟩) hS ?rest17_17k4
            case hy17_17k4 => intro w hSw; (try dsimp only at hSw); go_simp; (try with_reducible rfl)
            case rest17_17k4 =>
            try simp only [List.getElem_toArray, List.getElem_cons_succ, List.getElem_cons_zero, Act.put, List.setIfInBounds_toArray, List.set_cons_zero, List.set_cons_succ]
            refine wpAnyG_take' (i := 18) (v := ?v18_18k4) rfl (by kernel_rfl) (by kernel_rfl) (by kernel_rfl) (by kernel_rfl) (fun _ _ _ h => h) (Or.inl ⟨by rfl, ?hy18_18k4⟩) hS ?rest18_18k4
            case hy18_18k4 => intro w hSw; (try dsimp only at hSw); go_simp; (try with_reducible rfl)
            case rest18_18k4 =>
            try simp only [List.getElem_toArray, List.getElem_cons_succ, List.getElem_cons_zero, Act.put, List.setIfInBounds_toArray, List.set_cons_zero, List.set_cons_succ]
            refine wpAnyG_take' (i := 19) (v := ?v19_19k4) rfl (by kernel_rfl) (by kernel_rfl) (by kernel_rfl) (by kernel_rfl) (fun _ _ _ h => h) (Or.inl ⟨by rfl, ?hy19_19k4⟩) hS ?rest19_19k4
            case hy19_19k4 => intro w hSw; (try dsimp only at hSw); go_simp; (try with_reducible rfl)
            case rest19_19k4 =>
            try simp only [List.getElem_toArray, List.getElem_cons_succ, List.getElem_cons_zero, Act.put, List.setIfInBounds_toArray, List.set_cons_zero, List.set_cons_succ]
            refine wpAnyG_take' (i := 20) (v := ?v20_20k4) rfl (by kernel_rfl) (by kernel_rfl) (by kernel_rfl) (by kernel_rfl) (fun _ _ _ h => h) (Or.inl ⟨by rfl, ?hy20_20k4⟩) hS ?rest20_20k4
            case hy20_20k4 => intro w hSw; (try dsimp only at hSw); go_simp; (try with_reducible rfl)
            case rest20_20k4 =>
            try simp only [List.getElem_toArray, List.getElem_cons_succ, List.getElem_cons_zero, Act.put, List.setIfInBounds_toArray, List.set_cons_zero, List.set_cons_succ]
            refine wpAnyG_take' (i := 21) (v := ?v21_21k4) rfl (by kernel_rfl) (by kernel_rfl) (by kernel_rfl) (by kernel_rfl) (fun _ _ _ h => h) (Or.inl ⟨by rfl, ?hy21_21k4⟩) hS ?rest21_21k4
            case hy21_21k4 => intro w hSw; (try dsimp only at hSw); go_simp; (try with_reducible rfl)
            case rest21_21k4 =>
            try simp only [List.getElem_toArray, List.getElem_cons_succ, List.getElem_cons_zero, Act.put, List.setIfInBounds_toArray, List.set_cons_zero, List.set_cons_succ]
            refine wpAnyG_take' (i := 22) (v := ?v22_22k4) rfl (by kernel_rfl) (by kernel_rfl) (by kernel_rfl) (by kernel_rfl) (fun _ _ _ h => h) (Or.inl ⟨by rfl, ?hy22_22k4⟩) hS ?rest22_22k4
            case hy22_22k4 => intro w hSw; (try dsimp only at hSw); go_simp; (try with_reducible rfl)
            case rest22_22k4 =>
            try simp only [List.getElem_toArray, List.getElem_cons_succ, List.getElem_cons_zero, Act.put, List.setIfInBounds_toArray, List.set_cons_zero, List.set_cons_succ]
            refine wpAnyG_take' (i := 23) (v := ?v23_23k4) rfl (by kernel_rfl) (by kernel_rfl) (by kernel_rfl) (by kernel_rfl) (fun _ _ _ h => h) (Or.inl ⟨by rfl, ?hy23_23k4⟩) hS ?rest23_23k4
            case hy23_23k4 => intro w hSw; (try dsimp only at hSw); go_simp; (try with_reducible rfl)
            case rest23_23k4 =>
            try simp only [List.getElem_toArray, List.getElem_cons_succ, List.getElem_cons_zero, Act.put, List.setIfInBounds_toArray, List.set_cons_zero, List.set_cons_succ]
            refine wpAnyG_one (i := 16) (by kernel_rfl) rfl (fun K hK => ?_)
            go_simp
            refine Calls.mono (judge_any sc sn (H9.out.drew.pick [1, 0, 2, 3, 4, 5] rfl : Sep w [TabT t T, Cl w7.heap.size #[.int .i64 fc, .int .i64 fn, .int .i64 fo, .int .i64 fk, .int .i64 fa, .int .i64 fb] 31, Cl b10 #[.int .i64 fc, .int .i64 fn, .int .i64 fo, .int .i64 fk, .int .i64 fa, .int .i64 fb] 31, Cl b7 #[.int .i64 dk, .int .i64 sc, .int .i64 sn, .int .i64 so, .int .i64 sk, .int .i64 sa, .int .i64 sb, .bool wd, .int .i64 wc, .int .i64 wn, .int .i64 wo, .int .i64 wk, .int .i64 wa, .int .i64 wb] 35, DnT (.slice a n c) n D, DocT m (seatsOf T)] _) HT.out.len) ?_
            rintro r16 w16 ⟨rfl, h12⟩
            obtain ⟨q0, q1, q2, q3, q4, q5⟩ := cells6z h12.sw3
            obtain ⟨p0, p1, p2, p3, p4, p5⟩ := cells6z h12.sw2
            have v1 := h12.sw4.cell (o := 1) rfl
            have v2 := h12.sw4.cell (o := 2) rfl
            have H12 := Lib.hid h12
            clear h12 H9
            (try dsimp only); repeat' (first | go_values | go_skip | go_guarded | go_step | go_upon | go_back)
            refine hK.out _ _ (fun _ => ?hS24k4) ?rest24k4
            case hS24k4 => exact ⟨q0, q1, q2, q3, q4, q5, p0, p1, p2, p3, p4, p5, v1, v2⟩
            clear K hK
            try simp only [List.getElem_toArray, List.getElem_cons_succ, List.getElem_cons_zero, Act.put, List.setIfInBounds_toArray, List.set_cons_zero, List.set_cons_succ]
            refine wpAnyG_one (i := 24) (by kernel_rfl) rfl (fun K hK => ?_)
            go_simp
            refine Calls.mono (djudge_any sc sn (H12.out.pick [5, 0, 4] rfl : Sep w [DocT m (seatsOf T), TabT t T, DnT (.slice a n c) n D] _) HT.out) ?_
            rintro r24 w24 ⟨rfl, h13⟩
            have H13 := Lib.hid h13
            clear h13 H12
            (try dsimp only); repeat' (first | go_values | go_skip | go_guarded | go_step | go_upon | go_back)
            refine hK.out _ _ (fun hno => by cases hno) ?_
            clear K hK
            try simp only [List.getElem_toArray, List.getElem_cons_succ, List.getElem_cons_zero, Act.put, List.setIfInBounds_toArray, List.set_cons_zero, List.set_cons_succ]
            refine wpAnyG_one (i := 25) (by kernel_rfl) rfl (fun K hK => ?_)
            go_simp
            refine hK.out _ _ (fun hno => by cases hno) ?_
            clear K hK
            try simp only [List.getElem_toArray, List.getElem_cons_succ, List.getElem_cons_zero, Act.put, List.setIfInBounds_toArray, List.set_cons_zero, List.set_cons_succ]
            refine wpAnyG_one (i := 26) (by kernel_rfl) rfl (fun K hK => ?_)
            go_simp
            refine hK.out _ _ (fun hno => by cases hno) ?_
            clear K hK
            try simp only [List.getElem_toArray, List.getElem_cons_succ, List.getElem_cons_zero, Act.put, List.setIfInBounds_toArray, List.set_cons_zero, List.set_cons_succ]
            refine wpAnyG_one (i := 27) (by kernel_rfl) rfl (fun K hK => ?_)
            go_simp
            refine hK.out _ _ (fun hno => by cases hno) ?_
            clear K hK
            try simp only [List.getElem_toArray, List.getElem_cons_succ, List.getElem_cons_zero, Act.put, List.setIfInBounds_toArray, List.set_cons_zero, List.set_cons_succ]
            refine wpAnyG_done (by kernel_rfl) ?_ _
            try simp only [List.getElem_toArray, List.getElem_cons_succ, List.getElem_cons_zero, Act.put, List.setIfInBounds_toArray, List.set_cons_zero, List.set_cons_succ]
            clear hS
            have h15 : Sep w [TabT t T, DnT (.slice a n c) n D, DocT m (seatsOf T)] _ := H13.out.pick [1, 2, 0] rfl
            have HS9 := Lib.hid h15
            clear h15 H13 x1 x2 y0 y1 y2 y3 y4 y5 z0 z1 z2 z3 z4 z5 q0 q1 q2 q3 q4 q5 p0 p1 p2 p3 p4 p5 v1 v2
            have hs0 := HS9.out
            have HTL := Lib.hid (tlist_any hs0 HT.out.len)
            obtain ⟨nF, hnF⟩ : ∃ z, z = (seatsOf T).length := ⟨_, rfl⟩
            have hnF8 : nF ≤ 8 := by rw [hnF]; exact seats_len8 HT.out.len
            rw [← hnF] at HTL
            have HNF := Lib.hid hnF
            have f0 : (0 : Int) ≤ (nF : Int) := by omega
            have f8 : (nF : Int) ≤ 8 := by omega
            clear hs0 HS9 hnF hnF8
            (try dsimp only); repeat' (first | go_values | go_skip | go_guarded | go_step | go_upon | go_back)
            refine HTL.out.mono ?_
            rintro rL wL ⟨aL, cL, rfl, hL⟩
            have hL2 : Sep w [DocT m (seatsOf T), SsT (.slice aL nF cL) (seatsOf T), TabT t T, DnT (.slice a n c) n D] wL := hL.pick [3, 0, 1, 2] rfl
            obtain ⟨aM, cM, hL3⟩ := hL2.docOpen
            rw [← HNF.out] at hL3
            have g0 := hL3.cell (o := 0) rfl
            have HL3 := Lib.hid hL3
            clear HTL hL hL2 hL3
            (try dsimp only); repeat' (first | go_values | go_skip | go_guarded | go_step | go_upon | go_back)
            refine tail26 HT HNF HL3 g0 f0 f8 ?_ ?_ ?_ ?_
            · exact fun _ _ _ _ _ h => h
            · assumption
            · assumption
            intro y19 y170 y171 y172 y173 y174 y175 y176 y177 y178 y179 y180 y181 y182 y183 y184 y185 y186 y187 y188 y189 y190 y191 y192 y193 y194 y195 y196 y197 y198 y199 y200 y201 y202 y203 y204 y205 y206 y207 y208 y209 y210 y211 y212 y213 y214 y215 y216 y217 w13 h13
            have H13 := Lib.hid h13
            clear h13 HL3 g0
            (try dsimp only); repeat' (first | go_values | go_skip | go_guarded | go_step | go_upon | go_back)
            go_roundw
            case rel => exact ⟨k + 1, n, a, c, T, D, by have := HG.out.1.1; omega, by have := HG.out.1.2; omega, by have := HG.out.2; omega, rfl, by go_num, HT.out, H13.out⟩
            case measure => have := HG.out.1.2; simp [intOf]; omega
      · have d2 : ((kd : Int) == 2) = false := beq_eq_false_iff_ne.2 (by omega)
        have d3 : ((kd : Int) == 3) = false := beq_eq_false_iff_ne.2 (by omega)
        have d4 : ((kd : Int) == 4) = false := beq_eq_false_iff_ne.2 (by omega)
        obtain ⟨T', u, z, hI', hp1, hp2⟩ := put_pair HT.out sc sn so sk sa sb
        have x1 := HS.out.cell (o := 1) rfl
        have x2 := HS.out.cell (o := 2) rfl
        have x3 := HS.out.cell (o := 3) rfl
        have x4 := HS.out.cell (o := 4) rfl
        have x5 := HS.out.cell (o := 5) rfl
        have x6 := HS.out.cell (o := 6) rfl
        have hs6 : Sep w [TabT t T, Cl b7 #[.int .i64 dk, .int .i64 sc, .int .i64 sn, .int .i64 so, .int .i64 sk, .int .i64 sa, .int .i64 sb, .bool wd, .int .i64 wc, .int .i64 wn, .int .i64 wo, .int .i64 wk, .int .i64 wa, .int .i64 wb] 35, DnT (.slice a n c) n D, DocT m (seatsOf T)] _ := HS.out.pick [2, 0, 1, 3] rfl
        have HP1 := Lib.hid (hp1 _ _ _ _ hs6)
        have HP2 := Lib.hid hp2
        have HI2 := Lib.hid hI'
        clear hk01 hp1 hp2 hs6 hkd5 HS hI'
        (try dsimp only); repeat' (first | go_values | go_skip | go_guarded | go_step | go_upon | go_back)
        refine HP1.out.mono ?_
        rintro r0 w6 ⟨rfl, h6⟩
        obtain ⟨ud, uc, un, uo, uk, ua, ub⟩ := u
        unfold swC at HP1 HP2 ⊢
        dsimp only at HP1 HP2 ⊢
        have h7 := h6.alloc (.cells #[.bool ud, .int .i64 uc, .int .i64 un, .int .i64 uo, .int .i64 uk, .int .i64 ua, .int .i64 ub] 33)
        obtain ⟨b14, hb14⟩ : ∃ z, z = w6.heap.size := ⟨_, rfl⟩
        obtain ⟨w7, hw7⟩ : ∃ z, z = w6.alloc (.cells #[.bool ud, .int .i64 uc, .int .i64 un, .int .i64 uo, .int .i64 uk, .int .i64 ua, .int .i64 ub] 33) := ⟨_, rfl⟩
        have h7q : Sep w [DocT m (seatsOf T), Cl w6.heap.size #[.bool ud, .int .i64 uc, .int .i64 un, .int .i64 uo, .int .i64 uk, .int .i64 ua, .int .i64 ub] 33, Cl b7 #[.int .i64 dk, .int .i64 sc, .int .i64 sn, .int .i64 so, .int .i64 sk, .int .i64 sa, .int .i64 sb, .bool wd, .int .i64 wc, .int .i64 wn, .int .i64 wo, .int .i64 wk, .int .i64 wa, .int .i64 wb] 35, DnT (.slice a n c) n D, TabT t T'] _ := h7.pick [4, 0, 2, 3, 1] rfl
        have y1 := (h7.pick [2] rfl : Sep w [Cl b7 _ _] _).cell (o := 1) rfl
        have y2 := (h7.pick [2] rfl : Sep w [Cl b7 _ _] _).cell (o := 2) rfl
        have y3 := (h7.pick [2] rfl : Sep w [Cl b7 _ _] _).cell (o := 3) rfl
        have y4 := (h7.pick [2] rfl : Sep w [Cl b7 _ _] _).cell (o := 4) rfl
        have y5 := (h7.pick [2] rfl : Sep w [Cl b7 _ _] _).cell (o := 5) rfl
        have y6 := (h7.pick [2] rfl : Sep w [Cl b7 _ _] _).cell (o := 6) rfl
        have HP3 := Lib.hid (HP2.out _ _ _ _ h7q)
        clear h6 h7 h7q HP1 HP2 x1 x2 x3 x4 x5 x6
        (try dsimp only); repeat' (first | go_values | go_skip | go_guarded | go_step | go_upon | go_back)
        rw [← hw7, ← hb14]
        rw [← hw7, ← hb14] at HP3
        clear hw7 hb14 y1 y2 y3 y4 y5 y6
        refine HP3.out.mono ?_
        rintro r0 w8 ⟨rfl, h8⟩
        have h9 := h8.alloc (.cells #[.bool ud, .int .i64 uc, .int .i64 un, .int .i64 uo, .int .i64 uk, .int .i64 ua, .int .i64 ub] 33)
        have h9q : Sep w [Cl w8.heap.size #[.bool ud, .int .i64 uc, .int .i64 un, .int .i64 uo, .int .i64 uk, .int .i64 ua, .int .i64 ub] 33, Cl b14 #[.bool ud, .int .i64 uc, .int .i64 un, .int .i64 uo, .int .i64 uk, .int .i64 ua, .int .i64 ub] 33, Cl b7 #[.int .i64 dk, .int .i64 sc, .int .i64 sn, .int .i64 so, .int .i64 sk, .int .i64 sa, .int .i64 sb, .bool wd, .int .i64 wc, .int .i64 wn, .int .i64 wo, .int .i64 wk, .int .i64 wa, .int .i64 wb] 35, DnT (.slice a n c) n D, TabT t T', DocT m (seatsOf T')] _ := h9.pick [0, 2, 3, 4, 5, 1] rfl
        obtain ⟨y0, y1, y2, y3, y4, y5, y6⟩ := cells7z h9q
        obtain ⟨z0, z1, z2, z3, z4, z5, z6⟩ := cells7z h9q.sw2
        have q1 := h9q.sw3.cell (o := 1) rfl
        have H9 := Lib.hid h9q
        clear h8 h9 h9q HP3
        by_cases hz : z = 0
        · subst hz
          have h10 := H9.out.alloc (.cells #[.int .i64 sc, .bool ud, .int .i64 uc, .int .i64 un, .int .i64 uo, .int .i64 uk, .int .i64 ua, .int .i64 ub] 40)
          have h10q : Sep w [Cl _ #[.int .i64 sc, .bool ud, .int .i64 uc, .int .i64 un, .int .i64 uo, .int .i64 uk, .int .i64 ua, .int .i64 ub] 40, DnT (.slice a n c) n D, TabT t T', DocT m (seatsOf T')] _ := h10.pick [0, 4, 5, 6] rfl
          obtain ⟨a11, c11, w11, hr11, h11⟩ := append_done (ty := 27) sc ⟨ud, uc, un, uo, uk, ua, ub⟩ h10q (by have := HG.out; omega)
          obtain ⟨n2, hn2⟩ : ∃ z, z = n + 1 := ⟨_, rfl⟩
          rw [← hn2] at hr11 h11
          have HR11 := Lib.hid hr11
          have H11 := Lib.hid h11
          have HN2 := Lib.hid hn2
          clear h10 h10q hr11 h11 hn2 H9
          (try dsimp only); repeat' (first | (at_builtin; refine stop ?_) | (refine wpList_buildDn rfl _ rfl rfl ?_) | go_values | go_skip | go_guarded | go_step | go_upon | go_back)
          unfold Stop
          refine wpList_append_run rfl _ _ _ _ rfl rfl rfl HR11.out ?_
          clear HR11 y0 y1 y2 y3 y4 y5 y6 z0 z1 z2 z3 z4 z5 z6 q1
          have hs8 : Sep w [TabT t T', DnT (.slice a11 n2 c11) n2 (D ++ [(sc, ⟨ud, uc, un, uo, uk, ua, ub⟩)]), DocT m (seatsOf T')] _ := H11.out.pick [1, 0, 2] rfl
          have HS8 := Lib.hid hs8
          clear hs8 H11
          have hs0 := HS8.out
          have HTL := Lib.hid (tlist_any hs0 HI2.out.len)
          obtain ⟨nF, hnF⟩ : ∃ z, z = (seatsOf T').length := ⟨_, rfl⟩
          have hnF8 : nF ≤ 8 := by rw [hnF]; exact seats_len8 HI2.out.len
          rw [← hnF] at HTL
          have HNF := Lib.hid hnF
          have f0 : (0 : Int) ≤ (nF : Int) := by omega
          have f8 : (nF : Int) ≤ 8 := by omega
          clear hs0 HS8 hnF hnF8
          (try dsimp only); repeat' (first | go_values | go_skip | go_guarded | go_step | go_upon | go_back)
          refine HTL.out.mono ?_
          rintro rL wL ⟨aL, cL, rfl, hL⟩
          have hL2 : Sep w [DocT m (seatsOf T'), SsT (.slice aL nF cL) (seatsOf T'), TabT t T', DnT (.slice a11 n2 c11) n2 (D ++ [(sc, ⟨ud, uc, un, uo, uk, ua, ub⟩)])] wL := hL.pick [3, 0, 1, 2] rfl
          obtain ⟨aM, cM, hL3⟩ := hL2.docOpen
          rw [← HNF.out] at hL3
          have g0 := hL3.cell (o := 0) rfl
          have HL3 := Lib.hid hL3
          clear HTL hL hL2 hL3
          (try dsimp only); repeat' (first | go_values | go_skip | go_guarded | go_step | go_upon | go_back)
          refine tail26 HI2 HNF HL3 g0 f0 f8 ?_ ?_ ?_ ?_
          · exact fun _ _ _ _ _ h => h
          · assumption
          · assumption
          intro y19 y170 y171 y172 y173 y174 y175 y176 y177 y178 y179 y180 y181 y182 y183 y184 y185 y186 y187 y188 y189 y190 y191 y192 y193 y194 y195 y196 y197 y198 y199 y200 y201 y202 y203 y204 y205 y206 y207 y208 y209 y210 y211 y212 y213 y214 y215 y216 y217 w13 h13
          have H13 := Lib.hid h13
          clear h13 HL3 g0
          (try dsimp only); repeat' (first | go_values | go_skip | go_guarded | go_step | go_upon | go_back)
          go_roundw
          case rel => exact ⟨k + 1, n2, a11, c11, T', (D ++ [(sc, ⟨ud, uc, un, uo, uk, ua, ub⟩)]), by have := HG.out.1.1; omega, by have := HG.out.1.2; omega, by have := HG.out.2; have := HN2.out; omega, rfl, by go_num, HI2.out, H13.out⟩
          case measure => have := HG.out.1.2; simp [intOf]; omega
        · have ez : (z == 0) = false := beq_eq_false_iff_ne.2 hz
          have hs8 : Sep w [TabT t T', DnT (.slice a n c) n D, DocT m (seatsOf T')] _ := H9.out.pick [4, 3, 5] rfl
          have HS8 := Lib.hid hs8
          clear hs8 H9 hz
          have hs0 := HS8.out
          have HTL := Lib.hid (tlist_any hs0 HI2.out.len)
          obtain ⟨nF, hnF⟩ : ∃ z, z = (seatsOf T').length := ⟨_, rfl⟩
          have hnF8 : nF ≤ 8 := by rw [hnF]; exact seats_len8 HI2.out.len
          rw [← hnF] at HTL
          have HNF := Lib.hid hnF
          have f0 : (0 : Int) ≤ (nF : Int) := by omega
          have f8 : (nF : Int) ≤ 8 := by omega
          clear hs0 HS8 hnF hnF8
          (try dsimp only); repeat' (first | go_values | go_skip | go_guarded | go_step | go_upon | go_back)
          refine HTL.out.mono ?_
          rintro rL wL ⟨aL, cL, rfl, hL⟩
          have hL2 : Sep w [DocT m (seatsOf T'), SsT (.slice aL nF cL) (seatsOf T'), TabT t T', DnT (.slice a n c) n D] wL := hL.pick [3, 0, 1, 2] rfl
          obtain ⟨aM, cM, hL3⟩ := hL2.docOpen
          rw [← HNF.out] at hL3
          have g0 := hL3.cell (o := 0) rfl
          have HL3 := Lib.hid hL3
          clear HTL hL hL2 hL3
          (try dsimp only); repeat' (first | go_values | go_skip | go_guarded | go_step | go_upon | go_back)
          refine tail26 HI2 HNF HL3 g0 f0 f8 ?_ ?_ ?_ ?_
          · exact fun _ _ _ _ _ h => h
          · assumption
          · assumption
          intro y19 y170 y171 y172 y173 y174 y175 y176 y177 y178 y179 y180 y181 y182 y183 y184 y185 y186 y187 y188 y189 y190 y191 y192 y193 y194 y195 y196 y197 y198 y199 y200 y201 y202 y203 y204 y205 y206 y207 y208 y209 y210 y211 y212 y213 y214 y215 y216 y217 w13 h13
          have H13 := Lib.hid h13
          clear h13 HL3 g0
          (try dsimp only); repeat' (first | go_values | go_skip | go_guarded | go_step | go_upon | go_back)
          go_roundw
          case rel => exact ⟨k + 1, n, a, c, T', D, by have := HG.out.1.1; omega, by have := HG.out.1.2; omega, by have := HG.out.2; omega, rfl, by go_num, HI2.out, H13.out⟩
          case measure => have := HG.out.1.2; simp [intOf]; omega
    · have HW := Lib.hid (works10_any hs)
      clear hs hT
      by_cases hkx : k < len
      · have d0 : decide (k < len) = true := decide_eq_true hkx
        have d1 : decide ((k : Int) < 80) = false := decide_eq_false (by omega)
        clear hgo hkl hk80 hkx
        (try dsimp only); repeat' (first | go_values | go_skip | go_guarded | go_step | go_upon | go_back)
        refine HW.out.mono ?_
        rintro r0 w4 ⟨rfl, h4⟩
        have H4 := Lib.hid h4.low
        clear HW h4
        (try dsimp only); repeat' (first | go_values | go_skip | go_guarded | go_step | go_upon | go_back)
        go_ret
        exact ⟨rfl, H4.out⟩
      · have d0 : decide (k < len) = false := decide_eq_false hkx
        clear hgo hkl hk80 hkx
        (try dsimp only); repeat' (first | go_values | go_skip | go_guarded | go_step | go_upon | go_back)
        refine HW.out.mono ?_
        rintro r0 w4 ⟨rfl, h4⟩
        have H4 := Lib.hid h4.low
        clear HW h4
        (try dsimp only); repeat' (first | go_values | go_skip | go_guarded | go_step | go_upon | go_back)
        go_ret
        exact ⟨rfl, H4.out⟩
end Go.Proofs.Ytjjjkfdppleagaa
