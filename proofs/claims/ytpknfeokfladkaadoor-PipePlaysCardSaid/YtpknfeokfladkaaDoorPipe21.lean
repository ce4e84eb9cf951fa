/- The statement's own (stage 12): cut. -/
import Derived.Test.YtpknfeokfladkaaDoorPipe20
namespace Go.Proofs.YtpknfeokfladkaaDoor
open Go.RowKit
set_option linter.unusedVariables false
set_option linter.unusedSimpArgs false
theorem store11 {w0 w : World} {b : Nat} {v0 v1 v2 v3 v4 v5 v6 v7 v8 v9 v10 u0 u1 u2 u3 u4 u5 u6 u7 u8 u9 u10 : Value} {t : TypeId} {L : List Thing} (h : Sep w0 (Cl b #[v0, v1, v2, v3, v4, v5, v6, v7, v8, v9, v10] t :: L) w) : Sep w0 (Cl b #[u0, u1, u2, u3, u4, u5, u6, u7, u8, u9, u10] t :: L) (((((((((((w.setCell ⟨b, 0, none⟩ u0).setCell ⟨b, 1, none⟩ u1).setCell ⟨b, 2, none⟩ u2).setCell ⟨b, 3, none⟩ u3).setCell ⟨b, 4, none⟩ u4).setCell ⟨b, 5, none⟩ u5).setCell ⟨b, 6, none⟩ u6).setCell ⟨b, 7, none⟩ u7).setCell ⟨b, 8, none⟩ u8).setCell ⟨b, 9, none⟩ u9).setCell ⟨b, 10, none⟩ u10) := by
  have h0 := h.set7 (o := 0) (u := u0) (ys := #[u0, v1, v2, v3, v4, v5, v6, v7, v8, v9, v10]) rfl
  have h1 := h0.set7 (o := 1) (u := u1) (ys := #[u0, u1, v2, v3, v4, v5, v6, v7, v8, v9, v10]) rfl
  have h2 := h1.set7 (o := 2) (u := u2) (ys := #[u0, u1, u2, v3, v4, v5, v6, v7, v8, v9, v10]) rfl
  have h3 := h2.set7 (o := 3) (u := u3) (ys := #[u0, u1, u2, u3, v4, v5, v6, v7, v8, v9, v10]) rfl
  have h4 := h3.set7 (o := 4) (u := u4) (ys := #[u0, u1, u2, u3, u4, v5, v6, v7, v8, v9, v10]) rfl
  have h5 := h4.set7 (o := 5) (u := u5) (ys := #[u0, u1, u2, u3, u4, u5, v6, v7, v8, v9, v10]) rfl
  have h6 := h5.set7 (o := 6) (u := u6) (ys := #[u0, u1, u2, u3, u4, u5, u6, v7, v8, v9, v10]) rfl
  have h7 := h6.set7 (o := 7) (u := u7) (ys := #[u0, u1, u2, u3, u4, u5, u6, u7, v8, v9, v10]) rfl
  have h8 := h7.set7 (o := 8) (u := u8) (ys := #[u0, u1, u2, u3, u4, u5, u6, u7, u8, v9, v10]) rfl
  have h9 := h8.set7 (o := 9) (u := u9) (ys := #[u0, u1, u2, u3, u4, u5, u6, u7, u8, u9, v10]) rfl
  exact h9.set7 (o := 10) (u := u10) (ys := #[u0, u1, u2, u3, u4, u5, u6, u7, u8, u9, u10]) rfl
set_option maxRecDepth 100000 in
set_option maxHeartbeats 32000000 in
theorem cut12 {w0 w : World} {L : List Thing} (K A : Int) (R : Bool) (x : EnM) (xv lv : Value) (xs : List (EnM × Value)) (h : Sep w0 L w) (hx : ∀ wx, Below w0.heap.size w0 wx → LnS wx xv x.p.ls) (hl : ∀ wx, Below w0.heap.size w0 wx → EnS wx lv xs) :
    Calls Tryd.prog 11 #[.agg #[.int .i64 K, .int .i64 A, .bool R, .int .i64 x.c, .int .i64 x.m, .int .i64 x.p.k, .string x.p.s.1, .int .i64 x.p.o, .int .i64 x.p.n, xv, lv]] w fun e w' => ∃ (v' u : Value), e = .returned (.agg #[.int .i64 K, .int .i64 A, .bool R, .int .i64 x.c, .int .i64 x.m, .int .i64 x.p.k, .string x.p.s.1, .int .i64 x.p.o, .int .i64 x.p.n, v', u]) ∧ (∀ wx, Below w0.heap.size w0 wx → LnS wx v' (x.p.ls.take 6)) ∧ ∃ ys : List (EnM × Value), ys.length ≤ 30 ∧ (∀ q ∈ ys, ∀ wx, Below w0.heap.size w0 wx → LnS wx q.2 q.1.p.ls) ∧ (∀ q ∈ ys, q.1.p.ls.length ≤ 6) ∧ Sep w0 (EnR u ys :: L) w' := by
  obtain ⟨la, lc, rfl⟩ := (hx _ h.low).len
  obtain ⟨ea, ec, rfl⟩ := (hl _ h.low).len
  obtain ⟨m, hm1, hm2, hm3, hm4⟩ := min_len x.p.ls.length 6
  rw [show ((6 : Nat) : Int) = 6 from rfl] at hm3
  have hcut := lns_cut (a' := la) (m := m) (hx _ h.low) rfl hm1 (by cases la <;> simp [Addr.add])
  have HX := Lib.hid hx
  have HL := Lib.hid hl
  have m0 : (0 : Int) ≤ (m : Int) := by omega
  have m1 : (m : Int) ≤ (lc : Int) := by have := hcut.2; omega
  have h1 := (h.alloc (.cells #[.int .i64 K, .int .i64 A, .bool R, .int .i64 x.c, .int .i64 x.m, .int .i64 x.p.k, .string x.p.s.1, .int .i64 x.p.o, .int .i64 x.p.n, (.slice la x.p.ls.length lc), (.slice ea xs.length ec)] 37)).alloc (.cells #[.int .i64 0, .int .i64 0, .bool false, .int .i64 0, .int .i64 0, .int .i64 0, .string ⟨#[]⟩, .int .i64 0, .int .i64 0, .slice none 0 0, .slice none 0 0] 37)
  rw [show (w.alloc (.cells #[.int .i64 K, .int .i64 A, .bool R, .int .i64 x.c, .int .i64 x.m, .int .i64 x.p.k, .string x.p.s.1, .int .i64 x.p.o, .int .i64 x.p.n, (.slice la x.p.ls.length lc), (.slice ea xs.length ec)] 37)).heap.size = w.heap.size + 1 by simp] at h1
  have c0 := h1.sw2.cell (o := 9) rfl
  have c1 := h1.sw2.cell (o := 10) rfl
  have f0 : ((w.alloc (.cells #[.int .i64 K, .int .i64 A, .bool R, .int .i64 x.c, .int .i64 x.m, .int .i64 x.p.k, .string x.p.s.1, .int .i64 x.p.o, .int .i64 x.p.n, (.slice la x.p.ls.length lc), (.slice ea xs.length ec)] 37)).alloc (.cells #[.int .i64 0, .int .i64 0, .bool false, .int .i64 0, .int .i64 0, .int .i64 0, .string ⟨#[]⟩, .int .i64 0, .int .i64 0, .slice none 0 0, .slice none 0 0] 37)).frozen? ⟨w.heap.size, 9, none⟩ = false := by unfold World.frozen?; rw [h1.sw2.blk]; simp
  have h2 := (h.alloc (.cells #[.int .i64 K, .int .i64 A, .bool R, .int .i64 x.c, .int .i64 x.m, .int .i64 x.p.k, .string x.p.s.1, .int .i64 x.p.o, .int .i64 x.p.n, (.slice la m lc), (.slice ea xs.length ec)] 37)).alloc (.cells #[.int .i64 0, .int .i64 0, .bool false, .int .i64 0, .int .i64 0, .int .i64 0, .string ⟨#[]⟩, .int .i64 0, .int .i64 0, .slice none 0 0, .slice none 0 0] 37)
  rw [show (w.alloc (.cells #[.int .i64 K, .int .i64 A, .bool R, .int .i64 x.c, .int .i64 x.m, .int .i64 x.p.k, .string x.p.s.1, .int .i64 x.p.o, .int .i64 x.p.n, (.slice la m lc), (.slice ea xs.length ec)] 37)).heap.size = w.heap.size + 1 by simp] at h2
  have H2 := Lib.hid (Sep.enRNil h2.sw2)
  have HM := Lib.hid (And.intro hm1 (And.intro hm2 hm4))
  clear h h1 h2 hx hl hcut hm1 hm2 hm4
  go_enter Tryd.func11, Tryd.ntmps11
  (try dsimp only); repeat' (first | go_values | go_skip | go_guarded | go_step | go_upon | go_back)
  obtain ⟨b1, hb1⟩ : ∃ z, z = w.heap.size := ⟨_, rfl⟩
  obtain ⟨b2, hb2⟩ : ∃ z, z = w.heap.size + 1 := ⟨_, rfl⟩
  rw [← hb2, ← hb1] at H2
  rw [← hb2, ← hb1]
  clear c0 c1 f0 hb1 hb2
  go_loopw [3, 4] (fun pv i wr => ∃ (k : Nat) (a : Option Addr) (c : Nat) (ys : List (EnM × Value)), k ≤ xs.length ∧ k ≤ 30 ∧ pv = .slice a k c ∧ i = .int .i64 k ∧ ys.length = k ∧ (∀ q ∈ ys, ∀ wx, Below w0.heap.size w0 wx → LnS wx q.2 q.1.p.ls) ∧ (∀ q ∈ ys, q.1.p.ls.length ≤ 6) ∧ Sep w0 (EnR (.slice a k c) ys :: Cl b1 #[.int .i64 K, .int .i64 A, .bool R, .int .i64 x.c, .int .i64 x.m, .int .i64 x.p.k, .string x.p.s.1, .int .i64 x.p.o, .int .i64 x.p.n, (.slice la m lc), (.slice ea xs.length ec)] 37 :: Cl b2 #[.int .i64 0, .int .i64 0, .bool false, .int .i64 0, .int .i64 0, .int .i64 0, .string ⟨#[]⟩, .int .i64 0, .int .i64 0, .slice none 0 0, .slice none 0 0] 37 :: L) wr) (fun _ i _ => 30 - (intOf i).toNat)
  case atStart => exact ⟨0, none, 0, [], Nat.zero_le _, by omega, rfl, rfl, rfl, by simp, by simp, H2.out⟩
  case round =>
    obtain ⟨k, a, c, ys, hkx, hk30, rfl, rfl, hyl, hyr, hy6, hs⟩ := hrel
    clear H2
    have k0 : (0 : Int) ≤ (k : Int) := by omega
    have k30 : (k : Int) ≤ 30 := by omega
    have c1 := hs.sw2.cell (o := 10) rfl
    have HY := Lib.hid (And.intro hyl (And.intro hyr hy6))
    by_cases hgo : k < xs.length ∧ k < 30
    · have d0 : decide (k < xs.length) = true := decide_eq_true hgo.1
      have d1 : decide ((k : Int) < 30) = true := decide_eq_true (by omega)
      have k1 : (k : Int) < (xs.length : Int) := by omega
      obtain ⟨bx, off, rfl, -, -, -, ⟨e0, e1, e2, e3, e4, e5, e6⟩, hln⟩ := (HL.out _ hs.drop.drop.drop.low).at hgo.1
      have hrd : ∀ wx, Below w0.heap.size w0 wx → LnS wx (xs[k]'hgo.1).2 (xs[k]'hgo.1).1.p.ls := fun wx hw => by
        obtain ⟨bx', off', -, -, -, -, -, h9⟩ := (HL.out _ hw).at hgo.1
        exact h9
      generalize (xs[k]'hgo.1) = q at e0 e1 e2 e3 e4 e5 e6 hln hrd
      obtain ⟨y, yv⟩ := q
      dsimp only at e0 e1 e2 e3 e4 e5 e6 hln hrd
      obtain ⟨ya, yc, rfl⟩ := hln.len
      obtain ⟨n, hn1, hn2, hn3, hn4⟩ := min_len y.p.ls.length 6
      rw [show ((6 : Nat) : Int) = 6 from rfl] at hn3
      have hcy := lns_cut (a' := ya) (m := n) hln rfl hn1 (by cases ya <;> simp [Addr.add])
      have t0 : (0 : Int) ≤ (n : Int) := by omega
      have t1 : (n : Int) ≤ (yc : Int) := by have := hcy.2; omega
      have HRD : Hid (∀ wx, Below w0.heap.size w0 wx → LnS wx (.slice ya n yc) (y.p.ls.take n)) := Lib.hid (fun wx hw => (lns_cut (a' := ya) (m := n) (hrd wx hw) rfl hn1 (by cases ya <;> simp [Addr.add])).1)
      have h0 := hs.alloc (.cells (enC y (.slice ya y.p.ls.length yc)) 34)
      have z6 : (wr.alloc (.cells (enC y (.slice ya y.p.ls.length yc)) 34)).cell? ⟨wr.heap.size, 6, none⟩ = some (.slice ya y.p.ls.length yc) := h0.cell (o := 6) rfl
      have fz : (wr.alloc (.cells (enC y (.slice ya y.p.ls.length yc)) 34)).frozen? ⟨wr.heap.size, 6, none⟩ = false := by unfold World.frozen?; rw [h0.blk]; simp
      obtain ⟨y2, hy2⟩ : ∃ z : EnM, z = ⟨y.c, y.m, ⟨y.p.k, y.p.s, y.p.o, y.p.n, y.p.ls.take n⟩⟩ := ⟨_, rfl⟩
      have h3 := hs.alloc (.cells (enC y (.slice ya n yc)) 34)
      obtain ⟨v0, v1, v2, v3, v4, v5, v6⟩ := cells7 h3
      have h4 := h3.alloc (.cells (enC y2 (.slice ya n yc)) 34)
      rw [show (wr.alloc (.cells (enC y (.slice ya n yc)) 34)).heap.size = wr.heap.size + 1 by simp] at h4
      obtain ⟨a2, c2, w8, hr, h8⟩ := append_enR (ty := 35) (h4.pickL (M := [_, _, _, _, _]) [0, 2, 3, 4] rfl : Sep w0 (Cl (wr.heap.size + 1) (enC y2 (.slice ya n yc)) 34 :: EnR (.slice a k c) ys :: _ :: _ :: L) _) rfl (by rw [hyl]; omega)
      rw [hyl] at hr h8
      rw [hy2] at hr
      simp only [enC] at z6
      unfold enC at hr fz h3 v0 v1 v2 v3 v4 v5 v6
      dsimp only at hr
      have HAP := Lib.hid hr
      have H8 := Lib.hid h8
      have HY2 := Lib.hid (And.intro hy2 (And.intro hgo hn2))
      clear hs hln hrd hcy h0 h3 h4 hr h8 hy2 hgo hyl hyr hy6 hkx hk30 hn1 hn2 hn4
      go_wp2_with (at_builtin; refine wpList_append_run rfl _ _ _ _ rfl rfl rfl HAP.out ?_)
      go_roundw
      case rel =>
        refine ⟨k + 1, a2, c2, ys ++ [(y2, .slice ya n yc)], HY2.out.2.1.1, HY2.out.2.1.2, rfl, by go_num, by rw [List.length_append, HY.out.1, List.length_singleton], fun q hq => ?_, fun q hq => ?_, H8.out⟩
        · rcases List.mem_append.1 hq with hq | hq
          · exact HY.out.2.1 q hq
          · rw [List.mem_singleton.1 hq, HY2.out.1]; exact HRD.out
        · rcases List.mem_append.1 hq with hq | hq
          · exact HY.out.2.2 q hq
          · rw [List.mem_singleton.1 hq, HY2.out.1]
            show (y.p.ls.take n).length ≤ 6
            rw [List.length_take]; have := HY2.out.2.2; omega
      case measure => have := HY2.out.2.1.2; simp [intOf]; omega
    · have HYL := Lib.hid hyl
      by_cases hkl : k < xs.length
      · have d0 : decide (k < xs.length) = true := decide_eq_true hkl
        have d1 : decide ((k : Int) < 30) = false := decide_eq_false (by omega)
        clear hkl
        have h1 := hs.sw2.set7 (o := 10) (u := .slice a k c) (ys := #[.int .i64 K, .int .i64 A, .bool R, .int .i64 x.c, .int .i64 x.m, .int .i64 x.p.k, .string x.p.s.1, .int .i64 x.p.o, .int .i64 x.p.n, (.slice la m lc), (.slice a k c)]) rfl
        have fr : ∀ (g : Nat) (xs' : Array Value) (M : List Thing) (wz : World) (o : Nat), Sep w0 (Cl g xs' 37 :: M) wz → wz.frozen? ⟨g, o, none⟩ = false := fun g xs' M wz o hz => by unfold World.frozen?; rw [hz.blk]; simp
        have c1 := hs.sw2.cell (o := 10) rfl
        have f10 := fr _ _ _ _ 10 hs.sw2
        have x0 := h1.cell (o := 0) rfl
        have x1 := h1.cell (o := 1) rfl
        have x2 := h1.cell (o := 2) rfl
        have x3 := h1.cell (o := 3) rfl
        have x4 := h1.cell (o := 4) rfl
        have x5 := h1.cell (o := 5) rfl
        have x6 := h1.cell (o := 6) rfl
        have x7 := h1.cell (o := 7) rfl
        have x8 := h1.cell (o := 8) rfl
        have x9 := h1.cell (o := 9) rfl
        have x10 := h1.cell (o := 10) rfl
        have z0 := h1.sw3.cell (o := 0) rfl
        have g0 := fr _ _ _ _ 0 h1.sw3
        have z1 := h1.sw3.cell (o := 1) rfl
        have g1 := fr _ _ _ _ 1 h1.sw3
        have z2 := h1.sw3.cell (o := 2) rfl
        have g2 := fr _ _ _ _ 2 h1.sw3
        have z3 := h1.sw3.cell (o := 3) rfl
        have g3 := fr _ _ _ _ 3 h1.sw3
        have z4 := h1.sw3.cell (o := 4) rfl
        have g4 := fr _ _ _ _ 4 h1.sw3
        have z5 := h1.sw3.cell (o := 5) rfl
        have g5 := fr _ _ _ _ 5 h1.sw3
        have z6 := h1.sw3.cell (o := 6) rfl
        have g6 := fr _ _ _ _ 6 h1.sw3
        have z7 := h1.sw3.cell (o := 7) rfl
        have g7 := fr _ _ _ _ 7 h1.sw3
        have z8 := h1.sw3.cell (o := 8) rfl
        have g8 := fr _ _ _ _ 8 h1.sw3
        have z9 := h1.sw3.cell (o := 9) rfl
        have g9 := fr _ _ _ _ 9 h1.sw3
        have z10 := h1.sw3.cell (o := 10) rfl
        have g10 := fr _ _ _ _ 10 h1.sw3
        have h3 := store11 (u0 := (.int .i64 K)) (u1 := (.int .i64 A)) (u2 := (.bool R)) (u3 := (.int .i64 x.c)) (u4 := (.int .i64 x.m)) (u5 := (.int .i64 x.p.k)) (u6 := (.string x.p.s.1)) (u7 := (.int .i64 x.p.o)) (u8 := (.int .i64 x.p.n)) (u9 := (.slice la m lc)) (u10 := (.slice a k c)) h1.sw3
        have y0 := h3.cell (o := 0) rfl
        have y1 := h3.cell (o := 1) rfl
        have y2 := h3.cell (o := 2) rfl
        have y3 := h3.cell (o := 3) rfl
        have y4 := h3.cell (o := 4) rfl
        have y5 := h3.cell (o := 5) rfl
        have y6 := h3.cell (o := 6) rfl
        have y7 := h3.cell (o := 7) rfl
        have y8 := h3.cell (o := 8) rfl
        have y9 := h3.cell (o := 9) rfl
        have y10 := h3.cell (o := 10) rfl
        have hls : ∀ wx, Below w0.heap.size w0 wx → LnS wx (.slice la m lc) (x.p.ls.take 6) := fun wx hw => by
          have h9 := (lns_cut (a' := la) (m := m) (HX.out wx hw) rfl HM.out.1 (by cases la <;> simp [Addr.add])).1
          rcases HM.out.2.2 with h8 | h8
          · rw [h8, List.take_of_length_le (Nat.le_refl _)] at h9
            rw [h8, List.take_of_length_le (by have := HM.out.2.1; omega)]; exact h9
          · rw [h8] at h9 ⊢; exact h9
        have HF := Lib.hid (And.intro hls (And.intro hk30 (And.intro hyl h3.drop.drop)))
        clear hs h1 h3 fr hls hyl hyr hy6 hgo hkx hk30
        (try dsimp only); repeat' (first | go_values | go_skip | go_guarded | go_step | go_upon | go_back)
        exact bodyPost_ret (v := .agg #[.int .i64 K, .int .i64 A, .bool R, .int .i64 x.c, .int .i64 x.m, .int .i64 x.p.k, .string x.p.s.1, .int .i64 x.p.o, .int .i64 x.p.n, (.slice la m lc), (.slice a k c)]) (by simp [results, Tryd.results11, go_sem, y0, y1, y2, y3, y4, y5, y6, y7, y8, y9, y10]) rfl ⟨_, _, rfl, HF.out.1, ys, by rw [HF.out.2.2.1]; exact HF.out.2.1, HY.out.2.1, HY.out.2.2, HF.out.2.2.2⟩
      · have d0 : decide (k < xs.length) = false := decide_eq_false hkl
        clear hkl
        have h1 := hs.sw2.set7 (o := 10) (u := .slice a k c) (ys := #[.int .i64 K, .int .i64 A, .bool R, .int .i64 x.c, .int .i64 x.m, .int .i64 x.p.k, .string x.p.s.1, .int .i64 x.p.o, .int .i64 x.p.n, (.slice la m lc), (.slice a k c)]) rfl
        have fr : ∀ (g : Nat) (xs' : Array Value) (M : List Thing) (wz : World) (o : Nat), Sep w0 (Cl g xs' 37 :: M) wz → wz.frozen? ⟨g, o, none⟩ = false := fun g xs' M wz o hz => by unfold World.frozen?; rw [hz.blk]; simp
        have c1 := hs.sw2.cell (o := 10) rfl
        have f10 := fr _ _ _ _ 10 hs.sw2
        have x0 := h1.cell (o := 0) rfl
        have x1 := h1.cell (o := 1) rfl
        have x2 := h1.cell (o := 2) rfl
        have x3 := h1.cell (o := 3) rfl
        have x4 := h1.cell (o := 4) rfl
        have x5 := h1.cell (o := 5) rfl
        have x6 := h1.cell (o := 6) rfl
        have x7 := h1.cell (o := 7) rfl
        have x8 := h1.cell (o := 8) rfl
        have x9 := h1.cell (o := 9) rfl
        have x10 := h1.cell (o := 10) rfl
        have z0 := h1.sw3.cell (o := 0) rfl
        have g0 := fr _ _ _ _ 0 h1.sw3
        have z1 := h1.sw3.cell (o := 1) rfl
        have g1 := fr _ _ _ _ 1 h1.sw3
        have z2 := h1.sw3.cell (o := 2) rfl
        have g2 := fr _ _ _ _ 2 h1.sw3
        have z3 := h1.sw3.cell (o := 3) rfl
        have g3 := fr _ _ _ _ 3 h1.sw3
        have z4 := h1.sw3.cell (o := 4) rfl
        have g4 := fr _ _ _ _ 4 h1.sw3
        have z5 := h1.sw3.cell (o := 5) rfl
        have g5 := fr _ _ _ _ 5 h1.sw3
        have z6 := h1.sw3.cell (o := 6) rfl
        have g6 := fr _ _ _ _ 6 h1.sw3
        have z7 := h1.sw3.cell (o := 7) rfl
        have g7 := fr _ _ _ _ 7 h1.sw3
        have z8 := h1.sw3.cell (o := 8) rfl
        have g8 := fr _ _ _ _ 8 h1.sw3
        have z9 := h1.sw3.cell (o := 9) rfl
        have g9 := fr _ _ _ _ 9 h1.sw3
        have z10 := h1.sw3.cell (o := 10) rfl
        have g10 := fr _ _ _ _ 10 h1.sw3
        have h3 := store11 (u0 := (.int .i64 K)) (u1 := (.int .i64 A)) (u2 := (.bool R)) (u3 := (.int .i64 x.c)) (u4 := (.int .i64 x.m)) (u5 := (.int .i64 x.p.k)) (u6 := (.string x.p.s.1)) (u7 := (.int .i64 x.p.o)) (u8 := (.int .i64 x.p.n)) (u9 := (.slice la m lc)) (u10 := (.slice a k c)) h1.sw3
        have y0 := h3.cell (o := 0) rfl
        have y1 := h3.cell (o := 1) rfl
        have y2 := h3.cell (o := 2) rfl
        have y3 := h3.cell (o := 3) rfl
        have y4 := h3.cell (o := 4) rfl
        have y5 := h3.cell (o := 5) rfl
        have y6 := h3.cell (o := 6) rfl
        have y7 := h3.cell (o := 7) rfl
        have y8 := h3.cell (o := 8) rfl
        have y9 := h3.cell (o := 9) rfl
        have y10 := h3.cell (o := 10) rfl
        have hls : ∀ wx, Below w0.heap.size w0 wx → LnS wx (.slice la m lc) (x.p.ls.take 6) := fun wx hw => by
          have h9 := (lns_cut (a' := la) (m := m) (HX.out wx hw) rfl HM.out.1 (by cases la <;> simp [Addr.add])).1
          rcases HM.out.2.2 with h8 | h8
          · rw [h8, List.take_of_length_le (Nat.le_refl _)] at h9
            rw [h8, List.take_of_length_le (by have := HM.out.2.1; omega)]; exact h9
          · rw [h8] at h9 ⊢; exact h9
        have HF := Lib.hid (And.intro hls (And.intro hk30 (And.intro hyl h3.drop.drop)))
        clear hs h1 h3 fr hls hyl hyr hy6 hgo hkx hk30
        (try dsimp only); repeat' (first | go_values | go_skip | go_guarded | go_step | go_upon | go_back)
        exact bodyPost_ret (v := .agg #[.int .i64 K, .int .i64 A, .bool R, .int .i64 x.c, .int .i64 x.m, .int .i64 x.p.k, .string x.p.s.1, .int .i64 x.p.o, .int .i64 x.p.n, (.slice la m lc), (.slice a k c)]) (by simp [results, Tryd.results11, go_sem, y0, y1, y2, y3, y4, y5, y6, y7, y8, y9, y10]) rfl ⟨_, _, rfl, HF.out.1, ys, by rw [HF.out.2.2.1]; exact HF.out.2.1, HY.out.2.1, HY.out.2.2, HF.out.2.2.2⟩
end Go.Proofs.YtpknfeokfladkaaDoor
