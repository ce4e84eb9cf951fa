/- Copy of entries whose lines are as many as memory bears. -/
import Derived.Test.YtcnbmeiielkigaaGreatDoorMZ21
import Derived.Test.YtcnbmeiielkigaaGreatDoorMZ24
namespace Go.Proofs.YtcnbmeiielkigaaGreatDoor
open Go Go.RowKit
set_option linter.unusedVariables false
set_option linter.unusedSimpArgs false
theorem infoLn24 : (Tryz.prog.info? 68).map (fun i => (i.size, decide (i.bytes ≤ 24), i.zero.map (fun z => z.cells.size))) = some (2, true, some 2) := by kernel_rfl
/-- 'append' of lines that are read. -/
theorem append_lnB {w0 w : World} {v x : Value} {ls ms : List Ln} {L : List Thing} (ty : TypeId) (h : Sep w0 (LnR v ls :: L) w) (hx : LnS w x ms) (hlen : ls.length + ms.length ≤ 5864062014805) :
  ∃ v' w', (Builtin.append_ #[28, 28] ty #[v, x]).run Tryz.prog w = .ok v' w' ∧ Sep w0 (LnR v' (ls ++ ms) :: L) w' ∧ (v' = .slice none 0 0 → v = .slice none 0 0) := by
 obtain ⟨i, hi, he⟩ := Option.map_eq_some_iff.1 infoLn24
 simp only [Prod.mk.injEq, decide_eq_true_eq] at he
 obtain ⟨z, hz, hz2⟩ := Option.map_eq_some_iff.1 he.2.2
 have hown := h.rn
 have hm : ls.length + ms.length ≤ maxLen := by unfold maxLen; omega
 have hbb : (ls.length + ms.length) * i.bytes ≤ 140737488355328 := by
  calc (ls.length + ms.length) * i.bytes ≤ 5864062014805 * 24 := Nat.mul_le_mul hlen he.2.1
   _ ≤ 140737488355328 := by omega
 unfold LnR
 rw [lnCells_app, List.length_append]
 rcases hx with ⟨a, c, rfl, _, rfl⟩ | ⟨b, off, c, rfl, h1, h2, h3, h4⟩
 ·cases a with
  | none =>
   refine ⟨v, w, run_append_owned_none (P := Tryz.prog) w w0.heap.size _ ty 68 i 2 Tryz.underlying28 hi v _ _ hown, by rw [show lnCells ([] : List Ln) = [] from rfl, List.append_nil]; exact h, id⟩
  | some x =>
   obtain ⟨v', w', hr, ho, hg, hn, hat⟩ := run_append_own_at (P := Tryz.prog) w w0.heap.size _ ty 68 i z 2 i.bytes Tryz.underlying28 hi hz he.1 rfl hz2 (by decide) v ls.length (lnCells ls) hown x 0 c [] rfl (fun j u hj => by simp at hj) (fun u hu => by cases hu) hm hbb h.size
   refine ⟨v', w', hr, ?_, fun h => (hn.1 h).1⟩
   exact rn_grow h ho hg hat
 ·have hadd : ∀ j, (⟨b, off, none⟩ : Addr).add j = ⟨b, off + j, none⟩ := fun j => by unfold Addr.add; split <;> simp_all
  obtain ⟨v', w', hr, ho, hg, hn, hat⟩ := run_append_own_at (P := Tryz.prog) w w0.heap.size _ ty 68 i z 2 i.bytes Tryz.underlying28 hi hz he.1 rfl hz2 (by decide) v ls.length (lnCells ls) hown ⟨b, off, none⟩ ms.length c (lnCells ms) (lnCells_len ms) (fun j u hj => by
   rw [hadd]
   obtain ⟨k, hk, h5⟩ := lnCells_get hj
   rcases h5 with ⟨rfl, rfl⟩ | ⟨rfl, rfl⟩
   ·exact (h4 k hk).1
   ·exact (h4 k hk).2) (lnCells_one ms) hm hbb h.size
  exact ⟨v', w', hr, rn_grow h ho hg hat, fun h => (hn.1 h).1⟩
set_option maxRecDepth 100000 in
set_option maxHeartbeats 4000000 in
theorem rcopy_anyB {w0 w : World} {L : List Thing} (k : Int) (s : KS) (o n : Int) (v : Value) (ls : List Ln) (h : Sep w0 L w) (hv : LnS w v ls) (hl : ls.length ≤ 5864062014805) :
  Calls Tryz.prog 64 #[.agg #[.int .i64 k, .string s.1, .int .i64 o, .int .i64 n, v]] w fun e w' => ∃ u, e = .returned (.agg #[.int .i64 k, .string s.1, .int .i64 o, .int .i64 n, u]) ∧ Sep w0 (LnR u ls :: L) w' := by
 obtain ⟨a, c, rfl⟩ := hv.len
 have h1 := (h.alloc (.cells (opCells k s o n (.slice a ls.length c)) 30)).alloc (.cells opZ 30)
 have hlow : Below w.heap.size w ((w.alloc (.cells (opCells k s o n (.slice a ls.length c)) 30)).alloc (.cells opZ 30)) := ((Below.refl _ w).alloc (Nat.le_refl _) _).alloc (by simp) _
 rw [show (w.alloc (.cells (opCells k s o n (.slice a ls.length c)) 30)).heap.size = w.heap.size + 1 by simp] at h1
 obtain ⟨v', w1, hr, h2, -⟩ := append_lnB 28 (h1.rnNil 2 68 (w0 := w0)) (ls := []) (hv.below hlow) (by simp; omega)
 rw [List.nil_append] at h2
 obtain ⟨a2, c2, rfl, -⟩ := h2.rnForm
 unfold opCells opZ at *
 have HR := Lib.hid hr
 have f4 := (frz5 h2.sw3).2.2.2.2
 have b4 := (cells5 h2.sw3).2.2.2.2
 have h3 : Sep w0 (Cl w.heap.size #[.int .i64 k, .string s.1, .int .i64 o, .int .i64 n, .slice a2 ls.length c2] 30 :: LnR (.slice a2 ls.length c2) ls :: Cl (w.heap.size + 1) #[.int .i64 0, .string ⟨#[]⟩, .int .i64 0, .int .i64 0, .slice none 0 0] 30 :: L) (w1.setCell ⟨w.heap.size, 4, none⟩ (.slice a2 ls.length c2)) := h2.sw3.setCell 4 _
 obtain ⟨c0, c1, c2', c3, c4⟩ := cells5 h3
 obtain ⟨g0, g1, g2, g3, g4⟩ := frz5 h3.sw3
 obtain ⟨z0, z1, z2, z3, z4⟩ := cells5 h3.sw3
 have h4 := store5 (u0 := .int .i64 k) (u1 := .string s.1) (u2 := .int .i64 o) (u3 := .int .i64 n) (u4 := .slice a2 ls.length c2) h3.sw3
 obtain ⟨k0, k1, k2, k3, k4⟩ := cells5 h4
 have H4 := Lib.hid h4.drop.drop
 clear h h1 h2 h3 h4 hv hlow hr
 go_enter Tryz.func64, Tryz.ntmps64
 go_wp2_with (at_builtin; refine wpList_append_run rfl _ _ _ _ rfl rfl rfl HR.out ?_)
 exact bodyPost_ret (v := .agg #[.int .i64 k, .string s.1, .int .i64 o, .int .i64 n, .slice a2 ls.length c2]) (by simp [results, Tryz.results64, go_sem, k0, k1, k2, k3, k4]) rfl ⟨_, rfl, H4.out⟩
set_option maxRecDepth 100000 in
set_option maxHeartbeats 4000000 in
theorem recopy_anyB {w0 w : World} {L : List Thing} (x : EnM) (v : Value) (h : Sep w0 L w) (hv : LnS w v x.p.ls) (hl : x.p.ls.length ≤ 5864062014805) :
  Calls Tryz.prog 46 #[enV x v] w fun e w' => ∃ u, e = .returned (enV x u) ∧ Sep w0 (LnR u x.p.ls :: L) w' := by
 have h1 := (h.alloc (.cells (enC x v) 32)).alloc (.cells #[.int .i64 0, .int .i64 0, .int .i64 0, .string ⟨#[]⟩, .int .i64 0, .int .i64 0, .slice none 0 0] 32)
 have hlow : Below w.heap.size w ((w.alloc (.cells (enC x v) 32)).alloc (.cells #[.int .i64 0, .int .i64 0, .int .i64 0, .string ⟨#[]⟩, .int .i64 0, .int .i64 0, .slice none 0 0] 32)) := ((Below.refl _ w).alloc (Nat.le_refl _) _).alloc (by simp) _
 rw [show (w.alloc (.cells (enC x v) 32)).heap.size = w.heap.size + 1 by simp] at h1
 have HC := Lib.hid (rcopy_anyB x.p.k x.p.s x.p.o x.p.n v x.p.ls h1 (hv.below hlow) hl)
 obtain ⟨c0, c1, c2, c3, c4, c5, c6⟩ := cells7 h1.sw2
 obtain ⟨b1, hb1⟩ : ∃ z, z = w.heap.size := ⟨_, rfl⟩
 obtain ⟨b2, hb2⟩ : ∃ z, z = w.heap.size + 1 := ⟨_, rfl⟩
 rw [← hb2, ← hb1] at HC
 unfold enV
 unfold enC at *
 clear h h1 hv hl hlow
 go_enter Tryz.func46, Tryz.ntmps46
 go_wp2_with fail
 rw [← hb2, ← hb1]
 refine HC.out.mono ?_
 rintro r0 w1 ⟨u, rfl, h2⟩
 clear c0 c1 c2 c3 c4 c5 c6 hb1 hb2 HC
 obtain ⟨au, cu, rfl, -⟩ := h2.rnForm
 obtain ⟨c0, c1, c2, c3, c4, c5, c6⟩ := cells7 h2.sw3
 obtain ⟨f0, f1, f2, f3, f4, f5, f6⟩ := frz7 h2.sw3
 have h3 : Sep w0 (Cl b1 (enC x (.slice au x.p.ls.length cu)) 32 :: LnR (.slice au x.p.ls.length cu) x.p.ls :: Cl b2 #[.int .i64 0, .int .i64 0, .int .i64 0, .string ⟨#[]⟩, .int .i64 0, .int .i64 0, .slice none 0 0] 32 :: L) (((((w1.setCell ⟨b1, 2, none⟩ (.int .i64 x.p.k)).setCell ⟨b1, 3, none⟩ (.string x.p.s.1)).setCell ⟨b1, 4, none⟩ (.int .i64 x.p.o)).setCell ⟨b1, 5, none⟩ (.int .i64 x.p.n)).setCell ⟨b1, 6, none⟩ (.slice au x.p.ls.length cu)) :=
  store75 h2.sw3
 obtain ⟨d0, d1, d2, d3, d4, d5, d6⟩ := cells7 h3
 obtain ⟨e0, e1, e2, e3, e4, e5, e6⟩ := cells7 h3.sw3
 obtain ⟨g0, g1, g2, g3, g4, g5, g6⟩ := frz7 h3.sw3
 have h4 := store7 (u0 := .int .i64 x.c) (u1 := .int .i64 x.m) (u2 := .int .i64 x.p.k) (u3 := .string x.p.s.1) (u4 := .int .i64 x.p.o) (u5 := .int .i64 x.p.n) (u6 := .slice au x.p.ls.length cu) h3.sw3
 obtain ⟨y0, y1, y2, y3, y4, y5, y6⟩ := cells7 h4
 have H4 := Lib.hid h4.drop.drop
 unfold enC at *
 clear h2 h3 h4
 go_wp2_with fail
 exact bodyPost_ret (v := .agg #[.int .i64 x.c, .int .i64 x.m, .int .i64 x.p.k, .string x.p.s.1, .int .i64 x.p.o, .int .i64 x.p.n, .slice au x.p.ls.length cu]) (by simp [results, Tryz.results46, go_sem, y0, y1, y2, y3, y4, y5, y6]) rfl ⟨_, rfl, H4.out⟩
set_option maxRecDepth 100000 in
set_option maxHeartbeats 8000000 in
theorem copyrow_wB {w : World} (a : Option Addr) (c : Nat) (xs : List (EnM × Value)) (hv : EnS w (.slice a xs.length c) xs) (hl : xs.length ≤ 1000000) (hls : ∀ x ∈ xs, x.1.p.ls.length ≤ 5864062014805) :
  Calls Tryz.prog 66 #[.slice a xs.length c] w fun e w' => ∃ (u : Value) (ps : List (EnM × Value)), e = .returned u ∧ ps.map (·.1) = xs.map (·.1) ∧ Sep w [EnT u ps] w' := by
 have H1 := Lib.hid (Sep.start w).enNil
 have HX := Lib.hid hv
 have HLS := Lib.hid hls
 have n0 : (0 : Int) ≤ (xs.length : Int) := by omega
 have n1 : (xs.length : Int) ≤ 1000000 := by omega
 clear hv hls hl
 obtain ⟨n, hn⟩ : ∃ n, n = xs.length := ⟨_, rfl⟩
 rw [← hn] at HX n0 n1 ⊢
 have HN := Lib.hid hn
 clear hn
 go_enter Tryz.func66, Tryz.ntmps66
 go_wp2_with fail
 go_loopw [3, 4] (fun pv i wr => ∃ (k : Nat) (ps : List (EnM × Value)) (av : Option Addr) (cv : Nat), k ≤ n ∧ pv = .slice av k cv ∧ i = .int .i64 k ∧ ps.length = k ∧ ps.map (·.1) = (xs.take k).map (·.1) ∧ Sep w [EnT (.slice av k cv) ps] wr) (fun _ i _ => n - (intOf i).toNat)
 case atStart => exact ⟨0, [], none, 0, Nat.zero_le _, rfl, rfl, rfl, rfl, H1.out⟩
 case round =>
  obtain ⟨k, ps, av, cv, hk, rfl, rfl, hpl, hps, hs⟩ := hrel
  clear H1
  have k0 : (0 : Int) ≤ (k : Int) := by omega
  by_cases hkn : k < n
  ·have hkx : k < xs.length := by have := HN.out; omega
   have hd : decide (k < n) = true := decide_eq_true hkn
   have k1 : (k : Int) < (n : Int) := by omega
   obtain ⟨bx, off, rfl, -, hnc, -, ⟨e0, e1, e2, e3, e4, e5, e6⟩, hln⟩ := (HX.out.below hs.low).at hkx
   have hxl := HLS.out _ (List.getElem_mem hkx)
   obtain ⟨⟨x, v⟩, hxv⟩ : ∃ z, z = xs[k] := ⟨_, rfl⟩
   rw [← hxv] at e0 e1 e2 e3 e4 e5 e6 hln hxl
   dsimp only at e0 e1 e2 e3 e4 e5 e6 hln hxl
   obtain ⟨av', kv, rfl⟩ := hln.len
   have HB := Lib.hid (recopy_anyB x (.slice av' x.p.ls.length kv) hs hln hxl)
   unfold enV at HB
   have HXV := Lib.hid (And.intro hxv (And.intro hkx hkn))
   have HPS := Lib.hid (And.intro hpl hps)
   clear hs hln hxv hpl hps hk hkn hxl
   go_wp2_with fail
   refine HB.out.mono ?_
   rintro r0 w5 ⟨u, rfl, h5⟩
   obtain ⟨au, ku, rfl, -⟩ := h5.rnForm
   have h6 := h5.alloc (.cells (enC x (.slice au x.p.ls.length ku)) 32)
   obtain ⟨a2, c2, w8, hr, h8⟩ := append_en (ty := 36) (h6.pick [0, 2, 1] rfl : Sep w [Cl w5.heap.size (enC x (.slice au x.p.ls.length ku)) 32, EnT (.slice av k cv) ps, LnR (.slice au x.p.ls.length ku) x.p.ls] _) rfl (by rw [HPS.out.1]; omega)
   rw [HPS.out.1] at hr h8
   unfold enC at hr
   have HAP := Lib.hid hr
   have H8 := Lib.hid h8
   clear HB h5 h6 hr h8 e0 e1 e2 e3 e4 e5 e6
   go_wp2_with (at_builtin; refine wpList_append_run rfl _ _ _ _ rfl rfl rfl HAP.out ?_)
   go_roundw
   case rel =>
    refine ⟨k + 1, ps ++ [(x, .slice au x.p.ls.length ku)], a2, c2, HXV.out.2.2, rfl, by go_num, by rw [List.length_append, HPS.out.1, List.length_singleton], ?_, H8.out⟩
    rw [List.map_append, HPS.out.2, List.take_succ_eq_append_getElem HXV.out.2.1, ← HXV.out.1]; simp
   case measure => have := HXV.out.2.2; simp [intOf]; omega
  ·have hd : decide (k < n) = false := decide_eq_false hkn
   have hn := HN.out
   have hkx : xs.take k = xs := List.take_of_length_le (by omega)
   rw [hkx] at hps
   have HF := Lib.hid (And.intro hps hs)
   clear hps hs hpl hk hkn hn hkx
   go_wp2_with fail
   go_ret
   exact ⟨_, rfl, ps, HF.out.1, HF.out.2⟩
theorem copyrow_anyB {w0 w : World} {L : List Thing} (a : Option Addr) (c n : Nat) (xs : List (EnM × Value)) (h : Sep w0 L w) (hv : EnS w (.slice a n c) xs) (hn : xs.length = n) (hl : n ≤ 1000000) (hls : ∀ x ∈ xs, x.1.p.ls.length ≤ 5864062014805) :
  Calls Tryz.prog 66 #[.slice a n c] w fun e w' => ∃ (u : Value) (ps : List (EnM × Value)), e = .returned u ∧ ps.map (·.1) = xs.map (·.1) ∧ Sep w0 (EnT u ps :: L) w' := by
 subst hn
 exact (copyrow_wB a c xs hv hl hls).mono fun e w' ⟨u, ps, h1, h2, h3⟩ => ⟨u, ps, h1, h2, h.onto1 h3⟩
set_option maxRecDepth 100000 in
set_option maxHeartbeats 8000000 in
theorem rgcimg_wB {w : World} (ib ic : Int) (cv ev : Value) (l : List UInt8) (ps : List (EnM × Value)) (hcv : Sl w cv (bv l)) (hev : EnS w ev ps) (hl : l.length ≤ 2199023255552) (hx : ps.length ≤ 1000000) (hls : ∀ x ∈ ps, x.1.p.ls.length ≤ 5864062014805) :
  Calls Tryz.prog 47 #[.agg (imgC ib cv ev ic)] w fun e w' => ∃ cu eu qs, e = .returned (.agg (imgC ib cu eu ic)) ∧ qs.map (·.1) = ps.map (·.1) ∧ Sep w [By cu l, EnT eu qs] w' := by
 obtain ⟨ca, cc, rfl⟩ := bv_form hcv
 obtain ⟨ea, ec, rfl⟩ := hev.len
 obtain ⟨nl, hnl⟩ : ∃ q, l.length = q := ⟨_, rfl⟩
 obtain ⟨n, hn⟩ : ∃ q, ps.length = q := ⟨_, rfl⟩
 rw [hnl] at hcv hl ⊢
 rw [hn] at hev hx ⊢
 have h1 := ((Sep.start w).alloc (.cells (imgC ib (.slice ca nl cc) (.slice ea n ec) ic) 38)).alloc (.cells #[.int .i64 0, .slice none 0 0, .slice none 0 0, .int .i64 0] 38)
 rw [show (w.alloc (.cells (imgC ib (.slice ca nl cc) (.slice ea n ec) ic) 38)).heap.size = w.heap.size + 1 by simp] at h1
 have HC := Lib.hid (copy_sep (.slice ca nl cc) l _ h1 (hcv.below h1.low) (by omega))
 have HE := Lib.hid (fun (wx : World) (M : List Thing) (hx' : Sep w M wx) => copyrow_anyB ea ec n ps hx' (hev.below hx'.low) hn (by omega) hls)
 obtain ⟨b1, hb1⟩ : ∃ z, z = w.heap.size := ⟨_, rfl⟩
 obtain ⟨b2, hb2⟩ : ∃ z, z = w.heap.size + 1 := ⟨_, rfl⟩
 rw [← hb2, ← hb1] at HC
 unfold imgC at *
 have c1 := h1.sw2.cell (o := 1) rfl
 clear h1 hcv hev hl hx hls
 go_enter Tryz.func47, Tryz.ntmps47
 (try dsimp only); repeat' (first | go_values | go_skip | go_guarded | go_step | go_upon | go_back)
 rw [← hb2, ← hb1]
 refine HC.out.mono ?_
 rintro r0 w1 ⟨cu, rfl, h2⟩
 clear c1 HC hb1 hb2
 obtain ⟨au, ac, rfl⟩ := bv_form h2.sl
 rw [hnl] at h2 ⊢
 have h2' : Sep w [Cl b1 #[.int .i64 ib, .slice ca nl cc, .slice ea n ec, .int .i64 ic] 38, Cl b2 #[.int .i64 0, .slice none 0 0, .slice none 0 0, .int .i64 0] 38, By (.slice au nl ac) l] w1 := Sep.pick h2 [2, 1, 0] rfl
 have d1 := h2'.cell (o := 1) rfl
 have f1 := h2'.frozen 1
 have d2 := h2'.cell (o := 2) rfl
 have h3 : Sep w (Cl b1 #[.int .i64 ib, .slice au nl ac, .slice ea n ec, .int .i64 ic] 38 :: _) _ := h2'.setCell 1 (.slice au nl ac)
 obtain ⟨w2, hw2⟩ : ∃ z, z = w1.setCell ⟨b1, 1, none⟩ (.slice au nl ac) := ⟨_, rfl⟩
 rw [← hw2] at h3
 have HE2 := Lib.hid (HE.out _ _ h3)
 clear h2 h2' h3 HE
 (try dsimp only); repeat' (first | go_values | go_skip | go_guarded | go_step | go_upon | go_back)
 rw [← hw2]
 clear hw2 d1 f1
 refine HE2.out.mono ?_
 rintro r0 w3 ⟨eu, qs, rfl, hqs, h4⟩
 clear d2 HE2
 obtain ⟨eau, eac, rfl, -⟩ := h4.enForm
 have hql : qs.length = n := by have := congrArg List.length hqs; simp at this; omega
 rw [hql] at h4 ⊢
 have h4' : Sep w [Cl b1 #[.int .i64 ib, .slice au nl ac, .slice ea n ec, .int .i64 ic] 38, Cl b2 #[.int .i64 0, .slice none 0 0, .slice none 0 0, .int .i64 0] 38, By (.slice au nl ac) l, EnT (.slice eau n eac) qs] w3 := Sep.pick h4 [1, 2, 3, 0] rfl
 have d1 := h4'.cell (o := 2) rfl
 have f1 := h4'.frozen 2
 have h5 : Sep w (Cl b1 #[.int .i64 ib, .slice au nl ac, .slice eau n eac, .int .i64 ic] 38 :: _) _ := h4'.setCell 2 (.slice eau n eac)
 obtain ⟨w4, hw4⟩ : ∃ z, z = w3.setCell ⟨b1, 2, none⟩ (.slice eau n eac) := ⟨_, rfl⟩
 rw [← hw4] at h5
 have HL := Lib.hid (h5.loadW 38 Tryz.underlying38 rfl (by kernel_rfl))
 have HT2 := Lib.hid (h5.sw2.thereAt 0 4 (by simp))
 have h6 := h5.sw2.storeW #[.int .i64 ib, .slice au nl ac, .slice eau n eac, .int .i64 ic] rfl
 have HV := Lib.hid (h6.loadV 38 Tryz.underlying38 rfl (by kernel_rfl))
 have H6 := Lib.hid h6.drop.drop
 have HU := Lib.hid hqs
 clear h4 h4' h5 h6 hqs hql
 (try dsimp only); repeat' (first | (with_reducible show wpList _ _ _ (Oper.mk _ (Op.load 38 _) _ _ _ _ :: _) _ _; refine stopP ?_) | go_values | go_skip | go_guarded | go_step | go_upon | go_back)
 rw [← hw4]
 clear hw4 d1 f1
 unfold StopP
 have hq_ := HL.out
 refine wpList_load_run rfl 38 _ rfl _ _ rfl hq_ ?_
 clear hq_
 (try dsimp only); repeat' (first | (with_reducible show wpList _ _ _ (Oper.mk _ (Op.store 38 _ _) _ _ _ _ :: _) _ _; refine stopP ?_) | go_values | go_skip | go_guarded | go_step | go_upon | go_back)
 unfold StopP
 refine wpList_store_mid rfl 38 (.tmp 2) (.tmp 11) rfl b2 0 #[.int .i64 ib, .slice au nl ac, .slice eau n eac, .int .i64 ic] rfl rfl HT2.out (by kernel_rfl) (by first | kernel_rfl | assumption) ?_
 (try dsimp only); repeat' (first | go_values | go_skip | go_guarded | go_step | go_upon | go_back)
 exact bodyPost_ret (results_cell rfl rfl HV.out) rfl ⟨_, _, qs, rfl, HU.out, H6.out⟩
set_option maxRecDepth 100000 in
set_option maxHeartbeats 16000000 in
theorem rgcopy_wB {w : World} (g : MgM) (hg : GmS w g) (hl : g.ck.length ≤ 1000000000) (hx : g.ps.length ≤ 1000000) (hls : ∀ x ∈ g.ps, x.1.p.ls.length ≤ 5864062014805) (hln : g.en.p.ls.length ≤ 5864062014805) :
  Calls Tryz.prog 31 #[.agg (mgC g)] w fun e w' => ∃ lu cu eu qs, e = .returned (.agg (mgC { g with lv := lu, cv := cu, ev := eu, ps := qs })) ∧ qs.map (·.1) = g.ps.map (·.1) ∧ Sep w [LnR lu g.en.p.ls, By cu g.ck, EnT eu qs] w' := by
 obtain ⟨hg1, hg2, hg3⟩ := hg
 have h1 := ((Sep.start w).alloc (.cells (mgC g) 40)).alloc (.cells #[.int .i64 0, .int .i64 0, .int .i64 0, .int .i64 0, .int .i64 0, .int .i64 0, .int .i64 0, .int .i64 0, .int .i64 0, .int .i64 0, .string ⟨#[]⟩, .int .i64 0, .int .i64 0, .slice none 0 0, .int .i64 0, .int .i64 0, .int .i64 0, .bool false, .int .i64 0, .slice none 0 0, .slice none 0 0, .int .i64 0] 40)
 rw [show (w.alloc (.cells (mgC g) 40)).heap.size = w.heap.size + 1 by simp] at h1
 obtain ⟨wa, hwa⟩ : ∃ z, z = (w.alloc (.cells (mgC g) 40)).alloc (.cells #[.int .i64 0, .int .i64 0, .int .i64 0, .int .i64 0, .int .i64 0, .int .i64 0, .int .i64 0, .int .i64 0, .int .i64 0, .int .i64 0, .string ⟨#[]⟩, .int .i64 0, .int .i64 0, .slice none 0 0, .int .i64 0, .int .i64 0, .int .i64 0, .bool false, .int .i64 0, .slice none 0 0, .slice none 0 0, .int .i64 0] 40) := ⟨_, rfl⟩
 obtain ⟨b1, hb1⟩ : ∃ z, z = w.heap.size := ⟨_, rfl⟩
 obtain ⟨b2, hb2⟩ : ∃ z, z = w.heap.size + 1 := ⟨_, rfl⟩
 rw [← hwa, ← hb2, ← hb1] at h1
 have HC := Lib.hid (recopy_anyB g.en g.lv h1 (hg1.below h1.low) hln)
 have HE := Lib.hid (fun (wx : World) (hb : Below w.heap.size w wx) => rgcimg_wB (w := wx) g.ib g.ic g.cv g.ev g.ck g.ps (hg2.below hb) (hg3.below hb) (by omega) hx hls)
 obtain ⟨la, lc, hlv⟩ := hg1.len
 obtain ⟨ca, cc, hcv⟩ := bv_form hg2
 obtain ⟨ea, ec, hev⟩ := hg3.len
 obtain ⟨gk, gf, gt, gv, go, gcm, gla, ⟨enc, enm, ⟨pk, psx, po, pn, pls⟩⟩, glv, rc, ra, rb, s, ib, ck, cv, ps, ev, ic⟩ := g
 dsimp only at *
 subst hlv hcv hev
 unfold enV at HC
 unfold imgC at HE
 dsimp only at HC HE
 obtain ⟨d7, d8, d9, d10, d11, d12, d13⟩ := (show _ ∧ _ ∧ _ ∧ _ ∧ _ ∧ _ ∧ _ from ⟨h1.sw2.cell (o := 7) rfl, h1.sw2.cell (o := 8) rfl, h1.sw2.cell (o := 9) rfl, h1.sw2.cell (o := 10) rfl, h1.sw2.cell (o := 11) rfl, h1.sw2.cell (o := 12) rfl, h1.sw2.cell (o := 13) rfl⟩)
 clear h1 hg1 hg2 hg3 hl hx hls hln
 obtain ⟨nck, hnck⟩ : ∃ q, ck.length = q := ⟨_, rfl⟩
 obtain ⟨nps, hnps⟩ : ∃ q, ps.length = q := ⟨_, rfl⟩
 obtain ⟨nls, hnls⟩ : ∃ q, pls.length = q := ⟨_, rfl⟩
 simp only [hnck, hnps, hnls] at HC HE d13 hwa ⊢
 go_enter Tryz.func31, Tryz.ntmps31
 unfold mgC at *
 dsimp only at *
 (try dsimp only); repeat' (first | go_values | go_skip | go_guarded | go_step | go_upon | go_back)
 rw [← hwa]
 (try rw [← hb2])
 (try rw [← hb1])
 clear hwa hb1 hb2
 refine HC.out.mono ?_
 rintro r0 w1 ⟨u, rfl, h2⟩
 clear HC d7 d8 d9 d10 d11 d12 d13
 obtain ⟨au, ac, rfl, -⟩ := h2.rnForm
 rw [hnls] at h2 ⊢
 have h2' : Sep w [Cl b1 #[.int .i64 gk, .int .i64 gf, .int .i64 gt, .int .i64 gv, .int .i64 go, .int .i64 gcm, .int .i64 gla, .int .i64 enc, .int .i64 enm, .int .i64 pk, .string psx.1, .int .i64 po, .int .i64 pn, .slice la nls lc, .int .i64 rc, .int .i64 ra, .int .i64 rb, .bool s, .int .i64 ib, .slice ca nck cc, .slice ea nps ec, .int .i64 ic] 40, Cl b2 #[.int .i64 0, .int .i64 0, .int .i64 0, .int .i64 0, .int .i64 0, .int .i64 0, .int .i64 0, .int .i64 0, .int .i64 0, .int .i64 0, .string ⟨#[]⟩, .int .i64 0, .int .i64 0, .slice none 0 0, .int .i64 0, .int .i64 0, .int .i64 0, .bool false, .int .i64 0, .slice none 0 0, .slice none 0 0, .int .i64 0] 40, LnR (.slice au nls ac) pls] w1 := by
  exact Sep.pick h2 [2, 1, 0] rfl
 have HTH := Lib.hid (h2'.thereAt 7 7 (by simp))
 have h3 := Sep.setCells [.int .i64 enc, .int .i64 enm, .int .i64 pk, .string psx.1, .int .i64 po, .int .i64 pn, .slice au nls ac] _ 7 _ h2'
 rw [show writeAt #[.int .i64 gk, .int .i64 gf, .int .i64 gt, .int .i64 gv, .int .i64 go, .int .i64 gcm, .int .i64 gla, .int .i64 enc, .int .i64 enm, .int .i64 pk, .string psx.1, .int .i64 po, .int .i64 pn, .slice la nls lc, .int .i64 rc, .int .i64 ra, .int .i64 rb, .bool s, .int .i64 ib, .slice ca nck cc, .slice ea nps ec, .int .i64 ic] 7 [.int .i64 enc, .int .i64 enm, .int .i64 pk, .string psx.1, .int .i64 po, .int .i64 pn, .slice au nls ac] = #[.int .i64 gk, .int .i64 gf, .int .i64 gt, .int .i64 gv, .int .i64 go, .int .i64 gcm, .int .i64 gla, .int .i64 enc, .int .i64 enm, .int .i64 pk, .string psx.1, .int .i64 po, .int .i64 pn, .slice au nls ac, .int .i64 rc, .int .i64 ra, .int .i64 rb, .bool s, .int .i64 ib, .slice ca nck cc, .slice ea nps ec, .int .i64 ic] by simp [writeAt]] at h3
 obtain ⟨w2, hw2⟩ : ∃ z, z = w1.setCells b1 7 [.int .i64 enc, .int .i64 enm, .int .i64 pk, .string psx.1, .int .i64 po, .int .i64 pn, .slice au nls ac] := ⟨_, rfl⟩
 rw [← hw2] at h3
 have HE2 := Lib.hid (HE.out w2 h3.low)
 have i18 := h3.cell (o := 18) (x := .int .i64 ib) rfl
 have i19 := h3.cell (o := 19) (x := .slice ca nck cc) rfl
 have i20 := h3.cell (o := 20) (x := .slice ea nps ec) rfl
 have i21 := h3.cell (o := 21) (x := .int .i64 ic) rfl
 have H3 := Lib.hid h3
 clear h2 h2' h3 HE
 (try dsimp only); repeat' (first | (with_reducible show wpList _ _ _ (Oper.mk _ (Op.store 32 _ _) _ _ _ _ :: _) _ _; refine stopP ?_) | go_values | go_skip | go_guarded | go_step | go_upon | go_back)
 unfold StopP
 refine wpList_store_mid rfl 32 (.tmp 6) (.tmp 5) rfl b1 7 #[.int .i64 enc, .int .i64 enm, .int .i64 pk, .string psx.1, .int .i64 po, .int .i64 pn, .slice au nls ac] rfl rfl HTH.out (by kernel_rfl) (by first | kernel_rfl | assumption) ?_
 show wpList _ _ _ _ _ (w1.setCells b1 7 [.int .i64 enc, .int .i64 enm, .int .i64 pk, .string psx.1, .int .i64 po, .int .i64 pn, .slice au nls ac])
 rw [← hw2]
 clear hw2 HTH
 (try dsimp only); repeat' (first | go_values | go_skip | go_guarded | go_step | go_upon | go_back)
 refine HE2.out.mono ?_
 rintro r0 w3 ⟨cu, eu, qs, rfl, hqs, h4⟩
 have h5 := H3.out.onto2 h4
 clear HE2 i18 i19 i20 i21 H3 h4
 obtain ⟨cau, cac, rfl⟩ := bv_form h5.sl
 obtain ⟨eau, eac, rfl, -⟩ := h5.sw2.enForm
 have hql : qs.length = nps := by have := congrArg List.length hqs; simp at this; omega
 rw [hnck, hql] at h5 ⊢
 have h5' : Sep w [Cl b1 #[.int .i64 gk, .int .i64 gf, .int .i64 gt, .int .i64 gv, .int .i64 go, .int .i64 gcm, .int .i64 gla, .int .i64 enc, .int .i64 enm, .int .i64 pk, .string psx.1, .int .i64 po, .int .i64 pn, .slice au nls ac, .int .i64 rc, .int .i64 ra, .int .i64 rb, .bool s, .int .i64 ib, .slice ca nck cc, .slice ea nps ec, .int .i64 ic] 40, Cl b2 #[.int .i64 0, .int .i64 0, .int .i64 0, .int .i64 0, .int .i64 0, .int .i64 0, .int .i64 0, .int .i64 0, .int .i64 0, .int .i64 0, .string ⟨#[]⟩, .int .i64 0, .int .i64 0, .slice none 0 0, .int .i64 0, .int .i64 0, .int .i64 0, .bool false, .int .i64 0, .slice none 0 0, .slice none 0 0, .int .i64 0] 40, LnR (.slice au nls ac) pls, By (.slice cau nck cac) ck, EnT (.slice eau nps eac) qs] w3 := Sep.pick h5 [2, 3, 4, 0, 1] rfl
 have HTH := Lib.hid (h5'.thereAt 18 4 (by simp))
 have h6 := Sep.setCells [.int .i64 ib, .slice cau nck cac, .slice eau nps eac, .int .i64 ic] _ 18 _ h5'
 rw [show writeAt #[.int .i64 gk, .int .i64 gf, .int .i64 gt, .int .i64 gv, .int .i64 go, .int .i64 gcm, .int .i64 gla, .int .i64 enc, .int .i64 enm, .int .i64 pk, .string psx.1, .int .i64 po, .int .i64 pn, .slice au nls ac, .int .i64 rc, .int .i64 ra, .int .i64 rb, .bool s, .int .i64 ib, .slice ca nck cc, .slice ea nps ec, .int .i64 ic] 18 [.int .i64 ib, .slice cau nck cac, .slice eau nps eac, .int .i64 ic] = #[.int .i64 gk, .int .i64 gf, .int .i64 gt, .int .i64 gv, .int .i64 go, .int .i64 gcm, .int .i64 gla, .int .i64 enc, .int .i64 enm, .int .i64 pk, .string psx.1, .int .i64 po, .int .i64 pn, .slice au nls ac, .int .i64 rc, .int .i64 ra, .int .i64 rb, .bool s, .int .i64 ib, .slice cau nck cac, .slice eau nps eac, .int .i64 ic] by simp [writeAt]] at h6
 obtain ⟨w4, hw4⟩ : ∃ z, z = w3.setCells b1 18 [.int .i64 ib, .slice cau nck cac, .slice eau nps eac, .int .i64 ic] := ⟨_, rfl⟩
 rw [← hw4] at h6
 have HL := Lib.hid (h6.loadW 40 Tryz.underlying40 rfl (by kernel_rfl))
 have HT2 := Lib.hid (h6.sw2.thereAt 0 22 (by simp))
 have h7 := h6.sw2.storeW #[.int .i64 gk, .int .i64 gf, .int .i64 gt, .int .i64 gv, .int .i64 go, .int .i64 gcm, .int .i64 gla, .int .i64 enc, .int .i64 enm, .int .i64 pk, .string psx.1, .int .i64 po, .int .i64 pn, .slice au nls ac, .int .i64 rc, .int .i64 ra, .int .i64 rb, .bool s, .int .i64 ib, .slice cau nck cac, .slice eau nps eac, .int .i64 ic] rfl
 have HV := Lib.hid (h7.loadV 40 Tryz.underlying40 rfl (by kernel_rfl))
 have H7 := Lib.hid h7.drop.drop
 have HU := Lib.hid hqs
 clear h5 h5' h6 h7 hqs hql
 (try dsimp only); repeat' (first | (with_reducible show wpList _ _ _ (Oper.mk _ (Op.store 38 _ _) _ _ _ _ :: _) _ _; refine stopP ?_) | go_values | go_skip | go_guarded | go_step | go_upon | go_back)
 unfold StopP
 refine wpList_store_mid rfl 38 (.tmp 10) (.tmp 9) rfl b1 18 #[.int .i64 ib, .slice cau nck cac, .slice eau nps eac, .int .i64 ic] rfl rfl HTH.out (by kernel_rfl) (by first | kernel_rfl | assumption) ?_
 show wpList _ _ _ _ _ (w3.setCells b1 18 [.int .i64 ib, .slice cau nck cac, .slice eau nps eac, .int .i64 ic])
 rw [← hw4]
 clear hw4 HTH
 (try dsimp only); repeat' (first | (with_reducible show wpList _ _ _ (Oper.mk _ (Op.load 40 _) _ _ _ _ :: _) _ _; refine stopP ?_) | go_values | go_skip | go_guarded | go_step | go_upon | go_back)
 unfold StopP
 have hq_ := HL.out
 refine wpList_load_run rfl 40 _ rfl _ _ rfl hq_ ?_
 clear hq_
 (try dsimp only); repeat' (first | (with_reducible show wpList _ _ _ (Oper.mk _ (Op.store 40 _ _) _ _ _ _ :: _) _ _; refine stopP ?_) | go_values | go_skip | go_guarded | go_step | go_upon | go_back)
 unfold StopP
 refine wpList_store_mid rfl 40 (.tmp 2) (.tmp 11) rfl b2 0 #[.int .i64 gk, .int .i64 gf, .int .i64 gt, .int .i64 gv, .int .i64 go, .int .i64 gcm, .int .i64 gla, .int .i64 enc, .int .i64 enm, .int .i64 pk, .string psx.1, .int .i64 po, .int .i64 pn, .slice au nls ac, .int .i64 rc, .int .i64 ra, .int .i64 rb, .bool s, .int .i64 ib, .slice cau nck cac, .slice eau nps eac, .int .i64 ic] rfl rfl HT2.out (by kernel_rfl) (by first | kernel_rfl | assumption) ?_
 (try dsimp only); repeat' (first | go_values | go_skip | go_guarded | go_step | go_upon | go_back)
 exact bodyPost_ret (results_cell rfl rfl HV.out) rfl ⟨_, _, _, qs, rfl, HU.out, H7.out⟩
end Go.Proofs.YtcnbmeiielkigaaGreatDoor
