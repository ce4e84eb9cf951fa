/- Package msg, of all messages: CopyImage, Copy. -/
import Derived.Test.YtafkbodmiblbnaaDoorMZ27
import Derived.Test.YtafkbodmiblbnaaDoorMBag1
import Derived.Test.YtafkbodmiblbnaaDoorMZ09
namespace Go.Proofs.YtafkbodmiblbnaaDoor
open Go Go.RowKit
set_option linter.unusedVariables false
set_option linter.unusedSimpArgs false
theorem By.form {w0 w : World} {v : Value} {l : List UInt8} {L : List Thing} (h : Sep w0 (By v l :: L) w) : ∃ a c, v = .slice a l.length c := bv_form h.sl
theorem Sep.onto2 {w0 w w' : World} {A B : Thing} {L : List Thing} (h : Sep w0 L w) (h' : Sep w [A, B] w') : Sep w0 (A :: B :: L) w' :=
  (h.onto1 h'.join).both (h'.loc _ (List.mem_cons_self ..)) (h'.loc _ (List.mem_cons_of_mem _ (List.mem_cons_self ..)))
set_option maxRecDepth 100000 in
set_option maxHeartbeats 8000000 in
theorem gcimg_w {w : World} (ib ic : Int) (cv ev : Value) (l : List UInt8) (ps : List (EnM × Value)) (hcv : Sl w cv (bv l)) (hev : EnS w ev ps) (hl : l.length ≤ 2199023255552) (hx : ps.length ≤ 1000000) (hls : ∀ x ∈ ps, x.1.p.ls.length ≤ 1000) :
    Calls Tryd.prog 14 #[.agg (imgC ib cv ev ic)] w fun e w' => ∃ cu eu qs, e = .returned (.agg (imgC ib cu eu ic)) ∧ qs.map (·.1) = ps.map (·.1) ∧ Sep w [By cu l, EnT eu qs] w' := by
  obtain ⟨ca, cc, rfl⟩ := bv_form hcv
  obtain ⟨ea, ec, rfl⟩ := hev.len
  obtain ⟨nl, hnl⟩ : ∃ q, l.length = q := ⟨_, rfl⟩
  obtain ⟨n, hn⟩ : ∃ q, ps.length = q := ⟨_, rfl⟩
  rw [hnl] at hcv hl ⊢
  rw [hn] at hev hx ⊢
  have h1 := ((Sep.start w).alloc (.cells (imgC ib (.slice ca nl cc) (.slice ea n ec) ic) 37)).alloc (.cells #[.int .i64 0, .slice none 0 0, .slice none 0 0, .int .i64 0] 37)
  rw [show (w.alloc (.cells (imgC ib (.slice ca nl cc) (.slice ea n ec) ic) 37)).heap.size = w.heap.size + 1 by simp] at h1
  have HC := Lib.hid (clone_sep (.slice ca nl cc) l _ h1 (hcv.below h1.low) (by omega))
  have HE := Lib.hid (fun (wx : World) (M : List Thing) (hx' : Sep w M wx) => lcopy_any ea ec n ps hx' (hev.below hx'.low) hn (by omega) hls)
  obtain ⟨b1, hb1⟩ : ∃ z, z = w.heap.size := ⟨_, rfl⟩
  obtain ⟨b2, hb2⟩ : ∃ z, z = w.heap.size + 1 := ⟨_, rfl⟩
  rw [← hb2, ← hb1] at HC
  unfold imgC at *
  have c1 := h1.sw2.cell (o := 1) rfl
  clear h1 hcv hev hl hx hls
  go_enter Tryd.func14, Tryd.ntmps14
  (try dsimp only); repeat' (first | go_values | go_skip | go_guarded | go_step | go_upon | go_back)
  rw [← hb2, ← hb1]
  refine HC.out.mono ?_
  rintro r0 w1 ⟨cu, rfl, h2⟩
  clear c1 HC hb1 hb2
  obtain ⟨au, ac, rfl⟩ := bv_form h2.sl
  rw [hnl] at h2 ⊢
  have h2' : Sep w [Cl b1 #[.int .i64 ib, .slice ca nl cc, .slice ea n ec, .int .i64 ic] 37, Cl b2 #[.int .i64 0, .slice none 0 0, .slice none 0 0, .int .i64 0] 37, By (.slice au nl ac) l] w1 := Sep.pick h2 [2, 1, 0] rfl
  have d1 := h2'.cell (o := 1) rfl
  have f1 := h2'.frozen 1
  have d2 := h2'.cell (o := 2) rfl
  have h3 : Sep w (Cl b1 #[.int .i64 ib, .slice au nl ac, .slice ea n ec, .int .i64 ic] 37 :: _) _ := h2'.setCell 1 (.slice au nl ac)
  obtain ⟨w2, hw2⟩ : ∃ z, z = w1.setCell ⟨b1, 1, none⟩ (.slice au nl ac) := ⟨_, rfl⟩
  rw [← hw2] at h3
  have HE2 := Lib.hid (HE.out _ _ h3)
  clear h2 h2' h3 HE
  (try dsimp only); repeat' (first | go_values | go_skip | go_guarded | go_step | go_upon | go_back)
  rw [← hw2]
  clear hw2 d1 f1
  refine HE2.out.mono ?_
  rintro r0 w3 ⟨eu, qs, rfl, hqs, h4⟩
  clear d2 HE2
  obtain ⟨eau, eac, rfl, -⟩ := h4.enForm
  have hql : qs.length = n := by have := congrArg List.length hqs; simp at this; omega
  rw [hql] at h4 ⊢
  have h4' : Sep w [Cl b1 #[.int .i64 ib, .slice au nl ac, .slice ea n ec, .int .i64 ic] 37, Cl b2 #[.int .i64 0, .slice none 0 0, .slice none 0 0, .int .i64 0] 37, By (.slice au nl ac) l, EnT (.slice eau n eac) qs] w3 := Sep.pick h4 [1, 2, 3, 0] rfl
  have d1 := h4'.cell (o := 2) rfl
  have f1 := h4'.frozen 2
  have h5 : Sep w (Cl b1 #[.int .i64 ib, .slice au nl ac, .slice eau n eac, .int .i64 ic] 37 :: _) _ := h4'.setCell 2 (.slice eau n eac)
  obtain ⟨w4, hw4⟩ : ∃ z, z = w3.setCell ⟨b1, 2, none⟩ (.slice eau n eac) := ⟨_, rfl⟩
  rw [← hw4] at h5
  have HL := Lib.hid (h5.loadW 37 Tryd.underlying37 rfl (by kernel_rfl))
  have HT2 := Lib.hid (h5.sw2.thereAt 0 4 (by simp))
  have h6 := h5.sw2.storeW #[.int .i64 ib, .slice au nl ac, .slice eau n eac, .int .i64 ic] rfl
  have HV := Lib.hid (h6.loadV 37 Tryd.underlying37 rfl (by kernel_rfl))
  have H6 := Lib.hid h6.drop.drop
  have HU := Lib.hid hqs
  clear h4 h4' h5 h6 hqs hql
  (try dsimp only); repeat' (first | (with_reducible show wpList _ _ _ (Oper.mk _ (Op.load 37 _) _ _ _ _ :: _) _ _; refine stopP ?_) | go_values | go_skip | go_guarded | go_step | go_upon | go_back)
  rw [← hw4]
  clear hw4 d1 f1
  unfold StopP
  have hq_ := HL.out
  refine wpList_load_run rfl 37 _ rfl _ _ rfl hq_ ?_
  clear hq_
  (try dsimp only); repeat' (first | (with_reducible show wpList _ _ _ (Oper.mk _ (Op.store 37 _ _) _ _ _ _ :: _) _ _; refine stopP ?_) | go_values | go_skip | go_guarded | go_step | go_upon | go_back)
  unfold StopP
  refine wpList_store_mid rfl 37 (.tmp 2) (.tmp 11) rfl b2 0 #[.int .i64 ib, .slice au nl ac, .slice eau n eac, .int .i64 ic] rfl rfl HT2.out (by kernel_rfl) (by first | kernel_rfl | assumption) ?_
  (try dsimp only); repeat' (first | go_values | go_skip | go_guarded | go_step | go_upon | go_back)
  exact bodyPost_ret (results_cell rfl rfl HV.out) rfl ⟨_, _, qs, rfl, HU.out, H6.out⟩
theorem wr_en (g : MgM) (u : Value) : writeAt (mgC g) 7 [.int .i64 g.en.c, .int .i64 g.en.m, .int .i64 g.en.p.k, .string g.en.p.s.1, .int .i64 g.en.p.o, .int .i64 g.en.p.n, u] = mgC { g with lv := u } := by simp [mgC, writeAt]
theorem wr_im (g : MgM) (cu eu : Value) : writeAt (mgC g) 18 [.int .i64 g.ib, cu, eu, .int .i64 g.ic] = mgC { g with cv := cu, ev := eu } := by simp [mgC, writeAt]
theorem mgC_one (g : MgM) (h1 : g.lv.oneCell' = true) (h2 : g.cv.oneCell' = true) (h3 : g.ev.oneCell' = true) : (mgC g).all (·.oneCell') = true := by
  have : ∀ v ∈ (mgC g).toList, v.oneCell' = true := by
    intro v hv
    simp only [mgC, List.mem_cons, List.not_mem_nil, or_false] at hv
    rcases hv with rfl | rfl | rfl | rfl | rfl | rfl | rfl | rfl | rfl | rfl | rfl | rfl | rfl | rfl | rfl | rfl | rfl | rfl | rfl | rfl | rfl | rfl <;> first | rfl | exact h1 | exact h2 | exact h3
  rw [Array.all_eq_true_iff_forall_mem]
  intro v hv
  exact this v (by simpa using hv)
set_option maxRecDepth 100000 in
set_option maxHeartbeats 16000000 in
theorem gcopy_w {w : World} (g : MgM) (hg : GmS w g) (hl : g.ck.length ≤ 1000000000) (hx : g.ps.length ≤ 1000000) (hls : ∀ x ∈ g.ps, x.1.p.ls.length ≤ 1000) (hln : g.en.p.ls.length ≤ 1000) :
    Calls Tryd.prog 12 #[.agg (mgC g)] w fun e w' => ∃ lu cu eu qs, e = .returned (.agg (mgC { g with lv := lu, cv := cu, ev := eu, ps := qs })) ∧ qs.map (·.1) = g.ps.map (·.1) ∧ Sep w [LnR lu g.en.p.ls, By cu g.ck, EnT eu qs] w' := by
  obtain ⟨hg1, hg2, hg3⟩ := hg
  have h1 := ((Sep.start w).alloc (.cells (mgC g) 39)).alloc (.cells #[.int .i64 0, .int .i64 0, .int .i64 0, .int .i64 0, .int .i64 0, .int .i64 0, .int .i64 0, .int .i64 0, .int .i64 0, .int .i64 0, .string ⟨#[]⟩, .int .i64 0, .int .i64 0, .slice none 0 0, .int .i64 0, .int .i64 0, .int .i64 0, .bool false, .int .i64 0, .slice none 0 0, .slice none 0 0, .int .i64 0] 39)
  rw [show (w.alloc (.cells (mgC g) 39)).heap.size = w.heap.size + 1 by simp] at h1
  obtain ⟨wa, hwa⟩ : ∃ z, z = (w.alloc (.cells (mgC g) 39)).alloc (.cells #[.int .i64 0, .int .i64 0, .int .i64 0, .int .i64 0, .int .i64 0, .int .i64 0, .int .i64 0, .int .i64 0, .int .i64 0, .int .i64 0, .string ⟨#[]⟩, .int .i64 0, .int .i64 0, .slice none 0 0, .int .i64 0, .int .i64 0, .int .i64 0, .bool false, .int .i64 0, .slice none 0 0, .slice none 0 0, .int .i64 0] 39) := ⟨_, rfl⟩
  obtain ⟨b1, hb1⟩ : ∃ z, z = w.heap.size := ⟨_, rfl⟩
  obtain ⟨b2, hb2⟩ : ∃ z, z = w.heap.size + 1 := ⟨_, rfl⟩
  rw [← hwa, ← hb2, ← hb1] at h1
  have HC := Lib.hid (ecopy_any g.en g.lv h1 (hg1.below h1.low) hln)
  have HE := Lib.hid (fun (wx : World) (hb : Below w.heap.size w wx) => gcimg_w (w := wx) g.ib g.ic g.cv g.ev g.ck g.ps (hg2.below hb) (hg3.below hb) (by omega) hx hls)
  obtain ⟨la, lc, hlv⟩ := hg1.len
  obtain ⟨ca, cc, hcv⟩ := bv_form hg2
  obtain ⟨ea, ec, hev⟩ := hg3.len
  obtain ⟨gk, gf, gt, gv, go, gcm, gla, ⟨enc, enm, ⟨pk, psx, po, pn, pls⟩⟩, glv, rc, ra, rb, s, ib, ck, cv, ps, ev, ic⟩ := g
  dsimp only at *
  subst hlv hcv hev
  unfold enV at HC
  unfold imgC at HE
  dsimp only at HC HE
  obtain ⟨d7, d8, d9, d10, d11, d12, d13⟩ := (show _ ∧ _ ∧ _ ∧ _ ∧ _ ∧ _ ∧ _ from ⟨h1.sw2.cell (o := 7) rfl, h1.sw2.cell (o := 8) rfl, h1.sw2.cell (o := 9) rfl, h1.sw2.cell (o := 10) rfl, h1.sw2.cell (o := 11) rfl, h1.sw2.cell (o := 12) rfl, h1.sw2.cell (o := 13) rfl⟩)
  clear h1 hg1 hg2 hg3 hl hx hls hln
  obtain ⟨nck, hnck⟩ : ∃ q, ck.length = q := ⟨_, rfl⟩
  obtain ⟨nps, hnps⟩ : ∃ q, ps.length = q := ⟨_, rfl⟩
  obtain ⟨nls, hnls⟩ : ∃ q, pls.length = q := ⟨_, rfl⟩
  simp only [hnck, hnps, hnls] at HC HE d13 hwa ⊢
  go_enter Tryd.func12, Tryd.ntmps12
  unfold mgC at *
  dsimp only at *
  (try dsimp only); repeat' (first | go_values | go_skip | go_guarded | go_step | go_upon | go_back)
  rw [← hwa]
  (try rw [← hb2])
  (try rw [← hb1])
  clear hwa hb1 hb2
  refine HC.out.mono ?_
  rintro r0 w1 ⟨u, rfl, h2⟩
  clear HC d7 d8 d9 d10 d11 d12 d13
  obtain ⟨au, ac, rfl, -⟩ := h2.rnForm
  rw [hnls] at h2 ⊢
  have h2' : Sep w [Cl b1 #[.int .i64 gk, .int .i64 gf, .int .i64 gt, .int .i64 gv, .int .i64 go, .int .i64 gcm, .int .i64 gla, .int .i64 enc, .int .i64 enm, .int .i64 pk, .string psx.1, .int .i64 po, .int .i64 pn, .slice la nls lc, .int .i64 rc, .int .i64 ra, .int .i64 rb, .bool s, .int .i64 ib, .slice ca nck cc, .slice ea nps ec, .int .i64 ic] 39, Cl b2 #[.int .i64 0, .int .i64 0, .int .i64 0, .int .i64 0, .int .i64 0, .int .i64 0, .int .i64 0, .int .i64 0, .int .i64 0, .int .i64 0, .string ⟨#[]⟩, .int .i64 0, .int .i64 0, .slice none 0 0, .int .i64 0, .int .i64 0, .int .i64 0, .bool false, .int .i64 0, .slice none 0 0, .slice none 0 0, .int .i64 0] 39, LnR (.slice au nls ac) pls] w1 := by
    exact Sep.pick h2 [2, 1, 0] rfl
  have HTH := Lib.hid (h2'.thereAt 7 7 (by simp))
  have h3 := Sep.setCells [.int .i64 enc, .int .i64 enm, .int .i64 pk, .string psx.1, .int .i64 po, .int .i64 pn, .slice au nls ac] _ 7 _ h2'
  rw [show writeAt #[.int .i64 gk, .int .i64 gf, .int .i64 gt, .int .i64 gv, .int .i64 go, .int .i64 gcm, .int .i64 gla, .int .i64 enc, .int .i64 enm, .int .i64 pk, .string psx.1, .int .i64 po, .int .i64 pn, .slice la nls lc, .int .i64 rc, .int .i64 ra, .int .i64 rb, .bool s, .int .i64 ib, .slice ca nck cc, .slice ea nps ec, .int .i64 ic] 7 [.int .i64 enc, .int .i64 enm, .int .i64 pk, .string psx.1, .int .i64 po, .int .i64 pn, .slice au nls ac] = #[.int .i64 gk, .int .i64 gf, .int .i64 gt, .int .i64 gv, .int .i64 go, .int .i64 gcm, .int .i64 gla, .int .i64 enc, .int .i64 enm, .int .i64 pk, .string psx.1, .int .i64 po, .int .i64 pn, .slice au nls ac, .int .i64 rc, .int .i64 ra, .int .i64 rb, .bool s, .int .i64 ib, .slice ca nck cc, .slice ea nps ec, .int .i64 ic] by simp [writeAt]] at h3
  obtain ⟨w2, hw2⟩ : ∃ z, z = w1.setCells b1 7 [.int .i64 enc, .int .i64 enm, .int .i64 pk, .string psx.1, .int .i64 po, .int .i64 pn, .slice au nls ac] := ⟨_, rfl⟩
  rw [← hw2] at h3
  have HE2 := Lib.hid (HE.out w2 h3.low)
  have i18 := h3.cell (o := 18) (x := .int .i64 ib) rfl
  have i19 := h3.cell (o := 19) (x := .slice ca nck cc) rfl
  have i20 := h3.cell (o := 20) (x := .slice ea nps ec) rfl
  have i21 := h3.cell (o := 21) (x := .int .i64 ic) rfl
  have H3 := Lib.hid h3
  clear h2 h2' h3 HE
  (try dsimp only); repeat' (first | (with_reducible show wpList _ _ _ (Oper.mk _ (Op.store 32 _ _) _ _ _ _ :: _) _ _; refine stopP ?_) | go_values | go_skip | go_guarded | go_step | go_upon | go_back)
  unfold StopP
  refine wpList_store_mid rfl 32 (.tmp 6) (.tmp 5) rfl b1 7 #[.int .i64 enc, .int .i64 enm, .int .i64 pk, .string psx.1, .int .i64 po, .int .i64 pn, .slice au nls ac] rfl rfl HTH.out (by kernel_rfl) (by first | kernel_rfl | assumption) ?_
  show wpList _ _ _ _ _ (w1.setCells b1 7 [.int .i64 enc, .int .i64 enm, .int .i64 pk, .string psx.1, .int .i64 po, .int .i64 pn, .slice au nls ac])
  rw [← hw2]
  clear hw2 HTH
  (try dsimp only); repeat' (first | go_values | go_skip | go_guarded | go_step | go_upon | go_back)
  refine HE2.out.mono ?_
  rintro r0 w3 ⟨cu, eu, qs, rfl, hqs, h4⟩
  have h5 := H3.out.onto2 h4
  clear HE2 i18 i19 i20 i21 H3 h4
  obtain ⟨cau, cac, rfl⟩ := bv_form h5.sl
  obtain ⟨eau, eac, rfl, -⟩ := h5.sw2.enForm
  have hql : qs.length = nps := by have := congrArg List.length hqs; simp at this; omega
  rw [hnck, hql] at h5 ⊢
  have h5' : Sep w [Cl b1 #[.int .i64 gk, .int .i64 gf, .int .i64 gt, .int .i64 gv, .int .i64 go, .int .i64 gcm, .int .i64 gla, .int .i64 enc, .int .i64 enm, .int .i64 pk, .string psx.1, .int .i64 po, .int .i64 pn, .slice au nls ac, .int .i64 rc, .int .i64 ra, .int .i64 rb, .bool s, .int .i64 ib, .slice ca nck cc, .slice ea nps ec, .int .i64 ic] 39, Cl b2 #[.int .i64 0, .int .i64 0, .int .i64 0, .int .i64 0, .int .i64 0, .int .i64 0, .int .i64 0, .int .i64 0, .int .i64 0, .int .i64 0, .string ⟨#[]⟩, .int .i64 0, .int .i64 0, .slice none 0 0, .int .i64 0, .int .i64 0, .int .i64 0, .bool false, .int .i64 0, .slice none 0 0, .slice none 0 0, .int .i64 0] 39, LnR (.slice au nls ac) pls, By (.slice cau nck cac) ck, EnT (.slice eau nps eac) qs] w3 := Sep.pick h5 [2, 3, 4, 0, 1] rfl
  have HTH := Lib.hid (h5'.thereAt 18 4 (by simp))
  have h6 := Sep.setCells [.int .i64 ib, .slice cau nck cac, .slice eau nps eac, .int .i64 ic] _ 18 _ h5'
  rw [show writeAt #[.int .i64 gk, .int .i64 gf, .int .i64 gt, .int .i64 gv, .int .i64 go, .int .i64 gcm, .int .i64 gla, .int .i64 enc, .int .i64 enm, .int .i64 pk, .string psx.1, .int .i64 po, .int .i64 pn, .slice au nls ac, .int .i64 rc, .int .i64 ra, .int .i64 rb, .bool s, .int .i64 ib, .slice ca nck cc, .slice ea nps ec, .int .i64 ic] 18 [.int .i64 ib, .slice cau nck cac, .slice eau nps eac, .int .i64 ic] = #[.int .i64 gk, .int .i64 gf, .int .i64 gt, .int .i64 gv, .int .i64 go, .int .i64 gcm, .int .i64 gla, .int .i64 enc, .int .i64 enm, .int .i64 pk, .string psx.1, .int .i64 po, .int .i64 pn, .slice au nls ac, .int .i64 rc, .int .i64 ra, .int .i64 rb, .bool s, .int .i64 ib, .slice cau nck cac, .slice eau nps eac, .int .i64 ic] by simp [writeAt]] at h6
  obtain ⟨w4, hw4⟩ : ∃ z, z = w3.setCells b1 18 [.int .i64 ib, .slice cau nck cac, .slice eau nps eac, .int .i64 ic] := ⟨_, rfl⟩
  rw [← hw4] at h6
  have HL := Lib.hid (h6.loadW 39 Tryd.underlying39 rfl (by kernel_rfl))
  have HT2 := Lib.hid (h6.sw2.thereAt 0 22 (by simp))
  have h7 := h6.sw2.storeW #[.int .i64 gk, .int .i64 gf, .int .i64 gt, .int .i64 gv, .int .i64 go, .int .i64 gcm, .int .i64 gla, .int .i64 enc, .int .i64 enm, .int .i64 pk, .string psx.1, .int .i64 po, .int .i64 pn, .slice au nls ac, .int .i64 rc, .int .i64 ra, .int .i64 rb, .bool s, .int .i64 ib, .slice cau nck cac, .slice eau nps eac, .int .i64 ic] rfl
  have HV := Lib.hid (h7.loadV 39 Tryd.underlying39 rfl (by kernel_rfl))
  have H7 := Lib.hid h7.drop.drop
  have HU := Lib.hid hqs
  clear h5 h5' h6 h7 hqs hql
  (try dsimp only); repeat' (first | (with_reducible show wpList _ _ _ (Oper.mk _ (Op.store 37 _ _) _ _ _ _ :: _) _ _; refine stopP ?_) | go_values | go_skip | go_guarded | go_step | go_upon | go_back)
  unfold StopP
  refine wpList_store_mid rfl 37 (.tmp 10) (.tmp 9) rfl b1 18 #[.int .i64 ib, .slice cau nck cac, .slice eau nps eac, .int .i64 ic] rfl rfl HTH.out (by kernel_rfl) (by first | kernel_rfl | assumption) ?_
  show wpList _ _ _ _ _ (w3.setCells b1 18 [.int .i64 ib, .slice cau nck cac, .slice eau nps eac, .int .i64 ic])
  rw [← hw4]
  clear hw4 HTH
  (try dsimp only); repeat' (first | (with_reducible show wpList _ _ _ (Oper.mk _ (Op.load 39 _) _ _ _ _ :: _) _ _; refine stopP ?_) | go_values | go_skip | go_guarded | go_step | go_upon | go_back)
  unfold StopP
  have hq_ := HL.out
  refine wpList_load_run rfl 39 _ rfl _ _ rfl hq_ ?_
  clear hq_
  (try dsimp only); repeat' (first | (with_reducible show wpList _ _ _ (Oper.mk _ (Op.store 39 _ _) _ _ _ _ :: _) _ _; refine stopP ?_) | go_values | go_skip | go_guarded | go_step | go_upon | go_back)
  unfold StopP
  refine wpList_store_mid rfl 39 (.tmp 2) (.tmp 11) rfl b2 0 #[.int .i64 gk, .int .i64 gf, .int .i64 gt, .int .i64 gv, .int .i64 go, .int .i64 gcm, .int .i64 gla, .int .i64 enc, .int .i64 enm, .int .i64 pk, .string psx.1, .int .i64 po, .int .i64 pn, .slice au nls ac, .int .i64 rc, .int .i64 ra, .int .i64 rb, .bool s, .int .i64 ib, .slice cau nck cac, .slice eau nps eac, .int .i64 ic] rfl rfl HT2.out (by kernel_rfl) (by first | kernel_rfl | assumption) ?_
  (try dsimp only); repeat' (first | go_values | go_skip | go_guarded | go_step | go_upon | go_back)
  exact bodyPost_ret (results_cell rfl rfl HV.out) rfl ⟨_, _, _, qs, rfl, HU.out, H7.out⟩
end Go.Proofs.YtafkbodmiblbnaaDoor
