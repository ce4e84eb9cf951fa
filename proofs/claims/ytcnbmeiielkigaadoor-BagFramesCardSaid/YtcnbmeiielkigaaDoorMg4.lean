/- Package msg, of all messages: Same. -/
import Derived.Test.YtcnbmeiielkigaaDoorMg3
namespace Go.Proofs.YtcnbmeiielkigaaDoor
open Go Go.RowKit
set_option linter.unusedVariables false
set_option linter.unusedSimpArgs false
/-- Whether two messages are the same, but for their entries. -/
def gSame (g h : MgM) : Bool := decide (g.k = h.k) && (decide (g.f = h.f) && (decide (g.t = h.t) && (decide (g.v = h.v) && (decide (g.o = h.o) && (decide (g.cm = h.cm) && (decide (g.la = h.la) && (enSame g.en h.en && (decide (g.rc = h.rc) && (decide (g.ra = h.ra) && (decide (g.rb = h.rb) && (decide (g.s = h.s) && imgSame g.ib g.ic g.ck h.ib h.ic h.ck)))))))))))
theorem gSame_refl (g h : MgM) (h1 : h.k = g.k ∧ h.f = g.f ∧ h.t = g.t ∧ h.v = g.v ∧ h.o = g.o ∧ h.cm = g.cm ∧ h.la = g.la ∧ h.en = g.en ∧ h.rc = g.rc ∧ h.ra = g.ra ∧ h.rb = g.rb ∧ h.s = g.s ∧ h.ib = g.ib ∧ h.ic = g.ic ∧ h.ck = g.ck) : gSame h g = true := by
  obtain ⟨a1, a2, a3, a4, a5, a6, a7, a8, a9, a10, a11, a12, a13, a14, a15⟩ := h1
  unfold gSame imgSame
  rw [a1, a2, a3, a4, a5, a6, a7, a8, a9, a10, a11, a12, a13, a14, a15]
  simp [enSame, sameB]
set_option maxRecDepth 100000 in
set_option maxHeartbeats 16000000 in
theorem gsame_w {w : World} (g h : MgM) (hg : GmS w g) (hh : GmS w h) (hl : g.ck.length ≤ 1000000000) (hm : h.ck.length ≤ 1000000000) (hx : g.ps.length ≤ 900) (hy : h.ps.length ≤ 900) :
    Calls Tryd.prog 21 #[.agg (mgC g), .agg (mgC h)] w fun e w' => ∃ r, e = .returned (.bool (gSame g h && r)) ∧ (r = true ↔ SameP g.ps h.ps) ∧ Sep w [] w' := by
  obtain ⟨hg1, hg2, hg3⟩ := hg
  obtain ⟨hh1, hh2, hh3⟩ := hh
  have h1 := ((Sep.start w).alloc (.cells (mgC g) 43)).alloc (.cells (mgC h) 43)
  rw [show (w.alloc (.cells (mgC g) 43)).heap.size = w.heap.size + 1 by simp] at h1
  obtain ⟨wa, hwa⟩ : ∃ z, z = (w.alloc (.cells (mgC g) 43)).alloc (.cells (mgC h) 43) := ⟨_, rfl⟩
  obtain ⟨b1, hb1⟩ : ∃ z, z = w.heap.size := ⟨_, rfl⟩
  obtain ⟨b2, hb2⟩ : ∃ z, z = w.heap.size + 1 := ⟨_, rfl⟩
  rw [← hwa, ← hb2, ← hb1] at h1
  have HE := Lib.hid (esame_any g.en h.en g.lv h.lv h1 (hg1.below h1.low) (hh1.below h1.low) (lns_maxl hg1))
  have HI := Lib.hid (fun (wx : World) (hb : Below w.heap.size w wx) => msameimg_w (w := wx) g.ib g.ic h.ib h.ic g.cv g.ev h.cv h.ev g.ck h.ck g.ps h.ps (hg2.below hb) (hh2.below hb) (hg3.below hb) (hh3.below hb) hl hm hx hy)
  obtain ⟨R, hR⟩ := some_r (SameP g.ps h.ps)
  obtain ⟨xlva, xlvc, hlv⟩ := hg1.len
  obtain ⟨xca, xcc, hcv⟩ := bv_form hg2
  obtain ⟨xea, xec2, hev⟩ := hg3.len
  obtain ⟨ylva, ylvc, ilv⟩ := hh1.len
  obtain ⟨yca, ycc, icv⟩ := bv_form hh2
  obtain ⟨yea, yec2, iev⟩ := hh3.len
  unfold gSame
  obtain ⟨xk, xf, xt, xv, xo, xcm, xla, ⟨xec, xem, ⟨xpk, xpx, xpo, xpn, xpls⟩⟩, xlv, xrc, xra, xrb, xs, xib, xck, xcv, xps, xev, xic⟩ := g
  obtain ⟨yk, yf, yt, yv, yo, ycm, yla, ⟨yec, yem, ⟨ypk, ypx, ypo, ypn, ypls⟩⟩, ylv, yrc, yra, yrb, ys, yib, yck, ycv, yps, yev, yic⟩ := h
  dsimp only at *
  subst hlv hcv hev ilv icv iev
  unfold enV at HE
  unfold imgC at HI
  unfold mgC at *
  dsimp only at *
  have HRR := Lib.hid hR
  obtain ⟨eS, heS⟩ : ∃ q, q = enSame ⟨xec, xem, ⟨xpk, xpx, xpo, xpn, xpls⟩⟩ ⟨yec, yem, ⟨ypk, ypx, ypo, ypn, ypls⟩⟩ := ⟨_, rfl⟩
  rw [← heS] at HE ⊢
  obtain ⟨iS, hiS⟩ : ∃ q, q = imgSame xib xic xck yib yic yck := ⟨_, rfl⟩
  rw [← hiS] at HI ⊢
  generalize xck.length = xnck at *
  generalize yck.length = ynck at *
  generalize xpls.length = xnls at *
  generalize ypls.length = ynls at *
  generalize xps.length = xnps at *
  generalize yps.length = ynps at *
  have x0 := h1.sw2.cell (o := 0) rfl
  have y0 := h1.cell (o := 0) rfl
  have x1 := h1.sw2.cell (o := 1) rfl
  have y1 := h1.cell (o := 1) rfl
  have x2 := h1.sw2.cell (o := 2) rfl
  have y2 := h1.cell (o := 2) rfl
  have x3 := h1.sw2.cell (o := 3) rfl
  have y3 := h1.cell (o := 3) rfl
  have x4 := h1.sw2.cell (o := 4) rfl
  have y4 := h1.cell (o := 4) rfl
  have x5 := h1.sw2.cell (o := 5) rfl
  have y5 := h1.cell (o := 5) rfl
  have x6 := h1.sw2.cell (o := 6) rfl
  have y6 := h1.cell (o := 6) rfl
  have x7 := h1.sw2.cell (o := 7) rfl
  have y7 := h1.cell (o := 7) rfl
  have x8 := h1.sw2.cell (o := 8) rfl
  have y8 := h1.cell (o := 8) rfl
  have x9 := h1.sw2.cell (o := 9) rfl
  have y9 := h1.cell (o := 9) rfl
  have x10 := h1.sw2.cell (o := 10) rfl
  have y10 := h1.cell (o := 10) rfl
  have x11 := h1.sw2.cell (o := 11) rfl
  have y11 := h1.cell (o := 11) rfl
  have x12 := h1.sw2.cell (o := 12) rfl
  have y12 := h1.cell (o := 12) rfl
  have x13 := h1.sw2.cell (o := 13) rfl
  have y13 := h1.cell (o := 13) rfl
  have H1 := Lib.hid h1
  clear h1 hg1 hg2 hg3 hh1 hh2 hh3 hl hm hx hy hR heS hiS
  by_cases zk : xk = yk
  · subst zk
    by_cases zf : xf = yf
    · subst zf
      by_cases zt : xt = yt
      · subst zt
        by_cases zv : xv = yv
        · subst zv
          by_cases zo : xo = yo
          · subst zo
            by_cases zcm : xcm = ycm
            · subst zcm
              by_cases zla : xla = yla
              · subst zla
                go_enter Tryd.func21, Tryd.ntmps21
                (try dsimp only); repeat' (first | go_values | go_skip | go_guarded | go_step | go_upon | go_back)
                (try rw [← hwa])
                (try rw [← hb2])
                (try rw [← hb1])
                clear hwa hb1 hb2
                refine HE.out.mono ?_
                rintro rE wE ⟨rfl, hE⟩
                have HsE := Lib.hid hE
                clear hE HE H1 x0 y0 x1 y1 x2 y2 x3 y3 x4 y4 x5 y5 x6 y6 x7 y7 x8 y8 x9 y9 x10 y10 x11 y11 x12 y12 x13 y13
                cases eS with
                | false =>
                  as_aux_lemma =>
                    (try dsimp only); repeat' (first | go_values | go_skip | go_guarded | go_step | go_upon | go_back)
                    go_ret
                    exact ⟨R, by show Ending.returned (Value.bool false) = _; simp, HRR.out, HsE.out.drop.drop⟩
                | true =>
                  have x14 := HsE.out.sw2.cell (o := 14) rfl
                  have y14 := HsE.out.cell (o := 14) rfl
                  have x15 := HsE.out.sw2.cell (o := 15) rfl
                  have y15 := HsE.out.cell (o := 15) rfl
                  have x16 := HsE.out.sw2.cell (o := 16) rfl
                  have y16 := HsE.out.cell (o := 16) rfl
                  have x17 := HsE.out.sw2.cell (o := 17) rfl
                  have y17 := HsE.out.cell (o := 17) rfl
                  have x18 := HsE.out.sw2.cell (o := 18) rfl
                  have y18 := HsE.out.cell (o := 18) rfl
                  have x19 := HsE.out.sw2.cell (o := 19) rfl
                  have y19 := HsE.out.cell (o := 19) rfl
                  have x20 := HsE.out.sw2.cell (o := 20) rfl
                  have y20 := HsE.out.cell (o := 20) rfl
                  have x21 := HsE.out.sw2.cell (o := 21) rfl
                  have y21 := HsE.out.cell (o := 21) rfl
                  by_cases zrc : xrc = yrc
                  · subst zrc
                    by_cases zra : xra = yra
                    · subst zra
                      by_cases zrb : xrb = yrb
                      · subst zrb
                        by_cases zs : xs = ys
                        · subst zs
                          have zss : (xs == xs) = true := by simp
                          (try dsimp only); repeat' (first | go_values | go_skip | go_guarded | go_step | go_upon | go_back)
                          refine (HI.out _ HsE.out.low).mono ?_
                          rintro rI wI ⟨r, rfl, hr, hI⟩
                          have HsI := Lib.hid (And.intro hr (HsE.out.below hI.low))
                          clear hI hr HI HsE x14 y14 x15 y15 x16 y16 x17 y17 x18 y18 x19 y19 x20 y20 x21 y21
                          (try dsimp only); repeat' (first | go_values | go_skip | go_guarded | go_step | go_upon | go_back)
                          go_ret
                          exact ⟨r, by show Ending.returned (Value.bool (iS && r)) = _; simp, HsI.out.1, HsI.out.2.drop.drop⟩
                        · as_aux_lemma =>
                            have d1 : (xs == ys) = false := beq_eq_false_iff_ne.2 zs
                            (try dsimp only); repeat' (first | go_values | go_skip | go_guarded | go_step | go_upon | go_back)
                            go_ret
                            exact ⟨R, by show Ending.returned (Value.bool false) = _; simp [zs], HRR.out, HsE.out.drop.drop⟩
                      · as_aux_lemma =>
                          have d1 : (xrb == yrb) = false := beq_eq_false_iff_ne.2 zrb
                          (try dsimp only); repeat' (first | go_values | go_skip | go_guarded | go_step | go_upon | go_back)
                          go_ret
                          exact ⟨R, by show Ending.returned (Value.bool false) = _; simp [zrb], HRR.out, HsE.out.drop.drop⟩
                    · as_aux_lemma =>
                        have d1 : (xra == yra) = false := beq_eq_false_iff_ne.2 zra
                        (try dsimp only); repeat' (first | go_values | go_skip | go_guarded | go_step | go_upon | go_back)
                        go_ret
                        exact ⟨R, by show Ending.returned (Value.bool false) = _; simp [zra], HRR.out, HsE.out.drop.drop⟩
                  · as_aux_lemma =>
                      have d1 : (xrc == yrc) = false := beq_eq_false_iff_ne.2 zrc
                      (try dsimp only); repeat' (first | go_values | go_skip | go_guarded | go_step | go_upon | go_back)
                      go_ret
                      exact ⟨R, by show Ending.returned (Value.bool false) = _; simp [zrc], HRR.out, HsE.out.drop.drop⟩
              · skip
                · have d1 : (xla == yla) = false := beq_eq_false_iff_ne.2 zla
                  clear HE HI
                  go_enter Tryd.func21, Tryd.ntmps21
                  (try dsimp only); repeat' (first | go_values | go_skip | go_guarded | go_step | go_upon | go_back)
                  (try rw [← hwa])
                  go_ret
                  exact ⟨R, by show Ending.returned (Value.bool false) = _; simp [zla], HRR.out, H1.out.drop.drop⟩
            · skip
              · have d1 : (xcm == ycm) = false := beq_eq_false_iff_ne.2 zcm
                clear HE HI
                go_enter Tryd.func21, Tryd.ntmps21
                (try dsimp only); repeat' (first | go_values | go_skip | go_guarded | go_step | go_upon | go_back)
                (try rw [← hwa])
                go_ret
                exact ⟨R, by show Ending.returned (Value.bool false) = _; simp [zcm], HRR.out, H1.out.drop.drop⟩
          · skip
            · have d1 : (xo == yo) = false := beq_eq_false_iff_ne.2 zo
              clear HE HI
              go_enter Tryd.func21, Tryd.ntmps21
              (try dsimp only); repeat' (first | go_values | go_skip | go_guarded | go_step | go_upon | go_back)
              (try rw [← hwa])
              go_ret
              exact ⟨R, by show Ending.returned (Value.bool false) = _; simp [zo], HRR.out, H1.out.drop.drop⟩
        · skip
          · have d1 : (xv == yv) = false := beq_eq_false_iff_ne.2 zv
            clear HE HI
            go_enter Tryd.func21, Tryd.ntmps21
            (try dsimp only); repeat' (first | go_values | go_skip | go_guarded | go_step | go_upon | go_back)
            (try rw [← hwa])
            go_ret
            exact ⟨R, by show Ending.returned (Value.bool false) = _; simp [zv], HRR.out, H1.out.drop.drop⟩
      · skip
        · have d1 : (xt == yt) = false := beq_eq_false_iff_ne.2 zt
          clear HE HI
          go_enter Tryd.func21, Tryd.ntmps21
          (try dsimp only); repeat' (first | go_values | go_skip | go_guarded | go_step | go_upon | go_back)
          (try rw [← hwa])
          go_ret
          exact ⟨R, by show Ending.returned (Value.bool false) = _; simp [zt], HRR.out, H1.out.drop.drop⟩
    · skip
      · have d1 : (xf == yf) = false := beq_eq_false_iff_ne.2 zf
        clear HE HI
        go_enter Tryd.func21, Tryd.ntmps21
        (try dsimp only); repeat' (first | go_values | go_skip | go_guarded | go_step | go_upon | go_back)
        (try rw [← hwa])
        go_ret
        exact ⟨R, by show Ending.returned (Value.bool false) = _; simp [zf], HRR.out, H1.out.drop.drop⟩
  · skip
    · have d1 : (xk == yk) = false := beq_eq_false_iff_ne.2 zk
      clear HE HI
      go_enter Tryd.func21, Tryd.ntmps21
      (try dsimp only); repeat' (first | go_values | go_skip | go_guarded | go_step | go_upon | go_back)
      (try rw [← hwa])
      go_ret
      exact ⟨R, by show Ending.returned (Value.bool false) = _; simp [zk], HRR.out, H1.out.drop.drop⟩
end Go.Proofs.YtcnbmeiielkigaaDoor
