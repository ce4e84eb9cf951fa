/- The document's Same. -/
import Derived.Test.YtcnbmeiielkigaaGreatDoorMZ24
import Derived.Test.YtcnbmeiielkigaaGreatDoorMZ29
import Derived.Test.YtcnbmeiielkigaaGreatDoorMZ23
namespace Go.Proofs.YtcnbmeiielkigaaGreatDoor
open Go Go.RowKit
set_option linter.unusedVariables false
set_option linter.unusedSimpArgs false
set_option maxRecDepth 100000 in
set_option maxHeartbeats 16000000 in
theorem rgsame_w {w : World} (g h : MgM) (hg : GmS w g) (hh : GmS w h) (hl : g.ck.length ≤ 1000000000) (hm : h.ck.length ≤ 1000000000) (hx : g.ps.length ≤ 1000000) (hy : h.ps.length ≤ 1000000) :
  Calls Tryz.prog 26 #[.agg (mgC g), .agg (mgC h)] w fun e w' => ∃ r, e = .returned (.bool (gSame g h && r)) ∧ (r = true ↔ SameP g.ps h.ps) ∧ Sep w [] w' := by
 obtain ⟨hg1, hg2, hg3⟩ := hg
 obtain ⟨hh1, hh2, hh3⟩ := hh
 have h1 := ((Sep.start w).alloc (.cells (mgC g) 40)).alloc (.cells (mgC h) 40)
 rw [show (w.alloc (.cells (mgC g) 40)).heap.size = w.heap.size + 1 by simp] at h1
 obtain ⟨wa, hwa⟩ : ∃ z, z = (w.alloc (.cells (mgC g) 40)).alloc (.cells (mgC h) 40) := ⟨_, rfl⟩
 obtain ⟨b1, hb1⟩ : ∃ z, z = w.heap.size := ⟨_, rfl⟩
 obtain ⟨b2, hb2⟩ : ∃ z, z = w.heap.size + 1 := ⟨_, rfl⟩
 rw [← hwa, ← hb2, ← hb1] at h1
 have HE := Lib.hid (resame_any g.en h.en g.lv h.lv h1 (hg1.below h1.low) (hh1.below h1.low) (lns_maxl hg1))
 have HI := Lib.hid (fun (wx : World) (hb : Below w.heap.size w wx) => rsameimg_w (w := wx) g.ib g.ic h.ib h.ic g.cv g.ev h.cv h.ev g.ck h.ck g.ps h.ps (hg2.below hb) (hh2.below hb) (hg3.below hb) (hh3.below hb) hl hm hx hy)
 obtain ⟨R, hR⟩ := some_r (SameP g.ps h.ps)
 obtain ⟨xlva, xlvc, hlv⟩ := hg1.len
 obtain ⟨xca, xcc, hcv⟩ := bv_form hg2
 obtain ⟨xea, xec2, hev⟩ := hg3.len
 obtain ⟨ylva, ylvc, ilv⟩ := hh1.len
 obtain ⟨yca, ycc, icv⟩ := bv_form hh2
 obtain ⟨yea, yec2, iev⟩ := hh3.len
 unfold gSame
 obtain ⟨xk, xf, xt, xv, xo, xcm, xla, ⟨xec, xem, ⟨xpk, xpx, xpo, xpn, xpls⟩⟩, xlv, xrc, xra, xrb, xs, xib, xck, xcv, xps, xev, xic⟩ := g
 obtain ⟨yk, yf, yt, yv, yo, ycm, yla, ⟨yec, yem, ⟨ypk, ypx, ypo, ypn, ypls⟩⟩, ylv, yrc, yra, yrb, ys, yib, yck, ycv, yps, yev, yic⟩ := h
 dsimp only at *
 subst hlv hcv hev ilv icv iev
 unfold enV at HE
 unfold imgC at HI
 unfold mgC at *
 dsimp only at *
 have HRR := Lib.hid hR
 obtain ⟨eS, heS⟩ : ∃ q, q = enSame ⟨xec, xem, ⟨xpk, xpx, xpo, xpn, xpls⟩⟩ ⟨yec, yem, ⟨ypk, ypx, ypo, ypn, ypls⟩⟩ := ⟨_, rfl⟩
 rw [← heS] at HE ⊢
 obtain ⟨iS, hiS⟩ : ∃ q, q = imgSame xib xic xck yib yic yck := ⟨_, rfl⟩
 rw [← hiS] at HI ⊢
 generalize xck.length = xnck at *
 generalize yck.length = ynck at *
 generalize xpls.length = xnls at *
 generalize ypls.length = ynls at *
 generalize xps.length = xnps at *
 generalize yps.length = ynps at *
 have x0 := h1.sw2.cell (o := 0) rfl
 have y0 := h1.cell (o := 0) rfl
 have x1 := h1.sw2.cell (o := 1) rfl
 have y1 := h1.cell (o := 1) rfl
 have x2 := h1.sw2.cell (o := 2) rfl
 have y2 := h1.cell (o := 2) rfl
 have x3 := h1.sw2.cell (o := 3) rfl
 have y3 := h1.cell (o := 3) rfl
 have x4 := h1.sw2.cell (o := 4) rfl
 have y4 := h1.cell (o := 4) rfl
 have x5 := h1.sw2.cell (o := 5) rfl
 have y5 := h1.cell (o := 5) rfl
 have x6 := h1.sw2.cell (o := 6) rfl
 have y6 := h1.cell (o := 6) rfl
 have x7 := h1.sw2.cell (o := 7) rfl
 have y7 := h1.cell (o := 7) rfl
 have x8 := h1.sw2.cell (o := 8) rfl
 have y8 := h1.cell (o := 8) rfl
 have x9 := h1.sw2.cell (o := 9) rfl
 have y9 := h1.cell (o := 9) rfl
 have x10 := h1.sw2.cell (o := 10) rfl
 have y10 := h1.cell (o := 10) rfl
 have x11 := h1.sw2.cell (o := 11) rfl
 have y11 := h1.cell (o := 11) rfl
 have x12 := h1.sw2.cell (o := 12) rfl
 have y12 := h1.cell (o := 12) rfl
 have x13 := h1.sw2.cell (o := 13) rfl
 have y13 := h1.cell (o := 13) rfl
 have H1 := Lib.hid h1
 clear h1 hg1 hg2 hg3 hh1 hh2 hh3 hl hm hx hy hR heS hiS
 by_cases zk : xk = yk
 ·subst zk
  by_cases zf : xf = yf
  ·subst zf
   by_cases zt : xt = yt
   ·subst zt
    by_cases zv : xv = yv
    ·subst zv
     by_cases zo : xo = yo
     ·subst zo
      by_cases zcm : xcm = ycm
      ·subst zcm
       by_cases zla : xla = yla
       ·subst zla
        go_enter Tryz.func26, Tryz.ntmps26
        (try dsimp only); repeat' (first | go_values | go_skip | go_guarded | go_step | go_upon | go_back)
        (try rw [← hwa])
        (try rw [← hb2])
        (try rw [← hb1])
        clear hwa hb1 hb2
        refine HE.out.mono ?_
        rintro rE wE ⟨rfl, hE⟩
        have HsE := Lib.hid hE
        clear hE HE H1 x0 y0 x1 y1 x2 y2 x3 y3 x4 y4 x5 y5 x6 y6 x7 y7 x8 y8 x9 y9 x10 y10 x11 y11 x12 y12 x13 y13
        cases eS with
        | false =>
         as_aux_lemma =>
          (try dsimp only); repeat' (first | go_values | go_skip | go_guarded | go_step | go_upon | go_back)
          go_ret
          exact ⟨R, by show Ending.returned (Value.bool false) = _; simp, HRR.out, HsE.out.drop.drop⟩
        | true =>
         have x14 := HsE.out.sw2.cell (o := 14) rfl
         have y14 := HsE.out.cell (o := 14) rfl
         have x15 := HsE.out.sw2.cell (o := 15) rfl
         have y15 := HsE.out.cell (o := 15) rfl
         have x16 := HsE.out.sw2.cell (o := 16) rfl
         have y16 := HsE.out.cell (o := 16) rfl
         have x17 := HsE.out.sw2.cell (o := 17) rfl
         have y17 := HsE.out.cell (o := 17) rfl
         have x18 := HsE.out.sw2.cell (o := 18) rfl
         have y18 := HsE.out.cell (o := 18) rfl
         have x19 := HsE.out.sw2.cell (o := 19) rfl
         have y19 := HsE.out.cell (o := 19) rfl
         have x20 := HsE.out.sw2.cell (o := 20) rfl
         have y20 := HsE.out.cell (o := 20) rfl
         have x21 := HsE.out.sw2.cell (o := 21) rfl
         have y21 := HsE.out.cell (o := 21) rfl
         by_cases zrc : xrc = yrc
         ·subst zrc
          by_cases zra : xra = yra
          ·subst zra
           by_cases zrb : xrb = yrb
           ·subst zrb
            by_cases zs : xs = ys
            ·subst zs
             have zss : (xs == xs) = true := by simp
             (try dsimp only); repeat' (first | go_values | go_skip | go_guarded | go_step | go_upon | go_back)
             refine (HI.out _ HsE.out.low).mono ?_
             rintro rI wI ⟨r, rfl, hr, hI⟩
             have HsI := Lib.hid (And.intro hr (HsE.out.below hI.low))
             clear hI hr HI HsE x14 y14 x15 y15 x16 y16 x17 y17 x18 y18 x19 y19 x20 y20 x21 y21
             (try dsimp only); repeat' (first | go_values | go_skip | go_guarded | go_step | go_upon | go_back)
             go_ret
             exact ⟨r, by show Ending.returned (Value.bool (iS && r)) = _; simp, HsI.out.1, HsI.out.2.drop.drop⟩
            ·as_aux_lemma =>
              have d1 : (xs == ys) = false := beq_eq_false_iff_ne.2 zs
              (try dsimp only); repeat' (first | go_values | go_skip | go_guarded | go_step | go_upon | go_back)
              go_ret
              exact ⟨R, by show Ending.returned (Value.bool false) = _; simp [zs], HRR.out, HsE.out.drop.drop⟩
           ·as_aux_lemma =>
             have d1 : (xrb == yrb) = false := beq_eq_false_iff_ne.2 zrb
             (try dsimp only); repeat' (first | go_values | go_skip | go_guarded | go_step | go_upon | go_back)
             go_ret
             exact ⟨R, by show Ending.returned (Value.bool false) = _; simp [zrb], HRR.out, HsE.out.drop.drop⟩
          ·as_aux_lemma =>
            have d1 : (xra == yra) = false := beq_eq_false_iff_ne.2 zra
            (try dsimp only); repeat' (first | go_values | go_skip | go_guarded | go_step | go_upon | go_back)
            go_ret
            exact ⟨R, by show Ending.returned (Value.bool false) = _; simp [zra], HRR.out, HsE.out.drop.drop⟩
         ·as_aux_lemma =>
           have d1 : (xrc == yrc) = false := beq_eq_false_iff_ne.2 zrc
           (try dsimp only); repeat' (first | go_values | go_skip | go_guarded | go_step | go_upon | go_back)
           go_ret
           exact ⟨R, by show Ending.returned (Value.bool false) = _; simp [zrc], HRR.out, HsE.out.drop.drop⟩
       ·skip
        ·have d1 : (xla == yla) = false := beq_eq_false_iff_ne.2 zla
         clear HE HI
         go_enter Tryz.func26, Tryz.ntmps26
         (try dsimp only); repeat' (first | go_values | go_skip | go_guarded | go_step | go_upon | go_back)
         (try rw [← hwa])
         go_ret
         exact ⟨R, by show Ending.returned (Value.bool false) = _; simp [zla], HRR.out, H1.out.drop.drop⟩
      ·skip
       ·have d1 : (xcm == ycm) = false := beq_eq_false_iff_ne.2 zcm
        clear HE HI
        go_enter Tryz.func26, Tryz.ntmps26
        (try dsimp only); repeat' (first | go_values | go_skip | go_guarded | go_step | go_upon | go_back)
        (try rw [← hwa])
        go_ret
        exact ⟨R, by show Ending.returned (Value.bool false) = _; simp [zcm], HRR.out, H1.out.drop.drop⟩
     ·skip
      ·have d1 : (xo == yo) = false := beq_eq_false_iff_ne.2 zo
       clear HE HI
       go_enter Tryz.func26, Tryz.ntmps26
       (try dsimp only); repeat' (first | go_values | go_skip | go_guarded | go_step | go_upon | go_back)
       (try rw [← hwa])
       go_ret
       exact ⟨R, by show Ending.returned (Value.bool false) = _; simp [zo], HRR.out, H1.out.drop.drop⟩
    ·skip
     ·have d1 : (xv == yv) = false := beq_eq_false_iff_ne.2 zv
      clear HE HI
      go_enter Tryz.func26, Tryz.ntmps26
      (try dsimp only); repeat' (first | go_values | go_skip | go_guarded | go_step | go_upon | go_back)
      (try rw [← hwa])
      go_ret
      exact ⟨R, by show Ending.returned (Value.bool false) = _; simp [zv], HRR.out, H1.out.drop.drop⟩
   ·skip
    ·have d1 : (xt == yt) = false := beq_eq_false_iff_ne.2 zt
     clear HE HI
     go_enter Tryz.func26, Tryz.ntmps26
     (try dsimp only); repeat' (first | go_values | go_skip | go_guarded | go_step | go_upon | go_back)
     (try rw [← hwa])
     go_ret
     exact ⟨R, by show Ending.returned (Value.bool false) = _; simp [zt], HRR.out, H1.out.drop.drop⟩
  ·skip
   ·have d1 : (xf == yf) = false := beq_eq_false_iff_ne.2 zf
    clear HE HI
    go_enter Tryz.func26, Tryz.ntmps26
    (try dsimp only); repeat' (first | go_values | go_skip | go_guarded | go_step | go_upon | go_back)
    (try rw [← hwa])
    go_ret
    exact ⟨R, by show Ending.returned (Value.bool false) = _; simp [zf], HRR.out, H1.out.drop.drop⟩
 ·skip
  ·have d1 : (xk == yk) = false := beq_eq_false_iff_ne.2 zk
   clear HE HI
   go_enter Tryz.func26, Tryz.ntmps26
   (try dsimp only); repeat' (first | go_values | go_skip | go_guarded | go_step | go_upon | go_back)
   (try rw [← hwa])
   go_ret
   exact ⟨R, by show Ending.returned (Value.bool false) = _; simp [zk], HRR.out, H1.out.drop.drop⟩
end Go.Proofs.YtcnbmeiielkigaaGreatDoor
/- Messages with what they have; both bags of such messages. -/
namespace Go.Proofs.YtcnbmeiielkigaaGreatDoor
open Go Go.RowKit
set_option linter.unusedVariables false
set_option linter.unusedSimpArgs false
variable {w0 w : World} {b : Nat} {gs : List MgM} {L : List Thing}
/-- What a message has. -/
def MT (g : MgM) : Thing := Both (LnR g.lv g.en.p.ls) (Both (By g.cv g.ck) (EnT g.ev g.ps))
theorem loc_mt (g : MgM) : Loc (MT g) := loc_both (loc_rn _ _ _ _ _) (loc_both (loc_rw _ _ _) (loc_enT _ _))
theorem Sep.mtOpen {g : MgM} (h : Sep w0 (MT g :: L) w) : Sep w0 (LnR g.lv g.en.p.ls :: By g.cv g.ck :: EnT g.ev g.ps :: L) w :=
 ((h.both (loc_rn _ _ _ _ _) (loc_both (loc_rw _ _ _) (loc_enT _ _))).sw2.both (loc_rw _ _ _) (loc_enT _ _)).sw3
theorem Sep.mtClose {g : MgM} (h : Sep w0 (LnR g.lv g.en.p.ls :: By g.cv g.ck :: EnT g.ev g.ps :: L) w) : Sep w0 (MT g :: L) w := (h.to3.join).sw2.join
theorem Sep.mtGm {g : MgM} (h : Sep w0 (MT g :: L) w) : GmS w g := gm_own h.mtOpen
def MTs (gs : List MgM) : Thing := Grp (gs.map MT)
theorem mts_loc (gs : List MgM) : ∀ A ∈ gs.map MT, Loc A := by intro A hA; obtain ⟨g, -, rfl⟩ := List.mem_map.1 hA; exact loc_mt g
theorem loc_mts (gs : List MgM) : Loc (MTs gs) := loc_grp (mts_loc gs)
theorem Sep.mtsAt (h : Sep w0 (MTs gs :: L) w) (i : Nat) (hi : i < gs.length) : GmS w gs[i] := by
 obtain ⟨M, hM⟩ := (h.open_ (mts_loc gs)).memT (A := MT gs[i]) (List.mem_append_left _ (List.mem_map.2 ⟨gs[i], List.getElem_mem hi, rfl⟩))
 exact hM.mtGm
theorem Sep.mtsNil (h : Sep w0 L w) : Sep w0 (MTs [] :: L) w := Sep.close (M := []) h
theorem Sep.mtsSnoc {g : MgM} (h : Sep w0 (MT g :: MTs gs :: L) w) : Sep w0 (MTs (gs ++ [g]) :: L) w := by
 have h1 := h.sw2.open_ (mts_loc gs)
 refine Sep.close ?_
 rw [List.map_append, List.append_assoc]
 exact h1
theorem perm_erase {α : Type} (l : List α) (i : Nat) (hi : i < l.length) : l.Perm (l[i] :: l.eraseIdx i) := by
 rw [List.eraseIdx_eq_take_drop_succ]
 conv => lhs; rw [← List.take_append_drop i l, List.drop_eq_getElem_cons hi]
 exact List.perm_middle
theorem Sep.mtsTake (h : Sep w0 (MTs gs :: L) w) (i : Nat) (hi : i < gs.length) : Sep w0 (MT gs[i] :: MTs (gs.eraseIdx i) :: L) w := by
 have h1 := (h.open_ (mts_loc gs)).perm (((perm_erase gs i hi).map MT).append_right L)
 have h2 : Sep w0 (MT gs[i] :: ((gs.eraseIdx i).map MT ++ L)) w := h1
 refine Sep.sw2 (Sep.close ?_)
 exact h2.perm List.perm_middle.symm
theorem map_erase (gs : List MgM) (i : Nat) : (gs.map mgC).eraseIdx i = (gs.eraseIdx i).map mgC := by
 rw [List.eraseIdx_eq_take_drop_succ, List.eraseIdx_eq_take_drop_succ, List.map_append, List.map_take, List.map_drop]
/-- Both bags, with what their messages have. -/
def PB (b : Nat) (gs : List MgM) : Thing := Both (BagG b (gs.map mgC)) (MTs gs)
def DB (b : Nat) (gs : List MgM) : Thing := Both (RBag b (gs.map mgC)) (MTs gs)
theorem loc_bagG (b : Nat) (ms : List (Array Value)) : Loc (BagG b ms) := loc_ex (loc_bagBG b ms)
theorem loc_rbag (b : Nat) (ms : List (Array Value)) : Loc (RBag b ms) := loc_ex (loc_rbagB b ms)
theorem Sep.pbOpen (h : Sep w0 (PB b gs :: L) w) : Sep w0 (BagG b (gs.map mgC) :: MTs gs :: L) w := h.both (loc_bagG _ _) (loc_mts _)
theorem Sep.dbOpen (h : Sep w0 (DB b gs :: L) w) : Sep w0 (RBag b (gs.map mgC) :: MTs gs :: L) w := h.both (loc_rbag _ _) (loc_mts _)
theorem Sep.pbClose (h : Sep w0 (BagG b (gs.map mgC) :: MTs gs :: L) w) : Sep w0 (PB b gs :: L) w := h.join
theorem Sep.dbClose (h : Sep w0 (RBag b (gs.map mgC) :: MTs gs :: L) w) : Sep w0 (DB b gs :: L) w := h.join
/-- A message that may stand in a bag. -/
def MOk (g : MgM) : Prop := chkB g = true ∧ g.ck.length ≤ 50 ∧ g.ps.length ≤ 8 ∧ g.en.p.ls.length ≤ 8 ∧ g.ic ≤ 9223372036854775807
theorem MOk.ls {g : MgM} (h : MOk g) : ∀ x ∈ g.ps, x.1.p.ls.length ≤ 1000 := chk_ls h.1 (by have := h.2.2.1; omega)
theorem SameF.symm {a b : MgM} (h : SameF a b) : SameF b a := by
 obtain ⟨⟨h1, h2, h3, h4, h5, h6, h7, h8, h9, h10, h11, h12, h13, h14, h15⟩, hp⟩ := h
 exact ⟨⟨h1.symm, h2.symm, h3.symm, h4.symm, h5.symm, h6.symm, h7.symm, h8.symm, h9.symm, h10.symm, h11.symm, h12.symm, h13.symm, h14.symm, h15.symm⟩, hp.symm⟩
theorem SameF.refl (a : MgM) : SameF a a := ⟨⟨rfl, rfl, rfl, rfl, rfl, rfl, rfl, rfl, rfl, rfl, rfl, rfl, rfl, rfl, rfl⟩, rfl⟩
theorem dat_ok {i : Nat} (h : Sep w0 (DB b gs :: L) w) (hi : i < gs.length) (hk : MOk gs[i]) :
  Calls Tryz.prog 28 #[.pointer (some ⟨b, 0, none⟩), .int .i64 i] w fun e w' => ∃ g2, e = .returned (.tuple #[.agg (mgC g2), .int .i64 0]) ∧ SameF g2 gs[i] ∧ Sep w0 (MT g2 :: DB b gs :: L) w' :=
 (rat_any i gs[i] h.dbOpen (by rw [List.length_map]; exact hi) (by rw [List.getElem_map]) (fun wx hx => hx.mtsAt i hi) (by have := hk.2.1; omega) (by have := hk.2.2.1; omega) ⟨fun x hx => by have := hk.ls x hx; omega, by have := hk.2.2.2.1; omega⟩).mono fun e w' ⟨lu, cu, eu, qs, he, hq, h1⟩ =>
  ⟨{ gs[i] with lv := lu, cv := cu, ev := eu, ps := qs }, he, sameF_with gs[i] lu cu eu qs hq, Sep.mtClose (g := { gs[i] with lv := lu, cv := cu, ev := eu, ps := qs }) (Sep.to4 (Sep.dbClose (h1.pickL (M := [_, _, _, _, _]) [0, 4, 1, 2, 3] rfl)))⟩
theorem pat_ok {i : Nat} (h : Sep w0 (PB b gs :: L) w) (hi : i < gs.length) (hk : MOk gs[i]) :
  Calls Tryz.prog 16 #[.pointer (some ⟨b, 0, none⟩), .int .i64 i] w fun e w' => ∃ g2, e = .returned (.tuple #[.agg (mgC g2), .int .i64 0]) ∧ SameF g2 gs[i] ∧ Sep w0 (MT g2 :: PB b gs :: L) w' :=
 (gat_any i gs[i] h.pbOpen (by rw [List.length_map]; exact hi) (by rw [List.getElem_map]) (fun wx hx => hx.mtsAt i hi) (by have := hk.2.1; omega) (by have := hk.2.2.1; omega) ⟨hk.ls, by have := hk.2.2.2.1; omega⟩).mono fun e w' ⟨lu, cu, eu, qs, he, hq, h1⟩ =>
  ⟨{ gs[i] with lv := lu, cv := cu, ev := eu, ps := qs }, he, sameF_with gs[i] lu cu eu qs hq, Sep.mtClose (g := { gs[i] with lv := lu, cv := cu, ev := eu, ps := qs }) (Sep.to4 (Sep.pbClose (h1.pickL (M := [_, _, _, _, _]) [0, 4, 1, 2, 3] rfl)))⟩
theorem dat_bad {i : Int} (h : Sep w0 (DB b gs :: L) w) (hi : i < 0 ∨ (gs.length : Int) ≤ i) :
  Calls Tryz.prog 28 #[.pointer (some ⟨b, 0, none⟩), .int .i64 i] w fun e w' => e = .returned (.tuple #[.agg #[.int .i64 0, .int .i64 0, .int .i64 0, .int .i64 0, .int .i64 0, .int .i64 0, .int .i64 0, .int .i64 0, .int .i64 0, .int .i64 0, .string ⟨#[]⟩, .int .i64 0, .int .i64 0, .slice none 0 0, .int .i64 0, .int .i64 0, .int .i64 0, .bool false, .int .i64 0, .slice none 0 0, .slice none 0 0, .int .i64 0], .int .i64 9]) ∧ Sep w0 (DB b gs :: L) w' :=
 (rat_bad i h.dbOpen (by rw [List.length_map]; exact hi)).mono fun e w' ⟨he, h1⟩ => ⟨he, h1.dbClose⟩
theorem dlen_any (h : Sep w0 (DB b gs :: L) w) : Calls Tryz.prog 9 #[.pointer (some ⟨b, 0, none⟩)] w fun e w' => e = .returned (.int .i64 (gs.length : Nat)) ∧ w = w' := by
 have := rblen_any h.dbOpen
 rw [List.length_map] at this
 exact this
theorem plen_any (h : Sep w0 (PB b gs :: L) w) : Calls Tryz.prog 8 #[.pointer (some ⟨b, 0, none⟩)] w fun e w' => e = .returned (.int .i64 (gs.length : Nat)) ∧ w = w' := by
 have := gblen_any h.pbOpen
 rw [List.length_map] at this
 exact this
theorem dnew_any (h : Sep w0 L w) : Calls Tryz.prog 6 #[] w fun e w' => ∃ g, e = .returned (.pointer (some ⟨g, 0, none⟩)) ∧ Sep w0 (DB g [] :: L) w' :=
 (rbnew_any h).mono fun e w' ⟨g, he, h1⟩ => ⟨g, he, Sep.dbClose (gs := []) (Sep.sw2 (Sep.mtsNil h1))⟩
theorem pnew_any (h : Sep w0 L w) : Calls Tryz.prog 5 #[] w fun e w' => ∃ g, e = .returned (.pointer (some ⟨g, 0, none⟩)) ∧ Sep w0 (PB g [] :: L) w' :=
 (gbnew_any h).mono fun e w' ⟨g, he, h1⟩ => ⟨g, he, Sep.pbClose (gs := []) (Sep.sw2 (Sep.mtsNil h1))⟩
/-- A message that is asked to be put: small, but it need not be one that may be. -/
def Sml (g : MgM) : Prop := g.ck.length ≤ 50 ∧ g.ps.length ≤ 8 ∧ g.en.p.ls.length ≤ 8 ∧ g.ic ≤ 9223372036854775807
theorem dput_bad (m : MgM) (h : Sep w0 (DB b gs :: L) w) (hg : ∀ wx, Sep w0 L wx → GmS wx m) (hs : Sml m) (hn : gs.length < 2000) (hc : chkB m = false) :
  Calls Tryz.prog 33 #[.pointer (some ⟨b, 0, none⟩), .agg (mgC m)] w fun e w' => e = .returned (.int .i64 2) ∧ Sep w0 (DB b gs :: L) w' :=
 (rput_bad m h.dbOpen (fun wx hx => hg wx hx.drop) (by have := hs.1; omega) (by have := hs.2.1; omega) hs.2.2.2 (by rw [List.length_map]; exact hn) hc).mono fun e w' ⟨he, h1⟩ => ⟨he, h1.dbClose⟩
theorem pput_bad (m : MgM) (h : Sep w0 (PB b gs :: L) w) (hg : ∀ wx, Sep w0 L wx → GmS wx m) (hK : KindsAt w0 ∧ MKindsAt w0) (hs : Sml m) (hn : gs.length < 2000) (hc : chkB m = false) :
  Calls Tryz.prog 17 #[.pointer (some ⟨b, 0, none⟩), .agg (mgC m)] w fun e w' => e = .returned (.int .i64 2) ∧ Sep w0 (PB b gs :: L) w' :=
 (gput_bad m h.pbOpen (fun wx hx => hg wx hx.drop) hK (by have := hs.1; omega) (by have := hs.2.1; omega) (by rw [List.length_map]; exact hn) hc).mono fun e w' ⟨he, h1⟩ => ⟨he, h1.pbClose⟩
theorem dput_ok (m : MgM) (h : Sep w0 (DB b gs :: L) w) (hg : ∀ wx, Sep w0 L wx → GmS wx m) (hk : MOk m) (hn : gs.length < 2000) :
  Calls Tryz.prog 33 #[.pointer (some ⟨b, 0, none⟩), .agg (mgC m)] w fun e w' => ∃ g2, e = .returned (.int .i64 0) ∧ SameF g2 m ∧ Sep w0 (DB b (gs ++ [g2]) :: L) w' :=
 (rput_ok m h.dbOpen (fun wx hx => hg wx hx.drop) (by have := hk.2.1; omega) (by have := hk.2.2.1; omega) hk.2.2.2.2 ⟨fun x hx => by have := hk.ls x hx; omega, by have := hk.2.2.2.1; omega⟩ (by rw [List.length_map]; exact hn) hk.1).mono fun e w' ⟨he, lu, cu, eu, qs, hq, h1⟩ =>
  ⟨{ m with lv := lu, cv := cu, ev := eu, ps := qs }, he, sameF_with m lu cu eu qs hq, Sep.dbClose (by
   rw [List.map_append]
   exact (Sep.mtsSnoc (g := { m with lv := lu, cv := cu, ev := eu, ps := qs }) (Sep.mtClose (g := { m with lv := lu, cv := cu, ev := eu, ps := qs }) h1.to5)).sw2)⟩
theorem pput_ok (m : MgM) (h : Sep w0 (PB b gs :: L) w) (hg : ∀ wx, Sep w0 L wx → GmS wx m) (hK : KindsAt w0 ∧ MKindsAt w0) (hk : MOk m) (hn : gs.length < 2000) :
  Calls Tryz.prog 17 #[.pointer (some ⟨b, 0, none⟩), .agg (mgC m)] w fun e w' => ∃ g2, e = .returned (.int .i64 0) ∧ SameF g2 m ∧ Sep w0 (PB b (gs ++ [g2]) :: L) w' :=
 (gput_ok m h.pbOpen (fun wx hx => hg wx hx.drop) hK (by have := hk.2.1; omega) (by have := hk.2.2.1; omega) ⟨hk.ls, by have := hk.2.2.2.1; omega⟩ (by rw [List.length_map]; exact hn) hk.1).mono fun e w' ⟨he, lu, cu, eu, qs, hq, h1⟩ =>
  ⟨{ m with lv := lu, cv := cu, ev := eu, ps := qs }, he, sameF_with m lu cu eu qs hq, Sep.pbClose (by
   rw [List.map_append]
   exact (Sep.mtsSnoc (g := { m with lv := lu, cv := cu, ev := eu, ps := qs }) (Sep.mtClose (g := { m with lv := lu, cv := cu, ev := eu, ps := qs }) h1.to5)).sw2)⟩
theorem ptake_ok {i : Nat} (h : Sep w0 (PB b gs :: L) w) (hi : i < gs.length) (hn : gs.length ≤ 2000) :
  Calls Tryz.prog 15 #[.pointer (some ⟨b, 0, none⟩), .int .i64 i] w fun e w' => e = .returned (.tuple #[.agg (mgC gs[i]), .int .i64 0]) ∧ Sep w0 (MT gs[i] :: PB b (gs.eraseIdx i) :: L) w' :=
 (gbtake_any i h.pbOpen (by rw [List.length_map]; exact hi) (by rw [List.length_map]; omega)).mono fun e w' ⟨u, hu, he, h1⟩ => by
  have e1 : u = mgC gs[i] := by rw [hu.1, List.getElem_map]
  rw [map_erase] at h1
  exact ⟨by rw [he, e1], (Sep.pbClose (h1.sw2.mtsTake i hi).to3.sw2 |> fun h2 => h2.sw2)⟩
end Go.Proofs.YtcnbmeiielkigaaGreatDoor
