/- Package msg: SameImage, fitsImage, Check of messages without lists, kind by kind. -/
import Derived.Test.YtcnbmeiielkigaaGreatDoorMZ03
namespace Go.Proofs.YtcnbmeiielkigaaGreatDoor
open Go.RowKit
set_option linter.unusedVariables false
set_option linter.unusedSimpArgs false
theorem eqbz_any {w0 w : World} {L : List Thing} {v u : Value} (h : Sep w0 L w) (hv : NilL v) (hu : NilL u) : Calls Tryz.prog 59 #[v, u] w fun e w' => e = .returned (.bool true) ∧ Sep w0 L w' := by
 obtain ⟨a, c, rfl, -⟩ := hv
 obtain ⟨a', c', rfl, -⟩ := hu
 have H := Lib.hid h
 clear h
 go_enter Tryz.func59, Tryz.ntmps59
 (try dsimp only); repeat' (first | go_values | go_skip | go_guarded | go_step | go_upon | go_back)
 go_loopw [13] (fun i wr => i = .int .i64 0 ∧ Sep w0 L wr) (fun _ _ => 0)
 case atStart => exact ⟨rfl, H.out⟩
 case round =>
  obtain ⟨rfl, hs⟩ := hrel
  have HS := Lib.hid hs
  clear hs H
  (try dsimp only); repeat' (first | go_values | go_skip | go_guarded | go_step | go_upon | go_back)
  go_ret
  exact ⟨rfl, HS.out⟩
theorem eqfz_any {w0 w : World} {L : List Thing} {v u x : Value} (h : Sep w0 L w) (hv : NilL v) (hu : NilL u) : Calls Tryz.prog 86 #[v, u, x] w fun e w' => e = .returned (.bool true) ∧ Sep w0 L w' := by
 obtain ⟨a, c, rfl, -⟩ := hv
 obtain ⟨a', c', rfl, -⟩ := hu
 have H := Lib.hid h
 clear h
 go_enter Tryz.func86, Tryz.ntmps86
 (try dsimp only); repeat' (first | go_values | go_skip | go_guarded | go_step | go_upon | go_back)
 go_loopw [17] (fun i wr => i = .int .i64 0 ∧ Sep w0 L wr) (fun _ _ => 0)
 case atStart => exact ⟨rfl, H.out⟩
 case round =>
  obtain ⟨rfl, hs⟩ := hrel
  have HS := Lib.hid hs
  clear hs H
  (try dsimp only); repeat' (first | go_values | go_skip | go_guarded | go_step | go_upon | go_back)
  go_ret
  exact ⟨rfl, HS.out⟩
theorem samerowz_any {w0 w : World} {L : List Thing} {v u : Value} (h : Sep w0 L w) (hv : NilL v) (hu : NilL u) : Calls Tryz.prog 60 #[v, u] w fun e w' => e = .returned (.bool true) ∧ Sep w0 L w' := by
 have HE := Lib.hid (eqfz_any (x := .func (.func 42) #[] #[]) h hv hu)
 obtain ⟨a, c, rfl, -⟩ := hv
 obtain ⟨a', c', rfl, -⟩ := hu
 clear h
 go_enter Tryz.func60, Tryz.ntmps60
 (try dsimp only); repeat' (first | go_values | go_skip | go_guarded | go_step | go_upon | go_back)
 refine HE.out.mono ?_
 rintro r0 w1 ⟨rfl, h1⟩
 have H := Lib.hid h1
 clear h1 HE
 (try dsimp only); repeat' (first | go_values | go_skip | go_guarded | go_step | go_upon | go_back)
 go_ret
 exact ⟨rfl, H.out⟩
def imgZC (cv ev : Value) : Array Value := #[.int .i64 0, cv, ev, .int .i64 0]
set_option maxRecDepth 100000 in
set_option maxHeartbeats 4000000 in
theorem simgz_any {w0 w : World} {L : List Thing} {cv ev cu eu : Value} (h : Sep w0 L w) (hcv : NilL cv) (hev : NilL ev) (hcu : NilL cu) (heu : NilL eu) : Calls Tryz.prog 43 #[.agg (imgZC cv ev), .agg (imgZC cu eu)] w fun e w' => e = .returned (.bool true) ∧ Sep w0 L w' := by
 obtain ⟨a1, c1, rfl, -⟩ := id hcv
 obtain ⟨a2, c2, rfl, -⟩ := id hev
 obtain ⟨a3, c3, rfl, -⟩ := id hcu
 obtain ⟨a4, c4, rfl, -⟩ := id heu
 have h1 := (h.alloc (.cells (imgZC (.slice a1 0 c1) (.slice a2 0 c2)) 38)).alloc (.cells (imgZC (.slice a3 0 c3) (.slice a4 0 c4)) 38)
 rw [show (w.alloc (.cells (imgZC (.slice a1 0 c1) (.slice a2 0 c2)) 38)).heap.size = w.heap.size + 1 by simp] at h1
 have HE := Lib.hid (eqbz_any h1 hcv hcu)
 have HR : Hid (∀ wx M, Sep w0 M wx → Calls Tryz.prog 60 #[.slice a2 0 c2, .slice a4 0 c4] wx fun e w' => e = .returned (.bool true) ∧ Sep w0 M w') := Lib.hid fun wx M hx => samerowz_any hx hev heu
 unfold imgZC at *
 have d0 := h1.cell (o := 0) rfl
 have d1 := h1.cell (o := 1) rfl
 have d3 := h1.cell (o := 3) rfl
 have k0 := h1.sw2.cell (o := 0) rfl
 have k1 := h1.sw2.cell (o := 1) rfl
 have k3 := h1.sw2.cell (o := 3) rfl
 clear h h1 hcv hev hcu heu
 go_enter Tryz.func43, Tryz.ntmps43
 (try dsimp only); repeat' (first | go_values | go_skip | go_guarded | go_step | go_upon | go_back)
 refine HE.out.mono ?_
 rintro r0 w1 ⟨rfl, h2⟩
 have y2 := h2.cell (o := 2) rfl
 have z2 := h2.sw2.cell (o := 2) rfl
 have HQ := Lib.hid (HR.out _ _ h2)
 clear h2 HE HR
 (try dsimp only); repeat' (first | go_values | go_skip | go_guarded | go_step | go_upon | go_back)
 refine HQ.out.mono ?_
 rintro r0 w2 ⟨rfl, h3⟩
 have H3 := Lib.hid h3.drop.drop
 clear h3 HQ
 (try dsimp only); repeat' (first | go_values | go_skip | go_guarded | go_step | go_upon | go_back)
 go_ret
 exact ⟨rfl, H3.out⟩
set_option maxRecDepth 100000 in
set_option maxHeartbeats 4000000 in
theorem fitsImage_3 {w0 w : World} {L : List Thing} {cv ev : Value} (h : Sep w0 L w) (hcv : NilL cv) (hev : NilL ev) : Calls Tryz.prog 56 #[.int .i64 3, .agg (imgZC cv ev)] w fun e w' => e = .returned (.bool true) ∧ Sep w0 L w' := by
 obtain ⟨a1, c1, rfl, -⟩ := id hcv
 obtain ⟨a2, c2, rfl, -⟩ := id hev
 have h1 := h.alloc (.cells (imgZC (.slice a1 0 c1) (.slice a2 0 c2)) 38)
 have HS := Lib.hid (simgz_any h1 hcv hev nil0 nil0)
 unfold imgZC at *
 have d0 := h1.cell (o := 0) rfl
 have d1 := h1.cell (o := 1) rfl
 have d2 := h1.cell (o := 2) rfl
 have d3 := h1.cell (o := 3) rfl
 clear h h1 hcv hev
 go_enter Tryz.func56, Tryz.ntmps56
 (try dsimp only); repeat' (first | go_values | go_skip | go_guarded | go_step | go_upon | go_back)
 refine HS.out.mono ?_
 rintro r0 w2 ⟨rfl, h3⟩
 have H3 := Lib.hid h3.drop
 clear h3 HS
 (try dsimp only); repeat' (first | go_values | go_skip | go_guarded | go_step | go_upon | go_back)
 go_ret
 exact ⟨rfl, H3.out⟩
set_option maxRecDepth 100000 in
set_option maxHeartbeats 4000000 in
theorem fitsImage_1 {w0 w : World} {L : List Thing} {cv ev : Value} (h : Sep w0 L w) (hcv : NilL cv) (hev : NilL ev) : Calls Tryz.prog 56 #[.int .i64 1, .agg (imgZC cv ev)] w fun e w' => e = .returned (.bool true) ∧ Sep w0 L w' := by
 obtain ⟨a1, c1, rfl, -⟩ := id hcv
 obtain ⟨a2, c2, rfl, -⟩ := id hev
 have h1 := h.alloc (.cells (imgZC (.slice a1 0 c1) (.slice a2 0 c2)) 38)
 have HS := Lib.hid (simgz_any h1 hcv hev nil0 nil0)
 unfold imgZC at *
 have d0 := h1.cell (o := 0) rfl
 have d1 := h1.cell (o := 1) rfl
 have d2 := h1.cell (o := 2) rfl
 have d3 := h1.cell (o := 3) rfl
 clear h h1 hcv hev
 go_enter Tryz.func56, Tryz.ntmps56
 (try dsimp only); repeat' (first | go_values | go_skip | go_guarded | go_step | go_upon | go_back)
 refine HS.out.mono ?_
 rintro r0 w2 ⟨rfl, h3⟩
 have H3 := Lib.hid h3.drop
 clear h3 HS
 (try dsimp only); repeat' (first | go_values | go_skip | go_guarded | go_step | go_upon | go_back)
 go_ret
 exact ⟨rfl, H3.out⟩
/-- A message without lists. -/
structure MsM where
 k : Int
 f : Int
 t : Int
 v : Int
 o : Int
 cm : Int
 la : Int
 ec : Int
 em : Int
 rc : Int
 ra : Int
 rb : Int
 s : Bool
def msC (m : MsM) (lv cv ev : Value) : Array Value := #[.int .i64 m.k, .int .i64 m.f, .int .i64 m.t, .int .i64 m.v, .int .i64 m.o, .int .i64 m.cm, .int .i64 m.la, .int .i64 m.ec, .int .i64 m.em, .int .i64 0, .string ⟨#[]⟩, .int .i64 0, .int .i64 0, lv, .int .i64 m.rc, .int .i64 m.ra, .int .i64 m.rb, .bool m.s, .int .i64 0, cv, ev, .int .i64 0]
def chk4 (m : MsM) : Bool := partB m.f && partB m.t && holdsB true m.v && holdsB true m.o && holdsB false m.cm && holdsB false m.la
set_option maxRecDepth 100000 in
set_option maxHeartbeats 16000000 in
theorem mcheck_4 {w0 w : World} {L : List Thing} (m : MsM) {lv cv ev : Value} (h : Sep w0 L w) (hlv : NilL lv) (hcv : NilL cv) (hev : NilL ev) (hM : MKindsAt w) (hk : m.k = 4) (he : m.ec = 0 ∧ m.em = 0) (hr : m.rc = 0 ∧ m.ra = 0 ∧ m.rb = 0 ∧ m.s = false) : Calls Tryz.prog 39 #[.agg (msC m lv cv ev)] w fun e w' => e = .returned (.int .i64 (if chk4 m then 0 else 2)) ∧ Sep w0 L w' := by
 obtain ⟨mk, mf, mt, mv, mo, mc, ml, ec, em, rc, ra, rb, ms⟩ := m
 dsimp only at *
 subst hk
 obtain ⟨rfl, rfl⟩ := he
 obtain ⟨rfl, rfl, rfl, rfl⟩ := hr
 obtain ⟨a1, c1, rfl, -⟩ := id hlv
 obtain ⟨a2, c2, rfl, -⟩ := id hcv
 obtain ⟨a3, c3, rfl, -⟩ := id hev
 obtain ⟨bm, hbm⟩ : ∃ z, z = w.heap.size := ⟨_, rfl⟩
 obtain ⟨wa, hwa⟩ : ∃ z, z = w.alloc (.cells (msC ⟨4, mf, mt, mv, mo, mc, ml, 0, 0, 0, 0, 0, false⟩ (.slice a1 0 c1) (.slice a2 0 c2) (.slice a3 0 c3)) 40) := ⟨_, rfl⟩
 have h1 := h.alloc (.cells (msC ⟨4, mf, mt, mv, mo, mc, ml, 0, 0, 0, 0, 0, false⟩ (.slice a1 0 c1) (.slice a2 0 c2) (.slice a3 0 c3)) 40)
 have hMa := hM.below (show Below w.heap.size w wa by rw [hwa]; exact (Below.refl _ w).alloc (Nat.le_refl _) _)
 rw [← hbm, ← hwa] at h1
 have HF := Lib.hid (mfields_any 4 wa hMa)
 rw [show mfieldsOf 4 = 3 by decide] at HF
 have HP := Lib.hid (fun n => part_any n wa)
 have HH := Lib.hid (fun t n => holds_any t n wa)
 have HE := Lib.hid (fitsEntry_3 0 0 h1 hlv rfl rfl)
 have HR : Hid (∀ wx M, Sep w0 M wx → Calls Tryz.prog 55 #[.int .i64 3, .agg #[.int .i64 0, .int .i64 0, .int .i64 0], .bool false] wx fun e w' => e = .returned (.bool true) ∧ Sep w0 M w') := Lib.hid fun wx M hx => fitsRes_3 hx
 have HI : Hid (∀ wx M, Sep w0 M wx → Calls Tryz.prog 56 #[.int .i64 3, .agg (imgZC (.slice a2 0 c2) (.slice a3 0 c3))] wx fun e w' => e = .returned (.bool true) ∧ Sep w0 M w') := Lib.hid fun wx M hx => fitsImage_3 hx hcv hev
 have H1 := Lib.hid h1
 unfold enZC at HE
 unfold imgZC at HI
 unfold msC at *
 have d0 := h1.cell (o := 0) rfl
 have d1 := h1.cell (o := 1) rfl
 have d2 := h1.cell (o := 2) rfl
 have d3 := h1.cell (o := 3) rfl
 have d4 := h1.cell (o := 4) rfl
 have d5 := h1.cell (o := 5) rfl
 have d6 := h1.cell (o := 6) rfl
 have d7 := h1.cell (o := 7) rfl
 have d8 := h1.cell (o := 8) rfl
 have d9 := h1.cell (o := 9) rfl
 have d10 := h1.cell (o := 10) rfl
 have d11 := h1.cell (o := 11) rfl
 have d12 := h1.cell (o := 12) rfl
 have d13 := h1.cell (o := 13) rfl
 have d14 := h1.cell (o := 14) rfl
 have d15 := h1.cell (o := 15) rfl
 have d16 := h1.cell (o := 16) rfl
 have d17 := h1.cell (o := 17) rfl
 have d18 := h1.cell (o := 18) rfl
 have d19 := h1.cell (o := 19) rfl
 have d20 := h1.cell (o := 20) rfl
 have d21 := h1.cell (o := 21) rfl
 clear h h1 hM hMa hlv hcv hev
 unfold chk4
 dsimp only
 go_enter Tryz.func39, Tryz.ntmps39
 (try dsimp only); repeat' (first | go_values | go_skip | go_guarded | go_step | go_upon | go_back)
 rw [← hwa, ← hbm]
 clear hwa hbm
 (try dsimp only); repeat' (first | go_values | go_skip | go_guarded | go_step | go_upon | go_back)
 refine HF.out.mono ?_
 rintro r0 w1 ⟨rfl, rfl⟩
 clear HF
 (try dsimp only); repeat' (first | go_values | go_skip | go_guarded | go_step | go_upon | go_back)
 refine (HP.out mf).mono ?_
 rintro r1 w2 ⟨rfl, rfl⟩
 cases z0 : partB mf with
 | false =>
  as_aux_lemma =>
   (try dsimp only); repeat' (first | go_values | go_skip | go_guarded | go_step | go_upon | go_back)
   go_ret
   refine ⟨?_, H1.out.drop⟩
   show Ending.returned (Value.int IntKind.i64 2) = _
   rw [if_neg (by simp [z0])]
 | true =>
  (try dsimp only); repeat' (first | go_values | go_skip | go_guarded | go_step | go_upon | go_back)
  refine (HP.out mt).mono ?_
  rintro r2 w3 ⟨rfl, rfl⟩
  cases z1 : partB mt with
  | false =>
   as_aux_lemma =>
    (try dsimp only); repeat' (first | go_values | go_skip | go_guarded | go_step | go_upon | go_back)
    go_ret
    refine ⟨?_, H1.out.drop⟩
    show Ending.returned (Value.int IntKind.i64 2) = _
    rw [if_neg (by simp [z1])]
  | true =>
   (try dsimp only); repeat' (first | go_values | go_skip | go_guarded | go_step | go_upon | go_back)
   refine (HH.out true mv).mono ?_
   rintro r3 w4 ⟨rfl, rfl⟩
   cases z2 : holdsB true mv with
   | false =>
    as_aux_lemma =>
     (try dsimp only); repeat' (first | go_values | go_skip | go_guarded | go_step | go_upon | go_back)
     go_ret
     refine ⟨?_, H1.out.drop⟩
     show Ending.returned (Value.int IntKind.i64 2) = _
     rw [if_neg (by simp [z2])]
   | true =>
    (try dsimp only); repeat' (first | go_values | go_skip | go_guarded | go_step | go_upon | go_back)
    refine (HH.out true mo).mono ?_
    rintro r4 w5 ⟨rfl, rfl⟩
    cases z3 : holdsB true mo with
    | false =>
     as_aux_lemma =>
      (try dsimp only); repeat' (first | go_values | go_skip | go_guarded | go_step | go_upon | go_back)
      go_ret
      refine ⟨?_, H1.out.drop⟩
      show Ending.returned (Value.int IntKind.i64 2) = _
      rw [if_neg (by simp [z3])]
    | true =>
     (try dsimp only); repeat' (first | go_values | go_skip | go_guarded | go_step | go_upon | go_back)
     refine (HH.out false mc).mono ?_
     rintro r5 w6 ⟨rfl, rfl⟩
     cases z4 : holdsB false mc with
     | false =>
      as_aux_lemma =>
       (try dsimp only); repeat' (first | go_values | go_skip | go_guarded | go_step | go_upon | go_back)
       go_ret
       refine ⟨?_, H1.out.drop⟩
       show Ending.returned (Value.int IntKind.i64 2) = _
       rw [if_neg (by simp [z4])]
     | true =>
      (try dsimp only); repeat' (first | go_values | go_skip | go_guarded | go_step | go_upon | go_back)
      refine (HH.out false ml).mono ?_
      rintro r6 w7 ⟨rfl, rfl⟩
      cases z5 : holdsB false ml with
      | false =>
       as_aux_lemma =>
        (try dsimp only); repeat' (first | go_values | go_skip | go_guarded | go_step | go_upon | go_back)
        go_ret
        refine ⟨?_, H1.out.drop⟩
        show Ending.returned (Value.int IntKind.i64 2) = _
        rw [if_neg (by simp [z5])]
      | true =>
       (try dsimp only); repeat' (first | go_values | go_skip | go_guarded | go_step | go_upon | go_back)
       refine HE.out.mono ?_
       rintro r7 w8 ⟨rfl, h8⟩
       clear HE HP HH H1 d0 d1 d2 d3 d4 d5 d6 d7 d8 d9 d10 d11 d12 d13 d14 d15 d16 d17 d18 d19 d20 d21
       have y0 := h8.cell (o := 0) rfl
       have y1 := h8.cell (o := 1) rfl
       have y2 := h8.cell (o := 2) rfl
       have y3 := h8.cell (o := 3) rfl
       have y4 := h8.cell (o := 4) rfl
       have y5 := h8.cell (o := 5) rfl
       have y6 := h8.cell (o := 6) rfl
       have y7 := h8.cell (o := 7) rfl
       have y8 := h8.cell (o := 8) rfl
       have y9 := h8.cell (o := 9) rfl
       have y10 := h8.cell (o := 10) rfl
       have y11 := h8.cell (o := 11) rfl
       have y12 := h8.cell (o := 12) rfl
       have y13 := h8.cell (o := 13) rfl
       have y14 := h8.cell (o := 14) rfl
       have y15 := h8.cell (o := 15) rfl
       have y16 := h8.cell (o := 16) rfl
       have y17 := h8.cell (o := 17) rfl
       have y18 := h8.cell (o := 18) rfl
       have y19 := h8.cell (o := 19) rfl
       have y20 := h8.cell (o := 20) rfl
       have y21 := h8.cell (o := 21) rfl
       have HR2 := Lib.hid (HR.out _ _ h8)
       have H8 := Lib.hid h8
       clear HR h8
       (try dsimp only); repeat' (first | go_values | go_skip | go_guarded | go_step | go_upon | go_back)
       refine HR2.out.mono ?_
       rintro r8 w9 ⟨rfl, h9⟩
       clear HR2 H8 y0 y1 y2 y3 y4 y5 y6 y7 y8 y9 y10 y11 y12 y13 y14 y15 y16 y17 y18 y19 y20 y21
       have x0 := h9.cell (o := 0) rfl
       have x1 := h9.cell (o := 1) rfl
       have x2 := h9.cell (o := 2) rfl
       have x3 := h9.cell (o := 3) rfl
       have x4 := h9.cell (o := 4) rfl
       have x5 := h9.cell (o := 5) rfl
       have x6 := h9.cell (o := 6) rfl
       have x7 := h9.cell (o := 7) rfl
       have x8 := h9.cell (o := 8) rfl
       have x9 := h9.cell (o := 9) rfl
       have x10 := h9.cell (o := 10) rfl
       have x11 := h9.cell (o := 11) rfl
       have x12 := h9.cell (o := 12) rfl
       have x13 := h9.cell (o := 13) rfl
       have x14 := h9.cell (o := 14) rfl
       have x15 := h9.cell (o := 15) rfl
       have x16 := h9.cell (o := 16) rfl
       have x17 := h9.cell (o := 17) rfl
       have x18 := h9.cell (o := 18) rfl
       have x19 := h9.cell (o := 19) rfl
       have x20 := h9.cell (o := 20) rfl
       have x21 := h9.cell (o := 21) rfl
       have HI2 := Lib.hid (HI.out _ _ h9)
       have H9 := Lib.hid h9
       clear HI h9
       (try dsimp only); repeat' (first | go_values | go_skip | go_guarded | go_step | go_upon | go_back)
       refine HI2.out.mono ?_
       rintro r9 w10 ⟨rfl, h10⟩
       have H10 := Lib.hid h10.drop
       clear HI2 H9 h10
       (try dsimp only); repeat' (first | go_values | go_skip | go_guarded | go_step | go_upon | go_back)
       go_ret
       refine ⟨?_, H10.out⟩
       show Ending.returned (Value.int IntKind.i64 0) = _
       rw [if_pos (by simp [z0, z1, z2, z3, z4, z5])]
def chk6 (m : MsM) : Bool := partB m.f && partB m.t && holdsB true m.v && holdsB false m.o && holdsB false m.cm && holdsB false m.la
set_option maxRecDepth 100000 in
set_option maxHeartbeats 16000000 in
theorem mcheck_6 {w0 w : World} {L : List Thing} (m : MsM) {lv cv ev : Value} (h : Sep w0 L w) (hlv : NilL lv) (hcv : NilL cv) (hev : NilL ev) (hM : MKindsAt w) (hk : m.k = 6) (he : m.ec = 0 ∧ m.em = 0) (hr : m.rc = 0 ∧ m.ra = 0 ∧ m.rb = 0 ∧ m.s = false) : Calls Tryz.prog 39 #[.agg (msC m lv cv ev)] w fun e w' => e = .returned (.int .i64 (if chk6 m then 0 else 2)) ∧ Sep w0 L w' := by
 obtain ⟨mk, mf, mt, mv, mo, mc, ml, ec, em, rc, ra, rb, ms⟩ := m
 dsimp only at *
 subst hk
 obtain ⟨rfl, rfl⟩ := he
 obtain ⟨rfl, rfl, rfl, rfl⟩ := hr
 obtain ⟨a1, c1, rfl, -⟩ := id hlv
 obtain ⟨a2, c2, rfl, -⟩ := id hcv
 obtain ⟨a3, c3, rfl, -⟩ := id hev
 obtain ⟨bm, hbm⟩ : ∃ z, z = w.heap.size := ⟨_, rfl⟩
 obtain ⟨wa, hwa⟩ : ∃ z, z = w.alloc (.cells (msC ⟨6, mf, mt, mv, mo, mc, ml, 0, 0, 0, 0, 0, false⟩ (.slice a1 0 c1) (.slice a2 0 c2) (.slice a3 0 c3)) 40) := ⟨_, rfl⟩
 have h1 := h.alloc (.cells (msC ⟨6, mf, mt, mv, mo, mc, ml, 0, 0, 0, 0, 0, false⟩ (.slice a1 0 c1) (.slice a2 0 c2) (.slice a3 0 c3)) 40)
 have hMa := hM.below (show Below w.heap.size w wa by rw [hwa]; exact (Below.refl _ w).alloc (Nat.le_refl _) _)
 rw [← hbm, ← hwa] at h1
 have HF := Lib.hid (mfields_any 6 wa hMa)
 rw [show mfieldsOf 6 = 1 by decide] at HF
 have HP := Lib.hid (fun n => part_any n wa)
 have HH := Lib.hid (fun t n => holds_any t n wa)
 have HE := Lib.hid (fitsEntry_1 0 0 h1 hlv rfl rfl)
 have HR : Hid (∀ wx M, Sep w0 M wx → Calls Tryz.prog 55 #[.int .i64 1, .agg #[.int .i64 0, .int .i64 0, .int .i64 0], .bool false] wx fun e w' => e = .returned (.bool true) ∧ Sep w0 M w') := Lib.hid fun wx M hx => fitsRes_1 hx
 have HI : Hid (∀ wx M, Sep w0 M wx → Calls Tryz.prog 56 #[.int .i64 1, .agg (imgZC (.slice a2 0 c2) (.slice a3 0 c3))] wx fun e w' => e = .returned (.bool true) ∧ Sep w0 M w') := Lib.hid fun wx M hx => fitsImage_1 hx hcv hev
 have H1 := Lib.hid h1
 unfold enZC at HE
 unfold imgZC at HI
 unfold msC at *
 have d0 := h1.cell (o := 0) rfl
 have d1 := h1.cell (o := 1) rfl
 have d2 := h1.cell (o := 2) rfl
 have d3 := h1.cell (o := 3) rfl
 have d4 := h1.cell (o := 4) rfl
 have d5 := h1.cell (o := 5) rfl
 have d6 := h1.cell (o := 6) rfl
 have d7 := h1.cell (o := 7) rfl
 have d8 := h1.cell (o := 8) rfl
 have d9 := h1.cell (o := 9) rfl
 have d10 := h1.cell (o := 10) rfl
 have d11 := h1.cell (o := 11) rfl
 have d12 := h1.cell (o := 12) rfl
 have d13 := h1.cell (o := 13) rfl
 have d14 := h1.cell (o := 14) rfl
 have d15 := h1.cell (o := 15) rfl
 have d16 := h1.cell (o := 16) rfl
 have d17 := h1.cell (o := 17) rfl
 have d18 := h1.cell (o := 18) rfl
 have d19 := h1.cell (o := 19) rfl
 have d20 := h1.cell (o := 20) rfl
 have d21 := h1.cell (o := 21) rfl
 clear h h1 hM hMa hlv hcv hev
 unfold chk6
 dsimp only
 go_enter Tryz.func39, Tryz.ntmps39
 (try dsimp only); repeat' (first | go_values | go_skip | go_guarded | go_step | go_upon | go_back)
 rw [← hwa, ← hbm]
 clear hwa hbm
 (try dsimp only); repeat' (first | go_values | go_skip | go_guarded | go_step | go_upon | go_back)
 refine HF.out.mono ?_
 rintro r0 w1 ⟨rfl, rfl⟩
 clear HF
 (try dsimp only); repeat' (first | go_values | go_skip | go_guarded | go_step | go_upon | go_back)
 refine (HP.out mf).mono ?_
 rintro r1 w2 ⟨rfl, rfl⟩
 cases z0 : partB mf with
 | false =>
  as_aux_lemma =>
   (try dsimp only); repeat' (first | go_values | go_skip | go_guarded | go_step | go_upon | go_back)
   go_ret
   refine ⟨?_, H1.out.drop⟩
   show Ending.returned (Value.int IntKind.i64 2) = _
   rw [if_neg (by simp [z0])]
 | true =>
  (try dsimp only); repeat' (first | go_values | go_skip | go_guarded | go_step | go_upon | go_back)
  refine (HP.out mt).mono ?_
  rintro r2 w3 ⟨rfl, rfl⟩
  cases z1 : partB mt with
  | false =>
   as_aux_lemma =>
    (try dsimp only); repeat' (first | go_values | go_skip | go_guarded | go_step | go_upon | go_back)
    go_ret
    refine ⟨?_, H1.out.drop⟩
    show Ending.returned (Value.int IntKind.i64 2) = _
    rw [if_neg (by simp [z1])]
  | true =>
   (try dsimp only); repeat' (first | go_values | go_skip | go_guarded | go_step | go_upon | go_back)
   refine (HH.out true mv).mono ?_
   rintro r3 w4 ⟨rfl, rfl⟩
   cases z2 : holdsB true mv with
   | false =>
    as_aux_lemma =>
     (try dsimp only); repeat' (first | go_values | go_skip | go_guarded | go_step | go_upon | go_back)
     go_ret
     refine ⟨?_, H1.out.drop⟩
     show Ending.returned (Value.int IntKind.i64 2) = _
     rw [if_neg (by simp [z2])]
   | true =>
    (try dsimp only); repeat' (first | go_values | go_skip | go_guarded | go_step | go_upon | go_back)
    refine (HH.out false mo).mono ?_
    rintro r4 w5 ⟨rfl, rfl⟩
    cases z3 : holdsB false mo with
    | false =>
     as_aux_lemma =>
      (try dsimp only); repeat' (first | go_values | go_skip | go_guarded | go_step | go_upon | go_back)
      go_ret
      refine ⟨?_, H1.out.drop⟩
      show Ending.returned (Value.int IntKind.i64 2) = _
      rw [if_neg (by simp [z3])]
    | true =>
     (try dsimp only); repeat' (first | go_values | go_skip | go_guarded | go_step | go_upon | go_back)
     refine (HH.out false mc).mono ?_
     rintro r5 w6 ⟨rfl, rfl⟩
     cases z4 : holdsB false mc with
     | false =>
      as_aux_lemma =>
       (try dsimp only); repeat' (first | go_values | go_skip | go_guarded | go_step | go_upon | go_back)
       go_ret
       refine ⟨?_, H1.out.drop⟩
       show Ending.returned (Value.int IntKind.i64 2) = _
       rw [if_neg (by simp [z4])]
     | true =>
      (try dsimp only); repeat' (first | go_values | go_skip | go_guarded | go_step | go_upon | go_back)
      refine (HH.out false ml).mono ?_
      rintro r6 w7 ⟨rfl, rfl⟩
      cases z5 : holdsB false ml with
      | false =>
       as_aux_lemma =>
        (try dsimp only); repeat' (first | go_values | go_skip | go_guarded | go_step | go_upon | go_back)
        go_ret
        refine ⟨?_, H1.out.drop⟩
        show Ending.returned (Value.int IntKind.i64 2) = _
        rw [if_neg (by simp [z5])]
      | true =>
       (try dsimp only); repeat' (first | go_values | go_skip | go_guarded | go_step | go_upon | go_back)
       refine HE.out.mono ?_
       rintro r7 w8 ⟨rfl, h8⟩
       clear HE HP HH H1 d0 d1 d2 d3 d4 d5 d6 d7 d8 d9 d10 d11 d12 d13 d14 d15 d16 d17 d18 d19 d20 d21
       have y0 := h8.cell (o := 0) rfl
       have y1 := h8.cell (o := 1) rfl
       have y2 := h8.cell (o := 2) rfl
       have y3 := h8.cell (o := 3) rfl
       have y4 := h8.cell (o := 4) rfl
       have y5 := h8.cell (o := 5) rfl
       have y6 := h8.cell (o := 6) rfl
       have y7 := h8.cell (o := 7) rfl
       have y8 := h8.cell (o := 8) rfl
       have y9 := h8.cell (o := 9) rfl
       have y10 := h8.cell (o := 10) rfl
       have y11 := h8.cell (o := 11) rfl
       have y12 := h8.cell (o := 12) rfl
       have y13 := h8.cell (o := 13) rfl
       have y14 := h8.cell (o := 14) rfl
       have y15 := h8.cell (o := 15) rfl
       have y16 := h8.cell (o := 16) rfl
       have y17 := h8.cell (o := 17) rfl
       have y18 := h8.cell (o := 18) rfl
       have y19 := h8.cell (o := 19) rfl
       have y20 := h8.cell (o := 20) rfl
       have y21 := h8.cell (o := 21) rfl
       have HR2 := Lib.hid (HR.out _ _ h8)
       have H8 := Lib.hid h8
       clear HR h8
       (try dsimp only); repeat' (first | go_values | go_skip | go_guarded | go_step | go_upon | go_back)
       refine HR2.out.mono ?_
       rintro r8 w9 ⟨rfl, h9⟩
       clear HR2 H8 y0 y1 y2 y3 y4 y5 y6 y7 y8 y9 y10 y11 y12 y13 y14 y15 y16 y17 y18 y19 y20 y21
       have x0 := h9.cell (o := 0) rfl
       have x1 := h9.cell (o := 1) rfl
       have x2 := h9.cell (o := 2) rfl
       have x3 := h9.cell (o := 3) rfl
       have x4 := h9.cell (o := 4) rfl
       have x5 := h9.cell (o := 5) rfl
       have x6 := h9.cell (o := 6) rfl
       have x7 := h9.cell (o := 7) rfl
       have x8 := h9.cell (o := 8) rfl
       have x9 := h9.cell (o := 9) rfl
       have x10 := h9.cell (o := 10) rfl
       have x11 := h9.cell (o := 11) rfl
       have x12 := h9.cell (o := 12) rfl
       have x13 := h9.cell (o := 13) rfl
       have x14 := h9.cell (o := 14) rfl
       have x15 := h9.cell (o := 15) rfl
       have x16 := h9.cell (o := 16) rfl
       have x17 := h9.cell (o := 17) rfl
       have x18 := h9.cell (o := 18) rfl
       have x19 := h9.cell (o := 19) rfl
       have x20 := h9.cell (o := 20) rfl
       have x21 := h9.cell (o := 21) rfl
       have HI2 := Lib.hid (HI.out _ _ h9)
       have H9 := Lib.hid h9
       clear HI h9
       (try dsimp only); repeat' (first | go_values | go_skip | go_guarded | go_step | go_upon | go_back)
       refine HI2.out.mono ?_
       rintro r9 w10 ⟨rfl, h10⟩
       have H10 := Lib.hid h10.drop
       clear HI2 H9 h10
       (try dsimp only); repeat' (first | go_values | go_skip | go_guarded | go_step | go_upon | go_back)
       go_ret
       refine ⟨?_, H10.out⟩
       show Ending.returned (Value.int IntKind.i64 0) = _
       rw [if_pos (by simp [z0, z1, z2, z3, z4, z5])]
end Go.Proofs.YtcnbmeiielkigaaGreatDoor
