/- Stage 5: MsgAgain. -/
import Derived.Test.YtafkbodmiblbnaaDoorRows
import Derived.LaidMore
import Derived.ProofKit
import Derived.OpenShut
import Derived.Stop.Joined
import Derived.Test.YtafkbodmiblbnaaDoorMZ41
import Derived.Test.YtafkbodmiblbnaaDoorMZ12
import Derived.Test.YtafkbodmiblbnaaDoorMPx1
namespace Go.Proofs.YtafkbodmiblbnaaDoor
open Go Go.RowKit
set_option linter.unusedVariables false
set_option linter.unusedSimpArgs false
theorem x_eq {g h : MgM} (e : g.x = h.x) : (g.k = h.k ∧ g.f = h.f ∧ g.t = h.t ∧ g.v = h.v ∧ g.o = h.o ∧ g.cm = h.cm ∧ g.la = h.la ∧ g.en = h.en ∧ g.rc = h.rc ∧ g.ra = h.ra ∧ g.rb = h.rb ∧ g.s = h.s ∧ g.ib = h.ib ∧ g.ic = h.ic ∧ g.ck = h.ck) ∧ g.ps.map (·.1) = h.ps.map (·.1) :=
  ⟨⟨congrArg MgX.k e, congrArg MgX.f e, congrArg MgX.t e, congrArg MgX.v e, congrArg MgX.o e, congrArg MgX.cm e, congrArg MgX.la e, congrArg MgX.en e, congrArg MgX.rc e, congrArg MgX.ra e, congrArg MgX.rb e, congrArg MgX.s e, congrArg MgX.ib e, congrArg MgX.ic e, congrArg MgX.ck e⟩, congrArg MgX.es e⟩
theorem sameP_nil0 : SameP [] gZ.ps := ⟨rfl, fun j h => by cases h⟩
theorem chk_lens {g : MgM} (h : chkB g = true) : g.ck.length ≤ 16384 ∧ g.ps.length ≤ 32 := by
  obtain ⟨-, -, -, -, -, -, -, -, -, -, -, -, -, h9⟩ := chk_parts h
  by_cases hb : bit (mfieldsOf g.k) 128 = true
  · obtain ⟨-, -, h1, h2, -⟩ := img_parts h9 hb
    exact ⟨h1, h2⟩
  · unfold fIB at h9
    rw [if_neg hb] at h9
    unfold imgSame at h9
    simp only [Bool.and_eq_true, decide_eq_true_eq] at h9
    obtain ⟨⟨_, h3⟩, h4⟩ := h9
    rw [h3, h4]
    exact ⟨by show (0 : Nat) ≤ _; omega, by omega⟩
set_option maxRecDepth 100000 in
set_option maxHeartbeats 32000000 in
theorem again05 (a : Option Addr) (c n m : Nat) (t : List UInt8) (w : World) (hs0 : Sl w (.slice a m c) (bv t)) (hl : t.length ≤ 3000) (hk : KindsAt w ∧ MKindsAt w) (hmin : (if (3000 : Int) < (n : Int) then (3000 : Int) else (n : Int)) = (m : Int)) (hmc : m ≤ c) :
    Calls Tryd.prog 4 #[.slice a n c] w fun e w' => e = .returned (.bool true) ∧ Below w.heap.size w w' := by
  have m0 : (0 : Int) ≤ (m : Int) := by omega
  have n0 : (0 : Int) ≤ (n : Int) := by omega
  have hmc' : (m : Int) ≤ (c : Int) := by omega
  have hdd : decide ((m : Int) ≤ (c : Int)) = true := decide_eq_true hmc'
  have hdd2 : decide (m ≤ c) = true := decide_eq_true hmc
  have HSE := Lib.hid (seal_ok t (Sep.start w) hs0 (by omega))
  have HS0 := Lib.hid hs0
  have HKX : Hid (∀ {L : List Thing} wx, Sep w L wx → KindsAt wx ∧ MKindsAt wx) := Lib.hid fun wx hx => ⟨hk.1.below hx.low, hk.2.below hx.low⟩
  have HTL := Lib.hid hl
  clear hs0 hl hk
  go_enter Tryd.func4, Tryd.ntmps4
  (try dsimp only); repeat' (first | go_values | go_skip | go_guarded | go_step | go_upon | go_back)
  try rw [hmin]
  (try dsimp only); repeat' (first | go_values | go_skip | go_guarded | go_step | go_upon | go_back)
  refine HSE.out.mono ?_
  rintro r0 w1 ⟨u1, rfl, h1⟩
  obtain ⟨sa, sc, rfl⟩ := h1.sl.len
  obtain ⟨sn, hsn⟩ : ∃ z, z = (bv (sealL t)).length := ⟨_, rfl⟩
  rw [← hsn] at h1 ⊢
  clear hsn
  have h2 := h1.alloc (.cells #[.slice a m c, .slice sa sn sc] 24)
  obtain ⟨b5, hb5⟩ : ∃ z, z = w1.heap.size := ⟨_, rfl⟩
  obtain ⟨w2, hw2⟩ : ∃ z, z = w1.alloc (.cells #[.slice a m c, .slice sa sn sc] 24) := ⟨_, rfl⟩
  rw [← hw2, ← hb5] at h2
  have H2 := Lib.hid h2
  clear h1 h2 HSE
  (try dsimp only); repeat' (first | go_values | go_skip | go_guarded | go_step | go_upon | go_back)
  (try rw [← hw2])
  (try rw [← hb5])
  clear hw2 hb5
  go_loopw [6] (fun i wr => ∃ j : Nat, j ≤ 2 ∧ i = .int .i64 j ∧ Sep w (Cl b5 #[.slice a m c, .slice sa sn sc] 24 :: By (.slice sa sn sc) (sealL t) :: []) wr) (fun i _ => 2 - (intOf i).toNat)
  case atStart => exact ⟨0, by decide, rfl, H2.out⟩
  case round =>
    obtain ⟨j, hj, rfl, hs⟩ := hrel
    have hs0 := HS0.out
    clear H2
    have hj5 : j = 0 ∨ j = 1 ∨ j = 2 := by omega
    rcases hj5 with rfl | rfl | rfl
    · rw [show ((0 : Nat) : Int) = 0 from rfl]
      have HP := Lib.hid (mparse_any t hs (HS0.out.below hs.low) HKX.out)
      have x0 : wr.cell? ⟨b5, 0, none⟩ = some (.slice a m c) := hs.cell rfl
      clear hs
      (try dsimp only); repeat' (first | go_values | go_skip | go_guarded | go_step | go_upon | go_back)
      refine HP.out.mono ?_
      rintro r0 w2 ⟨g, rfl, hgx, h2⟩
      clear HP x0
      have h3 := h2.alloc (.cells #[.int .i64 0, .int .i64 0, .int .i64 0, .int .i64 0, .int .i64 0, .int .i64 0, .int .i64 0, .int .i64 0, .int .i64 0, .int .i64 0, .string ⟨#[]⟩, .int .i64 0, .int .i64 0, .slice none 0 0, .int .i64 0, .int .i64 0, .int .i64 0, .bool false, .int .i64 0, .slice none 0 0, .slice none 0 0, .int .i64 0] 39)
      obtain ⟨b7, hb7⟩ : ∃ z, z = w2.heap.size := ⟨_, rfl⟩
      obtain ⟨w3, hw3⟩ : ∃ z, z = w2.alloc (.cells #[.int .i64 0, .int .i64 0, .int .i64 0, .int .i64 0, .int .i64 0, .int .i64 0, .int .i64 0, .int .i64 0, .int .i64 0, .int .i64 0, .string ⟨#[]⟩, .int .i64 0, .int .i64 0, .slice none 0 0, .int .i64 0, .int .i64 0, .int .i64 0, .bool false, .int .i64 0, .slice none 0 0, .slice none 0 0, .int .i64 0] 39) := ⟨_, rfl⟩
      rw [← hw3, ← hb7] at h3
      have HT2 := Lib.hid (h3.thereAt 0 22 (by show 22 ≤ 22; omega))
      have h4 := h3.storeW (mgC g) rfl
      have HGX := Lib.hid hgx
      have hgm := gm_own0 (g := g) h4.drop
      obtain ⟨o1, o2, o3⟩ := gm_shape hgm
      have H1C := Lib.hid (mgC_one g o1 o2 o3)
      obtain ⟨er, her⟩ : ∃ z, z = (prsMsg t).2 := ⟨_, rfl⟩
      rw [← her]
      have HER := Lib.hid her
      have hlm := h4.loadW 39 Tryd.underlying39 rfl (by kernel_rfl)
      obtain ⟨mc, hmc⟩ : ∃ z, z = mgC g := ⟨_, rfl⟩
      have HMC := Lib.hid hmc
      have HMS : Hid (mc.size = 22) := Lib.hid (by rw [hmc]; rfl)
      rw [← hmc] at H1C h4 hlm hgm ⊢
      obtain ⟨w4, hw4⟩ : ∃ z, z = w3.setCells b7 0 mc.toList := ⟨_, rfl⟩
      rw [← hw4] at h4 hgm hlm
      have HLM := Lib.hid hlm
      have HGM := Lib.hid hgm
      have H4 := Lib.hid h4
      clear h2 h3 h4 hgx her hmc hgm o1 o2 o3 hlm
      (try dsimp only); repeat' (first | (with_reducible show wpList _ _ _ (Oper.mk _ (Op.store 39 _ _) _ _ _ _ :: _) _ _; refine stopP ?_) | go_values | go_skip | go_guarded | go_step | go_upon | go_back)
      unfold StopP
      rw [← hw3, ← hb7]
      refine wpList_store_mid rfl 39 (.tmp 7) (.tmp 36) rfl b7 0 mc rfl rfl (by rw [HMS.out]; exact HT2.out) (by rw [HMS.out]; kernel_rfl) H1C.out ?_
      rw [← hw4]
      clear hw3 hb7 hw4 HT2 H1C
      by_cases he : er = 0
      · subst he
        have hok := prsMsg_again (l := t) HER.out.symm
        rw [← HGX.out, chkX_x] at hok
        obtain ⟨hc, hl, -⟩ := hok
        obtain ⟨q1, q2⟩ := chk_lens hc
        have hby := mbytes_ok g H4.out (fun wx hx => gm_own0 hx.drop) (fun wx hx => HKX.out wx hx.drop.drop.drop.drop) (by omega) (by omega) hc
        rw [← hl, ← HMC.out] at hby
        have HBY := Lib.hid hby
        have HCC := Lib.hid hc
        have HQ := Lib.hid (And.intro q1 q2)
        clear hby hc hl q1 q2
        (try dsimp only); repeat' (first | (with_reducible show wpList _ _ _ (Oper.mk _ (Op.load 39 _) _ _ _ _ :: _) _ _; refine stopP ?_) | go_values | go_skip | go_guarded | go_step | go_upon | go_back)
        unfold StopP
        have hq_ := HLM.out
        refine wpList_load_run rfl 39 _ rfl _ _ rfl hq_ ?_
        clear hq_ HLM
        (try dsimp only); repeat' (first | go_values | go_skip | go_guarded | go_step | go_upon | go_back)
        refine HBY.out.mono ?_
        rintro r0 w6 ⟨u6, rfl, h6⟩
        obtain ⟨ua, uc, rfl⟩ := h6.sl.len
        have h6q := h6.pickL (M := [_, _, _, _, _, _, _]) [5, 6, 1, 2, 3, 4, 0] rfl
        have y0 : w6.cell? ⟨b5, 0, none⟩ = some (.slice a m c) := h6q.cell rfl
        have HE := Lib.hid (eqBytes_any _ (.slice a m c) t t w6 h6.sl (HS0.out.below h6.low))
        have hc := gcheck_w (w := w6) g (gm_own0 h6.drop.drop) (HKX.out w6 (h6q.pickL (M := [_, _, _, _, _, _, _]) [0, 1] rfl)).1 (HKX.out w6 (h6q.pickL (M := [_, _, _, _, _, _, _]) [0, 1] rfl)).2 (by have := HQ.out; omega) (by have := HQ.out; omega)
        rw [HCC.out, if_pos rfl, ← HMC.out] at hc
        have HC := Lib.hid hc
        have HLM := Lib.hid (h6.sw2.loadW 39 Tryd.underlying39 rfl (by rw [HMS.out]; kernel_rfl))
        have H6 := Lib.hid h6q
        clear HBY h6 h6q hc
        (try dsimp only); repeat' (first | go_values | go_skip | go_guarded | go_step | go_upon | go_back)
        refine HE.out.mono ?_
        rintro r0 w7 ⟨rfl, rfl⟩
        rw [show (t == t) = true from beq_self_eq_true _]
        clear HE y0
        (try dsimp only); repeat' (first | (with_reducible show wpList _ _ _ (Oper.mk _ (Op.load 39 _) _ _ _ _ :: _) _ _; refine stopP ?_) | go_values | go_skip | go_guarded | go_step | go_upon | go_back)
        unfold StopP
        have hq_ := HLM.out
        refine wpList_load_on 39 _ rfl _ _ rfl hq_ (by rfl) ?_
        clear hq_ HLM
        (try dsimp only); repeat' (first | go_values | go_skip | go_guarded | go_step | go_upon | go_back)
        refine HC.out.mono ?_
        rintro r0 w8 ⟨rfl, h8⟩
        have HF : Hid (Sep w (Cl b5 #[.slice a m c, .slice sa sn sc] 24 :: By (.slice sa sn sc) (sealL t) :: []) w8) := Lib.hid ((H6.out.below h8.low).pickL (M := [_, _, _, _, _, _, _]) [0, 1] rfl)
        clear HC h8 H6
        (try dsimp only); repeat' (first | go_values | go_skip | go_guarded | go_step | go_upon | go_back)
        go_roundw
        case rel => exact ⟨1, by decide, rfl, HF.out⟩
        case measure => simp [intOf]
      · have hne : (er != 0) = true := by rw [bne_iff_ne]; exact he
        have hne2 : (er == 0) = false := beq_eq_false_iff_ne.2 he
        have hz := prsMsg_ne (l := t) (by rw [← HER.out]; exact he)
        have hxz : g.x = gZ.x := by rw [HGX.out, hz]; rfl
        obtain ⟨f1, f2⟩ := x_eq hxz
        have hps : g.ps = [] := by simpa [gZ] using f2
        have hck : g.ck = [] := by have := congrArg MgX.ck hxz; exact this
        have hsm := gsame_w (w := w4) g gZ HGM.out (gm_nil w4 gZ ⟨rfl, rfl, rfl, rfl, rfl, rfl⟩) (by rw [hck]; show (0 : Nat) ≤ _; omega) (by show (0 : Nat) ≤ _; omega) (by rw [hps]; show (0 : Nat) ≤ _; omega) (by show (0 : Nat) ≤ _; omega)
        rw [gSame_refl gZ g f1, hps, gZ_c, ← HMC.out] at hsm
        have HSM := Lib.hid hsm
        clear hz hxz f1 f2 hps hck hsm he HMC
        (try dsimp only); repeat' (first | (with_reducible show wpList _ _ _ (Oper.mk _ (Op.load 39 _) _ _ _ _ :: _) _ _; refine stopP ?_) | go_values | go_skip | go_guarded | go_step | go_upon | go_back)
        unfold StopP
        have hq_ := HLM.out
        refine wpList_load_run rfl 39 _ rfl _ _ rfl hq_ ?_
        clear hq_ HLM
        (try dsimp only); repeat' (first | go_values | go_skip | go_guarded | go_step | go_upon | go_back)
        refine HSM.out.mono ?_
        rintro r0 w6 ⟨r, rfl, hr, h6⟩
        rw [hr.2 (sameP_nil0), Bool.and_true]
        have HF : Hid (Sep w (Cl b5 #[.slice a m c, .slice sa sn sc] 24 :: By (.slice sa sn sc) (sealL t) :: []) w6) := Lib.hid ((H4.out.below h6.low).pickL (M := [_, _, _, _, _, _]) [4, 5] rfl)
        clear HSM hr h6 H4
        (try dsimp only); repeat' (first | go_values | go_skip | go_guarded | go_step | go_upon | go_back)
        go_roundw
        case rel => exact ⟨1, by decide, rfl, HF.out⟩
        case measure => simp [intOf]
    · rw [show ((1 : Nat) : Int) = 1 from rfl]
      have HP := Lib.hid (mparse_any (sealL t) hs (hs.sw2.sl) HKX.out)
      have x0 : wr.cell? ⟨b5, 1, none⟩ = some (.slice sa sn sc) := hs.cell rfl
      clear hs
      (try dsimp only); repeat' (first | go_values | go_skip | go_guarded | go_step | go_upon | go_back)
      refine HP.out.mono ?_
      rintro r0 w2 ⟨g, rfl, hgx, h2⟩
      clear HP x0
      have h3 := h2.alloc (.cells #[.int .i64 0, .int .i64 0, .int .i64 0, .int .i64 0, .int .i64 0, .int .i64 0, .int .i64 0, .int .i64 0, .int .i64 0, .int .i64 0, .string ⟨#[]⟩, .int .i64 0, .int .i64 0, .slice none 0 0, .int .i64 0, .int .i64 0, .int .i64 0, .bool false, .int .i64 0, .slice none 0 0, .slice none 0 0, .int .i64 0] 39)
      obtain ⟨b7, hb7⟩ : ∃ z, z = w2.heap.size := ⟨_, rfl⟩
      obtain ⟨w3, hw3⟩ : ∃ z, z = w2.alloc (.cells #[.int .i64 0, .int .i64 0, .int .i64 0, .int .i64 0, .int .i64 0, .int .i64 0, .int .i64 0, .int .i64 0, .int .i64 0, .int .i64 0, .string ⟨#[]⟩, .int .i64 0, .int .i64 0, .slice none 0 0, .int .i64 0, .int .i64 0, .int .i64 0, .bool false, .int .i64 0, .slice none 0 0, .slice none 0 0, .int .i64 0] 39) := ⟨_, rfl⟩
      rw [← hw3, ← hb7] at h3
      have HT2 := Lib.hid (h3.thereAt 0 22 (by show 22 ≤ 22; omega))
      have h4 := h3.storeW (mgC g) rfl
      have HGX := Lib.hid hgx
      have hgm := gm_own0 (g := g) h4.drop
      obtain ⟨o1, o2, o3⟩ := gm_shape hgm
      have H1C := Lib.hid (mgC_one g o1 o2 o3)
      obtain ⟨er, her⟩ : ∃ z, z = (prsMsg (sealL t)).2 := ⟨_, rfl⟩
      rw [← her]
      have HER := Lib.hid her
      have hlm := h4.loadW 39 Tryd.underlying39 rfl (by kernel_rfl)
      obtain ⟨mc, hmc⟩ : ∃ z, z = mgC g := ⟨_, rfl⟩
      have HMC := Lib.hid hmc
      have HMS : Hid (mc.size = 22) := Lib.hid (by rw [hmc]; rfl)
      rw [← hmc] at H1C h4 hlm hgm ⊢
      obtain ⟨w4, hw4⟩ : ∃ z, z = w3.setCells b7 0 mc.toList := ⟨_, rfl⟩
      rw [← hw4] at h4 hgm hlm
      have HLM := Lib.hid hlm
      have HGM := Lib.hid hgm
      have H4 := Lib.hid h4
      clear h2 h3 h4 hgx her hmc hgm o1 o2 o3 hlm
      (try dsimp only); repeat' (first | (with_reducible show wpList _ _ _ (Oper.mk _ (Op.store 39 _ _) _ _ _ _ :: _) _ _; refine stopP ?_) | go_values | go_skip | go_guarded | go_step | go_upon | go_back)
      unfold StopP
      rw [← hw3, ← hb7]
      refine wpList_store_mid rfl 39 (.tmp 7) (.tmp 36) rfl b7 0 mc rfl rfl (by rw [HMS.out]; exact HT2.out) (by rw [HMS.out]; kernel_rfl) H1C.out ?_
      rw [← hw4]
      clear hw3 hb7 hw4 HT2 H1C
      by_cases he : er = 0
      · subst he
        have hok := prsMsg_again (l := (sealL t)) HER.out.symm
        rw [← HGX.out, chkX_x] at hok
        obtain ⟨hc, hl, -⟩ := hok
        obtain ⟨q1, q2⟩ := chk_lens hc
        have hby := mbytes_ok g H4.out (fun wx hx => gm_own0 hx.drop) (fun wx hx => HKX.out wx hx.drop.drop.drop.drop) (by omega) (by omega) hc
        rw [← hl, ← HMC.out] at hby
        have HBY := Lib.hid hby
        have HCC := Lib.hid hc
        have HQ := Lib.hid (And.intro q1 q2)
        clear hby hc hl q1 q2
        (try dsimp only); repeat' (first | (with_reducible show wpList _ _ _ (Oper.mk _ (Op.load 39 _) _ _ _ _ :: _) _ _; refine stopP ?_) | go_values | go_skip | go_guarded | go_step | go_upon | go_back)
        unfold StopP
        have hq_ := HLM.out
        refine wpList_load_run rfl 39 _ rfl _ _ rfl hq_ ?_
        clear hq_ HLM
        (try dsimp only); repeat' (first | go_values | go_skip | go_guarded | go_step | go_upon | go_back)
        refine HBY.out.mono ?_
        rintro r0 w6 ⟨u6, rfl, h6⟩
        obtain ⟨ua, uc, rfl⟩ := h6.sl.len
        have h6q := h6.pickL (M := [_, _, _, _, _, _, _]) [5, 6, 1, 2, 3, 4, 0] rfl
        have y0 : w6.cell? ⟨b5, 1, none⟩ = some (.slice sa sn sc) := h6q.cell rfl
        have HE := Lib.hid (eqBytes_any _ (.slice sa sn sc) (sealL t) (sealL t) w6 h6.sl (h6q.sw2.sl))
        have hc := gcheck_w (w := w6) g (gm_own0 h6.drop.drop) (HKX.out w6 (h6q.pickL (M := [_, _, _, _, _, _, _]) [0, 1] rfl)).1 (HKX.out w6 (h6q.pickL (M := [_, _, _, _, _, _, _]) [0, 1] rfl)).2 (by have := HQ.out; omega) (by have := HQ.out; omega)
        rw [HCC.out, if_pos rfl, ← HMC.out] at hc
        have HC := Lib.hid hc
        have HLM := Lib.hid (h6.sw2.loadW 39 Tryd.underlying39 rfl (by rw [HMS.out]; kernel_rfl))
        have H6 := Lib.hid h6q
        clear HBY h6 h6q hc
        (try dsimp only); repeat' (first | go_values | go_skip | go_guarded | go_step | go_upon | go_back)
        refine HE.out.mono ?_
        rintro r0 w7 ⟨rfl, rfl⟩
        rw [show ((sealL t) == (sealL t)) = true from beq_self_eq_true _]
        clear HE y0
        (try dsimp only); repeat' (first | (with_reducible show wpList _ _ _ (Oper.mk _ (Op.load 39 _) _ _ _ _ :: _) _ _; refine stopP ?_) | go_values | go_skip | go_guarded | go_step | go_upon | go_back)
        unfold StopP
        have hq_ := HLM.out
        refine wpList_load_on 39 _ rfl _ _ rfl hq_ (by rfl) ?_
        clear hq_ HLM
        (try dsimp only); repeat' (first | go_values | go_skip | go_guarded | go_step | go_upon | go_back)
        refine HC.out.mono ?_
        rintro r0 w8 ⟨rfl, h8⟩
        have HF : Hid (Sep w (Cl b5 #[.slice a m c, .slice sa sn sc] 24 :: By (.slice sa sn sc) (sealL t) :: []) w8) := Lib.hid ((H6.out.below h8.low).pickL (M := [_, _, _, _, _, _, _]) [0, 1] rfl)
        clear HC h8 H6
        (try dsimp only); repeat' (first | go_values | go_skip | go_guarded | go_step | go_upon | go_back)
        go_roundw
        case rel => exact ⟨2, by decide, rfl, HF.out⟩
        case measure => simp [intOf]
      · have hne : (er != 0) = true := by rw [bne_iff_ne]; exact he
        have hne2 : (er == 0) = false := beq_eq_false_iff_ne.2 he
        have hz := prsMsg_ne (l := (sealL t)) (by rw [← HER.out]; exact he)
        have hxz : g.x = gZ.x := by rw [HGX.out, hz]; rfl
        obtain ⟨f1, f2⟩ := x_eq hxz
        have hps : g.ps = [] := by simpa [gZ] using f2
        have hck : g.ck = [] := by have := congrArg MgX.ck hxz; exact this
        have hsm := gsame_w (w := w4) g gZ HGM.out (gm_nil w4 gZ ⟨rfl, rfl, rfl, rfl, rfl, rfl⟩) (by rw [hck]; show (0 : Nat) ≤ _; omega) (by show (0 : Nat) ≤ _; omega) (by rw [hps]; show (0 : Nat) ≤ _; omega) (by show (0 : Nat) ≤ _; omega)
        rw [gSame_refl gZ g f1, hps, gZ_c, ← HMC.out] at hsm
        have HSM := Lib.hid hsm
        clear hz hxz f1 f2 hps hck hsm he HMC
        (try dsimp only); repeat' (first | (with_reducible show wpList _ _ _ (Oper.mk _ (Op.load 39 _) _ _ _ _ :: _) _ _; refine stopP ?_) | go_values | go_skip | go_guarded | go_step | go_upon | go_back)
        unfold StopP
        have hq_ := HLM.out
        refine wpList_load_run rfl 39 _ rfl _ _ rfl hq_ ?_
        clear hq_ HLM
        (try dsimp only); repeat' (first | go_values | go_skip | go_guarded | go_step | go_upon | go_back)
        refine HSM.out.mono ?_
        rintro r0 w6 ⟨r, rfl, hr, h6⟩
        rw [hr.2 (sameP_nil0), Bool.and_true]
        have HF : Hid (Sep w (Cl b5 #[.slice a m c, .slice sa sn sc] 24 :: By (.slice sa sn sc) (sealL t) :: []) w6) := Lib.hid ((H4.out.below h6.low).pickL (M := [_, _, _, _, _, _]) [4, 5] rfl)
        clear HSM hr h6 H4
        (try dsimp only); repeat' (first | go_values | go_skip | go_guarded | go_step | go_upon | go_back)
        go_roundw
        case rel => exact ⟨2, by decide, rfl, HF.out⟩
        case measure => simp [intOf]
    · rw [show ((2 : Nat) : Int) = 2 from rfl]
      have HW := Lib.hid (works05_any hs (fun wx hx => HKX.out wx hx))
      clear hs
      (try dsimp only); repeat' (first | go_values | go_skip | go_guarded | go_step | go_upon | go_back)
      refine HW.out.mono ?_
      rintro r0 w3 ⟨rfl, h3⟩
      have H3 := Lib.hid h3.low
      clear HW h3
      (try dsimp only); repeat' (first | go_values | go_skip | go_guarded | go_step | go_upon | go_back)
      go_ret
      exact ⟨rfl, H3.out⟩
theorem again05_in (a : Option Addr) (c : Nat) (l : List UInt8) (n : Nat) (w : World) (h : Sl w (.slice a n c) (bv l)) (hn : l.length = n) (hk : KindsAt w ∧ MKindsAt w) (hnc : n ≤ c) :
    Calls Tryd.prog 4 #[.slice a n c] w fun e w' => e = .returned (.bool true) ∧ Below w.heap.size w w' := by
  obtain ⟨m, hm1, hm2, hm3, hm4⟩ := min_len n 3000
  have hs : Sl w (.slice a m c) (bv (l.take m)) := by
    subst hn
    exact sl_pre h hm1
  have hl : (l.take m).length = m := by rw [List.length_take]; omega
  generalize l.take m = t at *
  have hm3' : (if (3000 : Int) < (n : Int) then (3000 : Int) else (n : Int)) = (m : Int) := hm3
  exact again05 a c n m t w hs (by omega) hk hm3' (by omega)
end Go.Proofs.YtafkbodmiblbnaaDoor
/- What the row's condition says of the table of kinds. -/
namespace Go.Proofs.YtafkbodmiblbnaaDoor
open Go.ChangeShapes Go.WideShapes Go.ChangeAt Go.RowKit
set_option linter.unusedVariables false
abbrev laidK {H : Type} : List (String × DataW H) := [("gimbal/item.kinds", Rows.laid_gimbal_item_kinds), ("gimbal/msg.kinds", Rows.laid_gimbal_msg_kinds)]
theorem gKinds : Tryd.prog.globalNamed "gimbal/item.kinds" = some 1 := by kernel_rfl
theorem tKinds : (Tryd.prog.globals[1]?).map (·.type) = some 129 := by kernel_rfl
theorem door_met (os : Os) (args : Array Value) : laidMetH Tryd.prog laidK ((World.doorLaid Tryd.prog 400 os).forCall (fun _ _ => 0) ⟨#[], args, []⟩).memory :=
  laidMetH_of_parts3 (fuel := 8) (laidMet_of_run' 8 (by kernel_rfl) (by kernel_rfl)) (by kernel_rfl) (by kernel_rfl)
theorem gMKinds : Tryd.prog.globalNamed "gimbal/msg.kinds" = some 0 := by kernel_rfl
theorem tMKinds : (Tryd.prog.globals[0]?).map (·.type) = some 88 := by kernel_rfl
theorem kinds_of_laid {W : World} (h : laidMetH Tryd.prog laidK W) : KindsAt W ∧ MKindsAt W := by
  rw [MakeChecks.laidMetH_plain _ _ _ (by kernel_rfl)] at h
  obtain ⟨ps, ⟨g0, t0, cs0, f0, p0, q0, hg0, ht0, hv0, hd0, ⟨g1, t1, cs1, f1, p1, q1, hg1, ht1, hv1, hd1, _, _⟩, _⟩, hr, hs⟩ := h
  obtain rfl := Option.some.inj (gKinds.symm.trans hg0)
  obtain rfl := Option.some.inj (tKinds.symm.trans ht0)
  obtain rfl := Option.some.inj (gMKinds.symm.trans hg1)
  obtain rfl := Option.some.inj (tMKinds.symm.trans ht1)
  have hcA : ∀ i (hi : i < kindsL.length), W.cell? ⟨1, i, none⟩ = some (.int .i64 kindsL[i]) := by
    obtain ⟨xs, m1, rfl, hx1, hlen, hn3, hel⟩ := DataW.trod_array Tryd.underlying129 hd0
    have c3 : Tryd.prog.cellsOf 3 = 1 := by kernel_rfl
    have c24 : Tryd.prog.cellsOf 129 = 10 := by kernel_rfl
    simp only [Prod.mk.injEq] at hx1
    have hk : xs.map (·.1) = kindsL.map (fun n => DataW.lit (.int .i64 n)) := (DataW.agg.inj hx1.1).symm
    intro i hi
    have hi10 : i < 10 := by simpa [kindsL] using hi
    have h0 := hel i hi10
    rw [List.getElem?_eq_getElem (by omega)] at h0
    obtain ⟨k, e1, e2, _⟩ := DataW.trod_int Tryd.underlying3 h0
    have hx : (xs.map (·.1))[i]? = some (DataW.lit (.int .i64 kindsL[i])) := by
      rw [hk, List.getElem?_map, List.getElem?_eq_getElem hi]; rfl
    rw [List.getElem?_map, List.getElem?_eq_getElem (by omega), e2] at hx
    have hkk : k = kindsL[i] := by simpa using hx
    subst hkk
    rw [c3, Nat.mul_one] at e1
    have hlt : i < cs0.toList.length := by rw [hlen, c24]; exact hi10
    rw [List.drop_eq_getElem_cons hlt] at e1
    simp only [List.take_succ_cons, List.take_zero, List.cons.injEq, and_true] at e1
    have hv := World.var?_cell hg0 hv0 i
    have hs : i < cs0.size := by simpa using hlt
    have e3 : cs0[i] = Value.int .i64 kindsL[i] := by simpa using e1
    rw [hv, Array.getElem?_eq_getElem hs]
    exact congrArg some e3
  have hcB : ∀ i (hi : i < mkindsL.length), W.cell? ⟨0, i, none⟩ = some (.int .i64 mkindsL[i]) := by
    obtain ⟨xs, m1, rfl, hx1, hlen, hn3, hel⟩ := DataW.trod_array Tryd.underlying88 hd1
    have c3 : Tryd.prog.cellsOf 3 = 1 := by kernel_rfl
    have c24 : Tryd.prog.cellsOf 88 = 11 := by kernel_rfl
    simp only [Prod.mk.injEq] at hx1
    have hk : xs.map (·.1) = mkindsL.map (fun n => DataW.lit (.int .i64 n)) := (DataW.agg.inj hx1.1).symm
    intro i hi
    have hi10 : i < 11 := by simpa [mkindsL] using hi
    have h0 := hel i hi10
    rw [List.getElem?_eq_getElem (by omega)] at h0
    obtain ⟨k, e1, e2, _⟩ := DataW.trod_int Tryd.underlying3 h0
    have hx : (xs.map (·.1))[i]? = some (DataW.lit (.int .i64 mkindsL[i])) := by
      rw [hk, List.getElem?_map, List.getElem?_eq_getElem hi]; rfl
    rw [List.getElem?_map, List.getElem?_eq_getElem (by omega), e2] at hx
    have hkk : k = mkindsL[i] := by simpa using hx
    subst hkk
    rw [c3, Nat.mul_one] at e1
    have hlt : i < cs1.toList.length := by rw [hlen, c24]; exact hi10
    rw [List.drop_eq_getElem_cons hlt] at e1
    simp only [List.take_succ_cons, List.take_zero, List.cons.injEq, and_true] at e1
    have hv := World.var?_cell hg1 hv1 i
    have hs : i < cs1.size := by simpa using hlt
    have e3 : cs1[i] = Value.int .i64 mkindsL[i] := by simpa using e1
    rw [hv, Array.getElem?_eq_getElem hs]
    exact congrArg some e3
  have hA := World.block_lt_of_cell? W ⟨1, 0, none⟩ (by have := hcA 0 (by decide); exact this)
  have hB := World.block_lt_of_cell? W ⟨0, 0, none⟩ (by have := hcB 0 (by decide); exact this)
  exact ⟨⟨hA, hcA⟩, ⟨hB, hcB⟩⟩
end Go.Proofs.YtafkbodmiblbnaaDoor
