/- The statements' own (stage 22): small, tells, works. -/
import Derived.Test.YtcnbmeiielkigaaGreatDoorMZ32
import Derived.Test.YtcnbmeiielkigaaGreatDoorMZ34
import Derived.Test.YtcnbmeiielkigaaGreatDoorMZ01
namespace Go.Proofs.YtcnbmeiielkigaaGreatDoor
open Go Go.RowKit
set_option linter.unusedVariables false
set_option linter.unusedSimpArgs false
theorem nil3 (m : MsM) : MsgC (msC m (.slice none 0 0) (.slice none 0 0) (.slice none 0 0)) m := ⟨_, _, _, nil0, nil0, nil0, rfl⟩
def oM : MsM := ⟨4, 0, 2, 0, 5, 0, 0, 0, 0, 0, 0, 0, false⟩
def tM : MsM := ⟨6, 0, 1, 3, 0, 0, 0, 0, 0, 0, 0, 0, false⟩
theorem chk_o {w0 : World} (hM : MKindsAt w0) : ChkOk w0 oM := by
 intro wx M c hs hc
 obtain ⟨lv, cv, ev, hl, hcv, hev, rfl⟩ := hc
 have h9 := mcheck_4 oM hs hl hcv hev (hM.below hs.low) rfl ⟨rfl, rfl⟩ ⟨rfl, rfl, rfl, rfl⟩
 rw [show chk4 oM = true by decide, if_pos rfl] at h9
 exact h9
theorem chk_t {w0 : World} (hM : MKindsAt w0) : ChkOk w0 tM := by
 intro wx M c hs hc
 obtain ⟨lv, cv, ev, hl, hcv, hev, rfl⟩ := hc
 have h9 := mcheck_6 tM hs hl hcv hev (hM.below hs.low) rfl ⟨rfl, rfl⟩ ⟨rfl, rfl, rfl, rfl⟩
 rw [show chk6 tM = true by decide, if_pos rfl] at h9
 exact h9
end Go.Proofs.YtcnbmeiielkigaaGreatDoor
/- works (stage 22): the chapter's bag. -/
namespace Go.Proofs.YtcnbmeiielkigaaGreatDoor
open Go Go.RowKit
set_option linter.unusedVariables false
set_option linter.unusedSimpArgs false
set_option maxRecDepth 100000 in
set_option maxHeartbeats 16000000 in
theorem works22_any {w0 w : World} {L : List Thing} (h : Sep w0 L w) (hM : MKindsAt w0) : Calls Tryz.prog 14 #[] w fun e w' => e = .returned (.bool true) ∧ Sep w0 L w' := by
 have HN := Lib.hid (bnew_any h)
 have HM := Lib.hid hM
 clear h hM
 go_enter Tryz.func14, Tryz.ntmps14
 (try dsimp only); repeat' (first | go_values | go_skip | go_guarded | go_step | go_upon | go_back)
 refine HN.out.mono ?_
 rintro r0 w1 ⟨g, rfl, h1⟩
 have h2 := (h1.alloc (.cells #[.int .i64 0, .int .i64 0, .int .i64 0, .int .i64 0, .int .i64 0, .int .i64 0, .int .i64 0, .int .i64 0, .int .i64 0, .int .i64 0, .string ⟨#[]⟩, .int .i64 0, .int .i64 0, .slice none 0 0, .int .i64 0, .int .i64 0, .int .i64 0, .bool false, .int .i64 0, .slice none 0 0, .slice none 0 0, .int .i64 0] 40)).alloc (.cells #[.int .i64 0, .int .i64 0, .int .i64 0, .int .i64 0, .int .i64 0, .int .i64 0, .int .i64 0, .int .i64 0, .int .i64 0, .int .i64 0, .string ⟨#[]⟩, .int .i64 0, .int .i64 0, .slice none 0 0, .int .i64 0, .int .i64 0, .int .i64 0, .bool false, .int .i64 0, .slice none 0 0, .slice none 0 0, .int .i64 0] 40)
 rw [World.size_alloc] at h2
 obtain ⟨b2, hb2⟩ : ∃ z, z = w1.heap.size := ⟨_, rfl⟩
 obtain ⟨b3, hb3⟩ : ∃ z, z = w1.heap.size + 1 := ⟨_, rfl⟩
 obtain ⟨w2, hw2⟩ : ∃ z, z = (w1.alloc (.cells #[.int .i64 0, .int .i64 0, .int .i64 0, .int .i64 0, .int .i64 0, .int .i64 0, .int .i64 0, .int .i64 0, .int .i64 0, .int .i64 0, .string ⟨#[]⟩, .int .i64 0, .int .i64 0, .slice none 0 0, .int .i64 0, .int .i64 0, .int .i64 0, .bool false, .int .i64 0, .slice none 0 0, .slice none 0 0, .int .i64 0] 40)).alloc (.cells #[.int .i64 0, .int .i64 0, .int .i64 0, .int .i64 0, .int .i64 0, .int .i64 0, .int .i64 0, .int .i64 0, .int .i64 0, .int .i64 0, .string ⟨#[]⟩, .int .i64 0, .int .i64 0, .slice none 0 0, .int .i64 0, .int .i64 0, .int .i64 0, .bool false, .int .i64 0, .slice none 0 0, .slice none 0 0, .int .i64 0] 40) := ⟨_, rfl⟩
 rw [← hb3, ← hb2, ← hw2] at h2
 have HT2 := Lib.hid (h2.sw2.thereAt 0 22 (by simp))
 have h3 := h2.sw2.storeW (msC tM (.slice none 0 0) (.slice none 0 0) (.slice none 0 0)) rfl
 obtain ⟨w3, hw3⟩ : ∃ z, z = w2.setCells b2 0 (msC tM (.slice none 0 0) (.slice none 0 0) (.slice none 0 0)).toList := ⟨_, rfl⟩
 rw [← hw3] at h3
 have HT3 := Lib.hid (h3.sw2.thereAt 0 22 (by simp))
 have h4 := h3.sw2.storeW (msC oM (.slice none 0 0) (.slice none 0 0) (.slice none 0 0)) rfl
 obtain ⟨w4, hw4⟩ : ∃ z, z = w3.setCells b3 0 (msC oM (.slice none 0 0) (.slice none 0 0) (.slice none 0 0)).toList := ⟨_, rfl⟩
 rw [← hw4] at h4
 have h4 : Sep w0 (BagT g [] :: Cl b2 (msC tM (.slice none 0 0) (.slice none 0 0) (.slice none 0 0)) 40 :: Cl b3 (msC oM (.slice none 0 0) (.slice none 0 0) (.slice none 0 0)) 40 :: L) w4 := h4.pickL (M := [_, _, _]) [2, 1, 0] rfl
 have HL2 := Lib.hid (h4.sw2.loadW 40 Tryz.underlying40 rfl (by kernel_rfl))
 have HP := Lib.hid (bput_any tM h4 (nil3 tM) (chk_t HM.out) (by decide))
 clear HN h1 h2 h3 h4
 (try dsimp only); repeat' (first | (with_reducible show wpList _ _ _ (Oper.mk _ (Op.store 40 _ _) _ _ _ _ :: _) _ _; refine stopP ?_) | go_values | go_skip | go_guarded | go_step | go_upon | go_back)
 rw [← hb3, ← hb2, ← hw2]
 clear hb3 hb2 hw2
 unfold StopP
 refine wpList_store_mid rfl 40 (.tmp 2) (.tmp 9) rfl b2 0 (msC tM (.slice none 0 0) (.slice none 0 0) (.slice none 0 0)) rfl rfl HT2.out (by kernel_rfl) (by kernel_rfl) ?_
 rw [← hw3]
 clear hw3 HT2
 (try dsimp only); repeat' (first | (with_reducible show wpList _ _ _ (Oper.mk _ (Op.store 40 _ _) _ _ _ _ :: _) _ _; refine stopP ?_) | go_values | go_skip | go_guarded | go_step | go_upon | go_back)
 unfold StopP
 refine wpList_store_mid rfl 40 (.tmp 3) (.tmp 10) rfl b3 0 (msC oM (.slice none 0 0) (.slice none 0 0) (.slice none 0 0)) rfl rfl HT3.out (by kernel_rfl) (by kernel_rfl) ?_
 rw [← hw4]
 clear hw4 HT3
 (try dsimp only); repeat' (first | (with_reducible show Oper.wp _ (Oper.mk _ (Op.load 40 _) _ _ _ _) _ _ _ _; refine stopP ?_) | go_values | go_skip | go_guarded | go_step | go_upon | go_back)
 unfold StopP
 refine opwp_load_run 40 _ rfl _ _ rfl HL2.out ?_
 clear HL2
 (try dsimp only); repeat' (first | go_values | go_skip | go_guarded | go_step | go_upon | go_back)
 refine HP.out.mono ?_
 rintro r0 w5 ⟨rfl, h5⟩
 have h5 : Sep w0 (BagT g [tM] :: Cl b2 (msC tM (.slice none 0 0) (.slice none 0 0) (.slice none 0 0)) 40 :: Cl b3 (msC oM (.slice none 0 0) (.slice none 0 0) (.slice none 0 0)) 40 :: L) w5 := h5
 have HL3 := Lib.hid (h5.sw3.loadW 40 Tryz.underlying40 rfl (by kernel_rfl))
 have HP2 := Lib.hid (bput_any oM h5 (nil3 oM) (chk_o HM.out) (by decide))
 clear HP h5
 (try dsimp only); repeat' (first | (with_reducible show Oper.wp _ (Oper.mk _ (Op.load 40 _) _ _ _ _) _ _ _ _; refine stopP ?_) | go_values | go_skip | go_guarded | go_step | go_upon | go_back)
 unfold StopP
 refine opwp_load_run 40 _ rfl _ _ rfl HL3.out ?_
 clear HL3
 (try dsimp only); repeat' (first | go_values | go_skip | go_guarded | go_step | go_upon | go_back)
 refine HP2.out.mono ?_
 rintro r0 w6 ⟨rfl, h6⟩
 have h6 : Sep w0 (BagT g [tM, oM] :: Cl b2 (msC tM (.slice none 0 0) (.slice none 0 0) (.slice none 0 0)) 40 :: Cl b3 (msC oM (.slice none 0 0) (.slice none 0 0) (.slice none 0 0)) 40 :: L) w6 := h6
 have HC : Hid (Calls Tryz.prog 19 #[.pointer (some ⟨g, 0, none⟩), .int .i64 0] w6 fun e w' => e = .returned (.int .i64 0) ∧ Sep w0 (BagT g [tM, oM, tM] :: Cl b2 (msC tM (.slice none 0 0) (.slice none 0 0) (.slice none 0 0)) 40 :: Cl b3 (msC oM (.slice none 0 0) (.slice none 0 0) (.slice none 0 0)) 40 :: L) w') := Lib.hid (bcopy_any 0 h6 (by decide) (chk_t HM.out) (by decide))
 clear HP2 h6
 (try dsimp only); repeat' (first | go_values | go_skip | go_guarded | go_step | go_upon | go_back)
 refine HC.out.mono ?_
 rintro r0 w7 ⟨rfl, h7⟩
 have HLN : Hid (Calls Tryz.prog 8 #[.pointer (some ⟨g, 0, none⟩)] w7 fun e w' => e = .returned (.int .i64 3) ∧ w7 = w') := Lib.hid (blen_any h7)
 have HTO : Hid (Calls Tryz.prog 21 #[.pointer (some ⟨g, 0, none⟩), .int .i64 1] w7 fun e w' => ∃ a n c, n = 2 ∧ e = .returned (.slice a n c) ∧ Sep w0 (Is (.slice a n c) [0, 2] :: BagT g [tM, oM, tM] :: Cl b2 (msC tM (.slice none 0 0) (.slice none 0 0) (.slice none 0 0)) 40 :: Cl b3 (msC oM (.slice none 0 0) (.slice none 0 0) (.slice none 0 0)) 40 :: L) w') := Lib.hid (bto_any (who := 1) h7 (by decide))
 clear HC h7
 (try dsimp only); repeat' (first | go_values | go_skip | go_guarded | go_step | go_upon | go_back)
 refine HLN.out.mono ?_
 rintro r0 w8 ⟨rfl, rfl⟩
 clear HLN
 (try dsimp only); repeat' (first | go_values | go_skip | go_guarded | go_step | go_upon | go_back)
 refine HTO.out.mono ?_
 rintro r0 w9 ⟨a, n, c, rfl, rfl, h9⟩
 have h10 := h9.alloc (.cells #[.int .i64 0, .int .i64 2] 3)
 have h11 := h10.asRow 2 rfl (by decide)
 have HQ := Lib.hid (eqInts_sep _ _ [0, 2] [0, 2] h11 h11.sw2.sl h11.sl (by decide))
 clear HTO h9 h10 h11
 (try dsimp only); repeat' (first | go_values | go_skip | go_guarded | go_step | go_upon | go_back)
 refine HQ.out.mono ?_
 rintro r0 w10 ⟨rfl, h12⟩
 have h12 : Sep w0 (BagT g [tM, oM, tM] :: Cl b2 (msC tM (.slice none 0 0) (.slice none 0 0) (.slice none 0 0)) 40 :: Cl b3 (msC oM (.slice none 0 0) (.slice none 0 0) (.slice none 0 0)) 40 :: L) w10 := h12.drop.drop
 have HTK : Hid (Calls Tryz.prog 15 #[.pointer (some ⟨g, 0, none⟩), .int .i64 1] w10 fun e w' => ∃ u, MsgC u oM ∧ e = .returned (.tuple #[.agg u, .int .i64 0]) ∧ Sep w0 (BagT g [tM, tM] :: Cl b2 (msC tM (.slice none 0 0) (.slice none 0 0) (.slice none 0 0)) 40 :: Cl b3 (msC oM (.slice none 0 0) (.slice none 0 0) (.slice none 0 0)) 40 :: L) w') := Lib.hid (btake_any 1 h12 (by decide) (by decide))
 clear HQ h12
 (try dsimp only); repeat' (first | go_values | go_skip | go_guarded | go_step | go_upon | go_back)
 refine HTK.out.mono ?_
 rintro r0 w11 ⟨u, hu, rfl, h13⟩
 have h14 := h13.alloc (.cells #[.int .i64 0, .int .i64 0, .int .i64 0, .int .i64 0, .int .i64 0, .int .i64 0, .int .i64 0, .int .i64 0, .int .i64 0, .int .i64 0, .string ⟨#[]⟩, .int .i64 0, .int .i64 0, .slice none 0 0, .int .i64 0, .int .i64 0, .int .i64 0, .bool false, .int .i64 0, .slice none 0 0, .slice none 0 0, .int .i64 0] 40)
 have HT4 := Lib.hid (h14.thereAt 0 22 (by simp))
 have h15 := h14.storeW u (by rw [hu.size]; rfl)
 have HI : Hid ((Tryz.prog.info? 40).map (·.size) = some u.size) := Lib.hid (by rw [hu.size]; kernel_rfl)
 have HO : Hid (u.all (·.oneCell') = true) := Lib.hid (by have := all_oneCell_toArray hu.one; simpa using this)
 have HTH : Hid ((w11.alloc (.cells #[.int .i64 0, .int .i64 0, .int .i64 0, .int .i64 0, .int .i64 0, .int .i64 0, .int .i64 0, .int .i64 0, .int .i64 0, .int .i64 0, .string ⟨#[]⟩, .int .i64 0, .int .i64 0, .slice none 0 0, .int .i64 0, .int .i64 0, .int .i64 0, .bool false, .int .i64 0, .slice none 0 0, .slice none 0 0, .int .i64 0] 40)).there w11.heap.size 0 u.size) := Lib.hid (by rw [hu.size]; exact HT4.out)
 obtain ⟨b4, hb4⟩ : ∃ z, z = w11.heap.size := ⟨_, rfl⟩
 obtain ⟨w12, hw12⟩ : ∃ z, z = (w11.alloc (.cells #[.int .i64 0, .int .i64 0, .int .i64 0, .int .i64 0, .int .i64 0, .int .i64 0, .int .i64 0, .int .i64 0, .int .i64 0, .int .i64 0, .string ⟨#[]⟩, .int .i64 0, .int .i64 0, .slice none 0 0, .int .i64 0, .int .i64 0, .int .i64 0, .bool false, .int .i64 0, .slice none 0 0, .slice none 0 0, .int .i64 0] 40)).setCells w11.heap.size 0 u.toList := ⟨_, rfl⟩
 rw [← hw12, ← hb4] at h15
 have u0 : w12.cell? ⟨b4, 0, none⟩ = some (.int .i64 4) := h15.cell (by obtain ⟨_, _, _, _, _, _, he⟩ := hu; rw [he]; rfl)
 have u4 : w12.cell? ⟨b4, 4, none⟩ = some (.int .i64 5) := h15.cell (by obtain ⟨_, _, _, _, _, _, he⟩ := hu; rw [he]; rfl)
 have HD : Hid (Calls Tryz.prog 20 #[.pointer (some ⟨g, 0, none⟩), .int .i64 1] w12 fun e w' => e = .returned (.int .i64 0) ∧ Sep w0 (BagT g [tM] :: Cl b4 u 40 :: Cl b2 (msC tM (.slice none 0 0) (.slice none 0 0) (.slice none 0 0)) 40 :: Cl b3 (msC oM (.slice none 0 0) (.slice none 0 0) (.slice none 0 0)) 40 :: L) w') := Lib.hid (bdrop_any 1 h15.sw2 (by decide) (by decide))
 clear HTK h13 h14 h15 HT4 hu
 (try dsimp only); repeat' (first | (with_reducible show wpList _ _ _ (Oper.mk _ (Op.store 40 _ _) _ _ _ _ :: _) _ _; refine stopP ?_) | go_values | go_skip | go_guarded | go_step | go_upon | go_back)
 unfold StopP
 refine wpList_store_mid rfl 40 (.tmp 4) (.tmp 45) rfl w11.heap.size 0 u rfl rfl HTH.out HI.out HO.out ?_
 rw [← hw12, ← hb4]
 clear hw12 hb4 HTH HI HO
 (try dsimp only); repeat' (first | go_values | go_skip | go_guarded | go_step | go_upon | go_back)
 refine HD.out.mono ?_
 rintro r0 w13 ⟨rfl, h16⟩
 have HD2 : Hid (Calls Tryz.prog 20 #[.pointer (some ⟨g, 0, none⟩), .int .i64 1] w13 fun e w' => e = .returned (.int .i64 9) ∧ Sep w0 (BagT g [tM] :: Cl b4 u 40 :: Cl b2 (msC tM (.slice none 0 0) (.slice none 0 0) (.slice none 0 0)) 40 :: Cl b3 (msC oM (.slice none 0 0) (.slice none 0 0) (.slice none 0 0)) 40 :: L) w') := Lib.hid (bdrop_bad 1 h16 (by decide))
 clear HD h16 u0 u4
 (try dsimp only); repeat' (first | go_values | go_skip | go_guarded | go_step | go_upon | go_back)
 refine HD2.out.mono ?_
 rintro r0 w14 ⟨rfl, h17⟩
 have HLI : Hid (Calls Tryz.prog 10 #[.pointer (some ⟨g, 0, none⟩)] w14 fun e w' => ∃ a c rows, e = .returned (.slice a 1 c) ∧ MsgsC rows [tM] ∧ Sep w0 (Rn 22 40 (.slice a 1 c) 1 (msCs rows) :: BagT g [tM] :: Cl b4 u 40 :: Cl b2 (msC tM (.slice none 0 0) (.slice none 0 0) (.slice none 0 0)) 40 :: Cl b3 (msC oM (.slice none 0 0) (.slice none 0 0) (.slice none 0 0)) 40 :: L) w') := Lib.hid (blist_any h17 (by decide))
 clear HD2 h17
 (try dsimp only); repeat' (first | go_values | go_skip | go_guarded | go_step | go_upon | go_back)
 refine HLI.out.mono ?_
 rintro r0 w15 ⟨a, c, rows, rfl, hm, h18⟩
 obtain ⟨hkr, hmc⟩ := hm.at 0 (by decide)
 obtain ⟨b, off, hb, -, -, hra⟩ := h18.roOf.roMsg hm 0 hkr hm.1
 obtain ⟨a2, c2, e2, -, -, -, hcell⟩ := h18.rnForm
 simp only [Value.slice.injEq, true_and] at e2
 obtain ⟨rfl, rfl⟩ := e2
 obtain ⟨b', hb', -, -⟩ := hcell (by omega)
 rw [hb'] at hb
 simp only [Option.some.injEq, Addr.mk.injEq, and_true] at hb
 obtain ⟨rfl, rfl⟩ := hb
 subst hb'
 obtain ⟨lv, cv, ev, -, -, -, hrk⟩ := hmc
 rw [hrk] at hra
 have x0 : w15.cell? ⟨b', 0, none⟩ = some (.int .i64 6) := hra 0 _ rfl
 have x3 : w15.cell? ⟨b', 3, none⟩ = some (.int .i64 3) := hra 3 _ rfl
 have H18 := Lib.hid (h18.drop.drop.drop.drop.drop)
 clear HLI h18 hkr hra hcell hrk hm
 (try dsimp only); repeat' (first | go_values | go_skip | go_guarded | go_step | go_upon | go_back)
 go_ret
 exact ⟨rfl, H18.out⟩
end Go.Proofs.YtcnbmeiielkigaaGreatDoor
