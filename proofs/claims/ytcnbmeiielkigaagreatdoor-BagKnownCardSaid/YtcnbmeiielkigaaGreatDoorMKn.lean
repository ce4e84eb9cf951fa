/- Stage 22, BagKnown: the walk. -/
import Derived.Great.BuildSlice
import Derived.Test.YtcnbmeiielkigaaGreatDoorMZ44
import Derived.Test.YtcnbmeiielkigaaGreatDoorMZ29
namespace Go.Proofs.YtcnbmeiielkigaaGreatDoor
open Go Go.RowKit
set_option linter.unusedVariables false
set_option linter.unusedSimpArgs false
theorem load_on22 {P : Program} {ops : Array Oper} {rest : List Oper} {o : Oper} {a : Act} {w : World} {Q : Exit → Act → World → Prop} (t : TypeId) (x : Operand) (hop : o.op = .load t x) (p v : Value) (hx : a.eval x = p)
  (hr : (Instr.loadAt t p).run P w = .ok v w) (hw : Region.wanted o (yielded ops a.tmps) = true) (hK : wpList P ops Q rest (a.put o.dst v) w) : wpList P ops Q (o :: rest) a w :=
 BigFrame.wpList_want hw fun K hK' => opwp_load_run t x hop p v hx hr (hK' _ _ hK)
set_option maxRecDepth 100000 in
set_option maxHeartbeats 16000000 in
theorem bknown_any {w : World} (hK : KindsAt w ∧ MKindsAt w) :
  Calls Tryz.prog 4 #[] w fun e w' => e = .returned (.bool true) ∧ Below w.heap.size w w' := by
 have HK := Lib.hid hK
 clear hK
 go_enter Tryz.func4, Tryz.ntmps4
 (try dsimp only); repeat' (first | go_values | go_skip | go_guarded | go_step | go_upon | go_back)
 go_loopw [1, 2] (fun p i wr => ∃ k : Nat, k ≤ 2 ∧ i = .int .i64 k ∧ NoneAt p wr ∧ Sep w [] wr) (fun _ i _ => 2 - (intOf i).toNat)
 case atStart => exact ⟨0, by omega, rfl, none_nil _, Sep.start w⟩
 case round =>
  obtain ⟨k, hk, rfl, hn, hs⟩ := hrel
  have HNw := Lib.hid hn
  have HS0 := Lib.hid hs
  clear hs hn
  have k0 : (0 : Int) ≤ (k : Int) := by omega
  by_cases hk2 : k < 2
  ·have hd : decide ((k : Int) < 2) = true := decide_eq_true (by omega)
   have k2 : (k : Int) < 2 := by omega
   have HK := Lib.hid hk2
   have H := HS0
   have HN := HNw
   clear hk hk2 HS0 HNw
   as_aux_lemma =>
    (try dsimp only); repeat' (first | go_values | go_skip | go_guarded | go_step | go_upon | go_back)
    have hP := ptake_none (i := 0) HN.out
    refine hP.mono ?_
    clear hP
    rintro r3 w3 ⟨rfl, h3⟩
    rw [← zG_c]
    obtain ⟨u1, hu1⟩ : ∃ z, z = mgC zG := ⟨_, rfl⟩
    have u1s : u1.size = 22 := by rw [hu1]; rfl
    have u1o : u1.all (·.oneCell') = true := by rw [hu1]; exact gms_one h3.mtZero.mtGm
    rw [← hu1]
    have Hu1 := Lib.hid hu1
    clear hu1
    have hk2 := h3.alloc (.cells #[.int .i64 0, .int .i64 0, .int .i64 0, .int .i64 0, .int .i64 0, .int .i64 0, .int .i64 0, .int .i64 0, .int .i64 0, .int .i64 0, .string ⟨#[]⟩, .int .i64 0, .int .i64 0, .slice none 0 0, .int .i64 0, .int .i64 0, .int .i64 0, .bool false, .int .i64 0, .slice none 0 0, .slice none 0 0, .int .i64 0] 40)
    have HT2 := Lib.hid (hk2.thereAt 0 22 (by simp))
    have H4 := hk2.storeW u1 (by rw [u1s]; rfl)
    have HI2 : Hid ((Tryz.prog.info? 40).map (·.size) = some u1.size) := Lib.hid (by rw [u1s]; kernel_rfl)
    have HO2 : Hid (u1.all (·.oneCell') = true) := Lib.hid u1o
    have HTH : Hid ((w3.alloc (.cells #[.int .i64 0, .int .i64 0, .int .i64 0, .int .i64 0, .int .i64 0, .int .i64 0, .int .i64 0, .int .i64 0, .int .i64 0, .int .i64 0, .string ⟨#[]⟩, .int .i64 0, .int .i64 0, .slice none 0 0, .int .i64 0, .int .i64 0, .int .i64 0, .bool false, .int .i64 0, .slice none 0 0, .slice none 0 0, .int .i64 0] 40)).there w3.heap.size 0 u1.size) := Lib.hid (by rw [u1s]; exact HT2.out)
    obtain ⟨ba, hba⟩ : ∃ z, z = w3.heap.size := ⟨_, rfl⟩
    obtain ⟨w4, hw4⟩ : ∃ z, z = (w3.alloc (.cells #[.int .i64 0, .int .i64 0, .int .i64 0, .int .i64 0, .int .i64 0, .int .i64 0, .int .i64 0, .int .i64 0, .int .i64 0, .int .i64 0, .string ⟨#[]⟩, .int .i64 0, .int .i64 0, .slice none 0 0, .int .i64 0, .int .i64 0, .int .i64 0, .bool false, .int .i64 0, .slice none 0 0, .slice none 0 0, .int .i64 0] 40)).setCells w3.heap.size 0 u1.toList := ⟨_, rfl⟩
    rw [← hw4, ← hba] at H4
    have H4 := Lib.hid H4
    clear hk2 HT2 h3
    (try dsimp only); repeat' (first | (with_reducible show wpList _ _ _ (Oper.mk _ (Op.store 40 _ _) _ _ _ _ :: _) _ _; refine stopP ?_) | go_values | go_skip | go_guarded | go_step | go_upon | go_back)
    unfold StopP
    refine wpList_store_mid rfl 40 (.tmp 3) (.tmp 21) rfl w3.heap.size 0 u1 rfl rfl HTH.out HI2.out HO2.out ?_
    rw [← hw4, ← hba]
    clear hw4 hba HTH HI2 HO2
    have HN4 := Lib.hid (HN.out.mono H4.out.low)
    (try dsimp only); repeat' (first | go_values | go_skip | go_guarded | go_step | go_upon | go_back)
    have hP := pat_none (i := 0) HN4.out
    refine hP.mono ?_
    clear hP
    rintro r5 w5 ⟨rfl, h5⟩
    rw [← zG_c]
    have h5 := H4.out.ontoL h5
    rw [List.nil_append] at h5
    obtain ⟨u2, hu2⟩ : ∃ z, z = mgC zG := ⟨_, rfl⟩
    have u2s : u2.size = 22 := by rw [hu2]; rfl
    have u2o : u2.all (·.oneCell') = true := by rw [hu2]; exact gms_one h5.mtZero.mtGm
    rw [← hu2]
    have Hu2 := Lib.hid hu2
    clear hu2
    have hk2 := h5.alloc (.cells #[.int .i64 0, .int .i64 0, .int .i64 0, .int .i64 0, .int .i64 0, .int .i64 0, .int .i64 0, .int .i64 0, .int .i64 0, .int .i64 0, .string ⟨#[]⟩, .int .i64 0, .int .i64 0, .slice none 0 0, .int .i64 0, .int .i64 0, .int .i64 0, .bool false, .int .i64 0, .slice none 0 0, .slice none 0 0, .int .i64 0] 40)
    have HT2 := Lib.hid (hk2.thereAt 0 22 (by simp))
    have H6 := hk2.storeW u2 (by rw [u2s]; rfl)
    have HI2 : Hid ((Tryz.prog.info? 40).map (·.size) = some u2.size) := Lib.hid (by rw [u2s]; kernel_rfl)
    have HO2 : Hid (u2.all (·.oneCell') = true) := Lib.hid u2o
    have HTH : Hid ((w5.alloc (.cells #[.int .i64 0, .int .i64 0, .int .i64 0, .int .i64 0, .int .i64 0, .int .i64 0, .int .i64 0, .int .i64 0, .int .i64 0, .int .i64 0, .string ⟨#[]⟩, .int .i64 0, .int .i64 0, .slice none 0 0, .int .i64 0, .int .i64 0, .int .i64 0, .bool false, .int .i64 0, .slice none 0 0, .slice none 0 0, .int .i64 0] 40)).there w5.heap.size 0 u2.size) := Lib.hid (by rw [u2s]; exact HT2.out)
    obtain ⟨bb, hbb⟩ : ∃ z, z = w5.heap.size := ⟨_, rfl⟩
    obtain ⟨w6, hw6⟩ : ∃ z, z = (w5.alloc (.cells #[.int .i64 0, .int .i64 0, .int .i64 0, .int .i64 0, .int .i64 0, .int .i64 0, .int .i64 0, .int .i64 0, .int .i64 0, .int .i64 0, .string ⟨#[]⟩, .int .i64 0, .int .i64 0, .slice none 0 0, .int .i64 0, .int .i64 0, .int .i64 0, .bool false, .int .i64 0, .slice none 0 0, .slice none 0 0, .int .i64 0] 40)).setCells w5.heap.size 0 u2.toList := ⟨_, rfl⟩
    rw [← hw6, ← hbb] at H6
    have H6 := Lib.hid H6
    clear hk2 HT2 h5
    (try dsimp only); repeat' (first | (with_reducible show wpList _ _ _ (Oper.mk _ (Op.store 40 _ _) _ _ _ _ :: _) _ _; refine stopP ?_) | go_values | go_skip | go_guarded | go_step | go_upon | go_back)
    unfold StopP
    refine wpList_store_mid rfl 40 (.tmp 5) (.tmp 26) rfl w5.heap.size 0 u2 rfl rfl HTH.out HI2.out HO2.out ?_
    rw [← hw6, ← hbb]
    clear hw6 hbb HTH HI2 HO2
    clear HN4 H4
    have HS := Lib.hid (smallG_any 1 (by decide) (by decide) H6.out)
    clear H6
    (try dsimp only); repeat' (first | go_values | go_skip | go_guarded | go_step | go_upon | go_back)
    refine HS.out.mono ?_
    rintro r7 w7 ⟨rfl, h7⟩
    have HP := Lib.hid (pput_none (mgC (smG 1)) rfl (HN.out.mono h7.low))
    have H7 := Lib.hid h7
    clear HS h7
    obtain ⟨us, hus⟩ : ∃ z, z = mgC (smG 1) := ⟨_, rfl⟩
    rw [← hus] at HP ⊢
    clear hus
    (try dsimp only); repeat' (first | go_values | go_skip | go_guarded | go_step | go_upon | go_back)
    refine HP.out.mono ?_
    rintro r8 w8 ⟨rfl, h8⟩
    have h8 := H7.out.ontoL h8
    rw [List.nil_append] at h8
    have HC := Lib.hid (pcopy_none (i := 0) (HN.out.mono h8.low))
    have H8 := Lib.hid h8
    clear HP H7 h8
    (try dsimp only); repeat' (first | go_values | go_skip | go_guarded | go_step | go_upon | go_back)
    refine HC.out.mono ?_
    rintro r9 w9 ⟨rfl, h9⟩
    have h9 := H8.out.ontoL h9
    rw [List.nil_append] at h9
    have HD := Lib.hid (pdrop_none (i := -1) (HN.out.mono h9.low))
    have H9 := Lib.hid h9
    clear HC H8 h9
    (try dsimp only); repeat' (first | go_values | go_skip | go_guarded | go_step | go_upon | go_back)
    refine HD.out.mono ?_
    rintro r10 w10 ⟨rfl, h10⟩
    have h10 := H9.out.ontoL h10
    rw [List.nil_append] at h10
    have HN10 := Lib.hid (HN.out.mono h10.low)
    have H10 := Lib.hid h10
    clear HD H9 h10
    (try dsimp only); repeat' (first | go_values | go_skip | go_guarded | go_step | go_upon | go_back)
    refine (plen_none HN10.out).mono ?_
    rintro r11 w11 ⟨rfl, rfl⟩
    (try dsimp only); repeat' (first | go_values | go_skip | go_guarded | go_step | go_upon | go_back)
    refine (plist_none HN10.out).mono ?_
    rintro r11 w11 ⟨rfl, rfl⟩
    (try dsimp only); repeat' (first | go_values | go_skip | go_guarded | go_step | go_upon | go_back)
    refine (pto_none 0 HN10.out).mono ?_
    rintro r11 w11 ⟨rfl, rfl⟩
    clear HN10
    have HL1 := Lib.hid ((H10.out.sw2).loadW 40 Tryz.underlying40 rfl (by rw [u1s]; kernel_rfl))
    (try dsimp only); repeat' (first | (with_reducible show wpList _ _ _ (Oper.mk _ (Op.load 40 _) _ _ _ _ :: _) _ _; refine stopP ?_) | go_values | go_skip | go_guarded | go_step | go_upon | go_back)
    unfold StopP
    have hq_ := HL1.out
    refine load_on22 40 _ rfl _ _ rfl hq_ (by rfl) ?_
    clear hq_
    clear HL1
    (try dsimp only); repeat' (first | go_values | go_skip | go_guarded | go_step | go_upon | go_back)
    rw [Hu1.out]
    refine (gsame_w zG zG H10.out.mtZero.mtGm H10.out.mtZero.mtGm (by decide) (by decide) (by decide) (by decide)).mono ?_
    rintro r12 w12 ⟨r, rfl, hr, h12⟩
    obtain rfl : r = true := hr.2 (sameP_of rfl)
    rw [show (gSame zG zG && true) = true by rfl]
    have h12 := H10.out.ontoL h12
    rw [List.nil_append] at h12
    have H12 := Lib.hid h12
    clear hr h12 H10
    have HL2 := Lib.hid (H12.out.loadW 40 Tryz.underlying40 rfl (by rw [u2s]; kernel_rfl))
    (try dsimp only); repeat' (first | (with_reducible show wpList _ _ _ (Oper.mk _ (Op.load 40 _) _ _ _ _ :: _) _ _; refine stopP ?_) | go_values | go_skip | go_guarded | go_step | go_upon | go_back)
    unfold StopP
    have hq_ := HL2.out
    refine load_on22 40 _ rfl _ _ rfl hq_ (by rfl) ?_
    clear hq_
    clear HL2
    (try dsimp only); repeat' (first | go_values | go_skip | go_guarded | go_step | go_upon | go_back)
    rw [Hu2.out]
    refine (gsame_w zG zG H12.out.mtZero.mtGm H12.out.mtZero.mtGm (by decide) (by decide) (by decide) (by decide)).mono ?_
    rintro r13 w13 ⟨r, rfl, hr, h13⟩
    obtain rfl : r = true := hr.2 (sameP_of rfl)
    rw [show (gSame zG zG && true) = true by rfl]
    have h13 := H12.out.ontoL h13
    rw [List.nil_append] at h13
    have h14 := (h13.drop.drop).alloc (.cells #[.bool false, .slice none 0 0] 60)
    have HN9 := Lib.hid (none_made h14)
    have H14 := Lib.hid (H.out.ontoL h14.drop)
    clear hr h13 h14 H12 H HN
    (try dsimp only); repeat' (first | go_values | go_skip | go_guarded | go_step | go_upon | go_back)
    go_roundw
    case rel => exact ⟨k + 1, by have := HK.out; omega, by go_num, HN9.out, H14.out⟩
    case measure => have := HK.out; simp [intOf]; omega
  ·have hd : decide ((k : Int) < 2) = false := decide_eq_false (by omega)
   have HP := Lib.hid (pnew_any HS0.out)
   clear hk hk2 HS0 HNw
   (try dsimp only); repeat' (first | go_values | go_skip | go_guarded | go_step | go_upon | go_back)
   refine HP.out.mono ?_
   rintro r0 w1 ⟨b, rfl, h1⟩
   have H1 := Lib.hid h1
   clear HP h1 hd
   (try dsimp only); repeat' (first | go_values | go_skip | go_guarded | go_step | go_upon | go_back)
   go_loopw [8] (fun i wq => ∃ (k : Nat) (gs : List MgM), k ≤ 2000 ∧ i = .int .i64 k ∧ gs.length = k ∧ (∀ g ∈ gs, MOk g) ∧ Sep w [PB b gs] wq) (fun i _ => 2000 - (intOf i).toNat)
   case atStart => exact ⟨0, [], by omega, rfl, rfl, by simp, H1.out⟩
   case round =>
    obtain ⟨k, gs, hk, rfl, hgl, hgo, hs⟩ := hrel
    clear H1
    have k0 : (0 : Int) ≤ (k : Int) := by omega
    have k9 : (k : Int) ≤ 2000 := by omega
    have H := Lib.hid hs
    clear hs
    by_cases hk2 : k < 2000
    ·have hd : decide ((k : Int) < 2000) = true := decide_eq_true (by omega)
     have HS := Lib.hid (smallG_any (k : Int) k0 (by omega) H.out)
     have HG := Lib.hid (And.intro hgl (And.intro hgo hk2))
     clear H hgl hgo hk2 hk
     as_aux_lemma =>
      (try dsimp only); repeat' (first | go_values | go_skip | go_guarded | go_step | go_upon | go_back)
      refine HS.out.mono ?_
      rintro r3 w3 ⟨rfl, h3⟩
      have HP := Lib.hid (pput_ok (smG (k : Int)) h3 (fun wx _ => gms_z wx rfl rfl rfl rfl rfl rfl) HK.out (smG_ok k0 (by omega)) (by have := HG.out.1; have := HG.out.2.2; omega))
      obtain ⟨us, hus⟩ : ∃ z, z = mgC (smG (k : Int)) := ⟨_, rfl⟩
      rw [← hus] at HP ⊢
      clear HS h3 hus
      (try dsimp only); repeat' (first | go_values | go_skip | go_guarded | go_step | go_upon | go_back)
      refine HP.out.mono ?_
      rintro r4 w4 ⟨g2, rfl, hs2, h4⟩
      have H4 : Hid (∀ x ∈ gs ++ [g2], MOk x) := Lib.hid (mok_snoc HG.out.2.1 ((smG_ok k0 (by omega)).of hs2))
      have H5 := Lib.hid h4
      clear HP h4 hs2
      (try dsimp only); repeat' (first | go_values | go_skip | go_guarded | go_step | go_upon | go_back)
      go_roundw
      case rel => exact ⟨k + 1, gs ++ [g2], by have := HG.out.2.2; omega, by go_num, by rw [List.length_append, HG.out.1]; rfl, H4.out, H5.out⟩
      case measure => have := HG.out.2.2; simp [intOf]; omega
    ·have hd : decide ((k : Int) < 2000) = false := decide_eq_false (by omega)
     have HG : Hid (gs.length = 2000 ∧ ∀ g ∈ gs, MOk g) := Lib.hid ⟨by omega, hgo⟩
     clear hgl hgo hk2 hk k0 k9
     as_aux_lemma =>
      (try dsimp only); repeat' (first | go_values | go_skip | go_guarded | go_step | go_upon | go_back)
      have HS := Lib.hid (smallG_any 1 (by decide) (by decide) H.out)
      clear H
      (try dsimp only); repeat' (first | go_values | go_skip | go_guarded | go_step | go_upon | go_back)
      refine HS.out.mono ?_
      rintro r3 w3 ⟨rfl, h3⟩
      have HP := Lib.hid (pput_full (smG 1) h3 (fun wx _ => gms_z wx rfl rfl rfl rfl rfl rfl) HK.out (smG_ok (by decide) (by decide)) HG.out.1)
      obtain ⟨us, hus⟩ : ∃ z, z = mgC (smG 1) := ⟨_, rfl⟩
      rw [← hus] at HP ⊢
      clear HS h3 hus
      (try dsimp only); repeat' (first | go_values | go_skip | go_guarded | go_step | go_upon | go_back)
      refine HP.out.mono ?_
      rintro r4 w4 ⟨rfl, h4⟩
      have HB := Lib.hid (pput_badL zG h4 (fun wx _ => gms_z wx rfl rfl rfl rfl rfl rfl) HK.out ⟨by decide, by decide, by decide, by decide⟩ (by rfl))
      clear HP h4
      (try dsimp only); repeat' (first | go_values | go_skip | go_guarded | go_step | go_upon | go_back)
      refine HB.out.mono ?_
      rintro r5 w5 ⟨rfl, h5⟩
      have HC := Lib.hid (pcopy_full (i := 5) h5 (by rw [HG.out.1]; decide) (HG.out.2 _ (List.getElem_mem _)) HK.out HG.out.1)
      clear HB h5
      (try dsimp only); repeat' (first | go_values | go_skip | go_guarded | go_step | go_upon | go_back)
      refine HC.out.mono ?_
      rintro r6 w6 ⟨rfl, h6⟩
      have HC2 := Lib.hid (pcopy_bad (i := 2000) h6 (.inr (by rw [HG.out.1]; decide)))
      clear HC h6
      (try dsimp only); repeat' (first | go_values | go_skip | go_guarded | go_step | go_upon | go_back)
      refine HC2.out.mono ?_
      rintro r7 w7 ⟨rfl, h7⟩
      have HD := Lib.hid (pdrop_ok (i := 7) h7 (by rw [HG.out.1]; decide) (by rw [HG.out.1]; decide))
      clear HC2 h7
      (try dsimp only); repeat' (first | go_values | go_skip | go_guarded | go_step | go_upon | go_back)
      refine HD.out.mono ?_
      rintro r8 w8 ⟨rfl, h8⟩
      have hel : (gs.eraseIdx 7).length = 1999 := by rw [List.length_eraseIdx, if_pos (by rw [HG.out.1]; decide), HG.out.1]
      have HC : Hid (Calls Tryz.prog 19 #[.pointer (some ⟨b, 0, none⟩), .int .i64 (7 : Nat)] w8 fun e w' => ∃ g2, e = .returned (.int .i64 0) ∧ Sep w [PB b (gs.eraseIdx 7 ++ [g2])] w') := Lib.hid ((pcopy_ok (i := 7) h8 (by rw [hel]; decide) (mok_erase 7 HG.out.2 _ (List.getElem_mem _)) HK.out (by rw [hel]; decide)).mono fun e w' ⟨g2, he, _, hs⟩ => ⟨g2, he, hs⟩)
      have HEL := Lib.hid hel
      clear HD h8 hel
      (try dsimp only); repeat' (first | go_values | go_skip | go_guarded | go_step | go_upon | go_back)
      refine HC.out.mono ?_
      rintro r9 w9 ⟨g9, rfl, h9⟩
      have HLE := plen_any h9
      rw [show ((gs.eraseIdx 7 ++ [g9]).length : Int) = 2000 by rw [List.length_append, HEL.out]; rfl] at HLE
      have HLE := Lib.hid HLE
      have H9 := Lib.hid h9.drop
      clear HC h9
      (try dsimp only); repeat' (first | go_values | go_skip | go_guarded | go_step | go_upon | go_back)
      refine HLE.out.mono ?_
      rintro r10 w10 ⟨rfl, rfl⟩
      clear HLE HG HEL
      (try dsimp only); repeat' (first | (with_reducible show wpList _ _ _ (Oper.mk _ (Op.buildSlice _ _ _) _ _ _ _ :: _) _ _; refine stopP ?_) | go_values | go_skip | go_guarded | go_step | go_upon | go_back)
      unfold StopP
      refine wpList_buildFlat rfl 56 3 6 _ rfl .i64 [-9223372036854775808, -1, 0, 1, 2, 9223372036854775807] Tryz.underlying56 (by kernel_rfl) (by kernel_rfl) rfl (by decide) (by decide) (by rfl) ?_
      (try dsimp only); repeat' (first | go_values | go_skip | go_guarded | go_step | go_upon | go_back)
      have hx := H9.out.alloc (.cells #[.int .i64 (-9223372036854775808), .int .i64 (-1), .int .i64 0, .int .i64 1, .int .i64 2, .int .i64 9223372036854775807] 3)
      obtain ⟨be, hbe⟩ : ∃ x, x = w9.heap.size := ⟨_, rfl⟩
      rw [← hbe] at hx
      obtain ⟨ea, hea⟩ : ∃ x : Array Value, x = #[.int .i64 (-9223372036854775808), .int .i64 (-1), .int .i64 0, .int .i64 1, .int .i64 2, .int .i64 9223372036854775807] := ⟨_, rfl⟩
      have hget : ∀ i : Nat, i < 6 → ∃ z : Int, ea[i]? = some (.int .i64 z) := fun i hi => by
       rw [hea]
       exact ends_get _ [-9223372036854775808, -1, 0, 1, 2, 9223372036854775807] rfl i hi
      rw [← hea] at hx
      have HX := Lib.hid hx
      have HG := Lib.hid hget
      rw [← hea, ← hbe]
      clear hx hget hea hbe H9
      go_loopw [11] (fun i wq => ∃ k : Nat, k ≤ 6 ∧ i = .int .i64 k ∧ Sep w [Cl be ea 3] wq) (fun i _ => 6 - (intOf i).toNat)
      case atStart => exact ⟨0, by omega, rfl, HX.out⟩
      case round =>
       obtain ⟨k, hk, rfl, hs⟩ := hrel
       have H := Lib.hid hs
       clear hs HX
       have kz : (0 : Int) ≤ (k : Int) := by omega
       by_cases hk6 : k < 6
       ·have hd : decide ((k : Int) < 6) = true := decide_eq_true (by omega)
        have k6 : (k : Int) < 6 := by omega
        obtain ⟨z, hzc⟩ := HG.out k hk6
        have HR := Lib.hid (H.out.rnNil 25 42)
        have HKK := Lib.hid hk6
        clear hk hk6
        as_aux_lemma =>
         (try dsimp only); repeat' (first | go_values | go_skip | go_guarded | go_step | go_upon | go_back)
         go_loopw [12, 13] (fun v i wz => ∃ (q : Nat) (ds : List (Array Value)), q ≤ 5 ∧ ds.length = 3 * q ∧ i = .int .i64 ((q : Int) + 3) ∧ (∀ d ∈ ds, DoZ d) ∧ Sep w [Rn 25 42 v (3 * q) (dsCs ds), Cl be ea 3] wz) (fun _ i _ => 8 - (intOf i).toNat)
         case atStart => exact ⟨0, [], by omega, rfl, rfl, by simp, HR.out⟩
         case round =>
          obtain ⟨q, ds, hq, hdl, rfl, hdz, hs⟩ := hrel
          clear HR H
          have q0 : (0 : Int) ≤ (q : Int) := by omega
          have q5 : (q : Int) ≤ 5 := by omega
          by_cases hq5 : q < 5
          ·have hdq : decide ((q : Int) + 3 < 8) = true := decide_eq_true (by omega)
           have HQ := Lib.hid (And.intro hdl (And.intro hdz hq5))
           have HE : Hid ((q : Int) + 3 + 1 = ((q + 1 : Nat) : Int) + 3 ∧ 8 - ((q : Int) + 3 + 1).toNat < 8 - ((q : Int) + 3).toNat) := Lib.hid (by omega)
           have H2 := Lib.hid (hs.drew.sw2)
           have HS := Lib.hid (smallG_any (k : Int) kz (by omega) H2.out)
           clear hs hdl hdz hq hq5
           have HZ : Hid (∀ d ∈ [(Value.int .i64 0 :: Value.int .i64 0 :: ((mgC (smG (k : Int))).toList ++ [Value.bool false])).toArray, (Value.int .i64 ((q : Int) + 3) :: Value.int .i64 z :: ((mgC zG).toList ++ [Value.bool true])).toArray, (Value.int .i64 0 :: Value.int .i64 0 :: ((mgC { zG with k := (q : Int) + 3, f := z }).toList ++ [Value.bool false])).toArray], DoZ d) := Lib.hid (by
            intro d hd
            simp only [List.mem_cons, List.not_mem_nil, or_false] at hd
            rcases hd with rfl | rfl | rfl
            ·exact doz_of _ _ _ _ rfl rfl rfl rfl rfl rfl (show (0 : Int) ≤ 9223372036854775807 by decide)
            ·exact doz_of _ _ _ _ rfl rfl rfl rfl rfl rfl (show (0 : Int) ≤ 9223372036854775807 by decide)
            ·exact doz_of _ _ _ _ rfl rfl rfl rfl rfl rfl (show (0 : Int) ≤ 9223372036854775807 by decide))
           (try dsimp only); repeat' (first | go_values | go_skip | go_guarded | go_step | go_upon | go_back)
           refine wp_region_G (fun w' => w'.cell? ⟨be, k, none⟩ = some (.int .i64 z)) [] (by kernel_rfl) (H2.out.cell hzc) (fun hS => ?_)
           try dsimp only at hS
           refine wpAnyG_tk (i := 0) (v := ?v0_1kb) rfl (Or.inl ⟨by rfl, ?a_⟩) hS ?b_
           case a_ => intro w hSw; (try dsimp only at hSw); go_simp; (try with_reducible rfl)
           case b_ =>
           try simp only [nz0, nz1, nz2, Act.put, nz3, nz4, nz5]
           refine wpAnyG_tk (i := 1) (v := ?v1_2kb) rfl (Or.inl ⟨by rfl, ?a_⟩) hS ?b_
           case a_ => intro w hSw; (try dsimp only at hSw); go_simp; (try with_reducible rfl)
           case b_ =>
           try simp only [nz0, nz1, nz2, Act.put, nz3, nz4, nz5]
           refine wpAnyG_tk (i := 4) (v := ?v4_3kb) rfl (Or.inl ⟨by rfl, ?a_⟩) hS ?b_
           case a_ => intro w hSw; (try dsimp only at hSw); go_simp; (try with_reducible rfl)
           case b_ =>
           try simp only [nz0, nz1, nz2, Act.put, nz3, nz4, nz5]
           refine wpAnyG_tk (i := 5) (v := ?v5_4kb) rfl (Or.inl ⟨by rfl, ?a_⟩) hS ?b_
           case a_ => intro w hSw; (try dsimp only at hSw); go_simp; (try with_reducible rfl)
           case b_ =>
           try simp only [nz0, nz1, nz2, Act.put, nz3, nz4, nz5]
           refine wpAnyG_tk (i := 6) (v := ?v6_5kb) rfl (Or.inl ⟨by rfl, ?a_⟩) hS ?b_
           case a_ => intro w hSw; (try dsimp only at hSw); go_simp; (try with_reducible rfl)
           case b_ =>
           try simp only [nz0, nz1, nz2, Act.put, nz3, nz4, nz5]
           refine wpAnyG_tk (i := 7) (v := ?v7_6kb) rfl (Or.inl ⟨by rfl, ?a_⟩) hS ?b_
           case a_ => intro w hSw; (try dsimp only at hSw); go_simp; (try with_reducible rfl)
           case b_ =>
           try simp only [nz0, nz1, nz2, Act.put, nz3, nz4, nz5]
           refine wpAnyG_tk (i := 8) (v := ?v8_7kb) rfl (Or.inl ⟨by rfl, ?a_⟩) hS ?b_
           case a_ => intro w hSw; (try dsimp only at hSw); go_simp; (try with_reducible rfl)
           case b_ =>
           try simp only [nz0, nz1, nz2, Act.put, nz3, nz4, nz5]
           refine wpAnyG_tk (i := 9) (v := ?v9_8kb) rfl (Or.inl ⟨by rfl, ?a_⟩) hS ?b_
           case a_ => intro w hSw; (try dsimp only at hSw); go_simp; (try with_reducible rfl)
           case b_ =>
           try simp only [nz0, nz1, nz2, Act.put, nz3, nz4, nz5]
           refine wpAnyG_tk (i := 10) (v := ?v10_9kb) rfl (Or.inl ⟨by rfl, ?a_⟩) hS ?b_
           case a_ => intro w hSw; (try dsimp only at hSw); go_simp; (try with_reducible rfl)
           case b_ =>
           try simp only [nz0, nz1, nz2, Act.put, nz3, nz4, nz5]
           refine wpAnyG_tk (i := 11) (v := ?v11_10kb) rfl (Or.inl ⟨by rfl, ?a_⟩) hS ?b_
           case a_ => intro w hSw; (try dsimp only at hSw); go_simp; (try with_reducible rfl)
           case b_ =>
           try simp only [nz0, nz1, nz2, Act.put, nz3, nz4, nz5]
           refine wpAnyG_tk (i := 12) (v := ?v12_11kb) rfl (Or.inl ⟨by rfl, ?a_⟩) hS ?b_
           case a_ => intro w hSw; (try dsimp only at hSw); go_simp; (try with_reducible rfl)
           case b_ =>
           try simp only [nz0, nz1, nz2, Act.put, nz3, nz4, nz5]
           refine wpAnyG_tk (i := 13) (v := ?v13_12kb) rfl (Or.inl ⟨by rfl, ?a_⟩) hS ?b_
           case a_ => intro w hSw; (try dsimp only at hSw); go_simp; (try with_reducible rfl)
           case b_ =>
           try simp only [nz0, nz1, nz2, Act.put, nz3, nz4, nz5]
           refine wpAnyG_tk (i := 14) (v := ?v14_13kb) rfl (Or.inl ⟨by rfl, ?a_⟩) hS ?b_
           case a_ => intro w hSw; (try dsimp only at hSw); go_simp; (try with_reducible rfl)
           case b_ =>
           try simp only [nz0, nz1, nz2, Act.put, nz3, nz4, nz5]
           refine wpAnyG_tk (i := 15) (v := ?v15_14kb) rfl (Or.inl ⟨by rfl, ?a_⟩) hS ?b_
           case a_ => intro w hSw; (try dsimp only at hSw); go_simp; (try with_reducible rfl)
           case b_ =>
           try simp only [nz0, nz1, nz2, Act.put, nz3, nz4, nz5]
           refine wpAnyG_take' (i := 16) (v := .agg (Value.int .i64 0 :: Value.int .i64 0 :: ((mgC { zG with k := (q : Int) + 3, f := z }).toList ++ [Value.bool false])).toArray) rfl (by kernel_rfl) (by kernel_rfl) (by kernel_rfl) (by kernel_rfl) (fun _ _ _ h => h) (Or.inl ⟨by rfl, ?hy16_15kb⟩) hS ?rest16_15kb
           case hy16_15kb => intro w hSw; exact yld_bldDo rfl (c := .agg (mgC { zG with k := (q : Int) + 3, f := z })) (by rfl) (bldDo w (mgC { zG with k := (q : Int) + 3, f := z }) rfl)
           case rest16_15kb =>
           try simp only [nz0, nz1, nz2, Act.put, nz3, nz4, nz5]
           refine wpAnyG_one (i := 2) (by kernel_rfl) rfl (fun K hK => ?_)
           go_simp
           refine Calls.mono HS.out ?_
           rintro r3 w3 ⟨rfl, h3⟩
           refine hK.out _ _ (fun _ => ?hS16kb) ?rest16kb
           case hS16kb => exact (h3.cell hzc)
           clear K hK
           try simp only [nz0, nz1, nz2, Act.put, nz3, nz4, nz5]
           refine wpAnyG_take' (i := 3) (v := .agg (Value.int .i64 0 :: Value.int .i64 0 :: ((mgC (smG (k : Int))).toList ++ [Value.bool false])).toArray) rfl (by kernel_rfl) (by kernel_rfl) (by kernel_rfl) (by kernel_rfl) (fun _ _ _ h => h) (Or.inl ⟨by rfl, ?hy3_17kb⟩) (h3.cell hzc) ?rest3_17kb
           case hy3_17kb => intro w hSw; exact yld_bldDo rfl (c := .agg (mgC (smG (k : Int)))) (by rfl) (bldDo w (mgC (smG (k : Int))) rfl)
           case rest3_17kb =>
           try simp only [nz0, nz1, nz2, Act.put, nz3, nz4, nz5]
           refine wpAnyG_one (i := 17) (by kernel_rfl) rfl (fun K hK => ?_)
           have hb3 := build3d w3 ((Value.int .i64 0 :: Value.int .i64 0 :: ((mgC (smG (k : Int))).toList ++ [Value.bool false])).toArray) ((Value.int .i64 ((q : Int) + 3) :: Value.int .i64 z :: ((mgC zG).toList ++ [Value.bool true])).toArray) ((Value.int .i64 0 :: Value.int .i64 0 :: ((mgC { zG with k := (q : Int) + 3, f := z }).toList ++ [Value.bool false])).toArray) rfl rfl rfl
           have h4 := h3.alloc (.cells (((Value.int .i64 0 :: Value.int .i64 0 :: ((mgC (smG (k : Int))).toList ++ [Value.bool false])).toArray).toList ++ (((Value.int .i64 ((q : Int) + 3) :: Value.int .i64 z :: ((mgC zG).toList ++ [Value.bool true])).toArray).toList ++ ((Value.int .i64 0 :: Value.int .i64 0 :: ((mgC { zG with k := (q : Int) + 3, f := z }).toList ++ [Value.bool false])).toArray).toList)).toArray 42)
           obtain ⟨bB, hbB⟩ : ∃ x, x = w3.heap.size := ⟨_, rfl⟩
           obtain ⟨wB, hwB⟩ : ∃ x, x = w3.alloc (.cells (((Value.int .i64 0 :: Value.int .i64 0 :: ((mgC (smG (k : Int))).toList ++ [Value.bool false])).toArray).toList ++ (((Value.int .i64 ((q : Int) + 3) :: Value.int .i64 z :: ((mgC zG).toList ++ [Value.bool true])).toArray).toList ++ ((Value.int .i64 0 :: Value.int .i64 0 :: ((mgC { zG with k := (q : Int) + 3, f := z }).toList ++ [Value.bool false])).toArray).toList)).toArray 42) := ⟨_, rfl⟩
           rw [← hwB, ← hbB] at hb3 h4
           have Hb3 := Lib.hid hb3
           have H4 := Lib.hid h4
           clear hb3 h4 hwB hbB
           refine step_build3d (by rfl) (.tmp 136) (.tmp 142) (.tmp 149) (by rfl) (c := (Value.int .i64 0 :: Value.int .i64 0 :: ((mgC (smG (k : Int))).toList ++ [Value.bool false])).toArray) (d := (Value.int .i64 ((q : Int) + 3) :: Value.int .i64 z :: ((mgC zG).toList ++ [Value.bool true])).toArray) (e := (Value.int .i64 0 :: Value.int .i64 0 :: ((mgC { zG with k := (q : Int) + 3, f := z }).toList ++ [Value.bool false])).toArray) (by rfl) (by rfl) (by rfl) Hb3.out ?_
           refine hK.out _ _ (fun _ => ?hS18kb) ?rest18kb
           case hS18kb => exact ((H4.out.sw2).cell hzc)
           clear K hK
           try simp only [nz0, nz1, nz2, Act.put, nz3, nz4, nz5]
           refine wpAnyG_one (i := 18) (by kernel_rfl) rfl (fun K hK => ?_)
           obtain ⟨v9, w5, hr5, h5⟩ := append_d22 (ty := 22) (n := 3 * q) (es := [(Value.int .i64 0 :: Value.int .i64 0 :: ((mgC (smG (k : Int))).toList ++ [Value.bool false])).toArray, (Value.int .i64 ((q : Int) + 3) :: Value.int .i64 z :: ((mgC zG).toList ++ [Value.bool true])).toArray, (Value.int .i64 0 :: Value.int .i64 0 :: ((mgC { zG with k := (q : Int) + 3, f := z }).toList ++ [Value.bool false])).toArray]) (H4.out.sw3) HZ.out (fun j u hj => H4.out.cell (by rw [ds3] at hj; simpa using hj)) (by have := HQ.out.2.2; omega) rfl
           have Hr5 := Lib.hid hr5
           have H5 := Lib.hid h5
           clear hr5 h5
           refine step_append_run (by rfl) (.tmp 133) (.tmp 150) 22 22 (by rfl) _ _ (by rfl) (by rfl) Hr5.out ?_
           refine hK.out _ _ (fun _ => ?hS19kb) ?rest19kb
           case hS19kb => exact ((H5.out.sw3).cell hzc)
           clear K hK
           try simp only [nz0, nz1, nz2, Act.put, nz3, nz4, nz5]
           refine wpAnyG_tk (i := 19) (v := ?v19_20kb) rfl (Or.inl ⟨by rfl, ?a_⟩) ((H5.out.sw3).cell hzc) ?b_
           case a_ => intro w hSw; (try dsimp only at hSw); go_simp; (try with_reducible rfl)
           case b_ =>
           try simp only [nz0, nz1, nz2, Act.put, nz3, nz4, nz5]
           refine wpAnyG_done (by kernel_rfl) ?_ _
           try simp only [nz0, nz1, nz2, Act.put, nz3, nz4, nz5]
           have h6 := H5.out.sw2.drop
           rw [show 3 * q + 3 = 3 * (q + 1) from (Nat.mul_succ 3 q).symm] at h6
           obtain ⟨dn, hdn⟩ : ∃ x, x = ds ++ [(Value.int .i64 0 :: Value.int .i64 0 :: ((mgC (smG (k : Int))).toList ++ [Value.bool false])).toArray, (Value.int .i64 ((q : Int) + 3) :: Value.int .i64 z :: ((mgC zG).toList ++ [Value.bool true])).toArray, (Value.int .i64 0 :: Value.int .i64 0 :: ((mgC { zG with k := (q : Int) + 3, f := z }).toList ++ [Value.bool false])).toArray] := ⟨_, rfl⟩
           have HD : Hid (dn.length = 3 * (q + 1) ∧ ∀ d ∈ dn, DoZ d) := Lib.hid ⟨by rw [hdn, List.length_append, HQ.out.1]; rfl, by
            rw [hdn]
            intro d hd
            rcases List.mem_append.1 hd with h | h
            ·exact HQ.out.2.1 d h
            ·exact HZ.out d h⟩
           rw [← hdn] at h6
           have H6 := Lib.hid h6
           clear h6
           clear hdn HZ Hr5 H5 H4 Hb3 h3 HS H2 hS
           (try dsimp only); repeat' (first | go_values | go_skip | go_guarded | go_step | go_upon | go_back)
           go_roundw
           case rel => exact ⟨q + 1, dn, by have := HQ.out.2.2; omega, HD.out.1, congrArg (Value.int .i64) HE.out.1, HD.out.2, H6.out⟩
           case measure => simp only [intOf]; exact HE.out.2
          ·have hdq : decide ((q : Int) + 3 < 8) = false := decide_eq_false (by omega)
           obtain rfl : q = 5 := by omega
           obtain ⟨a, c, rfl, -⟩ := hs.rnForm
           have HC := Lib.hid (bplays_core (len := 3 * 5) (cap := c) (dos_own hs hdl hdz) ⟨HK.out.1.below hs.low, HK.out.2.below hs.low⟩)
           have HM := Lib.hid hs.drop
           clear hs hdl hdz hq hq5
           (try dsimp only); repeat' (first | go_values | go_skip | go_guarded | go_step | go_upon | go_back)
           refine HC.out.mono ?_
           rintro r0 w2 ⟨rfl, hb⟩
           have HF := Lib.hid (HM.out.below hb)
           clear hb HM HC
           (try dsimp only); repeat' (first | go_values | go_skip | go_guarded | go_step | go_upon | go_back)
           go_roundw
           case rel => exact ⟨k + 1, by have := HKK.out; omega, by go_num, HF.out⟩
           case measure => have := HKK.out; simp [intOf]; omega
       ·have hd : decide ((k : Int) < 6) = false := decide_eq_false (by omega)
        have HW := Lib.hid (works22_any H.out HK.out.2)
        clear H hk hk6
        (try dsimp only); repeat' (first | go_values | go_skip | go_guarded | go_step | go_upon | go_back)
        refine HW.out.mono ?_
        rintro r0 w2 ⟨rfl, h2⟩
        have HF := Lib.hid h2.low
        clear HW h2
        (try dsimp only); repeat' (first | go_values | go_skip | go_guarded | go_step | go_upon | go_back)
        go_ret
        exact ⟨rfl, HF.out⟩
end Go.Proofs.YtcnbmeiielkigaaGreatDoor
