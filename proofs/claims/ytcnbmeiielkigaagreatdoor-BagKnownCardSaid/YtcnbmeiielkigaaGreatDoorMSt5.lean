/- Stage 22, BagPlays: step, pok. -/
import Derived.Test.YtcnbmeiielkigaaGreatDoorMZ35
namespace Go.Proofs.YtcnbmeiielkigaaGreatDoor
open Go Go.RowKit
set_option linter.unusedVariables false
set_option linter.unusedSimpArgs false
variable {w0 w : World} {b b' : Nat} {gs hs : List MgM} {L : List Thing}
set_option maxRecDepth 100000 in
set_option maxHeartbeats 16000000 in
theorem step_pok {k n A : Int} {r : Bool} {g : MgM} {dc : Array Value} (h : Sep w0 (PB b gs :: DB b' hs :: L) w) (hK : KindsAt w0 ∧ MKindsAt w0) (hsl : SameL gs hs) (hog : ∀ g ∈ gs, MOk g) (hoh : ∀ g ∈ hs, MOk g) (hn : gs.length < 2000) (hd : DoC dc k n g r) (hA : (if r = true then n else n % ((hs.length : Int) + 1)) = A) (hk8 : 0 ≤ k % 8 ∧ k % 8 < 3) (hmi : MIn w0 g) (hck : chkB (cutF g) = true) :
  Calls Tryz.prog 7 #[.pointer (some ⟨b, 0, none⟩), .pointer (some ⟨b', 0, none⟩), .agg dc] w fun e w' => StepP w0 b b' gs.length L e w' := by
 have h1 := h.alloc (.cells dc 42)
 have c0 := h1.cell hd.2.1
 have c1 := h1.cell hd.2.2.1
 have c24 := h1.cell hd.2.2.2.1
 obtain ⟨kk, hkk⟩ : ∃ z, z = k % 8 := ⟨_, rfl⟩
 rw [← hkk] at hk8
 have e3 : (kk == 3) = false := beq_eq_false_iff_ne.2 (by omega)
 have e4 : (kk == 4) = false := beq_eq_false_iff_ne.2 (by omega)
 have e5 : (kk == 5) = false := beq_eq_false_iff_ne.2 (by omega)
 have e6 : (kk == 6) = false := beq_eq_false_iff_ne.2 (by omega)
 have e7 : (kk == 7) = false := beq_eq_false_iff_ne.2 (by omega)
 have HBK : Hid (∀ wx, Calls Tryz.prog 23 #[.int .i64 k, .int .i64 8] wx fun e w' => e = .returned (.int .i64 kk) ∧ wx = w') := Lib.hid fun wx => by rw [hkk]; exact bring_any k 8 wx ⟨by decide, by decide⟩
 clear hkk hk8
 have HG := Lib.hid hmi
 have HCK0 := Lib.hid hck
 clear hmi hck
 obtain ⟨m, hm⟩ : ∃ z, z = hs.length := ⟨_, rfl⟩
 have hmn : m < 2000 := by rw [hm, ← hsl.1]; exact hn
 have m0 : (0 : Int) ≤ (m : Int) := by omega
 have m9 : (m : Int) ≤ 2000 := by omega
 have HLEN := dlen_any (h1.drew.sw3)
 rw [← hm] at HLEN hA
 obtain ⟨b5, hb5⟩ : ∃ z, z = w.heap.size := ⟨_, rfl⟩
 obtain ⟨w1, hw1⟩ : ∃ z, z = w.alloc (.cells dc 42) := ⟨_, rfl⟩
 rw [← hw1] at HLEN h1
 rw [← hb5] at h1
 have HLEN := Lib.hid HLEN
 have H1 := Lib.hid h1
 have HX := Lib.hid (And.intro hK (And.intro hsl (And.intro hog (And.intro hoh (And.intro hn hd)))))
 have HM := Lib.hid hm
 clear h h1 hK hsl hog hoh hn hm
 cases r with
 | true =>
  rw [if_pos rfl] at hA
  subst hA
  clear HLEN m0 m9 hmn
  go_enter Tryz.func7, Tryz.ntmps7
  (try dsimp only); repeat' (first | go_values | go_skip | go_guarded | go_step | go_upon | go_back)
  rw [← hw1, ← hb5]
  clear hw1 hb5 c0 c1 c24
  have H := H1
  clear H1
  refine (HBK.out _).mono ?_
  rintro r0 w2 ⟨rfl, rfl⟩
  clear HBK
  have HL1 := Lib.hid (H.out.loadDo HX.out.2.2.2.2.2)
  (try dsimp only); repeat' (first | (with_reducible show wpList _ _ _ (Oper.mk _ (Op.load 40 _) _ _ _ _ :: _) _ _; refine stopP ?_) | go_values | go_skip | go_guarded | go_step | go_upon | go_back)
  unfold StopP
  have hq_ := HL1.out
  refine wpList_load_run rfl 40 _ rfl _ _ rfl hq_ ?_
  clear hq_
  (try dsimp only); repeat' (first | go_values | go_skip | go_guarded | go_step | go_upon | go_back)
  have hC := cut22F g (HG.out.1.below H.out.low) ⟨HG.out.2.1, HG.out.2.2.1⟩
  refine hC.mono ?_
  clear hC HL1
  rintro r3 w3 ⟨g', hg', rfl, hgw, hs1, hs2, hs3, hgi, h3⟩
  have h4 : Sep w0 (Cl b5 dc 42 :: PB b gs :: DB b' hs :: L) w3 := H.out.ontoL h3
  have hgi0 := hgi w0 HG.out.1
  have hlb : ∀ x ∈ g'.ps, x.1.p.ls.length ≤ 5864062014805 := by
   rw [hg']
   exact fun x hx => HG.out.2.2.2.2 x (List.mem_of_mem_take hx)
  have hic : g'.ic ≤ 9223372036854775807 := by rw [hg']; exact HG.out.2.2.2.1
  have HC := Lib.hid (rgcopy_wB g' (hgi0.below h4.low) (by omega) (by omega) hlb (by omega))
  have HCK : Hid (chkB g' = true) := Lib.hid (by rw [hg']; exact HCK0.out)
  have H4 := Lib.hid h4
  have HS := Lib.hid (And.intro hs1 (And.intro hs2 (And.intro hs3 (And.intro hic (And.intro hg' hgi0)))))
  clear h3 h4 hs1 hs2 hs3 hic hg' hgi0 hgi hgw hlb H HCK0
  (try dsimp only); repeat' (first | go_values | go_skip | go_guarded | go_step | go_upon | go_back)
  refine HC.out.mono ?_
  clear HC
  rintro r4 w4 ⟨lu, cu, eu, qs, rfl, hqs, h5⟩
  obtain ⟨g1, hg1⟩ : ∃ z, z = ({ g' with lv := lu, cv := cu, ev := eu, ps := qs } : MgM) := ⟨_, rfl⟩
  have hsf : SameF g1 g' := by rw [hg1]; exact sameF_with g' lu cu eu qs hqs
  have h6 : Sep w0 (MT g1 :: Cl b5 dc 42 :: PB b gs :: DB b' hs :: L) w4 := by
   rw [hg1]
   exact Sep.mtClose (g := { g' with lv := lu, cv := cu, ev := eu, ps := qs }) (H4.out.ontoL h5)
  rw [← hg1]
  have HQ0 := Lib.hid (And.intro hsf HS.out)
  clear hg1 hqs h5 hsf HS H4
  obtain ⟨u1, hu1⟩ : ∃ z, z = mgC g1 := ⟨_, rfl⟩
  have u1s : u1.size = 22 := by rw [hu1]; rfl
  have u1o : u1.all (·.oneCell') = true := by rw [hu1]; exact gms_one h6.mtGm
  rw [← hu1]
  have Hu1 := Lib.hid hu1
  clear hu1
  have hk2 := h6.alloc (.cells #[.int .i64 0, .int .i64 0, .int .i64 0, .int .i64 0, .int .i64 0, .int .i64 0, .int .i64 0, .int .i64 0, .int .i64 0, .int .i64 0, .string ⟨#[]⟩, .int .i64 0, .int .i64 0, .slice none 0 0, .int .i64 0, .int .i64 0, .int .i64 0, .bool false, .int .i64 0, .slice none 0 0, .slice none 0 0, .int .i64 0] 40)
  have HT2 := Lib.hid (hk2.thereAt 0 22 (by simp))
  have H6 := hk2.storeW u1 (by rw [u1s]; rfl)
  have HI2 : Hid ((Tryz.prog.info? 40).map (·.size) = some u1.size) := Lib.hid (by rw [u1s]; kernel_rfl)
  have HO2 : Hid (u1.all (·.oneCell') = true) := Lib.hid u1o
  have HTH : Hid ((w4.alloc (.cells #[.int .i64 0, .int .i64 0, .int .i64 0, .int .i64 0, .int .i64 0, .int .i64 0, .int .i64 0, .int .i64 0, .int .i64 0, .int .i64 0, .string ⟨#[]⟩, .int .i64 0, .int .i64 0, .slice none 0 0, .int .i64 0, .int .i64 0, .int .i64 0, .bool false, .int .i64 0, .slice none 0 0, .slice none 0 0, .int .i64 0] 40)).there w4.heap.size 0 u1.size) := Lib.hid (by rw [u1s]; exact HT2.out)
  obtain ⟨ba, hba⟩ : ∃ z, z = w4.heap.size := ⟨_, rfl⟩
  obtain ⟨w6, hw6⟩ : ∃ z, z = (w4.alloc (.cells #[.int .i64 0, .int .i64 0, .int .i64 0, .int .i64 0, .int .i64 0, .int .i64 0, .int .i64 0, .int .i64 0, .int .i64 0, .int .i64 0, .string ⟨#[]⟩, .int .i64 0, .int .i64 0, .slice none 0 0, .int .i64 0, .int .i64 0, .int .i64 0, .bool false, .int .i64 0, .slice none 0 0, .slice none 0 0, .int .i64 0] 40)).setCells w4.heap.size 0 u1.toList := ⟨_, rfl⟩
  rw [← hw6, ← hba] at H6
  have H6 := Lib.hid H6
  clear hk2 HT2 h6
  (try dsimp only); repeat' (first | (with_reducible show wpList _ _ _ (Oper.mk _ (Op.store 40 _ _) _ _ _ _ :: _) _ _; refine stopP ?_) | go_values | go_skip | go_guarded | go_step | go_upon | go_back)
  unfold StopP
  refine wpList_store_mid rfl 40 (.tmp 17) (.tmp 114) rfl w4.heap.size 0 u1 rfl rfl HTH.out HI2.out HO2.out ?_
  rw [← hw6, ← hba]
  clear hw6 hba HTH HI2 HO2
  have hsm' : Sml g' := ⟨HQ0.out.2.1, HQ0.out.2.2.1, HQ0.out.2.2.2.1, HQ0.out.2.2.2.2.1⟩
  have hsm1 : Sml g1 := by
   have h1 := HQ0.out.1.ckl
   have h2 := HQ0.out.1.psl
   have h3 := HQ0.out.1.enp
   have h4 := HQ0.out.1.1.2.2.2.2.2.2.2.2.2.2.2.2.2.1
   exact ⟨by rw [h1]; exact hsm'.1, by rw [h2]; exact hsm'.2.1, by rw [h3]; exact hsm'.2.2.1, by rw [h4]; exact hsm'.2.2.2⟩
  have HSM := Lib.hid hsm1
  have HQ : Hid (SameF g1 g' ∧ (g' = cutF g ∧ GmS w0 g' ∧ (∀ hc : chkB g' = true, MOk g')) ∧ (∀ hc : chkB g' = true, MOk g1)) := Lib.hid ⟨HQ0.out.1, ⟨HQ0.out.2.2.2.2.2.1, HQ0.out.2.2.2.2.2.2, fun hc => ⟨hc, hsm'⟩⟩, fun hc => ⟨by rw [chkB_same HQ0.out.1]; exact hc, hsm1⟩⟩
  clear HQ0 hsm' hsm1
  (try dsimp only); repeat' (first | go_values | go_skip | go_guarded | go_step | go_upon | go_back)
  have H6 := Lib.hid H6.out.drew
  refine wp_region_G (fun w' => (Instr.loadAt 40 (.pointer (some ⟨ba, 0, none⟩))).run Tryz.prog w' = .ok (.agg u1) w' ∧ (Instr.loadAt 40 (.pointer (some ⟨b5, 2, none⟩))).run Tryz.prog w' = .ok (.agg (mgC g)) w') [] (by kernel_rfl) ⟨(H6.out.loadW 40 Tryz.underlying40 rfl (by rw [u1s]; kernel_rfl)), (H6.out.sw3.loadDo HX.out.2.2.2.2.2)⟩ (fun hS => ?_)
  try dsimp only at hS
  refine wpAnyG_tk (i := 0) (v := ?v0_1pu) rfl (Or.inl ⟨by rfl, ?a_⟩) hS ?b_
  case a_ => intro w hSw; (try dsimp only at hSw); go_simp; (try with_reducible rfl)
  case b_ =>
  try simp only [nz0, nz1, nz2, Act.put, nz3, nz4, nz5]
  refine wpAnyG_tk (i := 1) (v := .agg u1) rfl (Or.inl ⟨by rfl, ?a_⟩) hS ?b_
  case a_ => intro w hSw; exact yld_load5 rfl rfl hSw.1
  case b_ =>
  try simp only [nz0, nz1, nz2, Act.put, nz3, nz4, nz5]
  refine wpAnyG_tk (i := 3) (v := ?v3_3pu) rfl (Or.inl ⟨by rfl, ?a_⟩) hS ?b_
  case a_ => intro w hSw; (try dsimp only at hSw); go_simp; (try with_reducible rfl)
  case b_ =>
  try simp only [nz0, nz1, nz2, Act.put, nz3, nz4, nz5]
  refine wpAnyG_tk (i := 4) (v := ?v4_4pu) rfl (Or.inl ⟨by rfl, ?a_⟩) hS ?b_
  case a_ => intro w hSw; (try dsimp only at hSw); go_simp; (try with_reducible rfl)
  case b_ =>
  try simp only [nz0, nz1, nz2, Act.put, nz3, nz4, nz5]
  refine wpAnyG_tk (i := 5) (v := .agg (mgC g)) rfl (Or.inl ⟨by rfl, ?a_⟩) hS ?b_
  case a_ => intro w hSw; exact yld_load5 rfl rfl hSw.2
  case b_ =>
  try simp only [nz0, nz1, nz2, Act.put, nz3, nz4, nz5]
  refine wpAnyG_one (i := 2) (by kernel_rfl) rfl (fun K hK => ?_)
  go_simp
  rw [Hu1.out]
  have hP := pput_ok g1 (H6.out.sw4) (fun wx hx => (hx.sw2).mtGm) HX.out.1 (HQ.out.2.2 HCK.out) HX.out.2.2.2.2.1
  refine Calls.mono hP ?_
  clear hP
  rintro r7 w7 ⟨g2, rfl, hs2, h7⟩
  refine hK.out _ _ (fun _ => ?hS6pu) ?rest6pu
  case hS6pu => exact ⟨(h7.sw2.loadW 40 Tryz.underlying40 rfl (by rw [u1s]; kernel_rfl)), (h7.sw4.loadDo HX.out.2.2.2.2.2)⟩
  clear K hK
  try simp only [nz0, nz1, nz2, Act.put, nz3, nz4, nz5]
  refine wpAnyG_one (i := 6) (by kernel_rfl) rfl (fun K hK => ?_)
  go_simp
  have hC := cut22F g (HG.out.1.below h7.low) ⟨HG.out.2.1, HG.out.2.2.1⟩
  refine Calls.mono hC ?_
  clear hC
  rintro r8 w8 ⟨g9, hg9, rfl, -, -, -, -, -, h8⟩
  obtain rfl : g9 = g' := hg9.trans HQ.out.2.1.1.symm
  have h9 := h7.ontoL h8
  rw [List.nil_append] at h9
  clear h7 h8 hg9
  refine hK.out _ _ (fun _ => ?hS7pu) ?rest7pu
  case hS7pu => exact ⟨(h9.sw2.loadW 40 Tryz.underlying40 rfl (by rw [u1s]; kernel_rfl)), (h9.sw4.loadDo HX.out.2.2.2.2.2)⟩
  clear K hK
  try simp only [nz0, nz1, nz2, Act.put, nz3, nz4, nz5]
  refine wpAnyG_one (i := 7) (by kernel_rfl) rfl (fun K hK => ?_)
  go_simp
  have hD := dput_ok g9 (gs := hs) (h9.sw5) (fun wx hx => HQ.out.2.1.2.1.below hx.low) (HQ.out.2.1.2.2 HCK.out) (by rw [← HX.out.2.1.1]; exact HX.out.2.2.2.2.1)
  refine Calls.mono hD ?_
  clear hD
  rintro r10 w10 ⟨g3, rfl, hs3, h10⟩
  refine hK.out _ _ (fun _ => ?hS8pu) ?rest8pu
  case hS8pu => exact ⟨(h10.sw3.loadW 40 Tryz.underlying40 rfl (by rw [u1s]; kernel_rfl)), (h10.sw5.loadDo HX.out.2.2.2.2.2)⟩
  clear K hK
  try simp only [nz0, nz1, nz2, Act.put, nz3, nz4, nz5]
  refine wpAnyG_tk (i := 8) (v := ?v8_9pu) rfl (Or.inl ⟨by rfl, ?a_⟩) ⟨(h10.sw3.loadW 40 Tryz.underlying40 rfl (by rw [u1s]; kernel_rfl)), (h10.sw5.loadDo HX.out.2.2.2.2.2)⟩ ?b_
  case a_ => intro w hSw; (try dsimp only at hSw); go_simp; (try with_reducible rfl)
  case b_ =>
  try simp only [nz0, nz1, nz2, Act.put, nz3, nz4, nz5]
  refine wpAnyG_tk (i := 9) (v := ?v9_10pu) rfl (Or.inl ⟨by rfl, ?a_⟩) ⟨(h10.sw3.loadW 40 Tryz.underlying40 rfl (by rw [u1s]; kernel_rfl)), (h10.sw5.loadDo HX.out.2.2.2.2.2)⟩ ?b_
  case a_ => intro w hSw; (try dsimp only at hSw); go_simp; (try with_reducible rfl)
  case b_ =>
  try simp only [nz0, nz1, nz2, Act.put, nz3, nz4, nz5]
  refine wpAnyG_done (by kernel_rfl) ?_ _
  try simp only [nz0, nz1, nz2, Act.put, nz3, nz4, nz5]
  have HL3 := Lib.hid ((h10.sw3).loadW 40 Tryz.underlying40 rfl (by rw [u1s]; kernel_rfl))
  have H10 := Lib.hid h10
  clear h9 h10 hS
  (try dsimp only); repeat' (first | (with_reducible show wpList _ _ _ (Oper.mk _ (Op.load 40 _) _ _ _ _ :: _) _ _; refine stopP ?_) | go_values | go_skip | go_guarded | go_step | go_upon | go_back)
  unfold StopP
  have hq_ := HL3.out
  refine wpList_load_run rfl 40 _ rfl _ _ rfl hq_ ?_
  clear hq_
  (try dsimp only); repeat' (first | go_values | go_skip | go_guarded | go_step | go_upon | go_back)
  rw [Hu1.out]
  have hS := spoil22_any (H10.out.sw4) ⟨HSM.out.1, HSM.out.2.1, HSM.out.2.2.1⟩
  refine hS.mono ?_
  clear hS HL3
  rintro r11 w11 ⟨rfl, h11⟩
  have H5 : Hid (StepP w0 b b' gs.length L (.returned (.bool true)) w11) := Lib.hid ⟨rfl, gs ++ [g2], hs ++ [g3], by rw [List.length_append]; exact Nat.le_refl _, HX.out.2.1.snoc (hs2.trans (HQ.out.1.trans hs3.symm)), mok_snoc HX.out.2.2.1 ((HQ.out.2.2 HCK.out).of hs2), mok_snoc HX.out.2.2.2.1 ((HQ.out.2.1.2.2 HCK.out).of hs3), h11.pickL (M := [_, _, _, _]) [1, 0] rfl⟩
  clear h11 hs2 hs3
  (try dsimp only); repeat' (first | go_values | go_skip | go_guarded | go_step | go_upon | go_back)
  go_ret
  exact H5.out
 | false =>
  rw [if_neg (by simp)] at hA
  have HBR : Hid (∀ wx, Calls Tryz.prog 23 #[.int .i64 n, .int .i64 ((m : Int) + 1)] wx fun e w' => e = .returned (.int .i64 A) ∧ wx = w') := Lib.hid fun wx => by have := bring_any n ((m : Int) + 1) wx (by unfold Sm; omega); rw [hA] at this; exact this
  have HWR : Hid (IntKind.i64.wrap ((m : Int) + 1) = (m : Int) + 1) := Lib.hid (IntWalk.i64_in _ (by omega))
  clear hA
  have c1d := H1.out.drew.cell hd.2.2.1
  have c0d := H1.out.drew.cell hd.2.1
  go_enter Tryz.func7, Tryz.ntmps7
  (try dsimp only); repeat' (first | go_values | go_skip | go_guarded | go_step | go_upon | go_back)
  rw [← hw1, ← hb5]
  clear hw1 hb5 c0 c1 c24
  refine wp_region_G (fun w' => w'.cell? ⟨b5, 1, none⟩ = some (.int .i64 n)) [] (by kernel_rfl) c1d (fun hS => ?_)
  try dsimp only at hS
  refine wpAnyG_tk (i := 0) (v := ?v0_1r3) rfl (Or.inl ⟨by rfl, ?a_⟩) hS ?b_
  case a_ => intro w hSw; (try dsimp only at hSw); go_simp; (try with_reducible rfl)
  case b_ =>
  try simp only [nz0, nz1, nz2, Act.put, nz3, nz4, nz5]
  refine wpAnyG_tk (i := 1) (v := ?v1_2r3) rfl (Or.inl ⟨by rfl, ?a_⟩) hS ?b_
  case a_ => intro w hSw; (try dsimp only at hSw); go_simp; (try with_reducible rfl)
  case b_ =>
  try simp only [nz0, nz1, nz2, Act.put, nz3, nz4, nz5]
  refine wpAnyG_tk (i := 2) (v := ?v2_3r3) rfl (Or.inl ⟨by rfl, ?a_⟩) hS ?b_
  case a_ => intro w hSw; (try dsimp only at hSw); go_simp; (try with_reducible rfl)
  case b_ =>
  try simp only [nz0, nz1, nz2, Act.put, nz3, nz4, nz5]
  refine wpAnyG_one (i := 3) (by kernel_rfl) rfl (fun K hK => ?_)
  go_simp
  refine Calls.mono HLEN.out ?_
  rintro r3 w3 ⟨rfl, rfl⟩
  refine hK.out _ _ (fun _ => ?hS4r3) ?rest4r3
  case hS4r3 => exact c1d
  clear K hK
  try simp only [nz0, nz1, nz2, Act.put, nz3, nz4, nz5]
  refine wpAnyG_tk (i := 4) (v := ?v4_5r3) rfl (Or.inl ⟨by rfl, ?a_⟩) c1d ?b_
  case a_ => intro w hSw; (try dsimp only at hSw); go_simp; (try with_reducible rfl)
  case b_ =>
  try simp only [nz0, nz1, nz2, Act.put, nz3, nz4, nz5]
  refine wpAnyG_one (i := 5) (by kernel_rfl) rfl (fun K hK => ?_)
  go_simp
  rw [HWR.out]
  refine Calls.mono (HBR.out _) ?_
  rintro r3 w3 ⟨rfl, rfl⟩
  refine hK.out _ _ (fun _ => ?hS6r3) ?rest6r3
  case hS6r3 => exact c1d
  clear K hK
  try simp only [nz0, nz1, nz2, Act.put, nz3, nz4, nz5]
  refine wpAnyG_tk (i := 6) (v := ?v6_7r3) rfl (Or.inl ⟨by rfl, ?a_⟩) c1d ?b_
  case a_ => intro w hSw; (try dsimp only at hSw); go_simp; (try with_reducible rfl)
  case b_ =>
  try simp only [nz0, nz1, nz2, Act.put, nz3, nz4, nz5]
  refine wpAnyG_done (by kernel_rfl) ?_ _
  try simp only [nz0, nz1, nz2, Act.put, nz3, nz4, nz5]
  clear hS c1d HBR HLEN HWR
  (try dsimp only); repeat' (first | go_values | go_skip | go_guarded | go_step | go_upon | go_back)
  clear c0d
  have H := Lib.hid H1.out.drew
  clear H1
  generalize w1.drew = w1 at *
  refine (HBK.out _).mono ?_
  rintro r0 w2 ⟨rfl, rfl⟩
  clear HBK
  have HL1 := Lib.hid (H.out.loadDo HX.out.2.2.2.2.2)
  (try dsimp only); repeat' (first | (with_reducible show wpList _ _ _ (Oper.mk _ (Op.load 40 _) _ _ _ _ :: _) _ _; refine stopP ?_) | go_values | go_skip | go_guarded | go_step | go_upon | go_back)
  unfold StopP
  have hq_ := HL1.out
  refine wpList_load_run rfl 40 _ rfl _ _ rfl hq_ ?_
  clear hq_
  (try dsimp only); repeat' (first | go_values | go_skip | go_guarded | go_step | go_upon | go_back)
  have hC := cut22F g (HG.out.1.below H.out.low) ⟨HG.out.2.1, HG.out.2.2.1⟩
  refine hC.mono ?_
  clear hC HL1
  rintro r3 w3 ⟨g', hg', rfl, hgw, hs1, hs2, hs3, hgi, h3⟩
  have h4 : Sep w0 (Cl b5 dc 42 :: PB b gs :: DB b' hs :: L) w3 := H.out.ontoL h3
  have hgi0 := hgi w0 HG.out.1
  have hlb : ∀ x ∈ g'.ps, x.1.p.ls.length ≤ 5864062014805 := by
   rw [hg']
   exact fun x hx => HG.out.2.2.2.2 x (List.mem_of_mem_take hx)
  have hic : g'.ic ≤ 9223372036854775807 := by rw [hg']; exact HG.out.2.2.2.1
  have HC := Lib.hid (rgcopy_wB g' (hgi0.below h4.low) (by omega) (by omega) hlb (by omega))
  have HCK : Hid (chkB g' = true) := Lib.hid (by rw [hg']; exact HCK0.out)
  have H4 := Lib.hid h4
  have HS := Lib.hid (And.intro hs1 (And.intro hs2 (And.intro hs3 (And.intro hic (And.intro hg' hgi0)))))
  clear h3 h4 hs1 hs2 hs3 hic hg' hgi0 hgi hgw hlb H HCK0
  (try dsimp only); repeat' (first | go_values | go_skip | go_guarded | go_step | go_upon | go_back)
  refine HC.out.mono ?_
  clear HC
  rintro r4 w4 ⟨lu, cu, eu, qs, rfl, hqs, h5⟩
  obtain ⟨g1, hg1⟩ : ∃ z, z = ({ g' with lv := lu, cv := cu, ev := eu, ps := qs } : MgM) := ⟨_, rfl⟩
  have hsf : SameF g1 g' := by rw [hg1]; exact sameF_with g' lu cu eu qs hqs
  have h6 : Sep w0 (MT g1 :: Cl b5 dc 42 :: PB b gs :: DB b' hs :: L) w4 := by
   rw [hg1]
   exact Sep.mtClose (g := { g' with lv := lu, cv := cu, ev := eu, ps := qs }) (H4.out.ontoL h5)
  rw [← hg1]
  have HQ0 := Lib.hid (And.intro hsf HS.out)
  clear hg1 hqs h5 hsf HS H4
  obtain ⟨u1, hu1⟩ : ∃ z, z = mgC g1 := ⟨_, rfl⟩
  have u1s : u1.size = 22 := by rw [hu1]; rfl
  have u1o : u1.all (·.oneCell') = true := by rw [hu1]; exact gms_one h6.mtGm
  rw [← hu1]
  have Hu1 := Lib.hid hu1
  clear hu1
  have hk2 := h6.alloc (.cells #[.int .i64 0, .int .i64 0, .int .i64 0, .int .i64 0, .int .i64 0, .int .i64 0, .int .i64 0, .int .i64 0, .int .i64 0, .int .i64 0, .string ⟨#[]⟩, .int .i64 0, .int .i64 0, .slice none 0 0, .int .i64 0, .int .i64 0, .int .i64 0, .bool false, .int .i64 0, .slice none 0 0, .slice none 0 0, .int .i64 0] 40)
  have HT2 := Lib.hid (hk2.thereAt 0 22 (by simp))
  have H6 := hk2.storeW u1 (by rw [u1s]; rfl)
  have HI2 : Hid ((Tryz.prog.info? 40).map (·.size) = some u1.size) := Lib.hid (by rw [u1s]; kernel_rfl)
  have HO2 : Hid (u1.all (·.oneCell') = true) := Lib.hid u1o
  have HTH : Hid ((w4.alloc (.cells #[.int .i64 0, .int .i64 0, .int .i64 0, .int .i64 0, .int .i64 0, .int .i64 0, .int .i64 0, .int .i64 0, .int .i64 0, .int .i64 0, .string ⟨#[]⟩, .int .i64 0, .int .i64 0, .slice none 0 0, .int .i64 0, .int .i64 0, .int .i64 0, .bool false, .int .i64 0, .slice none 0 0, .slice none 0 0, .int .i64 0] 40)).there w4.heap.size 0 u1.size) := Lib.hid (by rw [u1s]; exact HT2.out)
  obtain ⟨ba, hba⟩ : ∃ z, z = w4.heap.size := ⟨_, rfl⟩
  obtain ⟨w6, hw6⟩ : ∃ z, z = (w4.alloc (.cells #[.int .i64 0, .int .i64 0, .int .i64 0, .int .i64 0, .int .i64 0, .int .i64 0, .int .i64 0, .int .i64 0, .int .i64 0, .int .i64 0, .string ⟨#[]⟩, .int .i64 0, .int .i64 0, .slice none 0 0, .int .i64 0, .int .i64 0, .int .i64 0, .bool false, .int .i64 0, .slice none 0 0, .slice none 0 0, .int .i64 0] 40)).setCells w4.heap.size 0 u1.toList := ⟨_, rfl⟩
  rw [← hw6, ← hba] at H6
  have H6 := Lib.hid H6
  clear hk2 HT2 h6
  (try dsimp only); repeat' (first | (with_reducible show wpList _ _ _ (Oper.mk _ (Op.store 40 _ _) _ _ _ _ :: _) _ _; refine stopP ?_) | go_values | go_skip | go_guarded | go_step | go_upon | go_back)
  unfold StopP
  refine wpList_store_mid rfl 40 (.tmp 17) (.tmp 114) rfl w4.heap.size 0 u1 rfl rfl HTH.out HI2.out HO2.out ?_
  rw [← hw6, ← hba]
  clear hw6 hba HTH HI2 HO2
  have hsm' : Sml g' := ⟨HQ0.out.2.1, HQ0.out.2.2.1, HQ0.out.2.2.2.1, HQ0.out.2.2.2.2.1⟩
  have hsm1 : Sml g1 := by
   have h1 := HQ0.out.1.ckl
   have h2 := HQ0.out.1.psl
   have h3 := HQ0.out.1.enp
   have h4 := HQ0.out.1.1.2.2.2.2.2.2.2.2.2.2.2.2.2.1
   exact ⟨by rw [h1]; exact hsm'.1, by rw [h2]; exact hsm'.2.1, by rw [h3]; exact hsm'.2.2.1, by rw [h4]; exact hsm'.2.2.2⟩
  have HSM := Lib.hid hsm1
  have HQ : Hid (SameF g1 g' ∧ (g' = cutF g ∧ GmS w0 g' ∧ (∀ hc : chkB g' = true, MOk g')) ∧ (∀ hc : chkB g' = true, MOk g1)) := Lib.hid ⟨HQ0.out.1, ⟨HQ0.out.2.2.2.2.2.1, HQ0.out.2.2.2.2.2.2, fun hc => ⟨hc, hsm'⟩⟩, fun hc => ⟨by rw [chkB_same HQ0.out.1]; exact hc, hsm1⟩⟩
  clear HQ0 hsm' hsm1
  (try dsimp only); repeat' (first | go_values | go_skip | go_guarded | go_step | go_upon | go_back)
  have H6 := Lib.hid H6.out.drew
  refine wp_region_G (fun w' => (Instr.loadAt 40 (.pointer (some ⟨ba, 0, none⟩))).run Tryz.prog w' = .ok (.agg u1) w' ∧ (Instr.loadAt 40 (.pointer (some ⟨b5, 2, none⟩))).run Tryz.prog w' = .ok (.agg (mgC g)) w') [] (by kernel_rfl) ⟨(H6.out.loadW 40 Tryz.underlying40 rfl (by rw [u1s]; kernel_rfl)), (H6.out.sw3.loadDo HX.out.2.2.2.2.2)⟩ (fun hS => ?_)
  try dsimp only at hS
  refine wpAnyG_tk (i := 0) (v := ?v0_1puF) rfl (Or.inl ⟨by rfl, ?a_⟩) hS ?b_
  case a_ => intro w hSw; (try dsimp only at hSw); go_simp; (try with_reducible rfl)
  case b_ =>
  try simp only [nz0, nz1, nz2, Act.put, nz3, nz4, nz5]
  refine wpAnyG_tk (i := 1) (v := .agg u1) rfl (Or.inl ⟨by rfl, ?a_⟩) hS ?b_
  case a_ => intro w hSw; exact yld_load5 rfl rfl hSw.1
  case b_ =>
  try simp only [nz0, nz1, nz2, Act.put, nz3, nz4, nz5]
  refine wpAnyG_tk (i := 3) (v := ?v3_3puF) rfl (Or.inl ⟨by rfl, ?a_⟩) hS ?b_
  case a_ => intro w hSw; (try dsimp only at hSw); go_simp; (try with_reducible rfl)
  case b_ =>
  try simp only [nz0, nz1, nz2, Act.put, nz3, nz4, nz5]
  refine wpAnyG_tk (i := 4) (v := ?v4_4puF) rfl (Or.inl ⟨by rfl, ?a_⟩) hS ?b_
  case a_ => intro w hSw; (try dsimp only at hSw); go_simp; (try with_reducible rfl)
  case b_ =>
  try simp only [nz0, nz1, nz2, Act.put, nz3, nz4, nz5]
  refine wpAnyG_tk (i := 5) (v := .agg (mgC g)) rfl (Or.inl ⟨by rfl, ?a_⟩) hS ?b_
  case a_ => intro w hSw; exact yld_load5 rfl rfl hSw.2
  case b_ =>
  try simp only [nz0, nz1, nz2, Act.put, nz3, nz4, nz5]
  refine wpAnyG_one (i := 2) (by kernel_rfl) rfl (fun K hK => ?_)
  go_simp
  rw [Hu1.out]
  have hP := pput_ok g1 (H6.out.sw4) (fun wx hx => (hx.sw2).mtGm) HX.out.1 (HQ.out.2.2 HCK.out) HX.out.2.2.2.2.1
  refine Calls.mono hP ?_
  clear hP
  rintro r7 w7 ⟨g2, rfl, hs2, h7⟩
  refine hK.out _ _ (fun _ => ?hS6puF) ?rest6puF
  case hS6puF => exact ⟨(h7.sw2.loadW 40 Tryz.underlying40 rfl (by rw [u1s]; kernel_rfl)), (h7.sw4.loadDo HX.out.2.2.2.2.2)⟩
  clear K hK
  try simp only [nz0, nz1, nz2, Act.put, nz3, nz4, nz5]
  refine wpAnyG_one (i := 6) (by kernel_rfl) rfl (fun K hK => ?_)
  go_simp
  have hC := cut22F g (HG.out.1.below h7.low) ⟨HG.out.2.1, HG.out.2.2.1⟩
  refine Calls.mono hC ?_
  clear hC
  rintro r8 w8 ⟨g9, hg9, rfl, -, -, -, -, -, h8⟩
  obtain rfl : g9 = g' := hg9.trans HQ.out.2.1.1.symm
  have h9 := h7.ontoL h8
  rw [List.nil_append] at h9
  clear h7 h8 hg9
  refine hK.out _ _ (fun _ => ?hS7puF) ?rest7puF
  case hS7puF => exact ⟨(h9.sw2.loadW 40 Tryz.underlying40 rfl (by rw [u1s]; kernel_rfl)), (h9.sw4.loadDo HX.out.2.2.2.2.2)⟩
  clear K hK
  try simp only [nz0, nz1, nz2, Act.put, nz3, nz4, nz5]
  refine wpAnyG_one (i := 7) (by kernel_rfl) rfl (fun K hK => ?_)
  go_simp
  have hD := dput_ok g9 (gs := hs) (h9.sw5) (fun wx hx => HQ.out.2.1.2.1.below hx.low) (HQ.out.2.1.2.2 HCK.out) (by rw [← HX.out.2.1.1]; exact HX.out.2.2.2.2.1)
  refine Calls.mono hD ?_
  clear hD
  rintro r10 w10 ⟨g3, rfl, hs3, h10⟩
  refine hK.out _ _ (fun _ => ?hS8puF) ?rest8puF
  case hS8puF => exact ⟨(h10.sw3.loadW 40 Tryz.underlying40 rfl (by rw [u1s]; kernel_rfl)), (h10.sw5.loadDo HX.out.2.2.2.2.2)⟩
  clear K hK
  try simp only [nz0, nz1, nz2, Act.put, nz3, nz4, nz5]
  refine wpAnyG_tk (i := 8) (v := ?v8_9puF) rfl (Or.inl ⟨by rfl, ?a_⟩) ⟨(h10.sw3.loadW 40 Tryz.underlying40 rfl (by rw [u1s]; kernel_rfl)), (h10.sw5.loadDo HX.out.2.2.2.2.2)⟩ ?b_
  case a_ => intro w hSw; (try dsimp only at hSw); go_simp; (try with_reducible rfl)
  case b_ =>
  try simp only [nz0, nz1, nz2, Act.put, nz3, nz4, nz5]
  refine wpAnyG_tk (i := 9) (v := ?v9_10puF) rfl (Or.inl ⟨by rfl, ?a_⟩) ⟨(h10.sw3.loadW 40 Tryz.underlying40 rfl (by rw [u1s]; kernel_rfl)), (h10.sw5.loadDo HX.out.2.2.2.2.2)⟩ ?b_
  case a_ => intro w hSw; (try dsimp only at hSw); go_simp; (try with_reducible rfl)
  case b_ =>
  try simp only [nz0, nz1, nz2, Act.put, nz3, nz4, nz5]
  refine wpAnyG_done (by kernel_rfl) ?_ _
  try simp only [nz0, nz1, nz2, Act.put, nz3, nz4, nz5]
  have HL3 := Lib.hid ((h10.sw3).loadW 40 Tryz.underlying40 rfl (by rw [u1s]; kernel_rfl))
  have H10 := Lib.hid h10
  clear h9 h10 hS
  (try dsimp only); repeat' (first | (with_reducible show wpList _ _ _ (Oper.mk _ (Op.load 40 _) _ _ _ _ :: _) _ _; refine stopP ?_) | go_values | go_skip | go_guarded | go_step | go_upon | go_back)
  unfold StopP
  have hq_ := HL3.out
  refine wpList_load_run rfl 40 _ rfl _ _ rfl hq_ ?_
  clear hq_
  (try dsimp only); repeat' (first | go_values | go_skip | go_guarded | go_step | go_upon | go_back)
  rw [Hu1.out]
  have hS := spoil22_any (H10.out.sw4) ⟨HSM.out.1, HSM.out.2.1, HSM.out.2.2.1⟩
  refine hS.mono ?_
  clear hS HL3
  rintro r11 w11 ⟨rfl, h11⟩
  have H5 : Hid (StepP w0 b b' gs.length L (.returned (.bool true)) w11) := Lib.hid ⟨rfl, gs ++ [g2], hs ++ [g3], by rw [List.length_append]; exact Nat.le_refl _, HX.out.2.1.snoc (hs2.trans (HQ.out.1.trans hs3.symm)), mok_snoc HX.out.2.2.1 ((HQ.out.2.2 HCK.out).of hs2), mok_snoc HX.out.2.2.2.1 ((HQ.out.2.1.2.2 HCK.out).of hs3), h11.pickL (M := [_, _, _, _]) [1, 0] rfl⟩
  clear h11 hs2 hs3
  (try dsimp only); repeat' (first | go_values | go_skip | go_guarded | go_step | go_upon | go_back)
  go_ret
  exact H5.out
end Go.Proofs.YtcnbmeiielkigaaGreatDoor
