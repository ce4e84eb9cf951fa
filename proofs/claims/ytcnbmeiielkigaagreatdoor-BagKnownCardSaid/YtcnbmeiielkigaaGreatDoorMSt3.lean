/- Stage 22, BagPlays: step, aok abad. -/
import Derived.Test.YtcnbmeiielkigaaGreatDoorMZ35
namespace Go.Proofs.YtcnbmeiielkigaaGreatDoor
open Go Go.RowKit
set_option linter.unusedVariables false
set_option linter.unusedSimpArgs false
variable {w0 w : World} {b b' : Nat} {gs hs : List MgM} {L : List Thing}
set_option maxRecDepth 100000 in
set_option maxHeartbeats 16000000 in
theorem step_aok {k n A : Int} {r : Bool} {g : MgM} {dc : Array Value} (h : Sep w0 (PB b gs :: DB b' hs :: L) w) (hK : KindsAt w0 ∧ MKindsAt w0) (hsl : SameL gs hs) (hog : ∀ g ∈ gs, MOk g) (hoh : ∀ g ∈ hs, MOk g) (hn : gs.length < 2000) (hd : DoC dc k n g r) (hA : (if r = true then n else n % ((hs.length : Int) + 1)) = A) (hk8 : k % 8 = 6) {i : Nat} (hAi : A = (i : Int)) (hi : i < gs.length) :
  Calls Tryz.prog 7 #[.pointer (some ⟨b, 0, none⟩), .pointer (some ⟨b', 0, none⟩), .agg dc] w fun e w' => StepP w0 b b' gs.length L e w' := by
 have h1 := h.alloc (.cells dc 42)
 have c0 := h1.cell hd.2.1
 have c1 := h1.cell hd.2.2.1
 have c24 := h1.cell hd.2.2.2.1
 have HBK : Hid (∀ wx, Calls Tryz.prog 23 #[.int .i64 k, .int .i64 8] wx fun e w' => e = .returned (.int .i64 6) ∧ wx = w') := Lib.hid fun wx => by have := bring_any k 8 wx ⟨by decide, by decide⟩; rw [hk8] at this; exact this
 clear hk8
 subst hAi
 have HI := Lib.hid hi
 clear hi
 obtain ⟨m, hm⟩ : ∃ z, z = hs.length := ⟨_, rfl⟩
 have hmn : m < 2000 := by rw [hm, ← hsl.1]; exact hn
 have m0 : (0 : Int) ≤ (m : Int) := by omega
 have m9 : (m : Int) ≤ 2000 := by omega
 have HLEN := dlen_any (h1.drew.sw3)
 rw [← hm] at HLEN hA
 obtain ⟨b5, hb5⟩ : ∃ z, z = w.heap.size := ⟨_, rfl⟩
 obtain ⟨w1, hw1⟩ : ∃ z, z = w.alloc (.cells dc 42) := ⟨_, rfl⟩
 rw [← hw1] at HLEN h1
 rw [← hb5] at h1
 have HLEN := Lib.hid HLEN
 have H1 := Lib.hid h1
 have HX := Lib.hid (And.intro hK (And.intro hsl (And.intro hog (And.intro hoh (And.intro hn hd)))))
 have HM := Lib.hid hm
 clear h h1 hK hsl hog hoh hn hm
 cases r with
 | true =>
  rw [if_pos rfl] at hA
  subst hA
  clear HLEN m0 m9 hmn
  go_enter Tryz.func7, Tryz.ntmps7
  (try dsimp only); repeat' (first | go_values | go_skip | go_guarded | go_step | go_upon | go_back)
  rw [← hw1, ← hb5]
  clear hw1 hb5 c0 c1 c24
  have H := H1
  clear H1
  refine (HBK.out _).mono ?_
  rintro r0 w2 ⟨rfl, rfl⟩
  clear HBK
  have hi := HI.out
  have hih : i < hs.length := by rw [← HX.out.2.1.1]; exact hi
  (try dsimp only); repeat' (first | go_values | go_skip | go_guarded | go_step | go_upon | go_back)
  have hP := pat_ok (H.out.sw2) hi (HX.out.2.2.1 _ (List.getElem_mem hi))
  refine hP.mono ?_
  clear hP
  rintro r3 w3 ⟨g1, rfl, hs1, h3⟩
  obtain ⟨u1, hu1⟩ : ∃ z, z = mgC g1 := ⟨_, rfl⟩
  have u1s : u1.size = 22 := by rw [hu1]; rfl
  have u1o : u1.all (·.oneCell') = true := by rw [hu1]; exact gms_one h3.mtGm
  rw [← hu1]
  have Hu1 := Lib.hid hu1
  clear hu1
  have hk2 := h3.alloc (.cells #[.int .i64 0, .int .i64 0, .int .i64 0, .int .i64 0, .int .i64 0, .int .i64 0, .int .i64 0, .int .i64 0, .int .i64 0, .int .i64 0, .string ⟨#[]⟩, .int .i64 0, .int .i64 0, .slice none 0 0, .int .i64 0, .int .i64 0, .int .i64 0, .bool false, .int .i64 0, .slice none 0 0, .slice none 0 0, .int .i64 0] 40)
  have HT2 := Lib.hid (hk2.thereAt 0 22 (by simp))
  have H4 := hk2.storeW u1 (by rw [u1s]; rfl)
  have HI2 : Hid ((Tryz.prog.info? 40).map (·.size) = some u1.size) := Lib.hid (by rw [u1s]; kernel_rfl)
  have HO2 : Hid (u1.all (·.oneCell') = true) := Lib.hid u1o
  have HTH : Hid ((w3.alloc (.cells #[.int .i64 0, .int .i64 0, .int .i64 0, .int .i64 0, .int .i64 0, .int .i64 0, .int .i64 0, .int .i64 0, .int .i64 0, .int .i64 0, .string ⟨#[]⟩, .int .i64 0, .int .i64 0, .slice none 0 0, .int .i64 0, .int .i64 0, .int .i64 0, .bool false, .int .i64 0, .slice none 0 0, .slice none 0 0, .int .i64 0] 40)).there w3.heap.size 0 u1.size) := Lib.hid (by rw [u1s]; exact HT2.out)
  obtain ⟨ba, hba⟩ : ∃ z, z = w3.heap.size := ⟨_, rfl⟩
  obtain ⟨w4, hw4⟩ : ∃ z, z = (w3.alloc (.cells #[.int .i64 0, .int .i64 0, .int .i64 0, .int .i64 0, .int .i64 0, .int .i64 0, .int .i64 0, .int .i64 0, .int .i64 0, .int .i64 0, .string ⟨#[]⟩, .int .i64 0, .int .i64 0, .slice none 0 0, .int .i64 0, .int .i64 0, .int .i64 0, .bool false, .int .i64 0, .slice none 0 0, .slice none 0 0, .int .i64 0] 40)).setCells w3.heap.size 0 u1.toList := ⟨_, rfl⟩
  rw [← hw4, ← hba] at H4
  have H4 := Lib.hid H4
  clear hk2 HT2 h3
  (try dsimp only); repeat' (first | (with_reducible show wpList _ _ _ (Oper.mk _ (Op.store 40 _ _) _ _ _ _ :: _) _ _; refine stopP ?_) | go_values | go_skip | go_guarded | go_step | go_upon | go_back)
  unfold StopP
  refine wpList_store_mid rfl 40 (.tmp 12) (.tmp 79) rfl w3.heap.size 0 u1 rfl rfl HTH.out HI2.out HO2.out ?_
  rw [← hw4, ← hba]
  clear hw4 hba HTH HI2 HO2
  (try dsimp only); repeat' (first | go_values | go_skip | go_guarded | go_step | go_upon | go_back)
  have hD := dat_ok (gs := hs) (H4.out.sw5) hih (HX.out.2.2.2.1 _ (List.getElem_mem hih))
  refine hD.mono ?_
  clear hD
  rintro r5 w5 ⟨g2, rfl, hs2, h5⟩
  obtain ⟨u2, hu2⟩ : ∃ z, z = mgC g2 := ⟨_, rfl⟩
  have u2s : u2.size = 22 := by rw [hu2]; rfl
  have u2o : u2.all (·.oneCell') = true := by rw [hu2]; exact gms_one h5.mtGm
  rw [← hu2]
  have Hu2 := Lib.hid hu2
  clear hu2
  have hk2 := h5.alloc (.cells #[.int .i64 0, .int .i64 0, .int .i64 0, .int .i64 0, .int .i64 0, .int .i64 0, .int .i64 0, .int .i64 0, .int .i64 0, .int .i64 0, .string ⟨#[]⟩, .int .i64 0, .int .i64 0, .slice none 0 0, .int .i64 0, .int .i64 0, .int .i64 0, .bool false, .int .i64 0, .slice none 0 0, .slice none 0 0, .int .i64 0] 40)
  have HT2 := Lib.hid (hk2.thereAt 0 22 (by simp))
  have H6 := hk2.storeW u2 (by rw [u2s]; rfl)
  have HI2 : Hid ((Tryz.prog.info? 40).map (·.size) = some u2.size) := Lib.hid (by rw [u2s]; kernel_rfl)
  have HO2 : Hid (u2.all (·.oneCell') = true) := Lib.hid u2o
  have HTH : Hid ((w5.alloc (.cells #[.int .i64 0, .int .i64 0, .int .i64 0, .int .i64 0, .int .i64 0, .int .i64 0, .int .i64 0, .int .i64 0, .int .i64 0, .int .i64 0, .string ⟨#[]⟩, .int .i64 0, .int .i64 0, .slice none 0 0, .int .i64 0, .int .i64 0, .int .i64 0, .bool false, .int .i64 0, .slice none 0 0, .slice none 0 0, .int .i64 0] 40)).there w5.heap.size 0 u2.size) := Lib.hid (by rw [u2s]; exact HT2.out)
  obtain ⟨bb, hbb⟩ : ∃ z, z = w5.heap.size := ⟨_, rfl⟩
  obtain ⟨w6, hw6⟩ : ∃ z, z = (w5.alloc (.cells #[.int .i64 0, .int .i64 0, .int .i64 0, .int .i64 0, .int .i64 0, .int .i64 0, .int .i64 0, .int .i64 0, .int .i64 0, .int .i64 0, .string ⟨#[]⟩, .int .i64 0, .int .i64 0, .slice none 0 0, .int .i64 0, .int .i64 0, .int .i64 0, .bool false, .int .i64 0, .slice none 0 0, .slice none 0 0, .int .i64 0] 40)).setCells w5.heap.size 0 u2.toList := ⟨_, rfl⟩
  rw [← hw6, ← hbb] at H6
  have H6 := Lib.hid H6
  clear hk2 HT2 h5
  (try dsimp only); repeat' (first | (with_reducible show wpList _ _ _ (Oper.mk _ (Op.store 40 _ _) _ _ _ _ :: _) _ _; refine stopP ?_) | go_values | go_skip | go_guarded | go_step | go_upon | go_back)
  unfold StopP
  refine wpList_store_mid rfl 40 (.tmp 14) (.tmp 85) rfl w5.heap.size 0 u2 rfl rfl HTH.out HI2.out HO2.out ?_
  rw [← hw6, ← hbb]
  clear hw6 hbb HTH HI2 HO2
  have h7 := H6.out
  have HL1 := Lib.hid ((h7.sw4).loadW 40 Tryz.underlying40 rfl (by rw [u1s]; kernel_rfl))
  have HL2 := Lib.hid (h7.loadW 40 Tryz.underlying40 rfl (by rw [u2s]; kernel_rfl))
  clear h7
  (try dsimp only); repeat' (first | (with_reducible show wpList _ _ _ (Oper.mk _ (Op.load 40 _) _ _ _ _ :: _) _ _; refine stopP ?_) | go_values | go_skip | go_guarded | go_step | go_upon | go_back)
  unfold StopP
  have hq_ := HL1.out
  refine wpList_load_run rfl 40 _ rfl _ _ rfl hq_ ?_
  clear hq_
  (try dsimp only); repeat' (first | (with_reducible show wpList _ _ _ (Oper.mk _ (Op.load 40 _) _ _ _ _ :: _) _ _; refine stopP ?_) | go_values | go_skip | go_guarded | go_step | go_upon | go_back)
  unfold StopP
  have hq_ := HL2.out
  refine wpList_load_run rfl 40 _ rfl _ _ rfl hq_ ?_
  clear hq_
  (try dsimp only); repeat' (first | go_values | go_skip | go_guarded | go_step | go_upon | go_back)
  rw [Hu1.out, Hu2.out]
  have hsf : SameF g1 g2 := (hs1.trans (HX.out.2.1.2 i hi hih)).trans hs2.symm
  have hm2 := ((HX.out.2.2.2.1 _ (List.getElem_mem hih)).of hs2)
  have hm1 := ((HX.out.2.2.1 _ (List.getElem_mem hi)).of hs1)
  have hS := dsame_any g1 g2 H6.out (by exact H6.out.sw5.mtGm) (by exact H6.out.sw2.mtGm) hsf ⟨hm2.2.1, hm2.2.2.1⟩
  refine hS.mono ?_
  clear hS HL1 HL2
  rintro r7 w7 ⟨rfl, h7⟩
  have HL1 := Lib.hid ((h7.sw4).loadW 40 Tryz.underlying40 rfl (by rw [u1s]; kernel_rfl))
  (try dsimp only); repeat' (first | (with_reducible show wpList _ _ _ (Oper.mk _ (Op.load 40 _) _ _ _ _ :: _) _ _; refine stopP ?_) | go_values | go_skip | go_guarded | go_step | go_upon | go_back)
  unfold StopP
  have hq_ := HL1.out
  refine wpList_load_run rfl 40 _ rfl _ _ rfl hq_ ?_
  clear hq_
  (try dsimp only); repeat' (first | go_values | go_skip | go_guarded | go_step | go_upon | go_back)
  rw [Hu1.out]
  have hS := spoil22_any (h7.sw5) ⟨hm1.2.1, hm1.2.2.1, hm1.2.2.2.1⟩
  refine hS.mono ?_
  clear hS
  rintro r8 w8 ⟨rfl, h8⟩
  have H5 : Hid (StepP w0 b b' gs.length L (.returned (.bool true)) w8) := Lib.hid ⟨rfl, gs, hs, by omega, HX.out.2.1, HX.out.2.2.1, HX.out.2.2.2.1, h8.pickL (M := [_, _, _, _, _, _]) [4, 2] rfl⟩
  clear h7 h8 hsf hm2 hm1
  (try dsimp only); repeat' (first | go_values | go_skip | go_guarded | go_step | go_upon | go_back)
  go_ret
  exact H5.out
 | false =>
  rw [if_neg (by simp)] at hA
  have HBR : Hid (∀ wx, Calls Tryz.prog 23 #[.int .i64 n, .int .i64 ((m : Int) + 1)] wx fun e w' => e = .returned (.int .i64 (i : Int)) ∧ wx = w') := Lib.hid fun wx => by have := bring_any n ((m : Int) + 1) wx (by unfold Sm; omega); rw [hA] at this; exact this
  have HWR : Hid (IntKind.i64.wrap ((m : Int) + 1) = (m : Int) + 1) := Lib.hid (IntWalk.i64_in _ (by omega))
  clear hA
  have c1d := H1.out.drew.cell hd.2.2.1
  have c0d := H1.out.drew.cell hd.2.1
  go_enter Tryz.func7, Tryz.ntmps7
  (try dsimp only); repeat' (first | go_values | go_skip | go_guarded | go_step | go_upon | go_back)
  rw [← hw1, ← hb5]
  clear hw1 hb5 c0 c1 c24
  refine wp_region_G (fun w' => w'.cell? ⟨b5, 1, none⟩ = some (.int .i64 n)) [] (by kernel_rfl) c1d (fun hS => ?_)
  try dsimp only at hS
  refine wpAnyG_tk (i := 0) (v := ?v0_1r3) rfl (Or.inl ⟨by rfl, ?a_⟩) hS ?b_
  case a_ => intro w hSw; (try dsimp only at hSw); go_simp; (try with_reducible rfl)
  case b_ =>
  try simp only [nz0, nz1, nz2, Act.put, nz3, nz4, nz5]
  refine wpAnyG_tk (i := 1) (v := ?v1_2r3) rfl (Or.inl ⟨by rfl, ?a_⟩) hS ?b_
  case a_ => intro w hSw; (try dsimp only at hSw); go_simp; (try with_reducible rfl)
  case b_ =>
  try simp only [nz0, nz1, nz2, Act.put, nz3, nz4, nz5]
  refine wpAnyG_tk (i := 2) (v := ?v2_3r3) rfl (Or.inl ⟨by rfl, ?a_⟩) hS ?b_
  case a_ => intro w hSw; (try dsimp only at hSw); go_simp; (try with_reducible rfl)
  case b_ =>
  try simp only [nz0, nz1, nz2, Act.put, nz3, nz4, nz5]
  refine wpAnyG_one (i := 3) (by kernel_rfl) rfl (fun K hK => ?_)
  go_simp
  refine Calls.mono HLEN.out ?_
  rintro r3 w3 ⟨rfl, rfl⟩
  refine hK.out _ _ (fun _ => ?hS4r3) ?rest4r3
  case hS4r3 => exact c1d
  clear K hK
  try simp only [nz0, nz1, nz2, Act.put, nz3, nz4, nz5]
  refine wpAnyG_tk (i := 4) (v := ?v4_5r3) rfl (Or.inl ⟨by rfl, ?a_⟩) c1d ?b_
  case a_ => intro w hSw; (try dsimp only at hSw); go_simp; (try with_reducible rfl)
  case b_ =>
  try simp only [nz0, nz1, nz2, Act.put, nz3, nz4, nz5]
  refine wpAnyG_one (i := 5) (by kernel_rfl) rfl (fun K hK => ?_)
  go_simp
  rw [HWR.out]
  refine Calls.mono (HBR.out _) ?_
  rintro r3 w3 ⟨rfl, rfl⟩
  refine hK.out _ _ (fun _ => ?hS6r3) ?rest6r3
  case hS6r3 => exact c1d
  clear K hK
  try simp only [nz0, nz1, nz2, Act.put, nz3, nz4, nz5]
  refine wpAnyG_tk (i := 6) (v := ?v6_7r3) rfl (Or.inl ⟨by rfl, ?a_⟩) c1d ?b_
  case a_ => intro w hSw; (try dsimp only at hSw); go_simp; (try with_reducible rfl)
  case b_ =>
  try simp only [nz0, nz1, nz2, Act.put, nz3, nz4, nz5]
  refine wpAnyG_done (by kernel_rfl) ?_ _
  try simp only [nz0, nz1, nz2, Act.put, nz3, nz4, nz5]
  clear hS c1d HBR HLEN HWR
  (try dsimp only); repeat' (first | go_values | go_skip | go_guarded | go_step | go_upon | go_back)
  clear c0d
  have H := Lib.hid H1.out.drew
  clear H1
  generalize w1.drew = w1 at *
  refine (HBK.out _).mono ?_
  rintro r0 w2 ⟨rfl, rfl⟩
  clear HBK
  have hi := HI.out
  have hih : i < hs.length := by rw [← HX.out.2.1.1]; exact hi
  (try dsimp only); repeat' (first | go_values | go_skip | go_guarded | go_step | go_upon | go_back)
  have hP := pat_ok (H.out.sw2) hi (HX.out.2.2.1 _ (List.getElem_mem hi))
  refine hP.mono ?_
  clear hP
  rintro r3 w3 ⟨g1, rfl, hs1, h3⟩
  obtain ⟨u1, hu1⟩ : ∃ z, z = mgC g1 := ⟨_, rfl⟩
  have u1s : u1.size = 22 := by rw [hu1]; rfl
  have u1o : u1.all (·.oneCell') = true := by rw [hu1]; exact gms_one h3.mtGm
  rw [← hu1]
  have Hu1 := Lib.hid hu1
  clear hu1
  have hk2 := h3.alloc (.cells #[.int .i64 0, .int .i64 0, .int .i64 0, .int .i64 0, .int .i64 0, .int .i64 0, .int .i64 0, .int .i64 0, .int .i64 0, .int .i64 0, .string ⟨#[]⟩, .int .i64 0, .int .i64 0, .slice none 0 0, .int .i64 0, .int .i64 0, .int .i64 0, .bool false, .int .i64 0, .slice none 0 0, .slice none 0 0, .int .i64 0] 40)
  have HT2 := Lib.hid (hk2.thereAt 0 22 (by simp))
  have H4 := hk2.storeW u1 (by rw [u1s]; rfl)
  have HI2 : Hid ((Tryz.prog.info? 40).map (·.size) = some u1.size) := Lib.hid (by rw [u1s]; kernel_rfl)
  have HO2 : Hid (u1.all (·.oneCell') = true) := Lib.hid u1o
  have HTH : Hid ((w3.alloc (.cells #[.int .i64 0, .int .i64 0, .int .i64 0, .int .i64 0, .int .i64 0, .int .i64 0, .int .i64 0, .int .i64 0, .int .i64 0, .int .i64 0, .string ⟨#[]⟩, .int .i64 0, .int .i64 0, .slice none 0 0, .int .i64 0, .int .i64 0, .int .i64 0, .bool false, .int .i64 0, .slice none 0 0, .slice none 0 0, .int .i64 0] 40)).there w3.heap.size 0 u1.size) := Lib.hid (by rw [u1s]; exact HT2.out)
  obtain ⟨ba, hba⟩ : ∃ z, z = w3.heap.size := ⟨_, rfl⟩
  obtain ⟨w4, hw4⟩ : ∃ z, z = (w3.alloc (.cells #[.int .i64 0, .int .i64 0, .int .i64 0, .int .i64 0, .int .i64 0, .int .i64 0, .int .i64 0, .int .i64 0, .int .i64 0, .int .i64 0, .string ⟨#[]⟩, .int .i64 0, .int .i64 0, .slice none 0 0, .int .i64 0, .int .i64 0, .int .i64 0, .bool false, .int .i64 0, .slice none 0 0, .slice none 0 0, .int .i64 0] 40)).setCells w3.heap.size 0 u1.toList := ⟨_, rfl⟩
  rw [← hw4, ← hba] at H4
  have H4 := Lib.hid H4
  clear hk2 HT2 h3
  (try dsimp only); repeat' (first | (with_reducible show wpList _ _ _ (Oper.mk _ (Op.store 40 _ _) _ _ _ _ :: _) _ _; refine stopP ?_) | go_values | go_skip | go_guarded | go_step | go_upon | go_back)
  unfold StopP
  refine wpList_store_mid rfl 40 (.tmp 12) (.tmp 79) rfl w3.heap.size 0 u1 rfl rfl HTH.out HI2.out HO2.out ?_
  rw [← hw4, ← hba]
  clear hw4 hba HTH HI2 HO2
  (try dsimp only); repeat' (first | go_values | go_skip | go_guarded | go_step | go_upon | go_back)
  have hD := dat_ok (gs := hs) (H4.out.sw5) hih (HX.out.2.2.2.1 _ (List.getElem_mem hih))
  refine hD.mono ?_
  clear hD
  rintro r5 w5 ⟨g2, rfl, hs2, h5⟩
  obtain ⟨u2, hu2⟩ : ∃ z, z = mgC g2 := ⟨_, rfl⟩
  have u2s : u2.size = 22 := by rw [hu2]; rfl
  have u2o : u2.all (·.oneCell') = true := by rw [hu2]; exact gms_one h5.mtGm
  rw [← hu2]
  have Hu2 := Lib.hid hu2
  clear hu2
  have hk2 := h5.alloc (.cells #[.int .i64 0, .int .i64 0, .int .i64 0, .int .i64 0, .int .i64 0, .int .i64 0, .int .i64 0, .int .i64 0, .int .i64 0, .int .i64 0, .string ⟨#[]⟩, .int .i64 0, .int .i64 0, .slice none 0 0, .int .i64 0, .int .i64 0, .int .i64 0, .bool false, .int .i64 0, .slice none 0 0, .slice none 0 0, .int .i64 0] 40)
  have HT2 := Lib.hid (hk2.thereAt 0 22 (by simp))
  have H6 := hk2.storeW u2 (by rw [u2s]; rfl)
  have HI2 : Hid ((Tryz.prog.info? 40).map (·.size) = some u2.size) := Lib.hid (by rw [u2s]; kernel_rfl)
  have HO2 : Hid (u2.all (·.oneCell') = true) := Lib.hid u2o
  have HTH : Hid ((w5.alloc (.cells #[.int .i64 0, .int .i64 0, .int .i64 0, .int .i64 0, .int .i64 0, .int .i64 0, .int .i64 0, .int .i64 0, .int .i64 0, .int .i64 0, .string ⟨#[]⟩, .int .i64 0, .int .i64 0, .slice none 0 0, .int .i64 0, .int .i64 0, .int .i64 0, .bool false, .int .i64 0, .slice none 0 0, .slice none 0 0, .int .i64 0] 40)).there w5.heap.size 0 u2.size) := Lib.hid (by rw [u2s]; exact HT2.out)
  obtain ⟨bb, hbb⟩ : ∃ z, z = w5.heap.size := ⟨_, rfl⟩
  obtain ⟨w6, hw6⟩ : ∃ z, z = (w5.alloc (.cells #[.int .i64 0, .int .i64 0, .int .i64 0, .int .i64 0, .int .i64 0, .int .i64 0, .int .i64 0, .int .i64 0, .int .i64 0, .int .i64 0, .string ⟨#[]⟩, .int .i64 0, .int .i64 0, .slice none 0 0, .int .i64 0, .int .i64 0, .int .i64 0, .bool false, .int .i64 0, .slice none 0 0, .slice none 0 0, .int .i64 0] 40)).setCells w5.heap.size 0 u2.toList := ⟨_, rfl⟩
  rw [← hw6, ← hbb] at H6
  have H6 := Lib.hid H6
  clear hk2 HT2 h5
  (try dsimp only); repeat' (first | (with_reducible show wpList _ _ _ (Oper.mk _ (Op.store 40 _ _) _ _ _ _ :: _) _ _; refine stopP ?_) | go_values | go_skip | go_guarded | go_step | go_upon | go_back)
  unfold StopP
  refine wpList_store_mid rfl 40 (.tmp 14) (.tmp 85) rfl w5.heap.size 0 u2 rfl rfl HTH.out HI2.out HO2.out ?_
  rw [← hw6, ← hbb]
  clear hw6 hbb HTH HI2 HO2
  have h7 := H6.out
  have HL1 := Lib.hid ((h7.sw4).loadW 40 Tryz.underlying40 rfl (by rw [u1s]; kernel_rfl))
  have HL2 := Lib.hid (h7.loadW 40 Tryz.underlying40 rfl (by rw [u2s]; kernel_rfl))
  clear h7
  (try dsimp only); repeat' (first | (with_reducible show wpList _ _ _ (Oper.mk _ (Op.load 40 _) _ _ _ _ :: _) _ _; refine stopP ?_) | go_values | go_skip | go_guarded | go_step | go_upon | go_back)
  unfold StopP
  have hq_ := HL1.out
  refine wpList_load_run rfl 40 _ rfl _ _ rfl hq_ ?_
  clear hq_
  (try dsimp only); repeat' (first | (with_reducible show wpList _ _ _ (Oper.mk _ (Op.load 40 _) _ _ _ _ :: _) _ _; refine stopP ?_) | go_values | go_skip | go_guarded | go_step | go_upon | go_back)
  unfold StopP
  have hq_ := HL2.out
  refine wpList_load_run rfl 40 _ rfl _ _ rfl hq_ ?_
  clear hq_
  (try dsimp only); repeat' (first | go_values | go_skip | go_guarded | go_step | go_upon | go_back)
  rw [Hu1.out, Hu2.out]
  have hsf : SameF g1 g2 := (hs1.trans (HX.out.2.1.2 i hi hih)).trans hs2.symm
  have hm2 := ((HX.out.2.2.2.1 _ (List.getElem_mem hih)).of hs2)
  have hm1 := ((HX.out.2.2.1 _ (List.getElem_mem hi)).of hs1)
  have hS := dsame_any g1 g2 H6.out (by exact H6.out.sw5.mtGm) (by exact H6.out.sw2.mtGm) hsf ⟨hm2.2.1, hm2.2.2.1⟩
  refine hS.mono ?_
  clear hS HL1 HL2
  rintro r7 w7 ⟨rfl, h7⟩
  have HL1 := Lib.hid ((h7.sw4).loadW 40 Tryz.underlying40 rfl (by rw [u1s]; kernel_rfl))
  (try dsimp only); repeat' (first | (with_reducible show wpList _ _ _ (Oper.mk _ (Op.load 40 _) _ _ _ _ :: _) _ _; refine stopP ?_) | go_values | go_skip | go_guarded | go_step | go_upon | go_back)
  unfold StopP
  have hq_ := HL1.out
  refine wpList_load_run rfl 40 _ rfl _ _ rfl hq_ ?_
  clear hq_
  (try dsimp only); repeat' (first | go_values | go_skip | go_guarded | go_step | go_upon | go_back)
  rw [Hu1.out]
  have hS := spoil22_any (h7.sw5) ⟨hm1.2.1, hm1.2.2.1, hm1.2.2.2.1⟩
  refine hS.mono ?_
  clear hS
  rintro r8 w8 ⟨rfl, h8⟩
  have H5 : Hid (StepP w0 b b' gs.length L (.returned (.bool true)) w8) := Lib.hid ⟨rfl, gs, hs, by omega, HX.out.2.1, HX.out.2.2.1, HX.out.2.2.2.1, h8.pickL (M := [_, _, _, _, _, _]) [4, 2] rfl⟩
  clear h7 h8 hsf hm2 hm1
  (try dsimp only); repeat' (first | go_values | go_skip | go_guarded | go_step | go_upon | go_back)
  go_ret
  exact H5.out
set_option maxRecDepth 100000 in
set_option maxHeartbeats 16000000 in
theorem step_abad {k n A : Int} {r : Bool} {g : MgM} {dc : Array Value} (h : Sep w0 (PB b gs :: DB b' hs :: L) w) (hK : KindsAt w0 ∧ MKindsAt w0) (hsl : SameL gs hs) (hog : ∀ g ∈ gs, MOk g) (hoh : ∀ g ∈ hs, MOk g) (hn : gs.length < 2000) (hd : DoC dc k n g r) (hA : (if r = true then n else n % ((hs.length : Int) + 1)) = A) (hk8 : k % 8 = 6) (hAb : A < 0 ∨ (gs.length : Int) ≤ A) :
  Calls Tryz.prog 7 #[.pointer (some ⟨b, 0, none⟩), .pointer (some ⟨b', 0, none⟩), .agg dc] w fun e w' => StepP w0 b b' gs.length L e w' := by
 have h1 := h.alloc (.cells dc 42)
 have c0 := h1.cell hd.2.1
 have c1 := h1.cell hd.2.2.1
 have c24 := h1.cell hd.2.2.2.1
 have HBK : Hid (∀ wx, Calls Tryz.prog 23 #[.int .i64 k, .int .i64 8] wx fun e w' => e = .returned (.int .i64 6) ∧ wx = w') := Lib.hid fun wx => by have := bring_any k 8 wx ⟨by decide, by decide⟩; rw [hk8] at this; exact this
 clear hk8
 have HB := Lib.hid hAb
 clear hAb
 obtain ⟨m, hm⟩ : ∃ z, z = hs.length := ⟨_, rfl⟩
 have hmn : m < 2000 := by rw [hm, ← hsl.1]; exact hn
 have m0 : (0 : Int) ≤ (m : Int) := by omega
 have m9 : (m : Int) ≤ 2000 := by omega
 have HLEN := dlen_any (h1.drew.sw3)
 rw [← hm] at HLEN hA
 obtain ⟨b5, hb5⟩ : ∃ z, z = w.heap.size := ⟨_, rfl⟩
 obtain ⟨w1, hw1⟩ : ∃ z, z = w.alloc (.cells dc 42) := ⟨_, rfl⟩
 rw [← hw1] at HLEN h1
 rw [← hb5] at h1
 have HLEN := Lib.hid HLEN
 have H1 := Lib.hid h1
 have HX := Lib.hid (And.intro hK (And.intro hsl (And.intro hog (And.intro hoh (And.intro hn hd)))))
 have HM := Lib.hid hm
 clear h h1 hK hsl hog hoh hn hm
 cases r with
 | true =>
  rw [if_pos rfl] at hA
  subst hA
  clear HLEN m0 m9 hmn
  go_enter Tryz.func7, Tryz.ntmps7
  (try dsimp only); repeat' (first | go_values | go_skip | go_guarded | go_step | go_upon | go_back)
  rw [← hw1, ← hb5]
  clear hw1 hb5 c0 c1 c24
  have H := H1
  clear H1
  refine (HBK.out _).mono ?_
  rintro r0 w2 ⟨rfl, rfl⟩
  clear HBK
  (try dsimp only); repeat' (first | go_values | go_skip | go_guarded | go_step | go_upon | go_back)
  have hP := pat_bad (H.out.sw2) HB.out
  refine hP.mono ?_
  clear hP
  rintro r3 w3 ⟨rfl, h3⟩
  rw [← zG_c]
  obtain ⟨u1, hu1⟩ : ∃ z, z = mgC zG := ⟨_, rfl⟩
  have u1s : u1.size = 22 := by rw [hu1]; rfl
  have u1o : u1.all (·.oneCell') = true := by rw [hu1]; exact gms_one h3.mtZero.mtGm
  rw [← hu1]
  have Hu1 := Lib.hid hu1
  clear hu1
  have hk2 := h3.alloc (.cells #[.int .i64 0, .int .i64 0, .int .i64 0, .int .i64 0, .int .i64 0, .int .i64 0, .int .i64 0, .int .i64 0, .int .i64 0, .int .i64 0, .string ⟨#[]⟩, .int .i64 0, .int .i64 0, .slice none 0 0, .int .i64 0, .int .i64 0, .int .i64 0, .bool false, .int .i64 0, .slice none 0 0, .slice none 0 0, .int .i64 0] 40)
  have HT2 := Lib.hid (hk2.thereAt 0 22 (by simp))
  have H4 := hk2.storeW u1 (by rw [u1s]; rfl)
  have HI2 : Hid ((Tryz.prog.info? 40).map (·.size) = some u1.size) := Lib.hid (by rw [u1s]; kernel_rfl)
  have HO2 : Hid (u1.all (·.oneCell') = true) := Lib.hid u1o
  have HTH : Hid ((w3.alloc (.cells #[.int .i64 0, .int .i64 0, .int .i64 0, .int .i64 0, .int .i64 0, .int .i64 0, .int .i64 0, .int .i64 0, .int .i64 0, .int .i64 0, .string ⟨#[]⟩, .int .i64 0, .int .i64 0, .slice none 0 0, .int .i64 0, .int .i64 0, .int .i64 0, .bool false, .int .i64 0, .slice none 0 0, .slice none 0 0, .int .i64 0] 40)).there w3.heap.size 0 u1.size) := Lib.hid (by rw [u1s]; exact HT2.out)
  obtain ⟨ba, hba⟩ : ∃ z, z = w3.heap.size := ⟨_, rfl⟩
  obtain ⟨w4, hw4⟩ : ∃ z, z = (w3.alloc (.cells #[.int .i64 0, .int .i64 0, .int .i64 0, .int .i64 0, .int .i64 0, .int .i64 0, .int .i64 0, .int .i64 0, .int .i64 0, .int .i64 0, .string ⟨#[]⟩, .int .i64 0, .int .i64 0, .slice none 0 0, .int .i64 0, .int .i64 0, .int .i64 0, .bool false, .int .i64 0, .slice none 0 0, .slice none 0 0, .int .i64 0] 40)).setCells w3.heap.size 0 u1.toList := ⟨_, rfl⟩
  rw [← hw4, ← hba] at H4
  have H4 := Lib.hid H4
  clear hk2 HT2 h3
  (try dsimp only); repeat' (first | (with_reducible show wpList _ _ _ (Oper.mk _ (Op.store 40 _ _) _ _ _ _ :: _) _ _; refine stopP ?_) | go_values | go_skip | go_guarded | go_step | go_upon | go_back)
  unfold StopP
  refine wpList_store_mid rfl 40 (.tmp 12) (.tmp 79) rfl w3.heap.size 0 u1 rfl rfl HTH.out HI2.out HO2.out ?_
  rw [← hw4, ← hba]
  clear hw4 hba HTH HI2 HO2
  (try dsimp only); repeat' (first | go_values | go_skip | go_guarded | go_step | go_upon | go_back)
  have hD := dat_bad (gs := hs) (H4.out.sw4) (by rw [← HX.out.2.1.1]; exact HB.out)
  refine hD.mono ?_
  clear hD
  rintro r5 w5 ⟨rfl, h5⟩
  rw [← zG_c]
  obtain ⟨u2, hu2⟩ : ∃ z, z = mgC zG := ⟨_, rfl⟩
  have u2s : u2.size = 22 := by rw [hu2]; rfl
  have u2o : u2.all (·.oneCell') = true := by rw [hu2]; exact gms_one h5.mtZero.mtGm
  rw [← hu2]
  have Hu2 := Lib.hid hu2
  clear hu2
  have hk2 := h5.alloc (.cells #[.int .i64 0, .int .i64 0, .int .i64 0, .int .i64 0, .int .i64 0, .int .i64 0, .int .i64 0, .int .i64 0, .int .i64 0, .int .i64 0, .string ⟨#[]⟩, .int .i64 0, .int .i64 0, .slice none 0 0, .int .i64 0, .int .i64 0, .int .i64 0, .bool false, .int .i64 0, .slice none 0 0, .slice none 0 0, .int .i64 0] 40)
  have HT2 := Lib.hid (hk2.thereAt 0 22 (by simp))
  have H6 := hk2.storeW u2 (by rw [u2s]; rfl)
  have HI2 : Hid ((Tryz.prog.info? 40).map (·.size) = some u2.size) := Lib.hid (by rw [u2s]; kernel_rfl)
  have HO2 : Hid (u2.all (·.oneCell') = true) := Lib.hid u2o
  have HTH : Hid ((w5.alloc (.cells #[.int .i64 0, .int .i64 0, .int .i64 0, .int .i64 0, .int .i64 0, .int .i64 0, .int .i64 0, .int .i64 0, .int .i64 0, .int .i64 0, .string ⟨#[]⟩, .int .i64 0, .int .i64 0, .slice none 0 0, .int .i64 0, .int .i64 0, .int .i64 0, .bool false, .int .i64 0, .slice none 0 0, .slice none 0 0, .int .i64 0] 40)).there w5.heap.size 0 u2.size) := Lib.hid (by rw [u2s]; exact HT2.out)
  obtain ⟨bb, hbb⟩ : ∃ z, z = w5.heap.size := ⟨_, rfl⟩
  obtain ⟨w6, hw6⟩ : ∃ z, z = (w5.alloc (.cells #[.int .i64 0, .int .i64 0, .int .i64 0, .int .i64 0, .int .i64 0, .int .i64 0, .int .i64 0, .int .i64 0, .int .i64 0, .int .i64 0, .string ⟨#[]⟩, .int .i64 0, .int .i64 0, .slice none 0 0, .int .i64 0, .int .i64 0, .int .i64 0, .bool false, .int .i64 0, .slice none 0 0, .slice none 0 0, .int .i64 0] 40)).setCells w5.heap.size 0 u2.toList := ⟨_, rfl⟩
  rw [← hw6, ← hbb] at H6
  have H6 := Lib.hid H6
  clear hk2 HT2 h5
  (try dsimp only); repeat' (first | (with_reducible show wpList _ _ _ (Oper.mk _ (Op.store 40 _ _) _ _ _ _ :: _) _ _; refine stopP ?_) | go_values | go_skip | go_guarded | go_step | go_upon | go_back)
  unfold StopP
  refine wpList_store_mid rfl 40 (.tmp 14) (.tmp 85) rfl w5.heap.size 0 u2 rfl rfl HTH.out HI2.out HO2.out ?_
  rw [← hw6, ← hbb]
  clear hw6 hbb HTH HI2 HO2
  have h7 := H6.out
  have HL1 := Lib.hid ((h7.sw3).loadW 40 Tryz.underlying40 rfl (by rw [u1s]; kernel_rfl))
  have HL2 := Lib.hid (h7.loadW 40 Tryz.underlying40 rfl (by rw [u2s]; kernel_rfl))
  clear h7
  (try dsimp only); repeat' (first | (with_reducible show wpList _ _ _ (Oper.mk _ (Op.load 40 _) _ _ _ _ :: _) _ _; refine stopP ?_) | go_values | go_skip | go_guarded | go_step | go_upon | go_back)
  unfold StopP
  have hq_ := HL1.out
  refine wpList_load_run rfl 40 _ rfl _ _ rfl hq_ ?_
  clear hq_
  (try dsimp only); repeat' (first | (with_reducible show wpList _ _ _ (Oper.mk _ (Op.load 40 _) _ _ _ _ :: _) _ _; refine stopP ?_) | go_values | go_skip | go_guarded | go_step | go_upon | go_back)
  unfold StopP
  have hq_ := HL2.out
  refine wpList_load_run rfl 40 _ rfl _ _ rfl hq_ ?_
  clear hq_
  (try dsimp only); repeat' (first | go_values | go_skip | go_guarded | go_step | go_upon | go_back)
  rw [Hu1.out, Hu2.out]
  have hS := dsame_any zG zG H6.out (H6.out.mtZero.mtGm) (H6.out.mtZero.mtGm) (SameF.refl _) ⟨by decide, by decide⟩
  refine hS.mono ?_
  clear hS
  rintro r7 w7 ⟨rfl, h7⟩
  have HL3 := Lib.hid ((h7.sw3).loadW 40 Tryz.underlying40 rfl (by rw [u1s]; kernel_rfl))
  clear HL1 HL2
  (try dsimp only); repeat' (first | (with_reducible show wpList _ _ _ (Oper.mk _ (Op.load 40 _) _ _ _ _ :: _) _ _; refine stopP ?_) | go_values | go_skip | go_guarded | go_step | go_upon | go_back)
  unfold StopP
  have hq_ := HL3.out
  refine wpList_load_run rfl 40 _ rfl _ _ rfl hq_ ?_
  clear hq_
  (try dsimp only); repeat' (first | go_values | go_skip | go_guarded | go_step | go_upon | go_back)
  rw [Hu1.out]
  have hS := spoil22_any (h7.mtZero) ⟨by decide, by decide, by decide⟩
  refine hS.mono ?_
  clear hS h7
  rintro r8 w8 ⟨rfl, h7⟩
  have H5 : Hid (StepP w0 b b' gs.length L (.returned (.bool true)) _) := Lib.hid ⟨rfl, gs, hs, by omega, HX.out.2.1, HX.out.2.2.1, HX.out.2.2.2.1, h7.pickL (M := [_, _, _, _, _]) [3, 1] rfl⟩
  clear h7
  (try dsimp only); repeat' (first | go_values | go_skip | go_guarded | go_step | go_upon | go_back)
  go_ret
  exact H5.out
 | false =>
  rw [if_neg (by simp)] at hA
  have HBR : Hid (∀ wx, Calls Tryz.prog 23 #[.int .i64 n, .int .i64 ((m : Int) + 1)] wx fun e w' => e = .returned (.int .i64 A) ∧ wx = w') := Lib.hid fun wx => by have := bring_any n ((m : Int) + 1) wx (by unfold Sm; omega); rw [hA] at this; exact this
  have HWR : Hid (IntKind.i64.wrap ((m : Int) + 1) = (m : Int) + 1) := Lib.hid (IntWalk.i64_in _ (by omega))
  clear hA
  have c1d := H1.out.drew.cell hd.2.2.1
  have c0d := H1.out.drew.cell hd.2.1
  go_enter Tryz.func7, Tryz.ntmps7
  (try dsimp only); repeat' (first | go_values | go_skip | go_guarded | go_step | go_upon | go_back)
  rw [← hw1, ← hb5]
  clear hw1 hb5 c0 c1 c24
  refine wp_region_G (fun w' => w'.cell? ⟨b5, 1, none⟩ = some (.int .i64 n)) [] (by kernel_rfl) c1d (fun hS => ?_)
  try dsimp only at hS
  refine wpAnyG_tk (i := 0) (v := ?v0_1r3) rfl (Or.inl ⟨by rfl, ?a_⟩) hS ?b_
  case a_ => intro w hSw; (try dsimp only at hSw); go_simp; (try with_reducible rfl)
  case b_ =>
  try simp only [nz0, nz1, nz2, Act.put, nz3, nz4, nz5]
  refine wpAnyG_tk (i := 1) (v := ?v1_2r3) rfl (Or.inl ⟨by rfl, ?a_⟩) hS ?b_
  case a_ => intro w hSw; (try dsimp only at hSw); go_simp; (try with_reducible rfl)
  case b_ =>
  try simp only [nz0, nz1, nz2, Act.put, nz3, nz4, nz5]
  refine wpAnyG_tk (i := 2) (v := ?v2_3r3) rfl (Or.inl ⟨by rfl, ?a_⟩) hS ?b_
  case a_ => intro w hSw; (try dsimp only at hSw); go_simp; (try with_reducible rfl)
  case b_ =>
  try simp only [nz0, nz1, nz2, Act.put, nz3, nz4, nz5]
  refine wpAnyG_one (i := 3) (by kernel_rfl) rfl (fun K hK => ?_)
  go_simp
  refine Calls.mono HLEN.out ?_
  rintro r3 w3 ⟨rfl, rfl⟩
  refine hK.out _ _ (fun _ => ?hS4r3) ?rest4r3
  case hS4r3 => exact c1d
  clear K hK
  try simp only [nz0, nz1, nz2, Act.put, nz3, nz4, nz5]
  refine wpAnyG_tk (i := 4) (v := ?v4_5r3) rfl (Or.inl ⟨by rfl, ?a_⟩) c1d ?b_
  case a_ => intro w hSw; (try dsimp only at hSw); go_simp; (try with_reducible rfl)
  case b_ =>
  try simp only [nz0, nz1, nz2, Act.put, nz3, nz4, nz5]
  refine wpAnyG_one (i := 5) (by kernel_rfl) rfl (fun K hK => ?_)
  go_simp
  rw [HWR.out]
  refine Calls.mono (HBR.out _) ?_
  rintro r3 w3 ⟨rfl, rfl⟩
  refine hK.out _ _ (fun _ => ?hS6r3) ?rest6r3
  case hS6r3 => exact c1d
  clear K hK
  try simp only [nz0, nz1, nz2, Act.put, nz3, nz4, nz5]
  refine wpAnyG_tk (i := 6) (v := ?v6_7r3) rfl (Or.inl ⟨by rfl, ?a_⟩) c1d ?b_
  case a_ => intro w hSw; (try dsimp only at hSw); go_simp; (try with_reducible rfl)
  case b_ =>
  try simp only [nz0, nz1, nz2, Act.put, nz3, nz4, nz5]
  refine wpAnyG_done (by kernel_rfl) ?_ _
  try simp only [nz0, nz1, nz2, Act.put, nz3, nz4, nz5]
  clear hS c1d HBR HLEN HWR
  (try dsimp only); repeat' (first | go_values | go_skip | go_guarded | go_step | go_upon | go_back)
  clear c0d
  have H := Lib.hid H1.out.drew
  clear H1
  generalize w1.drew = w1 at *
  refine (HBK.out _).mono ?_
  rintro r0 w2 ⟨rfl, rfl⟩
  clear HBK
  (try dsimp only); repeat' (first | go_values | go_skip | go_guarded | go_step | go_upon | go_back)
  have hP := pat_bad (H.out.sw2) HB.out
  refine hP.mono ?_
  clear hP
  rintro r3 w3 ⟨rfl, h3⟩
  rw [← zG_c]
  obtain ⟨u1, hu1⟩ : ∃ z, z = mgC zG := ⟨_, rfl⟩
  have u1s : u1.size = 22 := by rw [hu1]; rfl
  have u1o : u1.all (·.oneCell') = true := by rw [hu1]; exact gms_one h3.mtZero.mtGm
  rw [← hu1]
  have Hu1 := Lib.hid hu1
  clear hu1
  have hk2 := h3.alloc (.cells #[.int .i64 0, .int .i64 0, .int .i64 0, .int .i64 0, .int .i64 0, .int .i64 0, .int .i64 0, .int .i64 0, .int .i64 0, .int .i64 0, .string ⟨#[]⟩, .int .i64 0, .int .i64 0, .slice none 0 0, .int .i64 0, .int .i64 0, .int .i64 0, .bool false, .int .i64 0, .slice none 0 0, .slice none 0 0, .int .i64 0] 40)
  have HT2 := Lib.hid (hk2.thereAt 0 22 (by simp))
  have H4 := hk2.storeW u1 (by rw [u1s]; rfl)
  have HI2 : Hid ((Tryz.prog.info? 40).map (·.size) = some u1.size) := Lib.hid (by rw [u1s]; kernel_rfl)
  have HO2 : Hid (u1.all (·.oneCell') = true) := Lib.hid u1o
  have HTH : Hid ((w3.alloc (.cells #[.int .i64 0, .int .i64 0, .int .i64 0, .int .i64 0, .int .i64 0, .int .i64 0, .int .i64 0, .int .i64 0, .int .i64 0, .int .i64 0, .string ⟨#[]⟩, .int .i64 0, .int .i64 0, .slice none 0 0, .int .i64 0, .int .i64 0, .int .i64 0, .bool false, .int .i64 0, .slice none 0 0, .slice none 0 0, .int .i64 0] 40)).there w3.heap.size 0 u1.size) := Lib.hid (by rw [u1s]; exact HT2.out)
  obtain ⟨ba, hba⟩ : ∃ z, z = w3.heap.size := ⟨_, rfl⟩
  obtain ⟨w4, hw4⟩ : ∃ z, z = (w3.alloc (.cells #[.int .i64 0, .int .i64 0, .int .i64 0, .int .i64 0, .int .i64 0, .int .i64 0, .int .i64 0, .int .i64 0, .int .i64 0, .int .i64 0, .string ⟨#[]⟩, .int .i64 0, .int .i64 0, .slice none 0 0, .int .i64 0, .int .i64 0, .int .i64 0, .bool false, .int .i64 0, .slice none 0 0, .slice none 0 0, .int .i64 0] 40)).setCells w3.heap.size 0 u1.toList := ⟨_, rfl⟩
  rw [← hw4, ← hba] at H4
  have H4 := Lib.hid H4
  clear hk2 HT2 h3
  (try dsimp only); repeat' (first | (with_reducible show wpList _ _ _ (Oper.mk _ (Op.store 40 _ _) _ _ _ _ :: _) _ _; refine stopP ?_) | go_values | go_skip | go_guarded | go_step | go_upon | go_back)
  unfold StopP
  refine wpList_store_mid rfl 40 (.tmp 12) (.tmp 79) rfl w3.heap.size 0 u1 rfl rfl HTH.out HI2.out HO2.out ?_
  rw [← hw4, ← hba]
  clear hw4 hba HTH HI2 HO2
  (try dsimp only); repeat' (first | go_values | go_skip | go_guarded | go_step | go_upon | go_back)
  have hD := dat_bad (gs := hs) (H4.out.sw4) (by rw [← HX.out.2.1.1]; exact HB.out)
  refine hD.mono ?_
  clear hD
  rintro r5 w5 ⟨rfl, h5⟩
  rw [← zG_c]
  obtain ⟨u2, hu2⟩ : ∃ z, z = mgC zG := ⟨_, rfl⟩
  have u2s : u2.size = 22 := by rw [hu2]; rfl
  have u2o : u2.all (·.oneCell') = true := by rw [hu2]; exact gms_one h5.mtZero.mtGm
  rw [← hu2]
  have Hu2 := Lib.hid hu2
  clear hu2
  have hk2 := h5.alloc (.cells #[.int .i64 0, .int .i64 0, .int .i64 0, .int .i64 0, .int .i64 0, .int .i64 0, .int .i64 0, .int .i64 0, .int .i64 0, .int .i64 0, .string ⟨#[]⟩, .int .i64 0, .int .i64 0, .slice none 0 0, .int .i64 0, .int .i64 0, .int .i64 0, .bool false, .int .i64 0, .slice none 0 0, .slice none 0 0, .int .i64 0] 40)
  have HT2 := Lib.hid (hk2.thereAt 0 22 (by simp))
  have H6 := hk2.storeW u2 (by rw [u2s]; rfl)
  have HI2 : Hid ((Tryz.prog.info? 40).map (·.size) = some u2.size) := Lib.hid (by rw [u2s]; kernel_rfl)
  have HO2 : Hid (u2.all (·.oneCell') = true) := Lib.hid u2o
  have HTH : Hid ((w5.alloc (.cells #[.int .i64 0, .int .i64 0, .int .i64 0, .int .i64 0, .int .i64 0, .int .i64 0, .int .i64 0, .int .i64 0, .int .i64 0, .int .i64 0, .string ⟨#[]⟩, .int .i64 0, .int .i64 0, .slice none 0 0, .int .i64 0, .int .i64 0, .int .i64 0, .bool false, .int .i64 0, .slice none 0 0, .slice none 0 0, .int .i64 0] 40)).there w5.heap.size 0 u2.size) := Lib.hid (by rw [u2s]; exact HT2.out)
  obtain ⟨bb, hbb⟩ : ∃ z, z = w5.heap.size := ⟨_, rfl⟩
  obtain ⟨w6, hw6⟩ : ∃ z, z = (w5.alloc (.cells #[.int .i64 0, .int .i64 0, .int .i64 0, .int .i64 0, .int .i64 0, .int .i64 0, .int .i64 0, .int .i64 0, .int .i64 0, .int .i64 0, .string ⟨#[]⟩, .int .i64 0, .int .i64 0, .slice none 0 0, .int .i64 0, .int .i64 0, .int .i64 0, .bool false, .int .i64 0, .slice none 0 0, .slice none 0 0, .int .i64 0] 40)).setCells w5.heap.size 0 u2.toList := ⟨_, rfl⟩
  rw [← hw6, ← hbb] at H6
  have H6 := Lib.hid H6
  clear hk2 HT2 h5
  (try dsimp only); repeat' (first | (with_reducible show wpList _ _ _ (Oper.mk _ (Op.store 40 _ _) _ _ _ _ :: _) _ _; refine stopP ?_) | go_values | go_skip | go_guarded | go_step | go_upon | go_back)
  unfold StopP
  refine wpList_store_mid rfl 40 (.tmp 14) (.tmp 85) rfl w5.heap.size 0 u2 rfl rfl HTH.out HI2.out HO2.out ?_
  rw [← hw6, ← hbb]
  clear hw6 hbb HTH HI2 HO2
  have h7 := H6.out
  have HL1 := Lib.hid ((h7.sw3).loadW 40 Tryz.underlying40 rfl (by rw [u1s]; kernel_rfl))
  have HL2 := Lib.hid (h7.loadW 40 Tryz.underlying40 rfl (by rw [u2s]; kernel_rfl))
  clear h7
  (try dsimp only); repeat' (first | (with_reducible show wpList _ _ _ (Oper.mk _ (Op.load 40 _) _ _ _ _ :: _) _ _; refine stopP ?_) | go_values | go_skip | go_guarded | go_step | go_upon | go_back)
  unfold StopP
  have hq_ := HL1.out
  refine wpList_load_run rfl 40 _ rfl _ _ rfl hq_ ?_
  clear hq_
  (try dsimp only); repeat' (first | (with_reducible show wpList _ _ _ (Oper.mk _ (Op.load 40 _) _ _ _ _ :: _) _ _; refine stopP ?_) | go_values | go_skip | go_guarded | go_step | go_upon | go_back)
  unfold StopP
  have hq_ := HL2.out
  refine wpList_load_run rfl 40 _ rfl _ _ rfl hq_ ?_
  clear hq_
  (try dsimp only); repeat' (first | go_values | go_skip | go_guarded | go_step | go_upon | go_back)
  rw [Hu1.out, Hu2.out]
  have hS := dsame_any zG zG H6.out (H6.out.mtZero.mtGm) (H6.out.mtZero.mtGm) (SameF.refl _) ⟨by decide, by decide⟩
  refine hS.mono ?_
  clear hS
  rintro r7 w7 ⟨rfl, h7⟩
  have HL3 := Lib.hid ((h7.sw3).loadW 40 Tryz.underlying40 rfl (by rw [u1s]; kernel_rfl))
  clear HL1 HL2
  (try dsimp only); repeat' (first | (with_reducible show wpList _ _ _ (Oper.mk _ (Op.load 40 _) _ _ _ _ :: _) _ _; refine stopP ?_) | go_values | go_skip | go_guarded | go_step | go_upon | go_back)
  unfold StopP
  have hq_ := HL3.out
  refine wpList_load_run rfl 40 _ rfl _ _ rfl hq_ ?_
  clear hq_
  (try dsimp only); repeat' (first | go_values | go_skip | go_guarded | go_step | go_upon | go_back)
  rw [Hu1.out]
  have hS := spoil22_any (h7.mtZero) ⟨by decide, by decide, by decide⟩
  refine hS.mono ?_
  clear hS h7
  rintro r8 w8 ⟨rfl, h7⟩
  have H5 : Hid (StepP w0 b b' gs.length L (.returned (.bool true)) _) := Lib.hid ⟨rfl, gs, hs, by omega, HX.out.2.1, HX.out.2.2.1, HX.out.2.2.2.1, h7.pickL (M := [_, _, _, _, _]) [3, 1] rfl⟩
  clear h7
  (try dsimp only); repeat' (first | go_values | go_skip | go_guarded | go_step | go_upon | go_back)
  go_ret
  exact H5.out
end Go.Proofs.YtcnbmeiielkigaaGreatDoor
