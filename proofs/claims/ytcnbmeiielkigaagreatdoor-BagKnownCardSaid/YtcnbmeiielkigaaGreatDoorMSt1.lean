/- Stage 22, BagPlays: step, cok cbad dok dbad. -/
import Derived.Test.YtcnbmeiielkigaaGreatDoorMZ35
namespace Go.Proofs.YtcnbmeiielkigaaGreatDoor
open Go Go.RowKit
set_option linter.unusedVariables false
set_option linter.unusedSimpArgs false
variable {w0 w : World} {b b' : Nat} {gs hs : List MgM} {L : List Thing}
set_option maxRecDepth 100000 in
set_option maxHeartbeats 16000000 in
theorem step_cok {k n A : Int} {r : Bool} {g : MgM} {dc : Array Value} (h : Sep w0 (PB b gs :: DB b' hs :: L) w) (hK : KindsAt w0 ∧ MKindsAt w0) (hsl : SameL gs hs) (hog : ∀ g ∈ gs, MOk g) (hoh : ∀ g ∈ hs, MOk g) (hn : gs.length < 2000) (hd : DoC dc k n g r) (hA : (if r = true then n else n % ((hs.length : Int) + 1)) = A) (hk8 : k % 8 = 3) {i : Nat} (hAi : A = (i : Int)) (hi : i < gs.length) :
  Calls Tryz.prog 7 #[.pointer (some ⟨b, 0, none⟩), .pointer (some ⟨b', 0, none⟩), .agg dc] w fun e w' => StepP w0 b b' gs.length L e w' := by
 have h1 := h.alloc (.cells dc 42)
 have c0 := h1.cell hd.2.1
 have c1 := h1.cell hd.2.2.1
 have c24 := h1.cell hd.2.2.2.1
 have HBK : Hid (∀ wx, Calls Tryz.prog 23 #[.int .i64 k, .int .i64 8] wx fun e w' => e = .returned (.int .i64 3) ∧ wx = w') := Lib.hid fun wx => by have := bring_any k 8 wx ⟨by decide, by decide⟩; rw [hk8] at this; exact this
 clear hk8
 subst hAi
 have HI := Lib.hid hi
 clear hi
 obtain ⟨m, hm⟩ : ∃ z, z = hs.length := ⟨_, rfl⟩
 have hmn : m < 2000 := by rw [hm, ← hsl.1]; exact hn
 have m0 : (0 : Int) ≤ (m : Int) := by omega
 have m9 : (m : Int) ≤ 2000 := by omega
 have HLEN := dlen_any (h1.drew.sw3)
 rw [← hm] at HLEN hA
 obtain ⟨b5, hb5⟩ : ∃ z, z = w.heap.size := ⟨_, rfl⟩
 obtain ⟨w1, hw1⟩ : ∃ z, z = w.alloc (.cells dc 42) := ⟨_, rfl⟩
 rw [← hw1] at HLEN h1
 rw [← hb5] at h1
 have HLEN := Lib.hid HLEN
 have H1 := Lib.hid h1
 have HX := Lib.hid (And.intro hK (And.intro hsl (And.intro hog (And.intro hoh (And.intro hn hd)))))
 have HM := Lib.hid hm
 clear h h1 hK hsl hog hoh hn hm
 cases r with
 | true =>
  rw [if_pos rfl] at hA
  subst hA
  clear HLEN m0 m9 hmn
  go_enter Tryz.func7, Tryz.ntmps7
  (try dsimp only); repeat' (first | go_values | go_skip | go_guarded | go_step | go_upon | go_back)
  rw [← hw1, ← hb5]
  clear hw1 hb5 c0 c1 c24
  have H := H1
  clear H1
  refine (HBK.out _).mono ?_
  rintro r0 w2 ⟨rfl, rfl⟩
  clear HBK
  have hi := HI.out
  have hih : i < hs.length := by rw [← HX.out.2.1.1]; exact hi
  (try dsimp only); repeat' (first | go_values | go_skip | go_guarded | go_step | go_upon | go_back)
  have hP := pcopy_ok (H.out.sw2) hi (HX.out.2.2.1 _ (List.getElem_mem hi)) HX.out.1 HX.out.2.2.2.2.1
  refine hP.mono ?_
  clear hP
  rintro r3 w3 ⟨g2, rfl, hs2, h3⟩
  (try dsimp only); repeat' (first | go_values | go_skip | go_guarded | go_step | go_upon | go_back)
  have hok := HX.out.2.2.2.1 _ (List.getElem_mem hih)
  have hD := dcopy_ok (gs := hs) (h3.sw3) hih hok (fun g2 hg => by rw [chkB_same hg]; exact hok.1) (by rw [← HX.out.2.1.1]; exact HX.out.2.2.2.2.1)
  refine hD.mono ?_
  clear hD
  rintro r4 w4 ⟨g3, rfl, hs3, h4⟩
  have h5 := h4.pickL (M := [_, _, _]) [1, 0] rfl
  have hsf := (hs2.trans (HX.out.2.1.2 i hi hih)).trans hs3.symm
  have H5 : Hid (StepP w0 b b' gs.length L (.returned (.bool true)) w4) := Lib.hid ⟨rfl, gs ++ [g2], hs ++ [g3], by rw [List.length_append]; exact Nat.le_refl _, HX.out.2.1.snoc hsf, mok_snoc HX.out.2.2.1 ((HX.out.2.2.1 _ (List.getElem_mem hi)).of hs2), mok_snoc HX.out.2.2.2.1 (hok.of hs3), h5⟩
  clear h3 h4 h5 hs2 hs3 hsf hok
  (try dsimp only); repeat' (first | go_values | go_skip | go_guarded | go_step | go_upon | go_back)
  go_ret
  exact H5.out
 | false =>
  rw [if_neg (by simp)] at hA
  have HBR : Hid (∀ wx, Calls Tryz.prog 23 #[.int .i64 n, .int .i64 ((m : Int) + 1)] wx fun e w' => e = .returned (.int .i64 (i : Int)) ∧ wx = w') := Lib.hid fun wx => by have := bring_any n ((m : Int) + 1) wx (by unfold Sm; omega); rw [hA] at this; exact this
  have HWR : Hid (IntKind.i64.wrap ((m : Int) + 1) = (m : Int) + 1) := Lib.hid (IntWalk.i64_in _ (by omega))
  clear hA
  have c1d := H1.out.drew.cell hd.2.2.1
  have c0d := H1.out.drew.cell hd.2.1
  go_enter Tryz.func7, Tryz.ntmps7
  (try dsimp only); repeat' (first | go_values | go_skip | go_guarded | go_step | go_upon | go_back)
  rw [← hw1, ← hb5]
  clear hw1 hb5 c0 c1 c24
  refine wp_region_G (fun w' => w'.cell? ⟨b5, 1, none⟩ = some (.int .i64 n)) [] (by kernel_rfl) c1d (fun hS => ?_)
  try dsimp only at hS
  refine wpAnyG_tk (i := 0) (v := ?v0_1r3) rfl (Or.inl ⟨by rfl, ?a_⟩) hS ?b_
  case a_ => intro w hSw; (try dsimp only at hSw); go_simp; (try with_reducible rfl)
  case b_ =>
  try simp only [nz0, nz1, nz2, Act.put, nz3, nz4, nz5]
  refine wpAnyG_tk (i := 1) (v := ?v1_2r3) rfl (Or.inl ⟨by rfl, ?a_⟩) hS ?b_
  case a_ => intro w hSw; (try dsimp only at hSw); go_simp; (try with_reducible rfl)
  case b_ =>
  try simp only [nz0, nz1, nz2, Act.put, nz3, nz4, nz5]
  refine wpAnyG_tk (i := 2) (v := ?v2_3r3) rfl (Or.inl ⟨by rfl, ?a_⟩) hS ?b_
  case a_ => intro w hSw; (try dsimp only at hSw); go_simp; (try with_reducible rfl)
  case b_ =>
  try simp only [nz0, nz1, nz2, Act.put, nz3, nz4, nz5]
  refine wpAnyG_one (i := 3) (by kernel_rfl) rfl (fun K hK => ?_)
  go_simp
  refine Calls.mono HLEN.out ?_
  rintro r3 w3 ⟨rfl, rfl⟩
  refine hK.out _ _ (fun _ => ?hS4r3) ?rest4r3
  case hS4r3 => exact c1d
  clear K hK
  try simp only [nz0, nz1, nz2, Act.put, nz3, nz4, nz5]
  refine wpAnyG_tk (i := 4) (v := ?v4_5r3) rfl (Or.inl ⟨by rfl, ?a_⟩) c1d ?b_
  case a_ => intro w hSw; (try dsimp only at hSw); go_simp; (try with_reducible rfl)
  case b_ =>
  try simp only [nz0, nz1, nz2, Act.put, nz3, nz4, nz5]
  refine wpAnyG_one (i := 5) (by kernel_rfl) rfl (fun K hK => ?_)
  go_simp
  rw [HWR.out]
  refine Calls.mono (HBR.out _) ?_
  rintro r3 w3 ⟨rfl, rfl⟩
  refine hK.out _ _ (fun _ => ?hS6r3) ?rest6r3
  case hS6r3 => exact c1d
  clear K hK
  try simp only [nz0, nz1, nz2, Act.put, nz3, nz4, nz5]
  refine wpAnyG_tk (i := 6) (v := ?v6_7r3) rfl (Or.inl ⟨by rfl, ?a_⟩) c1d ?b_
  case a_ => intro w hSw; (try dsimp only at hSw); go_simp; (try with_reducible rfl)
  case b_ =>
  try simp only [nz0, nz1, nz2, Act.put, nz3, nz4, nz5]
  refine wpAnyG_done (by kernel_rfl) ?_ _
  try simp only [nz0, nz1, nz2, Act.put, nz3, nz4, nz5]
  clear hS c1d HBR HLEN HWR
  (try dsimp only); repeat' (first | go_values | go_skip | go_guarded | go_step | go_upon | go_back)
  clear c0d
  have H := Lib.hid H1.out.drew
  clear H1
  generalize w1.drew = w1 at *
  refine (HBK.out _).mono ?_
  rintro r0 w2 ⟨rfl, rfl⟩
  clear HBK
  have hi := HI.out
  have hih : i < hs.length := by rw [← HX.out.2.1.1]; exact hi
  (try dsimp only); repeat' (first | go_values | go_skip | go_guarded | go_step | go_upon | go_back)
  have hP := pcopy_ok (H.out.sw2) hi (HX.out.2.2.1 _ (List.getElem_mem hi)) HX.out.1 HX.out.2.2.2.2.1
  refine hP.mono ?_
  clear hP
  rintro r3 w3 ⟨g2, rfl, hs2, h3⟩
  (try dsimp only); repeat' (first | go_values | go_skip | go_guarded | go_step | go_upon | go_back)
  have hok := HX.out.2.2.2.1 _ (List.getElem_mem hih)
  have hD := dcopy_ok (gs := hs) (h3.sw3) hih hok (fun g2 hg => by rw [chkB_same hg]; exact hok.1) (by rw [← HX.out.2.1.1]; exact HX.out.2.2.2.2.1)
  refine hD.mono ?_
  clear hD
  rintro r4 w4 ⟨g3, rfl, hs3, h4⟩
  have h5 := h4.pickL (M := [_, _, _]) [1, 0] rfl
  have hsf := (hs2.trans (HX.out.2.1.2 i hi hih)).trans hs3.symm
  have H5 : Hid (StepP w0 b b' gs.length L (.returned (.bool true)) w4) := Lib.hid ⟨rfl, gs ++ [g2], hs ++ [g3], by rw [List.length_append]; exact Nat.le_refl _, HX.out.2.1.snoc hsf, mok_snoc HX.out.2.2.1 ((HX.out.2.2.1 _ (List.getElem_mem hi)).of hs2), mok_snoc HX.out.2.2.2.1 (hok.of hs3), h5⟩
  clear h3 h4 h5 hs2 hs3 hsf hok
  (try dsimp only); repeat' (first | go_values | go_skip | go_guarded | go_step | go_upon | go_back)
  go_ret
  exact H5.out
set_option maxRecDepth 100000 in
set_option maxHeartbeats 16000000 in
theorem step_cbad {k n A : Int} {r : Bool} {g : MgM} {dc : Array Value} (h : Sep w0 (PB b gs :: DB b' hs :: L) w) (hK : KindsAt w0 ∧ MKindsAt w0) (hsl : SameL gs hs) (hog : ∀ g ∈ gs, MOk g) (hoh : ∀ g ∈ hs, MOk g) (hn : gs.length < 2000) (hd : DoC dc k n g r) (hA : (if r = true then n else n % ((hs.length : Int) + 1)) = A) (hk8 : k % 8 = 3) (hAb : A < 0 ∨ (gs.length : Int) ≤ A) :
  Calls Tryz.prog 7 #[.pointer (some ⟨b, 0, none⟩), .pointer (some ⟨b', 0, none⟩), .agg dc] w fun e w' => StepP w0 b b' gs.length L e w' := by
 have h1 := h.alloc (.cells dc 42)
 have c0 := h1.cell hd.2.1
 have c1 := h1.cell hd.2.2.1
 have c24 := h1.cell hd.2.2.2.1
 have HBK : Hid (∀ wx, Calls Tryz.prog 23 #[.int .i64 k, .int .i64 8] wx fun e w' => e = .returned (.int .i64 3) ∧ wx = w') := Lib.hid fun wx => by have := bring_any k 8 wx ⟨by decide, by decide⟩; rw [hk8] at this; exact this
 clear hk8
 have HB := Lib.hid hAb
 clear hAb
 obtain ⟨m, hm⟩ : ∃ z, z = hs.length := ⟨_, rfl⟩
 have hmn : m < 2000 := by rw [hm, ← hsl.1]; exact hn
 have m0 : (0 : Int) ≤ (m : Int) := by omega
 have m9 : (m : Int) ≤ 2000 := by omega
 have HLEN := dlen_any (h1.drew.sw3)
 rw [← hm] at HLEN hA
 obtain ⟨b5, hb5⟩ : ∃ z, z = w.heap.size := ⟨_, rfl⟩
 obtain ⟨w1, hw1⟩ : ∃ z, z = w.alloc (.cells dc 42) := ⟨_, rfl⟩
 rw [← hw1] at HLEN h1
 rw [← hb5] at h1
 have HLEN := Lib.hid HLEN
 have H1 := Lib.hid h1
 have HX := Lib.hid (And.intro hK (And.intro hsl (And.intro hog (And.intro hoh (And.intro hn hd)))))
 have HM := Lib.hid hm
 clear h h1 hK hsl hog hoh hn hm
 cases r with
 | true =>
  rw [if_pos rfl] at hA
  subst hA
  clear HLEN m0 m9 hmn
  go_enter Tryz.func7, Tryz.ntmps7
  (try dsimp only); repeat' (first | go_values | go_skip | go_guarded | go_step | go_upon | go_back)
  rw [← hw1, ← hb5]
  clear hw1 hb5 c0 c1 c24
  have H := H1
  clear H1
  refine (HBK.out _).mono ?_
  rintro r0 w2 ⟨rfl, rfl⟩
  clear HBK
  (try dsimp only); repeat' (first | go_values | go_skip | go_guarded | go_step | go_upon | go_back)
  have hP := pcopy_bad (H.out.sw2) HB.out
  refine hP.mono ?_
  clear hP
  rintro r3 w3 ⟨rfl, h3⟩
  (try dsimp only); repeat' (first | go_values | go_skip | go_guarded | go_step | go_upon | go_back)
  have hD := dcopy_bad (h3.sw3) (by rw [← HX.out.2.1.1]; exact HB.out)
  refine hD.mono ?_
  clear hD
  rintro r4 w4 ⟨rfl, h4⟩
  have H5 : Hid (StepP w0 b b' gs.length L (.returned (.bool true)) w4) := Lib.hid ⟨rfl, gs, hs, by omega, HX.out.2.1, HX.out.2.2.1, HX.out.2.2.2.1, h4.pickL (M := [_, _, _]) [1, 0] rfl⟩
  clear h3 h4
  (try dsimp only); repeat' (first | go_values | go_skip | go_guarded | go_step | go_upon | go_back)
  go_ret
  exact H5.out
 | false =>
  rw [if_neg (by simp)] at hA
  have HBR : Hid (∀ wx, Calls Tryz.prog 23 #[.int .i64 n, .int .i64 ((m : Int) + 1)] wx fun e w' => e = .returned (.int .i64 A) ∧ wx = w') := Lib.hid fun wx => by have := bring_any n ((m : Int) + 1) wx (by unfold Sm; omega); rw [hA] at this; exact this
  have HWR : Hid (IntKind.i64.wrap ((m : Int) + 1) = (m : Int) + 1) := Lib.hid (IntWalk.i64_in _ (by omega))
  clear hA
  have c1d := H1.out.drew.cell hd.2.2.1
  have c0d := H1.out.drew.cell hd.2.1
  go_enter Tryz.func7, Tryz.ntmps7
  (try dsimp only); repeat' (first | go_values | go_skip | go_guarded | go_step | go_upon | go_back)
  rw [← hw1, ← hb5]
  clear hw1 hb5 c0 c1 c24
  refine wp_region_G (fun w' => w'.cell? ⟨b5, 1, none⟩ = some (.int .i64 n)) [] (by kernel_rfl) c1d (fun hS => ?_)
  try dsimp only at hS
  refine wpAnyG_tk (i := 0) (v := ?v0_1r3) rfl (Or.inl ⟨by rfl, ?a_⟩) hS ?b_
  case a_ => intro w hSw; (try dsimp only at hSw); go_simp; (try with_reducible rfl)
  case b_ =>
  try simp only [nz0, nz1, nz2, Act.put, nz3, nz4, nz5]
  refine wpAnyG_tk (i := 1) (v := ?v1_2r3) rfl (Or.inl ⟨by rfl, ?a_⟩) hS ?b_
  case a_ => intro w hSw; (try dsimp only at hSw); go_simp; (try with_reducible rfl)
  case b_ =>
  try simp only [nz0, nz1, nz2, Act.put, nz3, nz4, nz5]
  refine wpAnyG_tk (i := 2) (v := ?v2_3r3) rfl (Or.inl ⟨by rfl, ?a_⟩) hS ?b_
  case a_ => intro w hSw; (try dsimp only at hSw); go_simp; (try with_reducible rfl)
  case b_ =>
  try simp only [nz0, nz1, nz2, Act.put, nz3, nz4, nz5]
  refine wpAnyG_one (i := 3) (by kernel_rfl) rfl (fun K hK => ?_)
  go_simp
  refine Calls.mono HLEN.out ?_
  rintro r3 w3 ⟨rfl, rfl⟩
  refine hK.out _ _ (fun _ => ?hS4r3) ?rest4r3
  case hS4r3 => exact c1d
  clear K hK
  try simp only [nz0, nz1, nz2, Act.put, nz3, nz4, nz5]
  refine wpAnyG_tk (i := 4) (v := ?v4_5r3) rfl (Or.inl ⟨by rfl, ?a_⟩) c1d ?b_
  case a_ => intro w hSw; (try dsimp only at hSw); go_simp; (try with_reducible rfl)
  case b_ =>
  try simp only [nz0, nz1, nz2, Act.put, nz3, nz4, nz5]
  refine wpAnyG_one (i := 5) (by kernel_rfl) rfl (fun K hK => ?_)
  go_simp
  rw [HWR.out]
  refine Calls.mono (HBR.out _) ?_
  rintro r3 w3 ⟨rfl, rfl⟩
  refine hK.out _ _ (fun _ => ?hS6r3) ?rest6r3
  case hS6r3 => exact c1d
  clear K hK
  try simp only [nz0, nz1, nz2, Act.put, nz3, nz4, nz5]
  refine wpAnyG_tk (i := 6) (v := ?v6_7r3) rfl (Or.inl ⟨by rfl, ?a_⟩) c1d ?b_
  case a_ => intro w hSw; (try dsimp only at hSw); go_simp; (try with_reducible rfl)
  case b_ =>
  try simp only [nz0, nz1, nz2, Act.put, nz3, nz4, nz5]
  refine wpAnyG_done (by kernel_rfl) ?_ _
  try simp only [nz0, nz1, nz2, Act.put, nz3, nz4, nz5]
  clear hS c1d HBR HLEN HWR
  (try dsimp only); repeat' (first | go_values | go_skip | go_guarded | go_step | go_upon | go_back)
  clear c0d
  have H := Lib.hid H1.out.drew
  clear H1
  generalize w1.drew = w1 at *
  refine (HBK.out _).mono ?_
  rintro r0 w2 ⟨rfl, rfl⟩
  clear HBK
  (try dsimp only); repeat' (first | go_values | go_skip | go_guarded | go_step | go_upon | go_back)
  have hP := pcopy_bad (H.out.sw2) HB.out
  refine hP.mono ?_
  clear hP
  rintro r3 w3 ⟨rfl, h3⟩
  (try dsimp only); repeat' (first | go_values | go_skip | go_guarded | go_step | go_upon | go_back)
  have hD := dcopy_bad (h3.sw3) (by rw [← HX.out.2.1.1]; exact HB.out)
  refine hD.mono ?_
  clear hD
  rintro r4 w4 ⟨rfl, h4⟩
  have H5 : Hid (StepP w0 b b' gs.length L (.returned (.bool true)) w4) := Lib.hid ⟨rfl, gs, hs, by omega, HX.out.2.1, HX.out.2.2.1, HX.out.2.2.2.1, h4.pickL (M := [_, _, _]) [1, 0] rfl⟩
  clear h3 h4
  (try dsimp only); repeat' (first | go_values | go_skip | go_guarded | go_step | go_upon | go_back)
  go_ret
  exact H5.out
set_option maxRecDepth 100000 in
set_option maxHeartbeats 16000000 in
theorem step_dok {k n A : Int} {r : Bool} {g : MgM} {dc : Array Value} (h : Sep w0 (PB b gs :: DB b' hs :: L) w) (hK : KindsAt w0 ∧ MKindsAt w0) (hsl : SameL gs hs) (hog : ∀ g ∈ gs, MOk g) (hoh : ∀ g ∈ hs, MOk g) (hn : gs.length < 2000) (hd : DoC dc k n g r) (hA : (if r = true then n else n % ((hs.length : Int) + 1)) = A) (hk8 : k % 8 = 5) {i : Nat} (hAi : A = (i : Int)) (hi : i < gs.length) :
  Calls Tryz.prog 7 #[.pointer (some ⟨b, 0, none⟩), .pointer (some ⟨b', 0, none⟩), .agg dc] w fun e w' => StepP w0 b b' gs.length L e w' := by
 have h1 := h.alloc (.cells dc 42)
 have c0 := h1.cell hd.2.1
 have c1 := h1.cell hd.2.2.1
 have c24 := h1.cell hd.2.2.2.1
 have HBK : Hid (∀ wx, Calls Tryz.prog 23 #[.int .i64 k, .int .i64 8] wx fun e w' => e = .returned (.int .i64 5) ∧ wx = w') := Lib.hid fun wx => by have := bring_any k 8 wx ⟨by decide, by decide⟩; rw [hk8] at this; exact this
 clear hk8
 subst hAi
 have HI := Lib.hid hi
 clear hi
 obtain ⟨m, hm⟩ : ∃ z, z = hs.length := ⟨_, rfl⟩
 have hmn : m < 2000 := by rw [hm, ← hsl.1]; exact hn
 have m0 : (0 : Int) ≤ (m : Int) := by omega
 have m9 : (m : Int) ≤ 2000 := by omega
 have HLEN := dlen_any (h1.drew.sw3)
 rw [← hm] at HLEN hA
 obtain ⟨b5, hb5⟩ : ∃ z, z = w.heap.size := ⟨_, rfl⟩
 obtain ⟨w1, hw1⟩ : ∃ z, z = w.alloc (.cells dc 42) := ⟨_, rfl⟩
 rw [← hw1] at HLEN h1
 rw [← hb5] at h1
 have HLEN := Lib.hid HLEN
 have H1 := Lib.hid h1
 have HX := Lib.hid (And.intro hK (And.intro hsl (And.intro hog (And.intro hoh (And.intro hn hd)))))
 have HM := Lib.hid hm
 clear h h1 hK hsl hog hoh hn hm
 cases r with
 | true =>
  rw [if_pos rfl] at hA
  subst hA
  clear HLEN m0 m9 hmn
  go_enter Tryz.func7, Tryz.ntmps7
  (try dsimp only); repeat' (first | go_values | go_skip | go_guarded | go_step | go_upon | go_back)
  rw [← hw1, ← hb5]
  clear hw1 hb5 c0 c1 c24
  have H := H1
  clear H1
  refine (HBK.out _).mono ?_
  rintro r0 w2 ⟨rfl, rfl⟩
  clear HBK
  have hi := HI.out
  have hih : i < hs.length := by rw [← HX.out.2.1.1]; exact hi
  (try dsimp only); repeat' (first | go_values | go_skip | go_guarded | go_step | go_upon | go_back)
  have hP := pdrop_ok (H.out.sw2) hi (by have := HX.out.2.2.2.2.1; omega)
  refine hP.mono ?_
  clear hP
  rintro r3 w3 ⟨rfl, h3⟩
  (try dsimp only); repeat' (first | go_values | go_skip | go_guarded | go_step | go_upon | go_back)
  have hD := ddrop_ok (gs := hs) (h3.sw3) hih (HX.out.2.2.2.1 _ (List.getElem_mem hih)) (by rw [← HX.out.2.1.1]; have := HX.out.2.2.2.2.1; omega)
  refine hD.mono ?_
  clear hD
  rintro r4 w4 ⟨rfl, h4⟩
  have H5 : Hid (StepP w0 b b' gs.length L (.returned (.bool true)) w4) := Lib.hid ⟨rfl, gs.eraseIdx i, hs.eraseIdx i, by rw [List.length_eraseIdx]; split <;> omega, HX.out.2.1.erase i, mok_erase i HX.out.2.2.1, mok_erase i HX.out.2.2.2.1, h4.pickL (M := [_, _, _]) [1, 0] rfl⟩
  clear h3 h4
  (try dsimp only); repeat' (first | go_values | go_skip | go_guarded | go_step | go_upon | go_back)
  go_ret
  exact H5.out
 | false =>
  rw [if_neg (by simp)] at hA
  have HBR : Hid (∀ wx, Calls Tryz.prog 23 #[.int .i64 n, .int .i64 ((m : Int) + 1)] wx fun e w' => e = .returned (.int .i64 (i : Int)) ∧ wx = w') := Lib.hid fun wx => by have := bring_any n ((m : Int) + 1) wx (by unfold Sm; omega); rw [hA] at this; exact this
  have HWR : Hid (IntKind.i64.wrap ((m : Int) + 1) = (m : Int) + 1) := Lib.hid (IntWalk.i64_in _ (by omega))
  clear hA
  have c1d := H1.out.drew.cell hd.2.2.1
  have c0d := H1.out.drew.cell hd.2.1
  go_enter Tryz.func7, Tryz.ntmps7
  (try dsimp only); repeat' (first | go_values | go_skip | go_guarded | go_step | go_upon | go_back)
  rw [← hw1, ← hb5]
  clear hw1 hb5 c0 c1 c24
  refine wp_region_G (fun w' => w'.cell? ⟨b5, 1, none⟩ = some (.int .i64 n)) [] (by kernel_rfl) c1d (fun hS => ?_)
  try dsimp only at hS
  refine wpAnyG_tk (i := 0) (v := ?v0_1r3) rfl (Or.inl ⟨by rfl, ?a_⟩) hS ?b_
  case a_ => intro w hSw; (try dsimp only at hSw); go_simp; (try with_reducible rfl)
  case b_ =>
  try simp only [nz0, nz1, nz2, Act.put, nz3, nz4, nz5]
  refine wpAnyG_tk (i := 1) (v := ?v1_2r3) rfl (Or.inl ⟨by rfl, ?a_⟩) hS ?b_
  case a_ => intro w hSw; (try dsimp only at hSw); go_simp; (try with_reducible rfl)
  case b_ =>
  try simp only [nz0, nz1, nz2, Act.put, nz3, nz4, nz5]
  refine wpAnyG_tk (i := 2) (v := ?v2_3r3) rfl (Or.inl ⟨by rfl, ?a_⟩) hS ?b_
  case a_ => intro w hSw; (try dsimp only at hSw); go_simp; (try with_reducible rfl)
  case b_ =>
  try simp only [nz0, nz1, nz2, Act.put, nz3, nz4, nz5]
  refine wpAnyG_one (i := 3) (by kernel_rfl) rfl (fun K hK => ?_)
  go_simp
  refine Calls.mono HLEN.out ?_
  rintro r3 w3 ⟨rfl, rfl⟩
  refine hK.out _ _ (fun _ => ?hS4r3) ?rest4r3
  case hS4r3 => exact c1d
  clear K hK
  try simp only [nz0, nz1, nz2, Act.put, nz3, nz4, nz5]
  refine wpAnyG_tk (i := 4) (v := ?v4_5r3) rfl (Or.inl ⟨by rfl, ?a_⟩) c1d ?b_
  case a_ => intro w hSw; (try dsimp only at hSw); go_simp; (try with_reducible rfl)
  case b_ =>
  try simp only [nz0, nz1, nz2, Act.put, nz3, nz4, nz5]
  refine wpAnyG_one (i := 5) (by kernel_rfl) rfl (fun K hK => ?_)
  go_simp
  rw [HWR.out]
  refine Calls.mono (HBR.out _) ?_
  rintro r3 w3 ⟨rfl, rfl⟩
  refine hK.out _ _ (fun _ => ?hS6r3) ?rest6r3
  case hS6r3 => exact c1d
  clear K hK
  try simp only [nz0, nz1, nz2, Act.put, nz3, nz4, nz5]
  refine wpAnyG_tk (i := 6) (v := ?v6_7r3) rfl (Or.inl ⟨by rfl, ?a_⟩) c1d ?b_
  case a_ => intro w hSw; (try dsimp only at hSw); go_simp; (try with_reducible rfl)
  case b_ =>
  try simp only [nz0, nz1, nz2, Act.put, nz3, nz4, nz5]
  refine wpAnyG_done (by kernel_rfl) ?_ _
  try simp only [nz0, nz1, nz2, Act.put, nz3, nz4, nz5]
  clear hS c1d HBR HLEN HWR
  (try dsimp only); repeat' (first | go_values | go_skip | go_guarded | go_step | go_upon | go_back)
  clear c0d
  have H := Lib.hid H1.out.drew
  clear H1
  generalize w1.drew = w1 at *
  refine (HBK.out _).mono ?_
  rintro r0 w2 ⟨rfl, rfl⟩
  clear HBK
  have hi := HI.out
  have hih : i < hs.length := by rw [← HX.out.2.1.1]; exact hi
  (try dsimp only); repeat' (first | go_values | go_skip | go_guarded | go_step | go_upon | go_back)
  have hP := pdrop_ok (H.out.sw2) hi (by have := HX.out.2.2.2.2.1; omega)
  refine hP.mono ?_
  clear hP
  rintro r3 w3 ⟨rfl, h3⟩
  (try dsimp only); repeat' (first | go_values | go_skip | go_guarded | go_step | go_upon | go_back)
  have hD := ddrop_ok (gs := hs) (h3.sw3) hih (HX.out.2.2.2.1 _ (List.getElem_mem hih)) (by rw [← HX.out.2.1.1]; have := HX.out.2.2.2.2.1; omega)
  refine hD.mono ?_
  clear hD
  rintro r4 w4 ⟨rfl, h4⟩
  have H5 : Hid (StepP w0 b b' gs.length L (.returned (.bool true)) w4) := Lib.hid ⟨rfl, gs.eraseIdx i, hs.eraseIdx i, by rw [List.length_eraseIdx]; split <;> omega, HX.out.2.1.erase i, mok_erase i HX.out.2.2.1, mok_erase i HX.out.2.2.2.1, h4.pickL (M := [_, _, _]) [1, 0] rfl⟩
  clear h3 h4
  (try dsimp only); repeat' (first | go_values | go_skip | go_guarded | go_step | go_upon | go_back)
  go_ret
  exact H5.out
set_option maxRecDepth 100000 in
set_option maxHeartbeats 16000000 in
theorem step_dbad {k n A : Int} {r : Bool} {g : MgM} {dc : Array Value} (h : Sep w0 (PB b gs :: DB b' hs :: L) w) (hK : KindsAt w0 ∧ MKindsAt w0) (hsl : SameL gs hs) (hog : ∀ g ∈ gs, MOk g) (hoh : ∀ g ∈ hs, MOk g) (hn : gs.length < 2000) (hd : DoC dc k n g r) (hA : (if r = true then n else n % ((hs.length : Int) + 1)) = A) (hk8 : k % 8 = 5) (hAb : A < 0 ∨ (gs.length : Int) ≤ A) :
  Calls Tryz.prog 7 #[.pointer (some ⟨b, 0, none⟩), .pointer (some ⟨b', 0, none⟩), .agg dc] w fun e w' => StepP w0 b b' gs.length L e w' := by
 have h1 := h.alloc (.cells dc 42)
 have c0 := h1.cell hd.2.1
 have c1 := h1.cell hd.2.2.1
 have c24 := h1.cell hd.2.2.2.1
 have HBK : Hid (∀ wx, Calls Tryz.prog 23 #[.int .i64 k, .int .i64 8] wx fun e w' => e = .returned (.int .i64 5) ∧ wx = w') := Lib.hid fun wx => by have := bring_any k 8 wx ⟨by decide, by decide⟩; rw [hk8] at this; exact this
 clear hk8
 have HB := Lib.hid hAb
 clear hAb
 obtain ⟨m, hm⟩ : ∃ z, z = hs.length := ⟨_, rfl⟩
 have hmn : m < 2000 := by rw [hm, ← hsl.1]; exact hn
 have m0 : (0 : Int) ≤ (m : Int) := by omega
 have m9 : (m : Int) ≤ 2000 := by omega
 have HLEN := dlen_any (h1.drew.sw3)
 rw [← hm] at HLEN hA
 obtain ⟨b5, hb5⟩ : ∃ z, z = w.heap.size := ⟨_, rfl⟩
 obtain ⟨w1, hw1⟩ : ∃ z, z = w.alloc (.cells dc 42) := ⟨_, rfl⟩
 rw [← hw1] at HLEN h1
 rw [← hb5] at h1
 have HLEN := Lib.hid HLEN
 have H1 := Lib.hid h1
 have HX := Lib.hid (And.intro hK (And.intro hsl (And.intro hog (And.intro hoh (And.intro hn hd)))))
 have HM := Lib.hid hm
 clear h h1 hK hsl hog hoh hn hm
 cases r with
 | true =>
  rw [if_pos rfl] at hA
  subst hA
  clear HLEN m0 m9 hmn
  go_enter Tryz.func7, Tryz.ntmps7
  (try dsimp only); repeat' (first | go_values | go_skip | go_guarded | go_step | go_upon | go_back)
  rw [← hw1, ← hb5]
  clear hw1 hb5 c0 c1 c24
  have H := H1
  clear H1
  refine (HBK.out _).mono ?_
  rintro r0 w2 ⟨rfl, rfl⟩
  clear HBK
  (try dsimp only); repeat' (first | go_values | go_skip | go_guarded | go_step | go_upon | go_back)
  have hP := pdrop_bad (H.out.sw2) HB.out
  refine hP.mono ?_
  clear hP
  rintro r3 w3 ⟨rfl, h3⟩
  (try dsimp only); repeat' (first | go_values | go_skip | go_guarded | go_step | go_upon | go_back)
  have hD := ddrop_bad (h3.sw3) (by rw [← HX.out.2.1.1]; exact HB.out)
  refine hD.mono ?_
  clear hD
  rintro r4 w4 ⟨rfl, h4⟩
  have H5 : Hid (StepP w0 b b' gs.length L (.returned (.bool true)) w4) := Lib.hid ⟨rfl, gs, hs, by omega, HX.out.2.1, HX.out.2.2.1, HX.out.2.2.2.1, h4.pickL (M := [_, _, _]) [1, 0] rfl⟩
  clear h3 h4
  (try dsimp only); repeat' (first | go_values | go_skip | go_guarded | go_step | go_upon | go_back)
  go_ret
  exact H5.out
 | false =>
  rw [if_neg (by simp)] at hA
  have HBR : Hid (∀ wx, Calls Tryz.prog 23 #[.int .i64 n, .int .i64 ((m : Int) + 1)] wx fun e w' => e = .returned (.int .i64 A) ∧ wx = w') := Lib.hid fun wx => by have := bring_any n ((m : Int) + 1) wx (by unfold Sm; omega); rw [hA] at this; exact this
  have HWR : Hid (IntKind.i64.wrap ((m : Int) + 1) = (m : Int) + 1) := Lib.hid (IntWalk.i64_in _ (by omega))
  clear hA
  have c1d := H1.out.drew.cell hd.2.2.1
  have c0d := H1.out.drew.cell hd.2.1
  go_enter Tryz.func7, Tryz.ntmps7
  (try dsimp only); repeat' (first | go_values | go_skip | go_guarded | go_step | go_upon | go_back)
  rw [← hw1, ← hb5]
  clear hw1 hb5 c0 c1 c24
  refine wp_region_G (fun w' => w'.cell? ⟨b5, 1, none⟩ = some (.int .i64 n)) [] (by kernel_rfl) c1d (fun hS => ?_)
  try dsimp only at hS
  refine wpAnyG_tk (i := 0) (v := ?v0_1r3) rfl (Or.inl ⟨by rfl, ?a_⟩) hS ?b_
  case a_ => intro w hSw; (try dsimp only at hSw); go_simp; (try with_reducible rfl)
  case b_ =>
  try simp only [nz0, nz1, nz2, Act.put, nz3, nz4, nz5]
  refine wpAnyG_tk (i := 1) (v := ?v1_2r3) rfl (Or.inl ⟨by rfl, ?a_⟩) hS ?b_
  case a_ => intro w hSw; (try dsimp only at hSw); go_simp; (try with_reducible rfl)
  case b_ =>
  try simp only [nz0, nz1, nz2, Act.put, nz3, nz4, nz5]
  refine wpAnyG_tk (i := 2) (v := ?v2_3r3) rfl (Or.inl ⟨by rfl, ?a_⟩) hS ?b_
  case a_ => intro w hSw; (try dsimp only at hSw); go_simp; (try with_reducible rfl)
  case b_ =>
  try simp only [nz0, nz1, nz2, Act.put, nz3, nz4, nz5]
  refine wpAnyG_one (i := 3) (by kernel_rfl) rfl (fun K hK => ?_)
  go_simp
  refine Calls.mono HLEN.out ?_
  rintro r3 w3 ⟨rfl, rfl⟩
  refine hK.out _ _ (fun _ => ?hS4r3) ?rest4r3
  case hS4r3 => exact c1d
  clear K hK
  try simp only [nz0, nz1, nz2, Act.put, nz3, nz4, nz5]
  refine wpAnyG_tk (i := 4) (v := ?v4_5r3) rfl (Or.inl ⟨by rfl, ?a_⟩) c1d ?b_
  case a_ => intro w hSw; (try dsimp only at hSw); go_simp; (try with_reducible rfl)
  case b_ =>
  try simp only [nz0, nz1, nz2, Act.put, nz3, nz4, nz5]
  refine wpAnyG_one (i := 5) (by kernel_rfl) rfl (fun K hK => ?_)
  go_simp
  rw [HWR.out]
  refine Calls.mono (HBR.out _) ?_
  rintro r3 w3 ⟨rfl, rfl⟩
  refine hK.out _ _ (fun _ => ?hS6r3) ?rest6r3
  case hS6r3 => exact c1d
  clear K hK
  try simp only [nz0, nz1, nz2, Act.put, nz3, nz4, nz5]
  refine wpAnyG_tk (i := 6) (v := ?v6_7r3) rfl (Or.inl ⟨by rfl, ?a_⟩) c1d ?b_
  case a_ => intro w hSw; (try dsimp only at hSw); go_simp; (try with_reducible rfl)
  case b_ =>
  try simp only [nz0, nz1, nz2, Act.put, nz3, nz4, nz5]
  refine wpAnyG_done (by kernel_rfl) ?_ _
  try simp only [nz0, nz1, nz2, Act.put, nz3, nz4, nz5]
  clear hS c1d HBR HLEN HWR
  (try dsimp only); repeat' (first | go_values | go_skip | go_guarded | go_step | go_upon | go_back)
  clear c0d
  have H := Lib.hid H1.out.drew
  clear H1
  generalize w1.drew = w1 at *
  refine (HBK.out _).mono ?_
  rintro r0 w2 ⟨rfl, rfl⟩
  clear HBK
  (try dsimp only); repeat' (first | go_values | go_skip | go_guarded | go_step | go_upon | go_back)
  have hP := pdrop_bad (H.out.sw2) HB.out
  refine hP.mono ?_
  clear hP
  rintro r3 w3 ⟨rfl, h3⟩
  (try dsimp only); repeat' (first | go_values | go_skip | go_guarded | go_step | go_upon | go_back)
  have hD := ddrop_bad (h3.sw3) (by rw [← HX.out.2.1.1]; exact HB.out)
  refine hD.mono ?_
  clear hD
  rintro r4 w4 ⟨rfl, h4⟩
  have H5 : Hid (StepP w0 b b' gs.length L (.returned (.bool true)) w4) := Lib.hid ⟨rfl, gs, hs, by omega, HX.out.2.1, HX.out.2.2.1, HX.out.2.2.2.1, h4.pickL (M := [_, _, _]) [1, 0] rfl⟩
  clear h3 h4
  (try dsimp only); repeat' (first | go_values | go_skip | go_guarded | go_step | go_upon | go_back)
  go_ret
  exact H5.out
end Go.Proofs.YtcnbmeiielkigaaGreatDoor
