/- Stage 22, BagPlays: step, to. -/
import Derived.Test.YtcnbmeiielkigaaGreatDoorMZ35
namespace Go.Proofs.YtcnbmeiielkigaaGreatDoor
open Go Go.RowKit
set_option linter.unusedVariables false
set_option linter.unusedSimpArgs false
variable {w0 w : World} {b b' : Nat} {gs hs : List MgM} {L : List Thing}
set_option maxRecDepth 100000 in
set_option maxHeartbeats 16000000 in
theorem step_to {k n A : Int} {r : Bool} {g : MgM} {dc : Array Value} (h : Sep w0 (PB b gs :: DB b' hs :: L) w) (hK : KindsAt w0 ∧ MKindsAt w0) (hsl : SameL gs hs) (hog : ∀ g ∈ gs, MOk g) (hoh : ∀ g ∈ hs, MOk g) (hn : gs.length < 2000) (hd : DoC dc k n g r) (hA : (if r = true then n else n % ((hs.length : Int) + 1)) = A) (hk8 : k % 8 = 7)  :
  Calls Tryz.prog 7 #[.pointer (some ⟨b, 0, none⟩), .pointer (some ⟨b', 0, none⟩), .agg dc] w fun e w' => StepP w0 b b' gs.length L e w' := by
 have h1 := h.alloc (.cells dc 42)
 have c0 := h1.cell hd.2.1
 have c1 := h1.cell hd.2.2.1
 have c24 := h1.cell hd.2.2.2.1
 have HBK : Hid (∀ wx, Calls Tryz.prog 23 #[.int .i64 k, .int .i64 8] wx fun e w' => e = .returned (.int .i64 7) ∧ wx = w') := Lib.hid fun wx => by have := bring_any k 8 wx ⟨by decide, by decide⟩; rw [hk8] at this; exact this
 clear hk8
 obtain ⟨m, hm⟩ : ∃ z, z = hs.length := ⟨_, rfl⟩
 have hmn : m < 2000 := by rw [hm, ← hsl.1]; exact hn
 have m0 : (0 : Int) ≤ (m : Int) := by omega
 have m9 : (m : Int) ≤ 2000 := by omega
 have HLEN := dlen_any (h1.drew.sw3)
 rw [← hm] at HLEN hA
 obtain ⟨b5, hb5⟩ : ∃ z, z = w.heap.size := ⟨_, rfl⟩
 obtain ⟨w1, hw1⟩ : ∃ z, z = w.alloc (.cells dc 42) := ⟨_, rfl⟩
 rw [← hw1] at HLEN h1
 rw [← hb5] at h1
 have HLEN := Lib.hid HLEN
 have H1 := Lib.hid h1
 have HX := Lib.hid (And.intro hK (And.intro hsl (And.intro hog (And.intro hoh (And.intro hn hd)))))
 have HM := Lib.hid hm
 clear h h1 hK hsl hog hoh hn hm
 cases r with
 | true =>
  rw [if_pos rfl] at hA
  subst hA
  clear HLEN m0 m9 hmn
  go_enter Tryz.func7, Tryz.ntmps7
  (try dsimp only); repeat' (first | go_values | go_skip | go_guarded | go_step | go_upon | go_back)
  rw [← hw1, ← hb5]
  clear hw1 hb5 c0 c1 c24
  have H := H1
  clear H1
  refine (HBK.out _).mono ?_
  rintro r0 w2 ⟨rfl, rfl⟩
  clear HBK
  (try dsimp only); repeat' (first | go_values | go_skip | go_guarded | go_step | go_upon | go_back)
  have HB25 : Hid (∀ wx, Calls Tryz.prog 23 #[.int .i64 n, .int .i64 25] wx fun e w' => e = .returned (.int .i64 (n % 25)) ∧ wx = w') := Lib.hid fun wx => bring_any n 25 wx ⟨by decide, by decide⟩
  have H2 := Lib.hid H.out.drew
  have c1e := H2.out.cell HX.out.2.2.2.2.2.2.2.1
  clear H
  refine wp_region_G (fun w' => w'.cell? ⟨b5, 1, none⟩ = some (.int .i64 n)) [] (by kernel_rfl) c1e (fun hS => ?_)
  try dsimp only at hS
  refine wpAnyG_tk (i := 0) (v := ?v0_1rt) rfl (Or.inl ⟨by rfl, ?a_⟩) hS ?b_
  case a_ => intro w hSw; (try dsimp only at hSw); go_simp; (try with_reducible rfl)
  case b_ =>
  try simp only [nz0, nz1, nz2, Act.put, nz3, nz4, nz5]
  refine wpAnyG_tk (i := 1) (v := ?v1_2rt) rfl (Or.inl ⟨by rfl, ?a_⟩) hS ?b_
  case a_ => intro w hSw; (try dsimp only at hSw); go_simp; (try with_reducible rfl)
  case b_ =>
  try simp only [nz0, nz1, nz2, Act.put, nz3, nz4, nz5]
  refine wpAnyG_tk (i := 2) (v := ?v2_3rt) rfl (Or.inl ⟨by rfl, ?a_⟩) hS ?b_
  case a_ => intro w hSw; (try dsimp only at hSw); go_simp; (try with_reducible rfl)
  case b_ =>
  try simp only [nz0, nz1, nz2, Act.put, nz3, nz4, nz5]
  refine wpAnyG_tk (i := 5) (v := ?v5_4rt) rfl (Or.inl ⟨by rfl, ?a_⟩) hS ?b_
  case a_ => intro w hSw; (try dsimp only at hSw); go_simp; (try with_reducible rfl)
  case b_ =>
  try simp only [nz0, nz1, nz2, Act.put, nz3, nz4, nz5]
  refine wpAnyG_tk (i := 6) (v := ?v6_5rt) rfl (Or.inl ⟨by rfl, ?a_⟩) hS ?b_
  case a_ => intro w hSw; (try dsimp only at hSw); go_simp; (try with_reducible rfl)
  case b_ =>
  try simp only [nz0, nz1, nz2, Act.put, nz3, nz4, nz5]
  refine wpAnyG_tk (i := 7) (v := ?v7_6rt) rfl (Or.inl ⟨by rfl, ?a_⟩) hS ?b_
  case a_ => intro w hSw; (try dsimp only at hSw); go_simp; (try with_reducible rfl)
  case b_ =>
  try simp only [nz0, nz1, nz2, Act.put, nz3, nz4, nz5]
  refine wpAnyG_one (i := 3) (by kernel_rfl) rfl (fun K hK => ?_)
  go_simp
  refine Calls.mono (HB25.out _) ?_
  rintro r3 w3 ⟨rfl, rfl⟩
  refine hK.out _ _ (fun _ => ?hS7rt) ?rest7rt
  case hS7rt => exact c1e
  clear K hK
  try simp only [nz0, nz1, nz2, Act.put, nz3, nz4, nz5]
  refine wpAnyG_one (i := 4) (by kernel_rfl) rfl (fun K hK => ?_)
  go_simp
  have hP := pto_any (who := n % 25) (H2.out.sw2) (by have := HX.out.2.2.2.2.1; omega)
  refine Calls.mono hP ?_
  clear hP
  rintro r4 w4 ⟨v4, rfl, h4⟩
  have c1f := (h4.sw3).cell HX.out.2.2.2.2.2.2.2.1
  refine hK.out _ _ (fun _ => ?hS8rt) ?rest8rt
  case hS8rt => exact c1f
  clear K hK
  try simp only [nz0, nz1, nz2, Act.put, nz3, nz4, nz5]
  refine wpAnyG_one (i := 8) (by kernel_rfl) rfl (fun K hK => ?_)
  go_simp
  refine Calls.mono (HB25.out _) ?_
  rintro r8 w8 ⟨rfl, rfl⟩
  refine hK.out _ _ (fun _ => ?hS9rt) ?rest9rt
  case hS9rt => exact c1f
  clear K hK
  try simp only [nz0, nz1, nz2, Act.put, nz3, nz4, nz5]
  refine wpAnyG_one (i := 9) (by kernel_rfl) rfl (fun K hK => ?_)
  go_simp
  have hD := dto_any (gs := hs) (who := n % 25) (h4.sw4) (by rw [← HX.out.2.1.1]; have := HX.out.2.2.2.2.1; omega)
  refine Calls.mono hD ?_
  clear hD
  rintro r9 w9 ⟨v9, rfl, h9⟩
  have c1g := (h9.sw5).cell HX.out.2.2.2.2.2.2.2.1
  obtain ⟨a4, k4, rfl⟩ := (h9.sw3).sl.len
  obtain ⟨a9, k9, rfl⟩ := h9.sl.len
  refine hK.out _ _ (fun _ => ?hS10rt) ?rest10rt
  case hS10rt => exact c1g
  clear K hK
  try simp only [nz0, nz1, nz2, Act.put, nz3, nz4, nz5]
  refine wpAnyG_one (i := 10) (by kernel_rfl) rfl (fun K hK => ?_)
  go_simp
  have hE := eqInts_sep _ _ (ivN (tosG gs (n % 25))) (ivN (tosG hs (n % 25))) h9 (h9.sw3).sl h9.sl (by unfold ivN tosG; rw [List.length_map]; have := posF_le (toG (gs.map (·.t)) (n % 25)) gs.length; have := HX.out.2.2.2.2.1; omega)
  rw [show (ivN (tosG gs (n % 25)) == ivN (tosG hs (n % 25))) = true by rw [tosG_same HX.out.2.1]; exact beq_self_eq_true _] at hE
  refine Calls.mono hE ?_
  clear hE
  rintro r10 w10 ⟨rfl, h10⟩
  have c1h := (h10.sw5).cell HX.out.2.2.2.2.2.2.2.1
  refine hK.out _ _ (fun _ => ?hS11rt) ?rest11rt
  case hS11rt => exact c1h
  clear K hK
  try simp only [nz0, nz1, nz2, Act.put, nz3, nz4, nz5]
  refine wpAnyG_tk (i := 11) (v := ?v11_12rt) rfl (Or.inl ⟨by rfl, ?a_⟩) c1h ?b_
  case a_ => intro w hSw; (try dsimp only at hSw); go_simp; (try with_reducible rfl)
  case b_ =>
  try simp only [nz0, nz1, nz2, Act.put, nz3, nz4, nz5]
  refine wpAnyG_done (by kernel_rfl) ?_ _
  try simp only [nz0, nz1, nz2, Act.put, nz3, nz4, nz5]
  have H5 : Hid (StepP w0 b b' gs.length L (.returned (.bool true)) w10) := Lib.hid ⟨rfl, gs, hs, by omega, HX.out.2.1, HX.out.2.2.1, HX.out.2.2.2.1, h10.pickL (M := [_, _, _, _, _]) [3, 1] rfl⟩
  clear h4 h9 h10 c1e c1f c1g c1h hS
  (try dsimp only); repeat' (first | go_values | go_skip | go_guarded | go_step | go_upon | go_back)
  go_ret
  exact H5.out
 | false =>
  rw [if_neg (by simp)] at hA
  have HBR : Hid (∀ wx, Calls Tryz.prog 23 #[.int .i64 n, .int .i64 ((m : Int) + 1)] wx fun e w' => e = .returned (.int .i64 A) ∧ wx = w') := Lib.hid fun wx => by have := bring_any n ((m : Int) + 1) wx (by unfold Sm; omega); rw [hA] at this; exact this
  have HWR : Hid (IntKind.i64.wrap ((m : Int) + 1) = (m : Int) + 1) := Lib.hid (IntWalk.i64_in _ (by omega))
  clear hA
  have c1d := H1.out.drew.cell hd.2.2.1
  have c0d := H1.out.drew.cell hd.2.1
  go_enter Tryz.func7, Tryz.ntmps7
  (try dsimp only); repeat' (first | go_values | go_skip | go_guarded | go_step | go_upon | go_back)
  rw [← hw1, ← hb5]
  clear hw1 hb5 c0 c1 c24
  refine wp_region_G (fun w' => w'.cell? ⟨b5, 1, none⟩ = some (.int .i64 n)) [] (by kernel_rfl) c1d (fun hS => ?_)
  try dsimp only at hS
  refine wpAnyG_tk (i := 0) (v := ?v0_1r3) rfl (Or.inl ⟨by rfl, ?a_⟩) hS ?b_
  case a_ => intro w hSw; (try dsimp only at hSw); go_simp; (try with_reducible rfl)
  case b_ =>
  try simp only [nz0, nz1, nz2, Act.put, nz3, nz4, nz5]
  refine wpAnyG_tk (i := 1) (v := ?v1_2r3) rfl (Or.inl ⟨by rfl, ?a_⟩) hS ?b_
  case a_ => intro w hSw; (try dsimp only at hSw); go_simp; (try with_reducible rfl)
  case b_ =>
  try simp only [nz0, nz1, nz2, Act.put, nz3, nz4, nz5]
  refine wpAnyG_tk (i := 2) (v := ?v2_3r3) rfl (Or.inl ⟨by rfl, ?a_⟩) hS ?b_
  case a_ => intro w hSw; (try dsimp only at hSw); go_simp; (try with_reducible rfl)
  case b_ =>
  try simp only [nz0, nz1, nz2, Act.put, nz3, nz4, nz5]
  refine wpAnyG_one (i := 3) (by kernel_rfl) rfl (fun K hK => ?_)
  go_simp
  refine Calls.mono HLEN.out ?_
  rintro r3 w3 ⟨rfl, rfl⟩
  refine hK.out _ _ (fun _ => ?hS4r3) ?rest4r3
  case hS4r3 => exact c1d
  clear K hK
  try simp only [nz0, nz1, nz2, Act.put, nz3, nz4, nz5]
  refine wpAnyG_tk (i := 4) (v := ?v4_5r3) rfl (Or.inl ⟨by rfl, ?a_⟩) c1d ?b_
  case a_ => intro w hSw; (try dsimp only at hSw); go_simp; (try with_reducible rfl)
  case b_ =>
  try simp only [nz0, nz1, nz2, Act.put, nz3, nz4, nz5]
  refine wpAnyG_one (i := 5) (by kernel_rfl) rfl (fun K hK => ?_)
  go_simp
  rw [HWR.out]
  refine Calls.mono (HBR.out _) ?_
  rintro r3 w3 ⟨rfl, rfl⟩
  refine hK.out _ _ (fun _ => ?hS6r3) ?rest6r3
  case hS6r3 => exact c1d
  clear K hK
  try simp only [nz0, nz1, nz2, Act.put, nz3, nz4, nz5]
  refine wpAnyG_tk (i := 6) (v := ?v6_7r3) rfl (Or.inl ⟨by rfl, ?a_⟩) c1d ?b_
  case a_ => intro w hSw; (try dsimp only at hSw); go_simp; (try with_reducible rfl)
  case b_ =>
  try simp only [nz0, nz1, nz2, Act.put, nz3, nz4, nz5]
  refine wpAnyG_done (by kernel_rfl) ?_ _
  try simp only [nz0, nz1, nz2, Act.put, nz3, nz4, nz5]
  clear hS c1d HBR HLEN HWR
  (try dsimp only); repeat' (first | go_values | go_skip | go_guarded | go_step | go_upon | go_back)
  clear c0d
  have H := Lib.hid H1.out.drew
  clear H1
  generalize w1.drew = w1 at *
  refine (HBK.out _).mono ?_
  rintro r0 w2 ⟨rfl, rfl⟩
  clear HBK
  (try dsimp only); repeat' (first | go_values | go_skip | go_guarded | go_step | go_upon | go_back)
  have HB25 : Hid (∀ wx, Calls Tryz.prog 23 #[.int .i64 n, .int .i64 25] wx fun e w' => e = .returned (.int .i64 (n % 25)) ∧ wx = w') := Lib.hid fun wx => bring_any n 25 wx ⟨by decide, by decide⟩
  have H2 := Lib.hid H.out.drew
  have c1e := H2.out.cell HX.out.2.2.2.2.2.2.2.1
  clear H
  refine wp_region_G (fun w' => w'.cell? ⟨b5, 1, none⟩ = some (.int .i64 n)) [] (by kernel_rfl) c1e (fun hS => ?_)
  try dsimp only at hS
  refine wpAnyG_tk (i := 0) (v := ?v0_1rtF) rfl (Or.inl ⟨by rfl, ?a_⟩) hS ?b_
  case a_ => intro w hSw; (try dsimp only at hSw); go_simp; (try with_reducible rfl)
  case b_ =>
  try simp only [nz0, nz1, nz2, Act.put, nz3, nz4, nz5]
  refine wpAnyG_tk (i := 1) (v := ?v1_2rtF) rfl (Or.inl ⟨by rfl, ?a_⟩) hS ?b_
  case a_ => intro w hSw; (try dsimp only at hSw); go_simp; (try with_reducible rfl)
  case b_ =>
  try simp only [nz0, nz1, nz2, Act.put, nz3, nz4, nz5]
  refine wpAnyG_tk (i := 2) (v := ?v2_3rtF) rfl (Or.inl ⟨by rfl, ?a_⟩) hS ?b_
  case a_ => intro w hSw; (try dsimp only at hSw); go_simp; (try with_reducible rfl)
  case b_ =>
  try simp only [nz0, nz1, nz2, Act.put, nz3, nz4, nz5]
  refine wpAnyG_tk (i := 5) (v := ?v5_4rtF) rfl (Or.inl ⟨by rfl, ?a_⟩) hS ?b_
  case a_ => intro w hSw; (try dsimp only at hSw); go_simp; (try with_reducible rfl)
  case b_ =>
  try simp only [nz0, nz1, nz2, Act.put, nz3, nz4, nz5]
  refine wpAnyG_tk (i := 6) (v := ?v6_5rtF) rfl (Or.inl ⟨by rfl, ?a_⟩) hS ?b_
  case a_ => intro w hSw; (try dsimp only at hSw); go_simp; (try with_reducible rfl)
  case b_ =>
  try simp only [nz0, nz1, nz2, Act.put, nz3, nz4, nz5]
  refine wpAnyG_tk (i := 7) (v := ?v7_6rtF) rfl (Or.inl ⟨by rfl, ?a_⟩) hS ?b_
  case a_ => intro w hSw; (try dsimp only at hSw); go_simp; (try with_reducible rfl)
  case b_ =>
  try simp only [nz0, nz1, nz2, Act.put, nz3, nz4, nz5]
  refine wpAnyG_one (i := 3) (by kernel_rfl) rfl (fun K hK => ?_)
  go_simp
  refine Calls.mono (HB25.out _) ?_
  rintro r3 w3 ⟨rfl, rfl⟩
  refine hK.out _ _ (fun _ => ?hS7rtF) ?rest7rtF
  case hS7rtF => exact c1e
  clear K hK
  try simp only [nz0, nz1, nz2, Act.put, nz3, nz4, nz5]
  refine wpAnyG_one (i := 4) (by kernel_rfl) rfl (fun K hK => ?_)
  go_simp
  have hP := pto_any (who := n % 25) (H2.out.sw2) (by have := HX.out.2.2.2.2.1; omega)
  refine Calls.mono hP ?_
  clear hP
  rintro r4 w4 ⟨v4, rfl, h4⟩
  have c1f := (h4.sw3).cell HX.out.2.2.2.2.2.2.2.1
  refine hK.out _ _ (fun _ => ?hS8rtF) ?rest8rtF
  case hS8rtF => exact c1f
  clear K hK
  try simp only [nz0, nz1, nz2, Act.put, nz3, nz4, nz5]
  refine wpAnyG_one (i := 8) (by kernel_rfl) rfl (fun K hK => ?_)
  go_simp
  refine Calls.mono (HB25.out _) ?_
  rintro r8 w8 ⟨rfl, rfl⟩
  refine hK.out _ _ (fun _ => ?hS9rtF) ?rest9rtF
  case hS9rtF => exact c1f
  clear K hK
  try simp only [nz0, nz1, nz2, Act.put, nz3, nz4, nz5]
  refine wpAnyG_one (i := 9) (by kernel_rfl) rfl (fun K hK => ?_)
  go_simp
  have hD := dto_any (gs := hs) (who := n % 25) (h4.sw4) (by rw [← HX.out.2.1.1]; have := HX.out.2.2.2.2.1; omega)
  refine Calls.mono hD ?_
  clear hD
  rintro r9 w9 ⟨v9, rfl, h9⟩
  have c1g := (h9.sw5).cell HX.out.2.2.2.2.2.2.2.1
  obtain ⟨a4, k4, rfl⟩ := (h9.sw3).sl.len
  obtain ⟨a9, k9, rfl⟩ := h9.sl.len
  refine hK.out _ _ (fun _ => ?hS10rtF) ?rest10rtF
  case hS10rtF => exact c1g
  clear K hK
  try simp only [nz0, nz1, nz2, Act.put, nz3, nz4, nz5]
  refine wpAnyG_one (i := 10) (by kernel_rfl) rfl (fun K hK => ?_)
  go_simp
  have hE := eqInts_sep _ _ (ivN (tosG gs (n % 25))) (ivN (tosG hs (n % 25))) h9 (h9.sw3).sl h9.sl (by unfold ivN tosG; rw [List.length_map]; have := posF_le (toG (gs.map (·.t)) (n % 25)) gs.length; have := HX.out.2.2.2.2.1; omega)
  rw [show (ivN (tosG gs (n % 25)) == ivN (tosG hs (n % 25))) = true by rw [tosG_same HX.out.2.1]; exact beq_self_eq_true _] at hE
  refine Calls.mono hE ?_
  clear hE
  rintro r10 w10 ⟨rfl, h10⟩
  have c1h := (h10.sw5).cell HX.out.2.2.2.2.2.2.2.1
  refine hK.out _ _ (fun _ => ?hS11rtF) ?rest11rtF
  case hS11rtF => exact c1h
  clear K hK
  try simp only [nz0, nz1, nz2, Act.put, nz3, nz4, nz5]
  refine wpAnyG_tk (i := 11) (v := ?v11_12rtF) rfl (Or.inl ⟨by rfl, ?a_⟩) c1h ?b_
  case a_ => intro w hSw; (try dsimp only at hSw); go_simp; (try with_reducible rfl)
  case b_ =>
  try simp only [nz0, nz1, nz2, Act.put, nz3, nz4, nz5]
  refine wpAnyG_done (by kernel_rfl) ?_ _
  try simp only [nz0, nz1, nz2, Act.put, nz3, nz4, nz5]
  have H5 : Hid (StepP w0 b b' gs.length L (.returned (.bool true)) w10) := Lib.hid ⟨rfl, gs, hs, by omega, HX.out.2.1, HX.out.2.2.1, HX.out.2.2.2.1, h10.pickL (M := [_, _, _, _, _]) [3, 1] rfl⟩
  clear h4 h9 h10 c1e c1f c1g c1h hS
  (try dsimp only); repeat' (first | go_values | go_skip | go_guarded | go_step | go_upon | go_back)
  go_ret
  exact H5.out
end Go.Proofs.YtcnbmeiielkigaaGreatDoor
