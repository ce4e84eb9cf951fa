/- One call of both disks: Trim and Cut. -/
import Derived.Test.YtpnafgkoijnplaaDiskStep
import Derived.Test.YtpnafgkoijnplaaHeldTill
import Derived.Deep.QuietTactic
import Derived.BigQuiet
namespace Go.Proofs.Ytpnafgkoijnplaa
open Go.RowKit
set_option linter.unusedVariables false
set_option linter.unusedSimpArgs false
set_option maxRecDepth 8000 in
set_option maxHeartbeats 4000000 in
theorem step_5_f {w0 w : World} {L : List Thing} {g m : Nat} (D : DS) (kind nn : Int) (a : Option Addr) (c : Nat) (l : List UInt8) (h : Sep w0 (DiskT g D :: RefT m D :: L) w) (hv : Sl w0 (.slice a l.length c) (bv l)) (hlc : l.length ≤ c) (hl : l.length ≤ 300) (hok : D.ok) (hkk : kind % 10 = 5) :
    Calls Try.prog 11 #[.pointer (some ⟨g, 0, none⟩), .pointer (some ⟨m, 0, none⟩), .agg #[.int .i64 kind, .int .i64 nn, .slice a l.length c, .bool false]] w fun e w' => e = .returned (.bool true) ∧ ∃ D', D'.ok ∧ Sep w0 (DiskT g D' :: RefT m D' :: L) w' := by
  have hbq : ∀ (k : Int) (wx : World), Sm k → Calls Try.prog 16 #[.int .i64 nn, .int .i64 k] wx fun e w' => e = .returned (.int .i64 (nn % k)) ∧ w' = wx := fun k wx hk => (bring_any nn k wx hk).mono fun _ _ h => ⟨h.1, h.2.symm⟩
  have HBQ := Lib.hid hbq
  have hbk : ∀ (wx : World), Calls Try.prog 16 #[.int .i64 kind, .int .i64 10] wx fun e w' => e = .returned (.int .i64 5) ∧ wx = w' := fun wx => by
    have := bring_any kind 10 wx (by unfold Sm; omega)
    rwa [hkk] at this
  have HBK := Lib.hid hbk
  have h1 := h.alloc (.cells #[.int .i64 kind, .int .i64 nn, .slice a l.length c, .bool false] 29)
  have H1 := Lib.hid h1
  have HV := Lib.hid hv
  have HLC := Lib.hid hlc
  have HLL := Lib.hid hl
  have HOK := Lib.hid hok
  obtain ⟨bx, hbx⟩ : ∃ x, x = w.heap.size := ⟨_, rfl⟩
  clear hbq hbk h h1 hv hlc hok hkk
  go_enter Try.func11, Try.ntmps11
  go_wp2_with fail
  refine (copy_sep _ l _ H1.out (HV.out.below H1.out.low) (by omega)).mono ?_
  rintro r0 w1 ⟨vin, rfl, h2⟩
  obtain ⟨ain, cin, rfl⟩ := h2.sl.len
  have hcin := h2.capOf
  rw [bv_length] at hcin h2 ⊢
  rw [← hbx] at h2 ⊢
  clear hbx
  have p0 := h2.sw2.cell (o := 0) rfl
  have p1 := h2.sw2.cell (o := 1) rfl
  have p2 := h2.sw2.cell (o := 2) rfl
  have p3 := h2.sw2.cell (o := 3) rfl
  have H2 := Lib.hid h2
  have HCI := Lib.hid hcin
  clear h2 hcin H1
  go_wp2_with fail
  go_quiet ((go_at_call 16; exact Calls.quiet_of_same (HBQ.out _ _ (by unfold Sm; omega))))
  go_wp2_with fail
  refine (HBK.out _).mono ?_
  rintro r0 w2 ⟨rfl, rfl⟩
  clear p0 p1 p2 p3
  obtain ⟨vj, v0, v1, h5⟩ := H2.out.sw4.openR
  obtain ⟨aj, cj, rfl⟩ := h5.sw2.sl.len
  rw [bv_length] at h5
  -- Cm, vj, v0, v1, In, Bx, D
  have H5 := Lib.hid h5.sw7
  have p0 := H5.out.sw7.cell (o := 0) rfl
  have p1 := H5.out.sw7.cell (o := 1) rfl
  have p2 := H5.out.sw7.cell (o := 2) rfl
  have p3 := H5.out.sw7.cell (o := 3) rfl
  have p4 := H5.out.sw2.cell (o := 0) rfl
  have HJ := Lib.hid HOK.out.1
  have HP := Lib.hid fun (wx : World) (X : List Thing) (hx : Sep w0 X wx) => part_sep kind nn (.slice a l.length c) false D.j.length hx HJ.out
  clear h5 H2
  go_wp2_with fail
  refine wp_region_G (fun w' => w'.cell? ⟨bx, 0, none⟩ = some (.int .i64 kind) ∧ w'.cell? ⟨bx, 1, none⟩ = some (.int .i64 nn) ∧ w'.cell? ⟨bx, 2, none⟩ = some (.slice a l.length c) ∧ w'.cell? ⟨bx, 3, none⟩ = some (.bool false) ∧ w'.cell? ⟨m, 0, none⟩ = some (.slice aj D.j.length cj)) [17, 18, 19] (by kernel_rfl) ⟨p0, p1, p2, p3, p4⟩ (fun hS => ?_)
  refine wpAnyG_take' (i := 0) (v := ?v0) rfl (by kernel_rfl) (by kernel_rfl) (by kernel_rfl) (by kernel_rfl) (fun _ _ _ h => h) (Or.inl ⟨by rfl, ?hy0⟩) hS ?rest0
  case hy0 => intro w hSw; (try dsimp only at hSw); go_simp; (try with_reducible rfl)
  case rest0 =>
  try simp only [Act.put, List.setIfInBounds_toArray, List.set_cons_zero, List.set_cons_succ]
  refine wpAnyG_take' (i := 1) (v := ?v1) rfl (by kernel_rfl) (by kernel_rfl) (by kernel_rfl) (by kernel_rfl) (fun _ _ _ h => h) (Or.inl ⟨by rfl, ?hy1⟩) hS ?rest1
  case hy1 => intro w hSw; (try dsimp only at hSw); go_simp; (try with_reducible rfl)
  case rest1 =>
  try simp only [Act.put, List.setIfInBounds_toArray, List.set_cons_zero, List.set_cons_succ]
  refine wpAnyG_take' (i := 2) (v := ?v2) rfl (by kernel_rfl) (by kernel_rfl) (by kernel_rfl) (by kernel_rfl) (fun _ _ _ h => h) (Or.inl ⟨by rfl, ?hy2⟩) hS ?rest2
  case hy2 => intro w hSw; (try dsimp only at hSw); go_simp; (try with_reducible rfl)
  case rest2 =>
  try simp only [Act.put, List.setIfInBounds_toArray, List.set_cons_zero, List.set_cons_succ]
  refine wpAnyG_take' (i := 3) (v := ?v3) rfl (by kernel_rfl) (by kernel_rfl) (by kernel_rfl) (by kernel_rfl) (fun _ _ _ h => h) (Or.inl ⟨by rfl, ?hy3⟩) hS ?rest3
  case hy3 => intro w hSw; (try dsimp only at hSw); go_simp; (try with_reducible rfl)
  case rest3 =>
  try simp only [Act.put, List.setIfInBounds_toArray, List.set_cons_zero, List.set_cons_succ]
  refine wpAnyG_take' (i := 4) (v := ?v4) rfl (by kernel_rfl) (by kernel_rfl) (by kernel_rfl) (by kernel_rfl) (fun _ _ _ h => h) (Or.inl ⟨by rfl, ?hy4⟩) hS ?rest4
  case hy4 => intro w hSw; (try dsimp only at hSw); go_simp; (try with_reducible rfl)
  case rest4 =>
  try simp only [Act.put, List.setIfInBounds_toArray, List.set_cons_zero, List.set_cons_succ]
  refine wpAnyG_take' (i := 5) (v := ?v5) rfl (by kernel_rfl) (by kernel_rfl) (by kernel_rfl) (by kernel_rfl) (fun _ _ _ h => h) (Or.inl ⟨by rfl, ?hy5⟩) hS ?rest5
  case hy5 => intro w hSw; (try dsimp only at hSw); go_simp; (try with_reducible rfl)
  case rest5 =>
  try simp only [Act.put, List.setIfInBounds_toArray, List.set_cons_zero, List.set_cons_succ]
  refine wpAnyG_take' (i := 6) (v := ?v6) rfl (by kernel_rfl) (by kernel_rfl) (by kernel_rfl) (by kernel_rfl) (fun _ _ _ h => h) (Or.inl ⟨by rfl, ?hy6⟩) hS ?rest6
  case hy6 => intro w hSw; (try dsimp only at hSw); go_simp; (try with_reducible rfl)
  case rest6 =>
  try simp only [Act.put, List.setIfInBounds_toArray, List.set_cons_zero, List.set_cons_succ]
  refine wpAnyG_take' (i := 9) (v := ?v9) rfl (by kernel_rfl) (by kernel_rfl) (by kernel_rfl) (by kernel_rfl) (fun _ _ _ h => h) (Or.inl ⟨by rfl, ?hy9⟩) hS ?rest9
  case hy9 => intro w hSw; (try dsimp only at hSw); go_simp; (try with_reducible rfl)
  case rest9 =>
  try simp only [Act.put, List.setIfInBounds_toArray, List.set_cons_zero, List.set_cons_succ]
  refine wpAnyG_take' (i := 10) (v := ?v10) rfl (by kernel_rfl) (by kernel_rfl) (by kernel_rfl) (by kernel_rfl) (fun _ _ _ h => h) (Or.inl ⟨by rfl, ?hy10⟩) hS ?rest10
  case hy10 => intro w hSw; (try dsimp only at hSw); go_simp; (try with_reducible rfl)
  case rest10 =>
  try simp only [Act.put, List.setIfInBounds_toArray, List.set_cons_zero, List.set_cons_succ]
  refine wpAnyG_take' (i := 11) (v := ?v11) rfl (by kernel_rfl) (by kernel_rfl) (by kernel_rfl) (by kernel_rfl) (fun _ _ _ h => h) (Or.inl ⟨by rfl, ?hy11⟩) hS ?rest11
  case hy11 => intro w hSw; (try dsimp only at hSw); go_simp; (try with_reducible rfl)
  case rest11 =>
  try simp only [Act.put, List.setIfInBounds_toArray, List.set_cons_zero, List.set_cons_succ]
  refine wpAnyG_take' (i := 12) (v := ?v12) rfl (by kernel_rfl) (by kernel_rfl) (by kernel_rfl) (by kernel_rfl) (fun _ _ _ h => h) (Or.inl ⟨by rfl, ?hy12⟩) hS ?rest12
  case hy12 => intro w hSw; (try dsimp only at hSw); go_simp; (try with_reducible rfl)
  case rest12 =>
  try simp only [Act.put, List.setIfInBounds_toArray, List.set_cons_zero, List.set_cons_succ]
  refine wpAnyG_take' (i := 13) (v := ?v13) rfl (by kernel_rfl) (by kernel_rfl) (by kernel_rfl) (by kernel_rfl) (fun _ _ _ h => h) (Or.inl ⟨by rfl, ?hy13⟩) hS ?rest13
  case hy13 => intro w hSw; (try dsimp only at hSw); go_simp; (try with_reducible rfl)
  case rest13 =>
  try simp only [Act.put, List.setIfInBounds_toArray, List.set_cons_zero, List.set_cons_succ]
  refine wpAnyG_take' (i := 14) (v := ?v14) rfl (by kernel_rfl) (by kernel_rfl) (by kernel_rfl) (by kernel_rfl) (fun _ _ _ h => h) (Or.inl ⟨by rfl, ?hy14⟩) hS ?rest14
  case hy14 => intro w hSw; (try dsimp only at hSw); go_simp; (try with_reducible rfl)
  case rest14 =>
  try simp only [Act.put, List.setIfInBounds_toArray, List.set_cons_zero, List.set_cons_succ]
  refine wpAnyG_take' (i := 15) (v := ?v15) rfl (by kernel_rfl) (by kernel_rfl) (by kernel_rfl) (by kernel_rfl) (fun _ _ _ h => h) (Or.inl ⟨by rfl, ?hy15⟩) hS ?rest15
  case hy15 => intro w hSw; (try dsimp only at hSw); go_simp; (try with_reducible rfl)
  case rest15 =>
  try simp only [Act.put, List.setIfInBounds_toArray, List.set_cons_zero, List.set_cons_succ]
  refine wpAnyG_one (i := 7) (by kernel_rfl) rfl (fun K hK => ?_)
  go_simp
  refine Calls.mono (HP.out _ _ (H5.out.drewN _)) ?_
  rintro r0 w6 ⟨rfl, h6⟩
  have q0 := h6.sw7.cell (o := 0) rfl; have q1 := h6.sw7.cell (o := 1) rfl; have q2 := h6.sw7.cell (o := 2) rfl; have q3 := h6.sw7.cell (o := 3) rfl; have q4 := h6.sw2.cell (o := 0) rfl; have H6 := Lib.hid h6; clear h6
  go_wp2_with fail
  try simp only [Act.put, List.setIfInBounds_toArray, List.set_cons_zero, List.set_cons_succ]
  refine hK.out _ _ (fun _ => ?hS7) ?rest7
  case hS7 => exact ⟨q0, q1, q2, q3, q4⟩
  refine wpAnyG_one (i := 8) (by kernel_rfl) rfl (fun K hK => ?_)
  go_simp
  refine Calls.mono (trim_any D _ H6.out HJ.out) ?_
  rintro r0 w7 ⟨rfl, h7⟩
  have r0 := h7.sw7.cell (o := 0) rfl; have r1 := h7.sw7.cell (o := 1) rfl; have r2 := h7.sw7.cell (o := 2) rfl; have r3 := h7.sw7.cell (o := 3) rfl; have r4 := h7.sw2.cell (o := 0) rfl; have H7 := Lib.hid h7; clear h7
  go_wp2_with fail
  try simp only [Act.put, List.setIfInBounds_toArray, List.set_cons_zero, List.set_cons_succ]
  refine hK.out _ _ (fun _ => ?hS8) ?rest8
  case hS8 => exact ⟨r0, r1, r2, r3, r4⟩
  refine wpAnyG_one (i := 16) (by kernel_rfl) rfl (fun K hK => ?_)
  go_simp
  refine Calls.mono (HP.out _ _ H7.out) ?_
  rintro r0 w8 ⟨rfl, h8⟩
  have s0 := h8.sw7.cell (o := 0) rfl; have s1 := h8.sw7.cell (o := 1) rfl; have s2 := h8.sw7.cell (o := 2) rfl; have s3 := h8.sw7.cell (o := 3) rfl; have s4 := h8.sw2.cell (o := 0) rfl; have H8 := Lib.hid h8; clear h8
  go_wp2_with fail
  try simp only [Act.put, List.setIfInBounds_toArray, List.set_cons_zero, List.set_cons_succ]
  refine hK.out _ _ (fun _ => ?hS16) ?rest16
  case hS16 => exact ⟨s0, s1, s2, s3, s4⟩
  refine wpAnyG_one (i := 17) (by kernel_rfl) rfl (fun K hK => ?_)
  go_simp
  refine Calls.mono (rtrim_any D _ (Sep.closeR D H8.out.to5) HJ.out) ?_
  rintro r0 w9 ⟨rfl, h9⟩
  have H9 := Lib.hid h9; clear h9
  go_wp2_with fail
  try simp only [Act.put, List.setIfInBounds_toArray, List.set_cons_zero, List.set_cons_succ]
  refine hK.out _ _ (fun hno => by cases hno) ?rest17
  clear p0 p1 p2 p3 p4 q0 q1 q2 q3 q4 r0 r1 r2 r3 r4 s0 s1 s2 s3 s4 hS K hK H5 H6 H7 H8
  refine wpAnyG_one (i := 18) (by kernel_rfl) rfl (fun K hK => ?_)
  go_simp
  refine hK.out _ _ (fun hno => by cases hno) ?_
  clear K hK
  try simp only [Act.put, List.setIfInBounds_toArray, List.set_cons_zero, List.set_cons_succ]
  refine wpAnyG_one (i := 19) (by kernel_rfl) rfl (fun K hK => ?_)
  go_simp
  refine hK.out _ _ (fun hno => by cases hno) ?_
  clear K hK
  try simp only [Act.put, List.setIfInBounds_toArray, List.set_cons_zero, List.set_cons_succ]
  refine wpAnyG_done (by kernel_rfl) ?_ _
  have HS : Hid (∃ xs, xs.length = l.length ∧ Bys xs ∧ Sep w0 (Rw 5 (.slice ain l.length cin) xs :: DiskT g (D.trim (partV false nn D.j.length)) :: RefT m (D.trim (partV false nn D.j.length)) :: L) _) := Lib.hid ⟨bv l, bv_length l, bys_bv l, H9.out.sw4.drop.sw3.sw3.sw2⟩
  clear H9
  have HOK1 : Hid ((D.trim (partV false nn D.j.length)).ok) := Lib.hid (HOK.out.trim (partV false nn D.j.length))
  generalize D.trim (partV false nn D.j.length) = D1 at *
  clear HOK HV HBQ HBK HLC
  go_wp2_with fail
  generalize l.length = nl at *
  go_loopw [11] (fun i wr => ∃ (k : Nat) (xs : List Value), k ≤ nl ∧ i = .int .i64 k ∧ xs.length = nl ∧ Bys xs ∧ Sep w0 (Rw 5 (.slice ain nl cin) xs :: DiskT g D1 :: RefT m D1 :: L) wr) (fun i _ => nl - (intOf i).toNat)
  case atStart => obtain ⟨xs, e1, e2, e3⟩ := HS.out; exact ⟨0, xs, by omega, rfl, e1, e2, e3⟩
  case round =>
    obtain ⟨k, xs, hk, rfl, hxl, hby, hs⟩ := hrel
    clear HS
    have hn := HLL.out
    by_cases hkn : k < nl
    · obtain ⟨b, c, hv, hc1, hc2, hcell, hfz, hset⟩ := hs.rowForm (by omega)
      rw [hxl] at hv hc1
      simp only [Value.slice.injEq, true_and] at hv
      obtain ⟨rfl, rfl⟩ := hv
      unfold maxLen at hc2
      obtain ⟨z, hz⟩ := hby.get k (by omega)
      have k0 := hcell k (by omega)
      rw [hz] at k0
      have k1 := hfz k
      have HS := Lib.hid (hset k (.int .u8 (bits BinOp.xor IntKind.u8 z 90)) (by omega))
      have HB := Lib.hid (hby.set k (bits BinOp.xor IntKind.u8 z 90))
      have HX := Lib.hid hxl
      have kk0 : (0 : Int) ≤ (k : Int) := by omega
      clear hs hcell hfz hset hby hz hxl
      go_wp2_with fail
      go_roundw
      case rel => exact ⟨k + 1, _, by omega, by go_num, by have := HX.out; simpa using this, HB.out, HS.out⟩
      case measure => simp [intOf]; omega
    · have HS := Lib.hid hs.drop
      clear hs hby hxl hn
      go_wp2_with fail
      go_ret
      exact ⟨rfl, D1, HOK1.out, HS.out⟩
set_option maxRecDepth 8000 in
set_option maxHeartbeats 4000000 in
theorem step_5_t {w0 w : World} {L : List Thing} {g m : Nat} (D : DS) (kind nn : Int) (a : Option Addr) (c : Nat) (l : List UInt8) (h : Sep w0 (DiskT g D :: RefT m D :: L) w) (hv : Sl w0 (.slice a l.length c) (bv l)) (hlc : l.length ≤ c) (hl : l.length ≤ 300) (hok : D.ok) (hkk : kind % 10 = 5) :
    Calls Try.prog 11 #[.pointer (some ⟨g, 0, none⟩), .pointer (some ⟨m, 0, none⟩), .agg #[.int .i64 kind, .int .i64 nn, .slice a l.length c, .bool true]] w fun e w' => e = .returned (.bool true) ∧ ∃ D', D'.ok ∧ Sep w0 (DiskT g D' :: RefT m D' :: L) w' := by
  have hbq : ∀ (k : Int) (wx : World), Sm k → Calls Try.prog 16 #[.int .i64 nn, .int .i64 k] wx fun e w' => e = .returned (.int .i64 (nn % k)) ∧ w' = wx := fun k wx hk => (bring_any nn k wx hk).mono fun _ _ h => ⟨h.1, h.2.symm⟩
  have HBQ := Lib.hid hbq
  have hbk : ∀ (wx : World), Calls Try.prog 16 #[.int .i64 kind, .int .i64 10] wx fun e w' => e = .returned (.int .i64 5) ∧ wx = w' := fun wx => by
    have := bring_any kind 10 wx (by unfold Sm; omega)
    rwa [hkk] at this
  have HBK := Lib.hid hbk
  have h1 := h.alloc (.cells #[.int .i64 kind, .int .i64 nn, .slice a l.length c, .bool true] 29)
  have H1 := Lib.hid h1
  have HV := Lib.hid hv
  have HLC := Lib.hid hlc
  have HLL := Lib.hid hl
  have HOK := Lib.hid hok
  obtain ⟨bx, hbx⟩ : ∃ x, x = w.heap.size := ⟨_, rfl⟩
  clear hbq hbk h h1 hv hlc hok hkk
  go_enter Try.func11, Try.ntmps11
  go_wp2_with fail
  refine (copy_sep _ l _ H1.out (HV.out.below H1.out.low) (by omega)).mono ?_
  rintro r0 w1 ⟨vin, rfl, h2⟩
  obtain ⟨ain, cin, rfl⟩ := h2.sl.len
  have hcin := h2.capOf
  rw [bv_length] at hcin h2 ⊢
  rw [← hbx] at h2 ⊢
  clear hbx
  have p0 := h2.sw2.cell (o := 0) rfl
  have p1 := h2.sw2.cell (o := 1) rfl
  have p2 := h2.sw2.cell (o := 2) rfl
  have p3 := h2.sw2.cell (o := 3) rfl
  have H2 := Lib.hid h2
  have HCI := Lib.hid hcin
  clear h2 hcin H1
  go_wp2_with fail
  go_quiet ((go_at_call 16; exact Calls.quiet_of_same (HBQ.out _ _ (by unfold Sm; omega))))
  go_wp2_with fail
  go_quiet (fail)
  go_wp2_with fail
  refine (HBK.out _).mono ?_
  rintro r0 w2 ⟨rfl, rfl⟩
  clear p0 p1 p2 p3
  obtain ⟨vj, v0, v1, h5⟩ := H2.out.sw4.openR
  obtain ⟨aj, cj, rfl⟩ := h5.sw2.sl.len
  rw [bv_length] at h5
  -- Cm, vj, v0, v1, In, Bx, D
  have H5 := Lib.hid h5.sw7
  have p0 := H5.out.sw7.cell (o := 0) rfl
  have p1 := H5.out.sw7.cell (o := 1) rfl
  have p2 := H5.out.sw7.cell (o := 2) rfl
  have p3 := H5.out.sw7.cell (o := 3) rfl
  have p4 := H5.out.sw2.cell (o := 0) rfl
  have HJ := Lib.hid HOK.out.1
  have HP := Lib.hid fun (wx : World) (X : List Thing) (hx : Sep w0 X wx) => part_sep kind nn (.slice a l.length c) true D.j.length hx HJ.out
  clear h5 H2
  go_wp2_with fail
  refine wp_region_G (fun w' => w'.cell? ⟨bx, 0, none⟩ = some (.int .i64 kind) ∧ w'.cell? ⟨bx, 1, none⟩ = some (.int .i64 nn) ∧ w'.cell? ⟨bx, 2, none⟩ = some (.slice a l.length c) ∧ w'.cell? ⟨bx, 3, none⟩ = some (.bool true) ∧ w'.cell? ⟨m, 0, none⟩ = some (.slice aj D.j.length cj)) [17, 18, 19] (by kernel_rfl) ⟨p0, p1, p2, p3, p4⟩ (fun hS => ?_)
  refine wpAnyG_take' (i := 0) (v := ?v0) rfl (by kernel_rfl) (by kernel_rfl) (by kernel_rfl) (by kernel_rfl) (fun _ _ _ h => h) (Or.inl ⟨by rfl, ?hy0⟩) hS ?rest0
  case hy0 => intro w hSw; (try dsimp only at hSw); go_simp; (try with_reducible rfl)
  case rest0 =>
  try simp only [Act.put, List.setIfInBounds_toArray, List.set_cons_zero, List.set_cons_succ]
  refine wpAnyG_take' (i := 1) (v := ?v1) rfl (by kernel_rfl) (by kernel_rfl) (by kernel_rfl) (by kernel_rfl) (fun _ _ _ h => h) (Or.inl ⟨by rfl, ?hy1⟩) hS ?rest1
  case hy1 => intro w hSw; (try dsimp only at hSw); go_simp; (try with_reducible rfl)
  case rest1 =>
  try simp only [Act.put, List.setIfInBounds_toArray, List.set_cons_zero, List.set_cons_succ]
  refine wpAnyG_take' (i := 2) (v := ?v2) rfl (by kernel_rfl) (by kernel_rfl) (by kernel_rfl) (by kernel_rfl) (fun _ _ _ h => h) (Or.inl ⟨by rfl, ?hy2⟩) hS ?rest2
  case hy2 => intro w hSw; (try dsimp only at hSw); go_simp; (try with_reducible rfl)
  case rest2 =>
  try simp only [Act.put, List.setIfInBounds_toArray, List.set_cons_zero, List.set_cons_succ]
  refine wpAnyG_take' (i := 3) (v := ?v3) rfl (by kernel_rfl) (by kernel_rfl) (by kernel_rfl) (by kernel_rfl) (fun _ _ _ h => h) (Or.inl ⟨by rfl, ?hy3⟩) hS ?rest3
  case hy3 => intro w hSw; (try dsimp only at hSw); go_simp; (try with_reducible rfl)
  case rest3 =>
  try simp only [Act.put, List.setIfInBounds_toArray, List.set_cons_zero, List.set_cons_succ]
  refine wpAnyG_take' (i := 4) (v := ?v4) rfl (by kernel_rfl) (by kernel_rfl) (by kernel_rfl) (by kernel_rfl) (fun _ _ _ h => h) (Or.inl ⟨by rfl, ?hy4⟩) hS ?rest4
  case hy4 => intro w hSw; (try dsimp only at hSw); go_simp; (try with_reducible rfl)
  case rest4 =>
  try simp only [Act.put, List.setIfInBounds_toArray, List.set_cons_zero, List.set_cons_succ]
  refine wpAnyG_take' (i := 5) (v := ?v5) rfl (by kernel_rfl) (by kernel_rfl) (by kernel_rfl) (by kernel_rfl) (fun _ _ _ h => h) (Or.inl ⟨by rfl, ?hy5⟩) hS ?rest5
  case hy5 => intro w hSw; (try dsimp only at hSw); go_simp; (try with_reducible rfl)
  case rest5 =>
  try simp only [Act.put, List.setIfInBounds_toArray, List.set_cons_zero, List.set_cons_succ]
  refine wpAnyG_take' (i := 6) (v := ?v6) rfl (by kernel_rfl) (by kernel_rfl) (by kernel_rfl) (by kernel_rfl) (fun _ _ _ h => h) (Or.inl ⟨by rfl, ?hy6⟩) hS ?rest6
  case hy6 => intro w hSw; (try dsimp only at hSw); go_simp; (try with_reducible rfl)
  case rest6 =>
  try simp only [Act.put, List.setIfInBounds_toArray, List.set_cons_zero, List.set_cons_succ]
  refine wpAnyG_take' (i := 9) (v := ?v9) rfl (by kernel_rfl) (by kernel_rfl) (by kernel_rfl) (by kernel_rfl) (fun _ _ _ h => h) (Or.inl ⟨by rfl, ?hy9⟩) hS ?rest9
  case hy9 => intro w hSw; (try dsimp only at hSw); go_simp; (try with_reducible rfl)
  case rest9 =>
  try simp only [Act.put, List.setIfInBounds_toArray, List.set_cons_zero, List.set_cons_succ]
  refine wpAnyG_take' (i := 10) (v := ?v10) rfl (by kernel_rfl) (by kernel_rfl) (by kernel_rfl) (by kernel_rfl) (fun _ _ _ h => h) (Or.inl ⟨by rfl, ?hy10⟩) hS ?rest10
  case hy10 => intro w hSw; (try dsimp only at hSw); go_simp; (try with_reducible rfl)
  case rest10 =>
  try simp only [Act.put, List.setIfInBounds_toArray, List.set_cons_zero, List.set_cons_succ]
  refine wpAnyG_take' (i := 11) (v := ?v11) rfl (by kernel_rfl) (by kernel_rfl) (by kernel_rfl) (by kernel_rfl) (fun _ _ _ h => h) (Or.inl ⟨by rfl, ?hy11⟩) hS ?rest11
  case hy11 => intro w hSw; (try dsimp only at hSw); go_simp; (try with_reducible rfl)
  case rest11 =>
  try simp only [Act.put, List.setIfInBounds_toArray, List.set_cons_zero, List.set_cons_succ]
  refine wpAnyG_take' (i := 12) (v := ?v12) rfl (by kernel_rfl) (by kernel_rfl) (by kernel_rfl) (by kernel_rfl) (fun _ _ _ h => h) (Or.inl ⟨by rfl, ?hy12⟩) hS ?rest12
  case hy12 => intro w hSw; (try dsimp only at hSw); go_simp; (try with_reducible rfl)
  case rest12 =>
  try simp only [Act.put, List.setIfInBounds_toArray, List.set_cons_zero, List.set_cons_succ]
  refine wpAnyG_take' (i := 13) (v := ?v13) rfl (by kernel_rfl) (by kernel_rfl) (by kernel_rfl) (by kernel_rfl) (fun _ _ _ h => h) (Or.inl ⟨by rfl, ?hy13⟩) hS ?rest13
  case hy13 => intro w hSw; (try dsimp only at hSw); go_simp; (try with_reducible rfl)
  case rest13 =>
  try simp only [Act.put, List.setIfInBounds_toArray, List.set_cons_zero, List.set_cons_succ]
  refine wpAnyG_take' (i := 14) (v := ?v14) rfl (by kernel_rfl) (by kernel_rfl) (by kernel_rfl) (by kernel_rfl) (fun _ _ _ h => h) (Or.inl ⟨by rfl, ?hy14⟩) hS ?rest14
  case hy14 => intro w hSw; (try dsimp only at hSw); go_simp; (try with_reducible rfl)
  case rest14 =>
  try simp only [Act.put, List.setIfInBounds_toArray, List.set_cons_zero, List.set_cons_succ]
  refine wpAnyG_take' (i := 15) (v := ?v15) rfl (by kernel_rfl) (by kernel_rfl) (by kernel_rfl) (by kernel_rfl) (fun _ _ _ h => h) (Or.inl ⟨by rfl, ?hy15⟩) hS ?rest15
  case hy15 => intro w hSw; (try dsimp only at hSw); go_simp; (try with_reducible rfl)
  case rest15 =>
  try simp only [Act.put, List.setIfInBounds_toArray, List.set_cons_zero, List.set_cons_succ]
  refine wpAnyG_one (i := 7) (by kernel_rfl) rfl (fun K hK => ?_)
  go_simp
  refine Calls.mono (HP.out _ _ (H5.out.drewN _)) ?_
  rintro r0 w6 ⟨rfl, h6⟩
  have q0 := h6.sw7.cell (o := 0) rfl; have q1 := h6.sw7.cell (o := 1) rfl; have q2 := h6.sw7.cell (o := 2) rfl; have q3 := h6.sw7.cell (o := 3) rfl; have q4 := h6.sw2.cell (o := 0) rfl; have H6 := Lib.hid h6; clear h6
  go_wp2_with fail
  try simp only [Act.put, List.setIfInBounds_toArray, List.set_cons_zero, List.set_cons_succ]
  refine hK.out _ _ (fun _ => ?hS7) ?rest7
  case hS7 => exact ⟨q0, q1, q2, q3, q4⟩
  refine wpAnyG_one (i := 8) (by kernel_rfl) rfl (fun K hK => ?_)
  go_simp
  refine Calls.mono (trim_any D _ H6.out HJ.out) ?_
  rintro r0 w7 ⟨rfl, h7⟩
  have r0 := h7.sw7.cell (o := 0) rfl; have r1 := h7.sw7.cell (o := 1) rfl; have r2 := h7.sw7.cell (o := 2) rfl; have r3 := h7.sw7.cell (o := 3) rfl; have r4 := h7.sw2.cell (o := 0) rfl; have H7 := Lib.hid h7; clear h7
  go_wp2_with fail
  try simp only [Act.put, List.setIfInBounds_toArray, List.set_cons_zero, List.set_cons_succ]
  refine hK.out _ _ (fun _ => ?hS8) ?rest8
  case hS8 => exact ⟨r0, r1, r2, r3, r4⟩
  refine wpAnyG_one (i := 16) (by kernel_rfl) rfl (fun K hK => ?_)
  go_simp
  refine Calls.mono (HP.out _ _ H7.out) ?_
  rintro r0 w8 ⟨rfl, h8⟩
  have s0 := h8.sw7.cell (o := 0) rfl; have s1 := h8.sw7.cell (o := 1) rfl; have s2 := h8.sw7.cell (o := 2) rfl; have s3 := h8.sw7.cell (o := 3) rfl; have s4 := h8.sw2.cell (o := 0) rfl; have H8 := Lib.hid h8; clear h8
  go_wp2_with fail
  try simp only [Act.put, List.setIfInBounds_toArray, List.set_cons_zero, List.set_cons_succ]
  refine hK.out _ _ (fun _ => ?hS16) ?rest16
  case hS16 => exact ⟨s0, s1, s2, s3, s4⟩
  refine wpAnyG_one (i := 17) (by kernel_rfl) rfl (fun K hK => ?_)
  go_simp
  refine Calls.mono (rtrim_any D _ (Sep.closeR D H8.out.to5) HJ.out) ?_
  rintro r0 w9 ⟨rfl, h9⟩
  have H9 := Lib.hid h9; clear h9
  go_wp2_with fail
  try simp only [Act.put, List.setIfInBounds_toArray, List.set_cons_zero, List.set_cons_succ]
  refine hK.out _ _ (fun hno => by cases hno) ?rest17
  clear p0 p1 p2 p3 p4 q0 q1 q2 q3 q4 r0 r1 r2 r3 r4 s0 s1 s2 s3 s4 hS K hK H5 H6 H7 H8
  refine wpAnyG_one (i := 18) (by kernel_rfl) rfl (fun K hK => ?_)
  go_simp
  refine hK.out _ _ (fun hno => by cases hno) ?_
  clear K hK
  try simp only [Act.put, List.setIfInBounds_toArray, List.set_cons_zero, List.set_cons_succ]
  refine wpAnyG_one (i := 19) (by kernel_rfl) rfl (fun K hK => ?_)
  go_simp
  refine hK.out _ _ (fun hno => by cases hno) ?_
  clear K hK
  try simp only [Act.put, List.setIfInBounds_toArray, List.set_cons_zero, List.set_cons_succ]
  refine wpAnyG_done (by kernel_rfl) ?_ _
  have HS : Hid (∃ xs, xs.length = l.length ∧ Bys xs ∧ Sep w0 (Rw 5 (.slice ain l.length cin) xs :: DiskT g (D.trim (partV true nn D.j.length)) :: RefT m (D.trim (partV true nn D.j.length)) :: L) _) := Lib.hid ⟨bv l, bv_length l, bys_bv l, H9.out.sw4.drop.sw3.sw3.sw2⟩
  clear H9
  have HOK1 : Hid ((D.trim (partV true nn D.j.length)).ok) := Lib.hid (HOK.out.trim (partV true nn D.j.length))
  generalize D.trim (partV true nn D.j.length) = D1 at *
  clear HOK HV HBQ HBK HLC
  go_wp2_with fail
  generalize l.length = nl at *
  go_loopw [11] (fun i wr => ∃ (k : Nat) (xs : List Value), k ≤ nl ∧ i = .int .i64 k ∧ xs.length = nl ∧ Bys xs ∧ Sep w0 (Rw 5 (.slice ain nl cin) xs :: DiskT g D1 :: RefT m D1 :: L) wr) (fun i _ => nl - (intOf i).toNat)
  case atStart => obtain ⟨xs, e1, e2, e3⟩ := HS.out; exact ⟨0, xs, by omega, rfl, e1, e2, e3⟩
  case round =>
    obtain ⟨k, xs, hk, rfl, hxl, hby, hs⟩ := hrel
    clear HS
    have hn := HLL.out
    by_cases hkn : k < nl
    · obtain ⟨b, c, hv, hc1, hc2, hcell, hfz, hset⟩ := hs.rowForm (by omega)
      rw [hxl] at hv hc1
      simp only [Value.slice.injEq, true_and] at hv
      obtain ⟨rfl, rfl⟩ := hv
      unfold maxLen at hc2
      obtain ⟨z, hz⟩ := hby.get k (by omega)
      have k0 := hcell k (by omega)
      rw [hz] at k0
      have k1 := hfz k
      have HS := Lib.hid (hset k (.int .u8 (bits BinOp.xor IntKind.u8 z 90)) (by omega))
      have HB := Lib.hid (hby.set k (bits BinOp.xor IntKind.u8 z 90))
      have HX := Lib.hid hxl
      have kk0 : (0 : Int) ≤ (k : Int) := by omega
      clear hs hcell hfz hset hby hz hxl
      go_wp2_with fail
      go_roundw
      case rel => exact ⟨k + 1, _, by omega, by go_num, by have := HX.out; simpa using this, HB.out, HS.out⟩
      case measure => simp [intOf]; omega
    · have HS := Lib.hid hs.drop
      clear hs hby hxl hn
      go_wp2_with fail
      go_ret
      exact ⟨rfl, D1, HOK1.out, HS.out⟩
set_option maxRecDepth 8000 in
set_option maxHeartbeats 4000000 in
theorem step_6_f {w0 w : World} {L : List Thing} {g m : Nat} (D : DS) (kind nn : Int) (a : Option Addr) (c : Nat) (l : List UInt8) (h : Sep w0 (DiskT g D :: RefT m D :: L) w) (hv : Sl w0 (.slice a l.length c) (bv l)) (hlc : l.length ≤ c) (hl : l.length ≤ 300) (hok : D.ok) (hkk : kind % 10 = 6) :
    Calls Try.prog 11 #[.pointer (some ⟨g, 0, none⟩), .pointer (some ⟨m, 0, none⟩), .agg #[.int .i64 kind, .int .i64 nn, .slice a l.length c, .bool false]] w fun e w' => e = .returned (.bool true) ∧ ∃ D', D'.ok ∧ Sep w0 (DiskT g D' :: RefT m D' :: L) w' := by
  have hbq : ∀ (k : Int) (wx : World), Sm k → Calls Try.prog 16 #[.int .i64 nn, .int .i64 k] wx fun e w' => e = .returned (.int .i64 (nn % k)) ∧ w' = wx := fun k wx hk => (bring_any nn k wx hk).mono fun _ _ h => ⟨h.1, h.2.symm⟩
  have HBQ := Lib.hid hbq
  have hbk : ∀ (wx : World), Calls Try.prog 16 #[.int .i64 kind, .int .i64 10] wx fun e w' => e = .returned (.int .i64 6) ∧ wx = w' := fun wx => by
    have := bring_any kind 10 wx (by unfold Sm; omega)
    rwa [hkk] at this
  have HBK := Lib.hid hbk
  have h1 := h.alloc (.cells #[.int .i64 kind, .int .i64 nn, .slice a l.length c, .bool false] 29)
  have H1 := Lib.hid h1
  have HV := Lib.hid hv
  have HLC := Lib.hid hlc
  have HLL := Lib.hid hl
  have HOK := Lib.hid hok
  obtain ⟨bx, hbx⟩ : ∃ x, x = w.heap.size := ⟨_, rfl⟩
  clear hbq hbk h h1 hv hlc hok hkk
  go_enter Try.func11, Try.ntmps11
  go_wp2_with fail
  refine (copy_sep _ l _ H1.out (HV.out.below H1.out.low) (by omega)).mono ?_
  rintro r0 w1 ⟨vin, rfl, h2⟩
  obtain ⟨ain, cin, rfl⟩ := h2.sl.len
  have hcin := h2.capOf
  rw [bv_length] at hcin h2 ⊢
  rw [← hbx] at h2 ⊢
  clear hbx
  have p0 := h2.sw2.cell (o := 0) rfl
  have p1 := h2.sw2.cell (o := 1) rfl
  have p2 := h2.sw2.cell (o := 2) rfl
  have p3 := h2.sw2.cell (o := 3) rfl
  have H2 := Lib.hid h2
  have HCI := Lib.hid hcin
  clear h2 hcin H1
  go_wp2_with fail
  go_quiet ((go_at_call 16; exact Calls.quiet_of_same (HBQ.out _ _ (by unfold Sm; omega))))
  go_wp2_with fail
  refine (HBK.out _).mono ?_
  rintro r0 w2 ⟨rfl, rfl⟩
  clear p0 p1 p2 p3
  obtain ⟨vj, v0, v1, h5⟩ := H2.out.sw4.openR
  obtain ⟨aj, cj, rfl⟩ := h5.sw2.sl.len
  rw [bv_length] at h5
  -- Cm, vj, v0, v1, In, Bx, D
  have H5 := Lib.hid h5.sw7
  have p0 := H5.out.sw7.cell (o := 0) rfl
  have p1 := H5.out.sw7.cell (o := 1) rfl
  have p2 := H5.out.sw7.cell (o := 2) rfl
  have p3 := H5.out.sw7.cell (o := 3) rfl
  have p4 := H5.out.sw2.cell (o := 0) rfl
  have HJ := Lib.hid HOK.out.1
  have HP := Lib.hid fun (wx : World) (X : List Thing) (hx : Sep w0 X wx) => part_sep kind nn (.slice a l.length c) false D.j.length hx HJ.out
  clear h5 H2
  go_wp2_with fail
  refine wp_region_G (fun w' => w'.cell? ⟨bx, 0, none⟩ = some (.int .i64 kind) ∧ w'.cell? ⟨bx, 1, none⟩ = some (.int .i64 nn) ∧ w'.cell? ⟨bx, 2, none⟩ = some (.slice a l.length c) ∧ w'.cell? ⟨bx, 3, none⟩ = some (.bool false) ∧ w'.cell? ⟨m, 0, none⟩ = some (.slice aj D.j.length cj)) [17, 18, 19] (by kernel_rfl) ⟨p0, p1, p2, p3, p4⟩ (fun hS => ?_)
  refine wpAnyG_take' (i := 0) (v := ?v0) rfl (by kernel_rfl) (by kernel_rfl) (by kernel_rfl) (by kernel_rfl) (fun _ _ _ h => h) (Or.inl ⟨by rfl, ?hy0⟩) hS ?rest0
  case hy0 => intro w hSw; (try dsimp only at hSw); go_simp; (try with_reducible rfl)
  case rest0 =>
  try simp only [Act.put, List.setIfInBounds_toArray, List.set_cons_zero, List.set_cons_succ]
  refine wpAnyG_take' (i := 1) (v := ?v1) rfl (by kernel_rfl) (by kernel_rfl) (by kernel_rfl) (by kernel_rfl) (fun _ _ _ h => h) (Or.inl ⟨by rfl, ?hy1⟩) hS ?rest1
  case hy1 => intro w hSw; (try dsimp only at hSw); go_simp; (try with_reducible rfl)
  case rest1 =>
  try simp only [Act.put, List.setIfInBounds_toArray, List.set_cons_zero, List.set_cons_succ]
  refine wpAnyG_take' (i := 2) (v := ?v2) rfl (by kernel_rfl) (by kernel_rfl) (by kernel_rfl) (by kernel_rfl) (fun _ _ _ h => h) (Or.inl ⟨by rfl, ?hy2⟩) hS ?rest2
  case hy2 => intro w hSw; (try dsimp only at hSw); go_simp; (try with_reducible rfl)
  case rest2 =>
  try simp only [Act.put, List.setIfInBounds_toArray, List.set_cons_zero, List.set_cons_succ]
  refine wpAnyG_take' (i := 3) (v := ?v3) rfl (by kernel_rfl) (by kernel_rfl) (by kernel_rfl) (by kernel_rfl) (fun _ _ _ h => h) (Or.inl ⟨by rfl, ?hy3⟩) hS ?rest3
  case hy3 => intro w hSw; (try dsimp only at hSw); go_simp; (try with_reducible rfl)
  case rest3 =>
  try simp only [Act.put, List.setIfInBounds_toArray, List.set_cons_zero, List.set_cons_succ]
  refine wpAnyG_take' (i := 4) (v := ?v4) rfl (by kernel_rfl) (by kernel_rfl) (by kernel_rfl) (by kernel_rfl) (fun _ _ _ h => h) (Or.inl ⟨by rfl, ?hy4⟩) hS ?rest4
  case hy4 => intro w hSw; (try dsimp only at hSw); go_simp; (try with_reducible rfl)
  case rest4 =>
  try simp only [Act.put, List.setIfInBounds_toArray, List.set_cons_zero, List.set_cons_succ]
  refine wpAnyG_take' (i := 5) (v := ?v5) rfl (by kernel_rfl) (by kernel_rfl) (by kernel_rfl) (by kernel_rfl) (fun _ _ _ h => h) (Or.inl ⟨by rfl, ?hy5⟩) hS ?rest5
  case hy5 => intro w hSw; (try dsimp only at hSw); go_simp; (try with_reducible rfl)
  case rest5 =>
  try simp only [Act.put, List.setIfInBounds_toArray, List.set_cons_zero, List.set_cons_succ]
  refine wpAnyG_take' (i := 6) (v := ?v6) rfl (by kernel_rfl) (by kernel_rfl) (by kernel_rfl) (by kernel_rfl) (fun _ _ _ h => h) (Or.inl ⟨by rfl, ?hy6⟩) hS ?rest6
  case hy6 => intro w hSw; (try dsimp only at hSw); go_simp; (try with_reducible rfl)
  case rest6 =>
  try simp only [Act.put, List.setIfInBounds_toArray, List.set_cons_zero, List.set_cons_succ]
  refine wpAnyG_take' (i := 9) (v := ?v9) rfl (by kernel_rfl) (by kernel_rfl) (by kernel_rfl) (by kernel_rfl) (fun _ _ _ h => h) (Or.inl ⟨by rfl, ?hy9⟩) hS ?rest9
  case hy9 => intro w hSw; (try dsimp only at hSw); go_simp; (try with_reducible rfl)
  case rest9 =>
  try simp only [Act.put, List.setIfInBounds_toArray, List.set_cons_zero, List.set_cons_succ]
  refine wpAnyG_take' (i := 10) (v := ?v10) rfl (by kernel_rfl) (by kernel_rfl) (by kernel_rfl) (by kernel_rfl) (fun _ _ _ h => h) (Or.inl ⟨by rfl, ?hy10⟩) hS ?rest10
  case hy10 => intro w hSw; (try dsimp only at hSw); go_simp; (try with_reducible rfl)
  case rest10 =>
  try simp only [Act.put, List.setIfInBounds_toArray, List.set_cons_zero, List.set_cons_succ]
  refine wpAnyG_take' (i := 11) (v := ?v11) rfl (by kernel_rfl) (by kernel_rfl) (by kernel_rfl) (by kernel_rfl) (fun _ _ _ h => h) (Or.inl ⟨by rfl, ?hy11⟩) hS ?rest11
  case hy11 => intro w hSw; (try dsimp only at hSw); go_simp; (try with_reducible rfl)
  case rest11 =>
  try simp only [Act.put, List.setIfInBounds_toArray, List.set_cons_zero, List.set_cons_succ]
  refine wpAnyG_take' (i := 12) (v := ?v12) rfl (by kernel_rfl) (by kernel_rfl) (by kernel_rfl) (by kernel_rfl) (fun _ _ _ h => h) (Or.inl ⟨by rfl, ?hy12⟩) hS ?rest12
  case hy12 => intro w hSw; (try dsimp only at hSw); go_simp; (try with_reducible rfl)
  case rest12 =>
  try simp only [Act.put, List.setIfInBounds_toArray, List.set_cons_zero, List.set_cons_succ]
  refine wpAnyG_take' (i := 13) (v := ?v13) rfl (by kernel_rfl) (by kernel_rfl) (by kernel_rfl) (by kernel_rfl) (fun _ _ _ h => h) (Or.inl ⟨by rfl, ?hy13⟩) hS ?rest13
  case hy13 => intro w hSw; (try dsimp only at hSw); go_simp; (try with_reducible rfl)
  case rest13 =>
  try simp only [Act.put, List.setIfInBounds_toArray, List.set_cons_zero, List.set_cons_succ]
  refine wpAnyG_take' (i := 14) (v := ?v14) rfl (by kernel_rfl) (by kernel_rfl) (by kernel_rfl) (by kernel_rfl) (fun _ _ _ h => h) (Or.inl ⟨by rfl, ?hy14⟩) hS ?rest14
  case hy14 => intro w hSw; (try dsimp only at hSw); go_simp; (try with_reducible rfl)
  case rest14 =>
  try simp only [Act.put, List.setIfInBounds_toArray, List.set_cons_zero, List.set_cons_succ]
  refine wpAnyG_take' (i := 15) (v := ?v15) rfl (by kernel_rfl) (by kernel_rfl) (by kernel_rfl) (by kernel_rfl) (fun _ _ _ h => h) (Or.inl ⟨by rfl, ?hy15⟩) hS ?rest15
  case hy15 => intro w hSw; (try dsimp only at hSw); go_simp; (try with_reducible rfl)
  case rest15 =>
  try simp only [Act.put, List.setIfInBounds_toArray, List.set_cons_zero, List.set_cons_succ]
  refine wpAnyG_one (i := 7) (by kernel_rfl) rfl (fun K hK => ?_)
  go_simp
  refine Calls.mono (HP.out _ _ (H5.out.drewN _)) ?_
  rintro r0 w6 ⟨rfl, h6⟩
  have q0 := h6.sw7.cell (o := 0) rfl; have q1 := h6.sw7.cell (o := 1) rfl; have q2 := h6.sw7.cell (o := 2) rfl; have q3 := h6.sw7.cell (o := 3) rfl; have q4 := h6.sw2.cell (o := 0) rfl; have H6 := Lib.hid h6; clear h6
  go_wp2_with fail
  try simp only [Act.put, List.setIfInBounds_toArray, List.set_cons_zero, List.set_cons_succ]
  refine hK.out _ _ (fun _ => ?hS7) ?rest7
  case hS7 => exact ⟨q0, q1, q2, q3, q4⟩
  refine wpAnyG_one (i := 8) (by kernel_rfl) rfl (fun K hK => ?_)
  go_simp
  refine Calls.mono (cut_any D _ H6.out HJ.out) ?_
  rintro r0 w7 ⟨rfl, h7⟩
  have r0 := h7.sw7.cell (o := 0) rfl; have r1 := h7.sw7.cell (o := 1) rfl; have r2 := h7.sw7.cell (o := 2) rfl; have r3 := h7.sw7.cell (o := 3) rfl; have r4 := h7.sw2.cell (o := 0) rfl; have H7 := Lib.hid h7; clear h7
  go_wp2_with fail
  try simp only [Act.put, List.setIfInBounds_toArray, List.set_cons_zero, List.set_cons_succ]
  refine hK.out _ _ (fun _ => ?hS8) ?rest8
  case hS8 => exact ⟨r0, r1, r2, r3, r4⟩
  refine wpAnyG_one (i := 16) (by kernel_rfl) rfl (fun K hK => ?_)
  go_simp
  refine Calls.mono (HP.out _ _ H7.out) ?_
  rintro r0 w8 ⟨rfl, h8⟩
  have s0 := h8.sw7.cell (o := 0) rfl; have s1 := h8.sw7.cell (o := 1) rfl; have s2 := h8.sw7.cell (o := 2) rfl; have s3 := h8.sw7.cell (o := 3) rfl; have s4 := h8.sw2.cell (o := 0) rfl; have H8 := Lib.hid h8; clear h8
  go_wp2_with fail
  try simp only [Act.put, List.setIfInBounds_toArray, List.set_cons_zero, List.set_cons_succ]
  refine hK.out _ _ (fun _ => ?hS16) ?rest16
  case hS16 => exact ⟨s0, s1, s2, s3, s4⟩
  refine wpAnyG_one (i := 17) (by kernel_rfl) rfl (fun K hK => ?_)
  go_simp
  refine Calls.mono (rcut_any D _ (Sep.closeR D H8.out.to5) HJ.out) ?_
  rintro r0 w9 ⟨rfl, h9⟩
  have H9 := Lib.hid h9; clear h9
  go_wp2_with fail
  try simp only [Act.put, List.setIfInBounds_toArray, List.set_cons_zero, List.set_cons_succ]
  refine hK.out _ _ (fun hno => by cases hno) ?rest17
  clear p0 p1 p2 p3 p4 q0 q1 q2 q3 q4 r0 r1 r2 r3 r4 s0 s1 s2 s3 s4 hS K hK H5 H6 H7 H8
  refine wpAnyG_one (i := 18) (by kernel_rfl) rfl (fun K hK => ?_)
  go_simp
  refine hK.out _ _ (fun hno => by cases hno) ?_
  clear K hK
  try simp only [Act.put, List.setIfInBounds_toArray, List.set_cons_zero, List.set_cons_succ]
  refine wpAnyG_one (i := 19) (by kernel_rfl) rfl (fun K hK => ?_)
  go_simp
  refine hK.out _ _ (fun hno => by cases hno) ?_
  clear K hK
  try simp only [Act.put, List.setIfInBounds_toArray, List.set_cons_zero, List.set_cons_succ]
  refine wpAnyG_done (by kernel_rfl) ?_ _
  have HS : Hid (∃ xs, xs.length = l.length ∧ Bys xs ∧ Sep w0 (Rw 5 (.slice ain l.length cin) xs :: DiskT g (D.cut (partV false nn D.j.length)) :: RefT m (D.cut (partV false nn D.j.length)) :: L) _) := Lib.hid ⟨bv l, bv_length l, bys_bv l, H9.out.sw4.drop.sw3.sw3.sw2⟩
  clear H9
  have HOK1 : Hid ((D.cut (partV false nn D.j.length)).ok) := Lib.hid (HOK.out.cut (partV false nn D.j.length))
  generalize D.cut (partV false nn D.j.length) = D1 at *
  clear HOK HV HBQ HBK HLC
  go_wp2_with fail
  generalize l.length = nl at *
  go_loopw [11] (fun i wr => ∃ (k : Nat) (xs : List Value), k ≤ nl ∧ i = .int .i64 k ∧ xs.length = nl ∧ Bys xs ∧ Sep w0 (Rw 5 (.slice ain nl cin) xs :: DiskT g D1 :: RefT m D1 :: L) wr) (fun i _ => nl - (intOf i).toNat)
  case atStart => obtain ⟨xs, e1, e2, e3⟩ := HS.out; exact ⟨0, xs, by omega, rfl, e1, e2, e3⟩
  case round =>
    obtain ⟨k, xs, hk, rfl, hxl, hby, hs⟩ := hrel
    clear HS
    have hn := HLL.out
    by_cases hkn : k < nl
    · obtain ⟨b, c, hv, hc1, hc2, hcell, hfz, hset⟩ := hs.rowForm (by omega)
      rw [hxl] at hv hc1
      simp only [Value.slice.injEq, true_and] at hv
      obtain ⟨rfl, rfl⟩ := hv
      unfold maxLen at hc2
      obtain ⟨z, hz⟩ := hby.get k (by omega)
      have k0 := hcell k (by omega)
      rw [hz] at k0
      have k1 := hfz k
      have HS := Lib.hid (hset k (.int .u8 (bits BinOp.xor IntKind.u8 z 90)) (by omega))
      have HB := Lib.hid (hby.set k (bits BinOp.xor IntKind.u8 z 90))
      have HX := Lib.hid hxl
      have kk0 : (0 : Int) ≤ (k : Int) := by omega
      clear hs hcell hfz hset hby hz hxl
      go_wp2_with fail
      go_roundw
      case rel => exact ⟨k + 1, _, by omega, by go_num, by have := HX.out; simpa using this, HB.out, HS.out⟩
      case measure => simp [intOf]; omega
    · have HS := Lib.hid hs.drop
      clear hs hby hxl hn
      go_wp2_with fail
      go_ret
      exact ⟨rfl, D1, HOK1.out, HS.out⟩
set_option maxRecDepth 8000 in
set_option maxHeartbeats 4000000 in
theorem step_6_t {w0 w : World} {L : List Thing} {g m : Nat} (D : DS) (kind nn : Int) (a : Option Addr) (c : Nat) (l : List UInt8) (h : Sep w0 (DiskT g D :: RefT m D :: L) w) (hv : Sl w0 (.slice a l.length c) (bv l)) (hlc : l.length ≤ c) (hl : l.length ≤ 300) (hok : D.ok) (hkk : kind % 10 = 6) :
    Calls Try.prog 11 #[.pointer (some ⟨g, 0, none⟩), .pointer (some ⟨m, 0, none⟩), .agg #[.int .i64 kind, .int .i64 nn, .slice a l.length c, .bool true]] w fun e w' => e = .returned (.bool true) ∧ ∃ D', D'.ok ∧ Sep w0 (DiskT g D' :: RefT m D' :: L) w' := by
  have hbq : ∀ (k : Int) (wx : World), Sm k → Calls Try.prog 16 #[.int .i64 nn, .int .i64 k] wx fun e w' => e = .returned (.int .i64 (nn % k)) ∧ w' = wx := fun k wx hk => (bring_any nn k wx hk).mono fun _ _ h => ⟨h.1, h.2.symm⟩
  have HBQ := Lib.hid hbq
  have hbk : ∀ (wx : World), Calls Try.prog 16 #[.int .i64 kind, .int .i64 10] wx fun e w' => e = .returned (.int .i64 6) ∧ wx = w' := fun wx => by
    have := bring_any kind 10 wx (by unfold Sm; omega)
    rwa [hkk] at this
  have HBK := Lib.hid hbk
  have h1 := h.alloc (.cells #[.int .i64 kind, .int .i64 nn, .slice a l.length c, .bool true] 29)
  have H1 := Lib.hid h1
  have HV := Lib.hid hv
  have HLC := Lib.hid hlc
  have HLL := Lib.hid hl
  have HOK := Lib.hid hok
  obtain ⟨bx, hbx⟩ : ∃ x, x = w.heap.size := ⟨_, rfl⟩
  clear hbq hbk h h1 hv hlc hok hkk
  go_enter Try.func11, Try.ntmps11
  go_wp2_with fail
  refine (copy_sep _ l _ H1.out (HV.out.below H1.out.low) (by omega)).mono ?_
  rintro r0 w1 ⟨vin, rfl, h2⟩
  obtain ⟨ain, cin, rfl⟩ := h2.sl.len
  have hcin := h2.capOf
  rw [bv_length] at hcin h2 ⊢
  rw [← hbx] at h2 ⊢
  clear hbx
  have p0 := h2.sw2.cell (o := 0) rfl
  have p1 := h2.sw2.cell (o := 1) rfl
  have p2 := h2.sw2.cell (o := 2) rfl
  have p3 := h2.sw2.cell (o := 3) rfl
  have H2 := Lib.hid h2
  have HCI := Lib.hid hcin
  clear h2 hcin H1
  go_wp2_with fail
  go_quiet ((go_at_call 16; exact Calls.quiet_of_same (HBQ.out _ _ (by unfold Sm; omega))))
  go_wp2_with fail
  go_quiet (fail)
  go_wp2_with fail
  refine (HBK.out _).mono ?_
  rintro r0 w2 ⟨rfl, rfl⟩
  clear p0 p1 p2 p3
  obtain ⟨vj, v0, v1, h5⟩ := H2.out.sw4.openR
  obtain ⟨aj, cj, rfl⟩ := h5.sw2.sl.len
  rw [bv_length] at h5
  -- Cm, vj, v0, v1, In, Bx, D
  have H5 := Lib.hid h5.sw7
  have p0 := H5.out.sw7.cell (o := 0) rfl
  have p1 := H5.out.sw7.cell (o := 1) rfl
  have p2 := H5.out.sw7.cell (o := 2) rfl
  have p3 := H5.out.sw7.cell (o := 3) rfl
  have p4 := H5.out.sw2.cell (o := 0) rfl
  have HJ := Lib.hid HOK.out.1
  have HP := Lib.hid fun (wx : World) (X : List Thing) (hx : Sep w0 X wx) => part_sep kind nn (.slice a l.length c) true D.j.length hx HJ.out
  clear h5 H2
  go_wp2_with fail
  refine wp_region_G (fun w' => w'.cell? ⟨bx, 0, none⟩ = some (.int .i64 kind) ∧ w'.cell? ⟨bx, 1, none⟩ = some (.int .i64 nn) ∧ w'.cell? ⟨bx, 2, none⟩ = some (.slice a l.length c) ∧ w'.cell? ⟨bx, 3, none⟩ = some (.bool true) ∧ w'.cell? ⟨m, 0, none⟩ = some (.slice aj D.j.length cj)) [17, 18, 19] (by kernel_rfl) ⟨p0, p1, p2, p3, p4⟩ (fun hS => ?_)
  refine wpAnyG_take' (i := 0) (v := ?v0) rfl (by kernel_rfl) (by kernel_rfl) (by kernel_rfl) (by kernel_rfl) (fun _ _ _ h => h) (Or.inl ⟨by rfl, ?hy0⟩) hS ?rest0
  case hy0 => intro w hSw; (try dsimp only at hSw); go_simp; (try with_reducible rfl)
  case rest0 =>
  try simp only [Act.put, List.setIfInBounds_toArray, List.set_cons_zero, List.set_cons_succ]
  refine wpAnyG_take' (i := 1) (v := ?v1) rfl (by kernel_rfl) (by kernel_rfl) (by kernel_rfl) (by kernel_rfl) (fun _ _ _ h => h) (Or.inl ⟨by rfl, ?hy1⟩) hS ?rest1
  case hy1 => intro w hSw; (try dsimp only at hSw); go_simp; (try with_reducible rfl)
  case rest1 =>
  try simp only [Act.put, List.setIfInBounds_toArray, List.set_cons_zero, List.set_cons_succ]
  refine wpAnyG_take' (i := 2) (v := ?v2) rfl (by kernel_rfl) (by kernel_rfl) (by kernel_rfl) (by kernel_rfl) (fun _ _ _ h => h) (Or.inl ⟨by rfl, ?hy2⟩) hS ?rest2
  case hy2 => intro w hSw; (try dsimp only at hSw); go_simp; (try with_reducible rfl)
  case rest2 =>
  try simp only [Act.put, List.setIfInBounds_toArray, List.set_cons_zero, List.set_cons_succ]
  refine wpAnyG_take' (i := 3) (v := ?v3) rfl (by kernel_rfl) (by kernel_rfl) (by kernel_rfl) (by kernel_rfl) (fun _ _ _ h => h) (Or.inl ⟨by rfl, ?hy3⟩) hS ?rest3
  case hy3 => intro w hSw; (try dsimp only at hSw); go_simp; (try with_reducible rfl)
  case rest3 =>
  try simp only [Act.put, List.setIfInBounds_toArray, List.set_cons_zero, List.set_cons_succ]
  refine wpAnyG_take' (i := 4) (v := ?v4) rfl (by kernel_rfl) (by kernel_rfl) (by kernel_rfl) (by kernel_rfl) (fun _ _ _ h => h) (Or.inl ⟨by rfl, ?hy4⟩) hS ?rest4
  case hy4 => intro w hSw; (try dsimp only at hSw); go_simp; (try with_reducible rfl)
  case rest4 =>
  try simp only [Act.put, List.setIfInBounds_toArray, List.set_cons_zero, List.set_cons_succ]
  refine wpAnyG_take' (i := 5) (v := ?v5) rfl (by kernel_rfl) (by kernel_rfl) (by kernel_rfl) (by kernel_rfl) (fun _ _ _ h => h) (Or.inl ⟨by rfl, ?hy5⟩) hS ?rest5
  case hy5 => intro w hSw; (try dsimp only at hSw); go_simp; (try with_reducible rfl)
  case rest5 =>
  try simp only [Act.put, List.setIfInBounds_toArray, List.set_cons_zero, List.set_cons_succ]
  refine wpAnyG_take' (i := 6) (v := ?v6) rfl (by kernel_rfl) (by kernel_rfl) (by kernel_rfl) (by kernel_rfl) (fun _ _ _ h => h) (Or.inl ⟨by rfl, ?hy6⟩) hS ?rest6
  case hy6 => intro w hSw; (try dsimp only at hSw); go_simp; (try with_reducible rfl)
  case rest6 =>
  try simp only [Act.put, List.setIfInBounds_toArray, List.set_cons_zero, List.set_cons_succ]
  refine wpAnyG_take' (i := 9) (v := ?v9) rfl (by kernel_rfl) (by kernel_rfl) (by kernel_rfl) (by kernel_rfl) (fun _ _ _ h => h) (Or.inl ⟨by rfl, ?hy9⟩) hS ?rest9
  case hy9 => intro w hSw; (try dsimp only at hSw); go_simp; (try with_reducible rfl)
  case rest9 =>
  try simp only [Act.put, List.setIfInBounds_toArray, List.set_cons_zero, List.set_cons_succ]
  refine wpAnyG_take' (i := 10) (v := ?v10) rfl (by kernel_rfl) (by kernel_rfl) (by kernel_rfl) (by kernel_rfl) (fun _ _ _ h => h) (Or.inl ⟨by rfl, ?hy10⟩) hS ?rest10
  case hy10 => intro w hSw; (try dsimp only at hSw); go_simp; (try with_reducible rfl)
  case rest10 =>
  try simp only [Act.put, List.setIfInBounds_toArray, List.set_cons_zero, List.set_cons_succ]
  refine wpAnyG_take' (i := 11) (v := ?v11) rfl (by kernel_rfl) (by kernel_rfl) (by kernel_rfl) (by kernel_rfl) (fun _ _ _ h => h) (Or.inl ⟨by rfl, ?hy11⟩) hS ?rest11
  case hy11 => intro w hSw; (try dsimp only at hSw); go_simp; (try with_reducible rfl)
  case rest11 =>
  try simp only [Act.put, List.setIfInBounds_toArray, List.set_cons_zero, List.set_cons_succ]
  refine wpAnyG_take' (i := 12) (v := ?v12) rfl (by kernel_rfl) (by kernel_rfl) (by kernel_rfl) (by kernel_rfl) (fun _ _ _ h => h) (Or.inl ⟨by rfl, ?hy12⟩) hS ?rest12
  case hy12 => intro w hSw; (try dsimp only at hSw); go_simp; (try with_reducible rfl)
  case rest12 =>
  try simp only [Act.put, List.setIfInBounds_toArray, List.set_cons_zero, List.set_cons_succ]
  refine wpAnyG_take' (i := 13) (v := ?v13) rfl (by kernel_rfl) (by kernel_rfl) (by kernel_rfl) (by kernel_rfl) (fun _ _ _ h => h) (Or.inl ⟨by rfl, ?hy13⟩) hS ?rest13
  case hy13 => intro w hSw; (try dsimp only at hSw); go_simp; (try with_reducible rfl)
  case rest13 =>
  try simp only [Act.put, List.setIfInBounds_toArray, List.set_cons_zero, List.set_cons_succ]
  refine wpAnyG_take' (i := 14) (v := ?v14) rfl (by kernel_rfl) (by kernel_rfl) (by kernel_rfl) (by kernel_rfl) (fun _ _ _ h => h) (Or.inl ⟨by rfl, ?hy14⟩) hS ?rest14
  case hy14 => intro w hSw; (try dsimp only at hSw); go_simp; (try with_reducible rfl)
  case rest14 =>
  try simp only [Act.put, List.setIfInBounds_toArray, List.set_cons_zero, List.set_cons_succ]
  refine wpAnyG_take' (i := 15) (v := ?v15) rfl (by kernel_rfl) (by kernel_rfl) (by kernel_rfl) (by kernel_rfl) (fun _ _ _ h => h) (Or.inl ⟨by rfl, ?hy15⟩) hS ?rest15
  case hy15 => intro w hSw; (try dsimp only at hSw); go_simp; (try with_reducible rfl)
  case rest15 =>
  try simp only [Act.put, List.setIfInBounds_toArray, List.set_cons_zero, List.set_cons_succ]
  refine wpAnyG_one (i := 7) (by kernel_rfl) rfl (fun K hK => ?_)
  go_simp
  refine Calls.mono (HP.out _ _ (H5.out.drewN _)) ?_
  rintro r0 w6 ⟨rfl, h6⟩
  have q0 := h6.sw7.cell (o := 0) rfl; have q1 := h6.sw7.cell (o := 1) rfl; have q2 := h6.sw7.cell (o := 2) rfl; have q3 := h6.sw7.cell (o := 3) rfl; have q4 := h6.sw2.cell (o := 0) rfl; have H6 := Lib.hid h6; clear h6
  go_wp2_with fail
  try simp only [Act.put, List.setIfInBounds_toArray, List.set_cons_zero, List.set_cons_succ]
  refine hK.out _ _ (fun _ => ?hS7) ?rest7
  case hS7 => exact ⟨q0, q1, q2, q3, q4⟩
  refine wpAnyG_one (i := 8) (by kernel_rfl) rfl (fun K hK => ?_)
  go_simp
  refine Calls.mono (cut_any D _ H6.out HJ.out) ?_
  rintro r0 w7 ⟨rfl, h7⟩
  have r0 := h7.sw7.cell (o := 0) rfl; have r1 := h7.sw7.cell (o := 1) rfl; have r2 := h7.sw7.cell (o := 2) rfl; have r3 := h7.sw7.cell (o := 3) rfl; have r4 := h7.sw2.cell (o := 0) rfl; have H7 := Lib.hid h7; clear h7
  go_wp2_with fail
  try simp only [Act.put, List.setIfInBounds_toArray, List.set_cons_zero, List.set_cons_succ]
  refine hK.out _ _ (fun _ => ?hS8) ?rest8
  case hS8 => exact ⟨r0, r1, r2, r3, r4⟩
  refine wpAnyG_one (i := 16) (by kernel_rfl) rfl (fun K hK => ?_)
  go_simp
  refine Calls.mono (HP.out _ _ H7.out) ?_
  rintro r0 w8 ⟨rfl, h8⟩
  have s0 := h8.sw7.cell (o := 0) rfl; have s1 := h8.sw7.cell (o := 1) rfl; have s2 := h8.sw7.cell (o := 2) rfl; have s3 := h8.sw7.cell (o := 3) rfl; have s4 := h8.sw2.cell (o := 0) rfl; have H8 := Lib.hid h8; clear h8
  go_wp2_with fail
  try simp only [Act.put, List.setIfInBounds_toArray, List.set_cons_zero, List.set_cons_succ]
  refine hK.out _ _ (fun _ => ?hS16) ?rest16
  case hS16 => exact ⟨s0, s1, s2, s3, s4⟩
  refine wpAnyG_one (i := 17) (by kernel_rfl) rfl (fun K hK => ?_)
  go_simp
  refine Calls.mono (rcut_any D _ (Sep.closeR D H8.out.to5) HJ.out) ?_
  rintro r0 w9 ⟨rfl, h9⟩
  have H9 := Lib.hid h9; clear h9
  go_wp2_with fail
  try simp only [Act.put, List.setIfInBounds_toArray, List.set_cons_zero, List.set_cons_succ]
  refine hK.out _ _ (fun hno => by cases hno) ?rest17
  clear p0 p1 p2 p3 p4 q0 q1 q2 q3 q4 r0 r1 r2 r3 r4 s0 s1 s2 s3 s4 hS K hK H5 H6 H7 H8
  refine wpAnyG_one (i := 18) (by kernel_rfl) rfl (fun K hK => ?_)
  go_simp
  refine hK.out _ _ (fun hno => by cases hno) ?_
  clear K hK
  try simp only [Act.put, List.setIfInBounds_toArray, List.set_cons_zero, List.set_cons_succ]
  refine wpAnyG_one (i := 19) (by kernel_rfl) rfl (fun K hK => ?_)
  go_simp
  refine hK.out _ _ (fun hno => by cases hno) ?_
  clear K hK
  try simp only [Act.put, List.setIfInBounds_toArray, List.set_cons_zero, List.set_cons_succ]
  refine wpAnyG_done (by kernel_rfl) ?_ _
  have HS : Hid (∃ xs, xs.length = l.length ∧ Bys xs ∧ Sep w0 (Rw 5 (.slice ain l.length cin) xs :: DiskT g (D.cut (partV true nn D.j.length)) :: RefT m (D.cut (partV true nn D.j.length)) :: L) _) := Lib.hid ⟨bv l, bv_length l, bys_bv l, H9.out.sw4.drop.sw3.sw3.sw2⟩
  clear H9
  have HOK1 : Hid ((D.cut (partV true nn D.j.length)).ok) := Lib.hid (HOK.out.cut (partV true nn D.j.length))
  generalize D.cut (partV true nn D.j.length) = D1 at *
  clear HOK HV HBQ HBK HLC
  go_wp2_with fail
  generalize l.length = nl at *
  go_loopw [11] (fun i wr => ∃ (k : Nat) (xs : List Value), k ≤ nl ∧ i = .int .i64 k ∧ xs.length = nl ∧ Bys xs ∧ Sep w0 (Rw 5 (.slice ain nl cin) xs :: DiskT g D1 :: RefT m D1 :: L) wr) (fun i _ => nl - (intOf i).toNat)
  case atStart => obtain ⟨xs, e1, e2, e3⟩ := HS.out; exact ⟨0, xs, by omega, rfl, e1, e2, e3⟩
  case round =>
    obtain ⟨k, xs, hk, rfl, hxl, hby, hs⟩ := hrel
    clear HS
    have hn := HLL.out
    by_cases hkn : k < nl
    · obtain ⟨b, c, hv, hc1, hc2, hcell, hfz, hset⟩ := hs.rowForm (by omega)
      rw [hxl] at hv hc1
      simp only [Value.slice.injEq, true_and] at hv
      obtain ⟨rfl, rfl⟩ := hv
      unfold maxLen at hc2
      obtain ⟨z, hz⟩ := hby.get k (by omega)
      have k0 := hcell k (by omega)
      rw [hz] at k0
      have k1 := hfz k
      have HS := Lib.hid (hset k (.int .u8 (bits BinOp.xor IntKind.u8 z 90)) (by omega))
      have HB := Lib.hid (hby.set k (bits BinOp.xor IntKind.u8 z 90))
      have HX := Lib.hid hxl
      have kk0 : (0 : Int) ≤ (k : Int) := by omega
      clear hs hcell hfz hset hby hz hxl
      go_wp2_with fail
      go_roundw
      case rel => exact ⟨k + 1, _, by omega, by go_num, by have := HX.out; simpa using this, HB.out, HS.out⟩
      case measure => simp [intOf]; omega
    · have HS := Lib.hid hs.drop
      clear hs hby hxl hn
      go_wp2_with fail
      go_ret
      exact ⟨rfl, D1, HOK1.out, HS.out⟩
end Go.Proofs.Ytpnafgkoijnplaa
