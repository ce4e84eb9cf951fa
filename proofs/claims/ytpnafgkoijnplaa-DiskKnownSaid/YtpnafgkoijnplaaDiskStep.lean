/- One call of both disks. -/
import Derived.Test.YtpnafgkoijnplaaDiskComb
import Derived.Deep.QuietTactic
import Derived.BigQuiet
namespace Go.Proofs.Ytpnafgkoijnplaa
open Go.RowKit
set_option linter.unusedVariables false
theorem Sep.capOf {w0 w : World} {e : TypeId} {a : Option Addr} {n c : Nat} {xs : List Value} {L : List Thing} (h : Sep w0 (Rw e (.slice a n c) xs :: L) w) : xs.length ≤ c := by
  rcases h.rw_.2 with ⟨_, h0⟩ | ⟨b, c', cur, hv, _, _, h1, _⟩
  · omega
  · simp only [Value.slice.injEq] at hv; rw [hv.2.2]; exact h1
theorem part_sep {w0 w : World} {L : List Thing} (x n : Int) (u : Value) (raw : Bool) (k : Nat) (h : Sep w0 L w) (hk : k ≤ 1048576) :
    Calls Try.prog 28 #[.agg #[.int .i64 x, .int .i64 n, u, .bool raw], .int .i64 k] w fun e w' => e = .returned (.int .i64 (partV raw n k)) ∧ Sep w0 L w' :=
  (part_any x n u raw k w hk).mono fun e w' ⟨h1, h2⟩ => ⟨h1, h2 ▸ h.alloc0 _⟩
set_option maxRecDepth 8000 in
set_option maxHeartbeats 4000000 in
theorem step_3_f {w0 w : World} {L : List Thing} {g m : Nat} (D : DS) (kind nn : Int) (a : Option Addr) (c : Nat) (l : List UInt8) (h : Sep w0 (DiskT g D :: RefT m D :: L) w) (hv : Sl w0 (.slice a l.length c) (bv l)) (hlc : l.length ≤ c) (hl : l.length ≤ 300) (hok : D.ok) (hkk : kind % 10 = 3) :
    Calls Try.prog 11 #[.pointer (some ⟨g, 0, none⟩), .pointer (some ⟨m, 0, none⟩), .agg #[.int .i64 kind, .int .i64 nn, .slice a l.length c, .bool false]] w fun e w' => e = .returned (.bool true) ∧ ∃ D', D'.ok ∧ Sep w0 (DiskT g D' :: RefT m D' :: L) w' := by
  have hbq : ∀ (k : Int) (wx : World), Sm k → Calls Try.prog 16 #[.int .i64 nn, .int .i64 k] wx fun e w' => e = .returned (.int .i64 (nn % k)) ∧ w' = wx := fun k wx hk => (bring_any nn k wx hk).mono fun _ _ h => ⟨h.1, h.2.symm⟩
  have HBQ := Lib.hid hbq
  have hbk : ∀ (wx : World), Calls Try.prog 16 #[.int .i64 kind, .int .i64 10] wx fun e w' => e = .returned (.int .i64 3) ∧ wx = w' := fun wx => by
    have := bring_any kind 10 wx (by unfold Sm; omega)
    rwa [hkk] at this
  have HBK := Lib.hid hbk
  have h1 := h.alloc (.cells #[.int .i64 kind, .int .i64 nn, .slice a l.length c, .bool false] 29)
  have H1 := Lib.hid h1
  have HV := Lib.hid hv
  have HLC := Lib.hid hlc
  have HLL := Lib.hid hl
  have HOK := Lib.hid hok
  obtain ⟨bx, hbx⟩ : ∃ x, x = w.heap.size := ⟨_, rfl⟩
  clear hbq hbk h h1 hv hlc hok hkk
  go_enter Try.func11, Try.ntmps11
  go_wp2_with fail
  refine (copy_sep _ l _ H1.out (HV.out.below H1.out.low) (by omega)).mono ?_
  rintro r0 w1 ⟨vin, rfl, h2⟩
  obtain ⟨ain, cin, rfl⟩ := h2.sl.len
  have hcin := h2.capOf
  rw [bv_length] at hcin h2 ⊢
  rw [← hbx] at h2 ⊢
  clear hbx
  have p0 := h2.sw2.cell (o := 0) rfl
  have p1 := h2.sw2.cell (o := 1) rfl
  have p2 := h2.sw2.cell (o := 2) rfl
  have p3 := h2.sw2.cell (o := 3) rfl
  have H2 := Lib.hid h2
  have HCI := Lib.hid hcin
  clear h2 hcin H1
  go_wp2_with fail
  go_quiet ((go_at_call 16; exact Calls.quiet_of_same (HBQ.out _ _ (by unfold Sm; omega))))
  go_wp2_with fail
  refine (HBK.out _).mono ?_
  rintro r0 w2 ⟨rfl, rfl⟩
  go_wp2_with fail
  go_region_held3 (fun w' => w'.cell? ⟨bx, 2, none⟩ = some (.slice a l.length c)) (go_keep) (first | (go_at_call 17; refine Calls.mono (slot_any D (nn % 2) ain cin l (H2.out.drewN _).sw3 (H2.out.drewN _).sl HCI.out HOK.out (by have := HLL.out; omega)) ?_; rintro r0 w3 ⟨rfl, h3⟩; have q2 := h3.sw3.cell (o := 2) rfl; have H3 := Lib.hid h3.sw4; clear h3) | (go_at_call 27; refine Calls.mono (rslot_any D (nn % 2) a c l H3.out (HV.out.below H3.out.low) HLC.out HOK.out (by have := HLL.out; omega)) ?_; rintro r0 w4 ⟨rfl, h4⟩; have q3 := h4.sw4.cell (o := 2) rfl; have H4 := Lib.hid h4; clear h4))
  clear p0 p1 p2 p3 q2 q3 H2 H3
  have HS : Hid (∃ xs, xs.length = l.length ∧ Bys xs ∧ Sep w0 (Rw 5 (.slice ain l.length cin) xs :: DiskT g (D.slot (nn % 2) l) :: RefT m (D.slot (nn % 2) l) :: L) _) := Lib.hid ⟨bv l, bv_length l, bys_bv l, H4.out.sw4.drop.sw3.sw3.sw2⟩
  clear H4
  have HOK1 : Hid ((D.slot (nn % 2) l).ok) := Lib.hid (HOK.out.slot (nn % 2) l)
  generalize D.slot (nn % 2) l = D1 at *
  clear HOK HV HBQ HBK HLC
  go_wp2_with fail
  generalize l.length = nl at *
  go_loopw [11] (fun i wr => ∃ (k : Nat) (xs : List Value), k ≤ nl ∧ i = .int .i64 k ∧ xs.length = nl ∧ Bys xs ∧ Sep w0 (Rw 5 (.slice ain nl cin) xs :: DiskT g D1 :: RefT m D1 :: L) wr) (fun i _ => nl - (intOf i).toNat)
  case atStart => obtain ⟨xs, e1, e2, e3⟩ := HS.out; exact ⟨0, xs, by omega, rfl, e1, e2, e3⟩
  case round =>
    obtain ⟨k, xs, hk, rfl, hxl, hby, hs⟩ := hrel
    clear HS
    have hn := HLL.out
    by_cases hkn : k < nl
    · obtain ⟨b, c, hv, hc1, hc2, hcell, hfz, hset⟩ := hs.rowForm (by omega)
      rw [hxl] at hv hc1
      simp only [Value.slice.injEq, true_and] at hv
      obtain ⟨rfl, rfl⟩ := hv
      unfold maxLen at hc2
      obtain ⟨z, hz⟩ := hby.get k (by omega)
      have k0 := hcell k (by omega)
      rw [hz] at k0
      have k1 := hfz k
      have HS := Lib.hid (hset k (.int .u8 (bits BinOp.xor IntKind.u8 z 90)) (by omega))
      have HB := Lib.hid (hby.set k (bits BinOp.xor IntKind.u8 z 90))
      have HX := Lib.hid hxl
      have kk0 : (0 : Int) ≤ (k : Int) := by omega
      clear hs hcell hfz hset hby hz hxl
      go_wp2_with fail
      go_roundw
      case rel => exact ⟨k + 1, _, by omega, by go_num, by have := HX.out; simpa using this, HB.out, HS.out⟩
      case measure => simp [intOf]; omega
    · have HS := Lib.hid hs.drop
      clear hs hby hxl hn
      go_wp2_with fail
      go_ret
      exact ⟨rfl, D1, HOK1.out, HS.out⟩
set_option maxRecDepth 8000 in
set_option maxHeartbeats 4000000 in
theorem step_3_t {w0 w : World} {L : List Thing} {g m : Nat} (D : DS) (kind nn : Int) (a : Option Addr) (c : Nat) (l : List UInt8) (h : Sep w0 (DiskT g D :: RefT m D :: L) w) (hv : Sl w0 (.slice a l.length c) (bv l)) (hlc : l.length ≤ c) (hl : l.length ≤ 300) (hok : D.ok) (hkk : kind % 10 = 3) :
    Calls Try.prog 11 #[.pointer (some ⟨g, 0, none⟩), .pointer (some ⟨m, 0, none⟩), .agg #[.int .i64 kind, .int .i64 nn, .slice a l.length c, .bool true]] w fun e w' => e = .returned (.bool true) ∧ ∃ D', D'.ok ∧ Sep w0 (DiskT g D' :: RefT m D' :: L) w' := by
  have hbq : ∀ (k : Int) (wx : World), Sm k → Calls Try.prog 16 #[.int .i64 nn, .int .i64 k] wx fun e w' => e = .returned (.int .i64 (nn % k)) ∧ w' = wx := fun k wx hk => (bring_any nn k wx hk).mono fun _ _ h => ⟨h.1, h.2.symm⟩
  have HBQ := Lib.hid hbq
  have hbk : ∀ (wx : World), Calls Try.prog 16 #[.int .i64 kind, .int .i64 10] wx fun e w' => e = .returned (.int .i64 3) ∧ wx = w' := fun wx => by
    have := bring_any kind 10 wx (by unfold Sm; omega)
    rwa [hkk] at this
  have HBK := Lib.hid hbk
  have h1 := h.alloc (.cells #[.int .i64 kind, .int .i64 nn, .slice a l.length c, .bool true] 29)
  have H1 := Lib.hid h1
  have HV := Lib.hid hv
  have HLC := Lib.hid hlc
  have HLL := Lib.hid hl
  have HOK := Lib.hid hok
  obtain ⟨bx, hbx⟩ : ∃ x, x = w.heap.size := ⟨_, rfl⟩
  clear hbq hbk h h1 hv hlc hok hkk
  go_enter Try.func11, Try.ntmps11
  go_wp2_with fail
  refine (copy_sep _ l _ H1.out (HV.out.below H1.out.low) (by omega)).mono ?_
  rintro r0 w1 ⟨vin, rfl, h2⟩
  obtain ⟨ain, cin, rfl⟩ := h2.sl.len
  have hcin := h2.capOf
  rw [bv_length] at hcin h2 ⊢
  rw [← hbx] at h2 ⊢
  clear hbx
  have p0 := h2.sw2.cell (o := 0) rfl
  have p1 := h2.sw2.cell (o := 1) rfl
  have p2 := h2.sw2.cell (o := 2) rfl
  have p3 := h2.sw2.cell (o := 3) rfl
  have H2 := Lib.hid h2
  have HCI := Lib.hid hcin
  clear h2 hcin H1
  go_wp2_with fail
  go_quiet ((go_at_call 16; exact Calls.quiet_of_same (HBQ.out _ _ (by unfold Sm; omega))))
  go_wp2_with fail
  go_quiet (fail)
  go_wp2_with fail
  refine (HBK.out _).mono ?_
  rintro r0 w2 ⟨rfl, rfl⟩
  go_wp2_with fail
  go_region_held3 (fun w' => w'.cell? ⟨bx, 2, none⟩ = some (.slice a l.length c)) (go_keep) (first | (go_at_call 17; refine Calls.mono (slot_any D nn ain cin l (H2.out.drewN _).sw3 (H2.out.drewN _).sl HCI.out HOK.out (by have := HLL.out; omega)) ?_; rintro r0 w3 ⟨rfl, h3⟩; have q2 := h3.sw3.cell (o := 2) rfl; have H3 := Lib.hid h3.sw4; clear h3) | (go_at_call 27; refine Calls.mono (rslot_any D nn a c l H3.out (HV.out.below H3.out.low) HLC.out HOK.out (by have := HLL.out; omega)) ?_; rintro r0 w4 ⟨rfl, h4⟩; have q3 := h4.sw4.cell (o := 2) rfl; have H4 := Lib.hid h4; clear h4))
  clear p0 p1 p2 p3 q2 q3 H2 H3
  have HS : Hid (∃ xs, xs.length = l.length ∧ Bys xs ∧ Sep w0 (Rw 5 (.slice ain l.length cin) xs :: DiskT g (D.slot nn l) :: RefT m (D.slot nn l) :: L) _) := Lib.hid ⟨bv l, bv_length l, bys_bv l, H4.out.sw4.drop.sw3.sw3.sw2⟩
  clear H4
  have HOK1 : Hid ((D.slot nn l).ok) := Lib.hid (HOK.out.slot nn l)
  generalize D.slot nn l = D1 at *
  clear HOK HV HBQ HBK HLC
  go_wp2_with fail
  generalize l.length = nl at *
  go_loopw [11] (fun i wr => ∃ (k : Nat) (xs : List Value), k ≤ nl ∧ i = .int .i64 k ∧ xs.length = nl ∧ Bys xs ∧ Sep w0 (Rw 5 (.slice ain nl cin) xs :: DiskT g D1 :: RefT m D1 :: L) wr) (fun i _ => nl - (intOf i).toNat)
  case atStart => obtain ⟨xs, e1, e2, e3⟩ := HS.out; exact ⟨0, xs, by omega, rfl, e1, e2, e3⟩
  case round =>
    obtain ⟨k, xs, hk, rfl, hxl, hby, hs⟩ := hrel
    clear HS
    have hn := HLL.out
    by_cases hkn : k < nl
    · obtain ⟨b, c, hv, hc1, hc2, hcell, hfz, hset⟩ := hs.rowForm (by omega)
      rw [hxl] at hv hc1
      simp only [Value.slice.injEq, true_and] at hv
      obtain ⟨rfl, rfl⟩ := hv
      unfold maxLen at hc2
      obtain ⟨z, hz⟩ := hby.get k (by omega)
      have k0 := hcell k (by omega)
      rw [hz] at k0
      have k1 := hfz k
      have HS := Lib.hid (hset k (.int .u8 (bits BinOp.xor IntKind.u8 z 90)) (by omega))
      have HB := Lib.hid (hby.set k (bits BinOp.xor IntKind.u8 z 90))
      have HX := Lib.hid hxl
      have kk0 : (0 : Int) ≤ (k : Int) := by omega
      clear hs hcell hfz hset hby hz hxl
      go_wp2_with fail
      go_roundw
      case rel => exact ⟨k + 1, _, by omega, by go_num, by have := HX.out; simpa using this, HB.out, HS.out⟩
      case measure => simp [intOf]; omega
    · have HS := Lib.hid hs.drop
      clear hs hby hxl hn
      go_wp2_with fail
      go_ret
      exact ⟨rfl, D1, HOK1.out, HS.out⟩
set_option maxRecDepth 8000 in
set_option maxHeartbeats 4000000 in
theorem step_4_f {w0 w : World} {L : List Thing} {g m : Nat} (D : DS) (kind nn : Int) (a : Option Addr) (c : Nat) (l : List UInt8) (h : Sep w0 (DiskT g D :: RefT m D :: L) w) (hv : Sl w0 (.slice a l.length c) (bv l)) (hlc : l.length ≤ c) (hl : l.length ≤ 300) (hok : D.ok) (hkk : kind % 10 = 4) :
    Calls Try.prog 11 #[.pointer (some ⟨g, 0, none⟩), .pointer (some ⟨m, 0, none⟩), .agg #[.int .i64 kind, .int .i64 nn, .slice a l.length c, .bool false]] w fun e w' => e = .returned (.bool true) ∧ ∃ D', D'.ok ∧ Sep w0 (DiskT g D' :: RefT m D' :: L) w' := by
  have hbq : ∀ (k : Int) (wx : World), Sm k → Calls Try.prog 16 #[.int .i64 nn, .int .i64 k] wx fun e w' => e = .returned (.int .i64 (nn % k)) ∧ w' = wx := fun k wx hk => (bring_any nn k wx hk).mono fun _ _ h => ⟨h.1, h.2.symm⟩
  have HBQ := Lib.hid hbq
  have hbk : ∀ (wx : World), Calls Try.prog 16 #[.int .i64 kind, .int .i64 10] wx fun e w' => e = .returned (.int .i64 4) ∧ wx = w' := fun wx => by
    have := bring_any kind 10 wx (by unfold Sm; omega)
    rwa [hkk] at this
  have HBK := Lib.hid hbk
  have h1 := h.alloc (.cells #[.int .i64 kind, .int .i64 nn, .slice a l.length c, .bool false] 29)
  have H1 := Lib.hid h1
  have HV := Lib.hid hv
  have HLC := Lib.hid hlc
  have HLL := Lib.hid hl
  have HOK := Lib.hid hok
  obtain ⟨bx, hbx⟩ : ∃ x, x = w.heap.size := ⟨_, rfl⟩
  clear hbq hbk h h1 hv hlc hok hkk
  go_enter Try.func11, Try.ntmps11
  go_wp2_with fail
  refine (copy_sep _ l _ H1.out (HV.out.below H1.out.low) (by omega)).mono ?_
  rintro r0 w1 ⟨vin, rfl, h2⟩
  obtain ⟨ain, cin, rfl⟩ := h2.sl.len
  have hcin := h2.capOf
  rw [bv_length] at hcin h2 ⊢
  rw [← hbx] at h2 ⊢
  clear hbx
  have p0 := h2.sw2.cell (o := 0) rfl
  have p1 := h2.sw2.cell (o := 1) rfl
  have p2 := h2.sw2.cell (o := 2) rfl
  have p3 := h2.sw2.cell (o := 3) rfl
  have H2 := Lib.hid h2
  have HCI := Lib.hid hcin
  clear h2 hcin H1
  go_wp2_with fail
  go_quiet ((go_at_call 16; exact Calls.quiet_of_same (HBQ.out _ _ (by unfold Sm; omega))))
  go_wp2_with fail
  refine (HBK.out _).mono ?_
  rintro r0 w2 ⟨rfl, rfl⟩
  go_wp2_with fail
  go_region_held3 (fun w' => w'.cell? ⟨bx, 2, none⟩ = some (.slice a l.length c)) (go_keep) (first | (go_at_call 17; refine Calls.mono (slot_any D (nn % 2) ain cin l (H2.out.drewN _).sw3 (H2.out.drewN _).sl HCI.out HOK.out (by have := HLL.out; omega)) ?_; rintro r0 w3 ⟨rfl, h3⟩; have q2 := h3.sw3.cell (o := 2) rfl; have H3 := Lib.hid h3.sw4; clear h3) | (go_at_call 27; refine Calls.mono (rslot_any D (nn % 2) a c l H3.out (HV.out.below H3.out.low) HLC.out HOK.out (by have := HLL.out; omega)) ?_; rintro r0 w4 ⟨rfl, h4⟩; have q3 := h4.sw4.cell (o := 2) rfl; have H4 := Lib.hid h4; clear h4))
  clear p0 p1 p2 p3 q2 q3 H2 H3
  have HS : Hid (∃ xs, xs.length = l.length ∧ Bys xs ∧ Sep w0 (Rw 5 (.slice ain l.length cin) xs :: DiskT g (D.slot (nn % 2) l) :: RefT m (D.slot (nn % 2) l) :: L) _) := Lib.hid ⟨bv l, bv_length l, bys_bv l, H4.out.sw4.drop.sw3.sw3.sw2⟩
  clear H4
  have HOK1 : Hid ((D.slot (nn % 2) l).ok) := Lib.hid (HOK.out.slot (nn % 2) l)
  generalize D.slot (nn % 2) l = D1 at *
  clear HOK HV HBQ HBK HLC
  go_wp2_with fail
  generalize l.length = nl at *
  go_loopw [11] (fun i wr => ∃ (k : Nat) (xs : List Value), k ≤ nl ∧ i = .int .i64 k ∧ xs.length = nl ∧ Bys xs ∧ Sep w0 (Rw 5 (.slice ain nl cin) xs :: DiskT g D1 :: RefT m D1 :: L) wr) (fun i _ => nl - (intOf i).toNat)
  case atStart => obtain ⟨xs, e1, e2, e3⟩ := HS.out; exact ⟨0, xs, by omega, rfl, e1, e2, e3⟩
  case round =>
    obtain ⟨k, xs, hk, rfl, hxl, hby, hs⟩ := hrel
    clear HS
    have hn := HLL.out
    by_cases hkn : k < nl
    · obtain ⟨b, c, hv, hc1, hc2, hcell, hfz, hset⟩ := hs.rowForm (by omega)
      rw [hxl] at hv hc1
      simp only [Value.slice.injEq, true_and] at hv
      obtain ⟨rfl, rfl⟩ := hv
      unfold maxLen at hc2
      obtain ⟨z, hz⟩ := hby.get k (by omega)
      have k0 := hcell k (by omega)
      rw [hz] at k0
      have k1 := hfz k
      have HS := Lib.hid (hset k (.int .u8 (bits BinOp.xor IntKind.u8 z 90)) (by omega))
      have HB := Lib.hid (hby.set k (bits BinOp.xor IntKind.u8 z 90))
      have HX := Lib.hid hxl
      have kk0 : (0 : Int) ≤ (k : Int) := by omega
      clear hs hcell hfz hset hby hz hxl
      go_wp2_with fail
      go_roundw
      case rel => exact ⟨k + 1, _, by omega, by go_num, by have := HX.out; simpa using this, HB.out, HS.out⟩
      case measure => simp [intOf]; omega
    · have HS := Lib.hid hs.drop
      clear hs hby hxl hn
      go_wp2_with fail
      go_ret
      exact ⟨rfl, D1, HOK1.out, HS.out⟩
set_option maxRecDepth 8000 in
set_option maxHeartbeats 4000000 in
theorem step_4_t {w0 w : World} {L : List Thing} {g m : Nat} (D : DS) (kind nn : Int) (a : Option Addr) (c : Nat) (l : List UInt8) (h : Sep w0 (DiskT g D :: RefT m D :: L) w) (hv : Sl w0 (.slice a l.length c) (bv l)) (hlc : l.length ≤ c) (hl : l.length ≤ 300) (hok : D.ok) (hkk : kind % 10 = 4) :
    Calls Try.prog 11 #[.pointer (some ⟨g, 0, none⟩), .pointer (some ⟨m, 0, none⟩), .agg #[.int .i64 kind, .int .i64 nn, .slice a l.length c, .bool true]] w fun e w' => e = .returned (.bool true) ∧ ∃ D', D'.ok ∧ Sep w0 (DiskT g D' :: RefT m D' :: L) w' := by
  have hbq : ∀ (k : Int) (wx : World), Sm k → Calls Try.prog 16 #[.int .i64 nn, .int .i64 k] wx fun e w' => e = .returned (.int .i64 (nn % k)) ∧ w' = wx := fun k wx hk => (bring_any nn k wx hk).mono fun _ _ h => ⟨h.1, h.2.symm⟩
  have HBQ := Lib.hid hbq
  have hbk : ∀ (wx : World), Calls Try.prog 16 #[.int .i64 kind, .int .i64 10] wx fun e w' => e = .returned (.int .i64 4) ∧ wx = w' := fun wx => by
    have := bring_any kind 10 wx (by unfold Sm; omega)
    rwa [hkk] at this
  have HBK := Lib.hid hbk
  have h1 := h.alloc (.cells #[.int .i64 kind, .int .i64 nn, .slice a l.length c, .bool true] 29)
  have H1 := Lib.hid h1
  have HV := Lib.hid hv
  have HLC := Lib.hid hlc
  have HLL := Lib.hid hl
  have HOK := Lib.hid hok
  obtain ⟨bx, hbx⟩ : ∃ x, x = w.heap.size := ⟨_, rfl⟩
  clear hbq hbk h h1 hv hlc hok hkk
  go_enter Try.func11, Try.ntmps11
  go_wp2_with fail
  refine (copy_sep _ l _ H1.out (HV.out.below H1.out.low) (by omega)).mono ?_
  rintro r0 w1 ⟨vin, rfl, h2⟩
  obtain ⟨ain, cin, rfl⟩ := h2.sl.len
  have hcin := h2.capOf
  rw [bv_length] at hcin h2 ⊢
  rw [← hbx] at h2 ⊢
  clear hbx
  have p0 := h2.sw2.cell (o := 0) rfl
  have p1 := h2.sw2.cell (o := 1) rfl
  have p2 := h2.sw2.cell (o := 2) rfl
  have p3 := h2.sw2.cell (o := 3) rfl
  have H2 := Lib.hid h2
  have HCI := Lib.hid hcin
  clear h2 hcin H1
  go_wp2_with fail
  go_quiet ((go_at_call 16; exact Calls.quiet_of_same (HBQ.out _ _ (by unfold Sm; omega))))
  go_wp2_with fail
  go_quiet (fail)
  go_wp2_with fail
  refine (HBK.out _).mono ?_
  rintro r0 w2 ⟨rfl, rfl⟩
  go_wp2_with fail
  go_region_held3 (fun w' => w'.cell? ⟨bx, 2, none⟩ = some (.slice a l.length c)) (go_keep) (first | (go_at_call 17; refine Calls.mono (slot_any D nn ain cin l (H2.out.drewN _).sw3 (H2.out.drewN _).sl HCI.out HOK.out (by have := HLL.out; omega)) ?_; rintro r0 w3 ⟨rfl, h3⟩; have q2 := h3.sw3.cell (o := 2) rfl; have H3 := Lib.hid h3.sw4; clear h3) | (go_at_call 27; refine Calls.mono (rslot_any D nn a c l H3.out (HV.out.below H3.out.low) HLC.out HOK.out (by have := HLL.out; omega)) ?_; rintro r0 w4 ⟨rfl, h4⟩; have q3 := h4.sw4.cell (o := 2) rfl; have H4 := Lib.hid h4; clear h4))
  clear p0 p1 p2 p3 q2 q3 H2 H3
  have HS : Hid (∃ xs, xs.length = l.length ∧ Bys xs ∧ Sep w0 (Rw 5 (.slice ain l.length cin) xs :: DiskT g (D.slot nn l) :: RefT m (D.slot nn l) :: L) _) := Lib.hid ⟨bv l, bv_length l, bys_bv l, H4.out.sw4.drop.sw3.sw3.sw2⟩
  clear H4
  have HOK1 : Hid ((D.slot nn l).ok) := Lib.hid (HOK.out.slot nn l)
  generalize D.slot nn l = D1 at *
  clear HOK HV HBQ HBK HLC
  go_wp2_with fail
  generalize l.length = nl at *
  go_loopw [11] (fun i wr => ∃ (k : Nat) (xs : List Value), k ≤ nl ∧ i = .int .i64 k ∧ xs.length = nl ∧ Bys xs ∧ Sep w0 (Rw 5 (.slice ain nl cin) xs :: DiskT g D1 :: RefT m D1 :: L) wr) (fun i _ => nl - (intOf i).toNat)
  case atStart => obtain ⟨xs, e1, e2, e3⟩ := HS.out; exact ⟨0, xs, by omega, rfl, e1, e2, e3⟩
  case round =>
    obtain ⟨k, xs, hk, rfl, hxl, hby, hs⟩ := hrel
    clear HS
    have hn := HLL.out
    by_cases hkn : k < nl
    · obtain ⟨b, c, hv, hc1, hc2, hcell, hfz, hset⟩ := hs.rowForm (by omega)
      rw [hxl] at hv hc1
      simp only [Value.slice.injEq, true_and] at hv
      obtain ⟨rfl, rfl⟩ := hv
      unfold maxLen at hc2
      obtain ⟨z, hz⟩ := hby.get k (by omega)
      have k0 := hcell k (by omega)
      rw [hz] at k0
      have k1 := hfz k
      have HS := Lib.hid (hset k (.int .u8 (bits BinOp.xor IntKind.u8 z 90)) (by omega))
      have HB := Lib.hid (hby.set k (bits BinOp.xor IntKind.u8 z 90))
      have HX := Lib.hid hxl
      have kk0 : (0 : Int) ≤ (k : Int) := by omega
      clear hs hcell hfz hset hby hz hxl
      go_wp2_with fail
      go_roundw
      case rel => exact ⟨k + 1, _, by omega, by go_num, by have := HX.out; simpa using this, HB.out, HS.out⟩
      case measure => simp [intOf]; omega
    · have HS := Lib.hid hs.drop
      clear hs hby hxl hn
      go_wp2_with fail
      go_ret
      exact ⟨rfl, D1, HOK1.out, HS.out⟩
set_option maxRecDepth 8000 in
set_option maxHeartbeats 4000000 in
theorem step_7_f {w0 w : World} {L : List Thing} {g m : Nat} (D : DS) (kind nn : Int) (a : Option Addr) (c : Nat) (l : List UInt8) (h : Sep w0 (DiskT g D :: RefT m D :: L) w) (hv : Sl w0 (.slice a l.length c) (bv l)) (hlc : l.length ≤ c) (hl : l.length ≤ 300) (hok : D.ok) (hkk : kind % 10 = 7) :
    Calls Try.prog 11 #[.pointer (some ⟨g, 0, none⟩), .pointer (some ⟨m, 0, none⟩), .agg #[.int .i64 kind, .int .i64 nn, .slice a l.length c, .bool false]] w fun e w' => e = .returned (.bool true) ∧ ∃ D', D'.ok ∧ Sep w0 (DiskT g D' :: RefT m D' :: L) w' := by
  have hbq : ∀ (k : Int) (wx : World), Sm k → Calls Try.prog 16 #[.int .i64 nn, .int .i64 k] wx fun e w' => e = .returned (.int .i64 (nn % k)) ∧ w' = wx := fun k wx hk => (bring_any nn k wx hk).mono fun _ _ h => ⟨h.1, h.2.symm⟩
  have HBQ := Lib.hid hbq
  have hbk : ∀ (wx : World), Calls Try.prog 16 #[.int .i64 kind, .int .i64 10] wx fun e w' => e = .returned (.int .i64 7) ∧ wx = w' := fun wx => by
    have := bring_any kind 10 wx (by unfold Sm; omega)
    rwa [hkk] at this
  have HBK := Lib.hid hbk
  have h1 := h.alloc (.cells #[.int .i64 kind, .int .i64 nn, .slice a l.length c, .bool false] 29)
  have H1 := Lib.hid h1
  have HV := Lib.hid hv
  have HLC := Lib.hid hlc
  have HLL := Lib.hid hl
  have HOK := Lib.hid hok
  obtain ⟨bx, hbx⟩ : ∃ x, x = w.heap.size := ⟨_, rfl⟩
  clear hbq hbk h h1 hv hlc hok hkk
  go_enter Try.func11, Try.ntmps11
  go_wp2_with fail
  refine (copy_sep _ l _ H1.out (HV.out.below H1.out.low) (by omega)).mono ?_
  rintro r0 w1 ⟨vin, rfl, h2⟩
  obtain ⟨ain, cin, rfl⟩ := h2.sl.len
  have hcin := h2.capOf
  rw [bv_length] at hcin h2 ⊢
  rw [← hbx] at h2 ⊢
  clear hbx
  have p0 := h2.sw2.cell (o := 0) rfl
  have p1 := h2.sw2.cell (o := 1) rfl
  have p2 := h2.sw2.cell (o := 2) rfl
  have p3 := h2.sw2.cell (o := 3) rfl
  have H2 := Lib.hid h2
  have HCI := Lib.hid hcin
  clear h2 hcin H1
  go_wp2_with fail
  go_quiet ((go_at_call 16; exact Calls.quiet_of_same (HBQ.out _ _ (by unfold Sm; omega))))
  go_wp2_with fail
  refine (HBK.out _).mono ?_
  rintro r0 w2 ⟨rfl, rfl⟩
  clear p0 p1 p2 p3
  go_wp2_with fail
  refine (arm_any D (nn % 20) (H2.out.drewN _).sw3).mono ?_
  rintro r0 w3 ⟨rfl, h3⟩
  have H3 := Lib.hid h3.sw4
  clear h3 H2
  go_wp2_with fail
  refine (rarm_any D (nn % 20) H3.out).mono ?_
  rintro r0 w4 ⟨rfl, h4⟩
  have H4 := Lib.hid h4
  clear h4 H3
  have HS : Hid (∃ xs, xs.length = l.length ∧ Bys xs ∧ Sep w0 (Rw 5 (.slice ain l.length cin) xs :: DiskT g (D.armD (nn % 20)) :: RefT m (D.armD (nn % 20)) :: L) _) := Lib.hid ⟨bv l, bv_length l, bys_bv l, H4.out.sw4.drop.sw3.sw3.sw2⟩
  clear H4
  have HOK1 : Hid ((D.armD (nn % 20)).ok) := Lib.hid (HOK.out.arm (nn % 20))
  generalize D.armD (nn % 20) = D1 at *
  clear HOK HV HBQ HBK HLC
  go_wp2_with fail
  generalize l.length = nl at *
  go_loopw [11] (fun i wr => ∃ (k : Nat) (xs : List Value), k ≤ nl ∧ i = .int .i64 k ∧ xs.length = nl ∧ Bys xs ∧ Sep w0 (Rw 5 (.slice ain nl cin) xs :: DiskT g D1 :: RefT m D1 :: L) wr) (fun i _ => nl - (intOf i).toNat)
  case atStart => obtain ⟨xs, e1, e2, e3⟩ := HS.out; exact ⟨0, xs, by omega, rfl, e1, e2, e3⟩
  case round =>
    obtain ⟨k, xs, hk, rfl, hxl, hby, hs⟩ := hrel
    clear HS
    have hn := HLL.out
    by_cases hkn : k < nl
    · obtain ⟨b, c, hv, hc1, hc2, hcell, hfz, hset⟩ := hs.rowForm (by omega)
      rw [hxl] at hv hc1
      simp only [Value.slice.injEq, true_and] at hv
      obtain ⟨rfl, rfl⟩ := hv
      unfold maxLen at hc2
      obtain ⟨z, hz⟩ := hby.get k (by omega)
      have k0 := hcell k (by omega)
      rw [hz] at k0
      have k1 := hfz k
      have HS := Lib.hid (hset k (.int .u8 (bits BinOp.xor IntKind.u8 z 90)) (by omega))
      have HB := Lib.hid (hby.set k (bits BinOp.xor IntKind.u8 z 90))
      have HX := Lib.hid hxl
      have kk0 : (0 : Int) ≤ (k : Int) := by omega
      clear hs hcell hfz hset hby hz hxl
      go_wp2_with fail
      go_roundw
      case rel => exact ⟨k + 1, _, by omega, by go_num, by have := HX.out; simpa using this, HB.out, HS.out⟩
      case measure => simp [intOf]; omega
    · have HS := Lib.hid hs.drop
      clear hs hby hxl hn
      go_wp2_with fail
      go_ret
      exact ⟨rfl, D1, HOK1.out, HS.out⟩
set_option maxRecDepth 8000 in
set_option maxHeartbeats 4000000 in
theorem step_7_t {w0 w : World} {L : List Thing} {g m : Nat} (D : DS) (kind nn : Int) (a : Option Addr) (c : Nat) (l : List UInt8) (h : Sep w0 (DiskT g D :: RefT m D :: L) w) (hv : Sl w0 (.slice a l.length c) (bv l)) (hlc : l.length ≤ c) (hl : l.length ≤ 300) (hok : D.ok) (hkk : kind % 10 = 7) :
    Calls Try.prog 11 #[.pointer (some ⟨g, 0, none⟩), .pointer (some ⟨m, 0, none⟩), .agg #[.int .i64 kind, .int .i64 nn, .slice a l.length c, .bool true]] w fun e w' => e = .returned (.bool true) ∧ ∃ D', D'.ok ∧ Sep w0 (DiskT g D' :: RefT m D' :: L) w' := by
  have hbq : ∀ (k : Int) (wx : World), Sm k → Calls Try.prog 16 #[.int .i64 nn, .int .i64 k] wx fun e w' => e = .returned (.int .i64 (nn % k)) ∧ w' = wx := fun k wx hk => (bring_any nn k wx hk).mono fun _ _ h => ⟨h.1, h.2.symm⟩
  have HBQ := Lib.hid hbq
  have hbk : ∀ (wx : World), Calls Try.prog 16 #[.int .i64 kind, .int .i64 10] wx fun e w' => e = .returned (.int .i64 7) ∧ wx = w' := fun wx => by
    have := bring_any kind 10 wx (by unfold Sm; omega)
    rwa [hkk] at this
  have HBK := Lib.hid hbk
  have h1 := h.alloc (.cells #[.int .i64 kind, .int .i64 nn, .slice a l.length c, .bool true] 29)
  have H1 := Lib.hid h1
  have HV := Lib.hid hv
  have HLC := Lib.hid hlc
  have HLL := Lib.hid hl
  have HOK := Lib.hid hok
  obtain ⟨bx, hbx⟩ : ∃ x, x = w.heap.size := ⟨_, rfl⟩
  clear hbq hbk h h1 hv hlc hok hkk
  go_enter Try.func11, Try.ntmps11
  go_wp2_with fail
  refine (copy_sep _ l _ H1.out (HV.out.below H1.out.low) (by omega)).mono ?_
  rintro r0 w1 ⟨vin, rfl, h2⟩
  obtain ⟨ain, cin, rfl⟩ := h2.sl.len
  have hcin := h2.capOf
  rw [bv_length] at hcin h2 ⊢
  rw [← hbx] at h2 ⊢
  clear hbx
  have p0 := h2.sw2.cell (o := 0) rfl
  have p1 := h2.sw2.cell (o := 1) rfl
  have p2 := h2.sw2.cell (o := 2) rfl
  have p3 := h2.sw2.cell (o := 3) rfl
  have H2 := Lib.hid h2
  have HCI := Lib.hid hcin
  clear h2 hcin H1
  go_wp2_with fail
  go_quiet ((go_at_call 16; exact Calls.quiet_of_same (HBQ.out _ _ (by unfold Sm; omega))))
  go_wp2_with fail
  go_quiet (fail)
  go_wp2_with fail
  refine (HBK.out _).mono ?_
  rintro r0 w2 ⟨rfl, rfl⟩
  clear p0 p1 p2 p3
  go_wp2_with fail
  refine (arm_any D nn (H2.out.drewN _).sw3).mono ?_
  rintro r0 w3 ⟨rfl, h3⟩
  have H3 := Lib.hid h3.sw4
  clear h3 H2
  go_wp2_with fail
  refine (rarm_any D nn H3.out).mono ?_
  rintro r0 w4 ⟨rfl, h4⟩
  have H4 := Lib.hid h4
  clear h4 H3
  have HS : Hid (∃ xs, xs.length = l.length ∧ Bys xs ∧ Sep w0 (Rw 5 (.slice ain l.length cin) xs :: DiskT g (D.armD nn) :: RefT m (D.armD nn) :: L) _) := Lib.hid ⟨bv l, bv_length l, bys_bv l, H4.out.sw4.drop.sw3.sw3.sw2⟩
  clear H4
  have HOK1 : Hid ((D.armD nn).ok) := Lib.hid (HOK.out.arm nn)
  generalize D.armD nn = D1 at *
  clear HOK HV HBQ HBK HLC
  go_wp2_with fail
  generalize l.length = nl at *
  go_loopw [11] (fun i wr => ∃ (k : Nat) (xs : List Value), k ≤ nl ∧ i = .int .i64 k ∧ xs.length = nl ∧ Bys xs ∧ Sep w0 (Rw 5 (.slice ain nl cin) xs :: DiskT g D1 :: RefT m D1 :: L) wr) (fun i _ => nl - (intOf i).toNat)
  case atStart => obtain ⟨xs, e1, e2, e3⟩ := HS.out; exact ⟨0, xs, by omega, rfl, e1, e2, e3⟩
  case round =>
    obtain ⟨k, xs, hk, rfl, hxl, hby, hs⟩ := hrel
    clear HS
    have hn := HLL.out
    by_cases hkn : k < nl
    · obtain ⟨b, c, hv, hc1, hc2, hcell, hfz, hset⟩ := hs.rowForm (by omega)
      rw [hxl] at hv hc1
      simp only [Value.slice.injEq, true_and] at hv
      obtain ⟨rfl, rfl⟩ := hv
      unfold maxLen at hc2
      obtain ⟨z, hz⟩ := hby.get k (by omega)
      have k0 := hcell k (by omega)
      rw [hz] at k0
      have k1 := hfz k
      have HS := Lib.hid (hset k (.int .u8 (bits BinOp.xor IntKind.u8 z 90)) (by omega))
      have HB := Lib.hid (hby.set k (bits BinOp.xor IntKind.u8 z 90))
      have HX := Lib.hid hxl
      have kk0 : (0 : Int) ≤ (k : Int) := by omega
      clear hs hcell hfz hset hby hz hxl
      go_wp2_with fail
      go_roundw
      case rel => exact ⟨k + 1, _, by omega, by go_num, by have := HX.out; simpa using this, HB.out, HS.out⟩
      case measure => simp [intOf]; omega
    · have HS := Lib.hid hs.drop
      clear hs hby hxl hn
      go_wp2_with fail
      go_ret
      exact ⟨rfl, D1, HOK1.out, HS.out⟩
set_option maxRecDepth 8000 in
set_option maxHeartbeats 4000000 in
theorem step_8_f {w0 w : World} {L : List Thing} {g m : Nat} (D : DS) (kind nn : Int) (a : Option Addr) (c : Nat) (l : List UInt8) (h : Sep w0 (DiskT g D :: RefT m D :: L) w) (hv : Sl w0 (.slice a l.length c) (bv l)) (hlc : l.length ≤ c) (hl : l.length ≤ 300) (hok : D.ok) (hkk : kind % 10 = 8) :
    Calls Try.prog 11 #[.pointer (some ⟨g, 0, none⟩), .pointer (some ⟨m, 0, none⟩), .agg #[.int .i64 kind, .int .i64 nn, .slice a l.length c, .bool false]] w fun e w' => e = .returned (.bool true) ∧ ∃ D', D'.ok ∧ Sep w0 (DiskT g D' :: RefT m D' :: L) w' := by
  have hbq : ∀ (k : Int) (wx : World), Sm k → Calls Try.prog 16 #[.int .i64 nn, .int .i64 k] wx fun e w' => e = .returned (.int .i64 (nn % k)) ∧ w' = wx := fun k wx hk => (bring_any nn k wx hk).mono fun _ _ h => ⟨h.1, h.2.symm⟩
  have HBQ := Lib.hid hbq
  have hbk : ∀ (wx : World), Calls Try.prog 16 #[.int .i64 kind, .int .i64 10] wx fun e w' => e = .returned (.int .i64 8) ∧ wx = w' := fun wx => by
    have := bring_any kind 10 wx (by unfold Sm; omega)
    rwa [hkk] at this
  have HBK := Lib.hid hbk
  have h1 := h.alloc (.cells #[.int .i64 kind, .int .i64 nn, .slice a l.length c, .bool false] 29)
  have H1 := Lib.hid h1
  have HV := Lib.hid hv
  have HLC := Lib.hid hlc
  have HLL := Lib.hid hl
  have HOK := Lib.hid hok
  obtain ⟨bx, hbx⟩ : ∃ x, x = w.heap.size := ⟨_, rfl⟩
  clear hbq hbk h h1 hv hlc hok hkk
  go_enter Try.func11, Try.ntmps11
  go_wp2_with fail
  refine (copy_sep _ l _ H1.out (HV.out.below H1.out.low) (by omega)).mono ?_
  rintro r0 w1 ⟨vin, rfl, h2⟩
  obtain ⟨ain, cin, rfl⟩ := h2.sl.len
  have hcin := h2.capOf
  rw [bv_length] at hcin h2 ⊢
  rw [← hbx] at h2 ⊢
  clear hbx
  have p0 := h2.sw2.cell (o := 0) rfl
  have p1 := h2.sw2.cell (o := 1) rfl
  have p2 := h2.sw2.cell (o := 2) rfl
  have p3 := h2.sw2.cell (o := 3) rfl
  have H2 := Lib.hid h2
  have HCI := Lib.hid hcin
  clear h2 hcin H1
  go_wp2_with fail
  go_quiet ((go_at_call 16; exact Calls.quiet_of_same (HBQ.out _ _ (by unfold Sm; omega))))
  go_wp2_with fail
  refine (HBK.out _).mono ?_
  rintro r0 w2 ⟨rfl, rfl⟩
  clear p0 p1 p2 p3
  go_wp2_with fail
  refine (revive_any D (H2.out.drewN _).sw3).mono ?_
  rintro r0 w3 ⟨rfl, h3⟩
  have H3 := Lib.hid h3.sw4
  clear h3 H2
  go_wp2_with fail
  refine (rrevive_any D H3.out).mono ?_
  rintro r0 w4 ⟨rfl, h4⟩
  have H4 := Lib.hid h4
  clear h4 H3
  have HS : Hid (∃ xs, xs.length = l.length ∧ Bys xs ∧ Sep w0 (Rw 5 (.slice ain l.length cin) xs :: DiskT g (DS.mk D.j D.s0 D.s1 false none) :: RefT m (DS.mk D.j D.s0 D.s1 false none) :: L) _) := Lib.hid ⟨bv l, bv_length l, bys_bv l, H4.out.sw4.drop.sw3.sw3.sw2⟩
  clear H4
  have HOK1 : Hid ((DS.mk D.j D.s0 D.s1 false none).ok) := Lib.hid HOK.out
  generalize DS.mk D.j D.s0 D.s1 false none = D1 at *
  clear HOK HV HBQ HBK HLC
  go_wp2_with fail
  generalize l.length = nl at *
  go_loopw [11] (fun i wr => ∃ (k : Nat) (xs : List Value), k ≤ nl ∧ i = .int .i64 k ∧ xs.length = nl ∧ Bys xs ∧ Sep w0 (Rw 5 (.slice ain nl cin) xs :: DiskT g D1 :: RefT m D1 :: L) wr) (fun i _ => nl - (intOf i).toNat)
  case atStart => obtain ⟨xs, e1, e2, e3⟩ := HS.out; exact ⟨0, xs, by omega, rfl, e1, e2, e3⟩
  case round =>
    obtain ⟨k, xs, hk, rfl, hxl, hby, hs⟩ := hrel
    clear HS
    have hn := HLL.out
    by_cases hkn : k < nl
    · obtain ⟨b, c, hv, hc1, hc2, hcell, hfz, hset⟩ := hs.rowForm (by omega)
      rw [hxl] at hv hc1
      simp only [Value.slice.injEq, true_and] at hv
      obtain ⟨rfl, rfl⟩ := hv
      unfold maxLen at hc2
      obtain ⟨z, hz⟩ := hby.get k (by omega)
      have k0 := hcell k (by omega)
      rw [hz] at k0
      have k1 := hfz k
      have HS := Lib.hid (hset k (.int .u8 (bits BinOp.xor IntKind.u8 z 90)) (by omega))
      have HB := Lib.hid (hby.set k (bits BinOp.xor IntKind.u8 z 90))
      have HX := Lib.hid hxl
      have kk0 : (0 : Int) ≤ (k : Int) := by omega
      clear hs hcell hfz hset hby hz hxl
      go_wp2_with fail
      go_roundw
      case rel => exact ⟨k + 1, _, by omega, by go_num, by have := HX.out; simpa using this, HB.out, HS.out⟩
      case measure => simp [intOf]; omega
    · have HS := Lib.hid hs.drop
      clear hs hby hxl hn
      go_wp2_with fail
      go_ret
      exact ⟨rfl, D1, HOK1.out, HS.out⟩
set_option maxRecDepth 8000 in
set_option maxHeartbeats 4000000 in
theorem step_8_t {w0 w : World} {L : List Thing} {g m : Nat} (D : DS) (kind nn : Int) (a : Option Addr) (c : Nat) (l : List UInt8) (h : Sep w0 (DiskT g D :: RefT m D :: L) w) (hv : Sl w0 (.slice a l.length c) (bv l)) (hlc : l.length ≤ c) (hl : l.length ≤ 300) (hok : D.ok) (hkk : kind % 10 = 8) :
    Calls Try.prog 11 #[.pointer (some ⟨g, 0, none⟩), .pointer (some ⟨m, 0, none⟩), .agg #[.int .i64 kind, .int .i64 nn, .slice a l.length c, .bool true]] w fun e w' => e = .returned (.bool true) ∧ ∃ D', D'.ok ∧ Sep w0 (DiskT g D' :: RefT m D' :: L) w' := by
  have hbq : ∀ (k : Int) (wx : World), Sm k → Calls Try.prog 16 #[.int .i64 nn, .int .i64 k] wx fun e w' => e = .returned (.int .i64 (nn % k)) ∧ w' = wx := fun k wx hk => (bring_any nn k wx hk).mono fun _ _ h => ⟨h.1, h.2.symm⟩
  have HBQ := Lib.hid hbq
  have hbk : ∀ (wx : World), Calls Try.prog 16 #[.int .i64 kind, .int .i64 10] wx fun e w' => e = .returned (.int .i64 8) ∧ wx = w' := fun wx => by
    have := bring_any kind 10 wx (by unfold Sm; omega)
    rwa [hkk] at this
  have HBK := Lib.hid hbk
  have h1 := h.alloc (.cells #[.int .i64 kind, .int .i64 nn, .slice a l.length c, .bool true] 29)
  have H1 := Lib.hid h1
  have HV := Lib.hid hv
  have HLC := Lib.hid hlc
  have HLL := Lib.hid hl
  have HOK := Lib.hid hok
  obtain ⟨bx, hbx⟩ : ∃ x, x = w.heap.size := ⟨_, rfl⟩
  clear hbq hbk h h1 hv hlc hok hkk
  go_enter Try.func11, Try.ntmps11
  go_wp2_with fail
  refine (copy_sep _ l _ H1.out (HV.out.below H1.out.low) (by omega)).mono ?_
  rintro r0 w1 ⟨vin, rfl, h2⟩
  obtain ⟨ain, cin, rfl⟩ := h2.sl.len
  have hcin := h2.capOf
  rw [bv_length] at hcin h2 ⊢
  rw [← hbx] at h2 ⊢
  clear hbx
  have p0 := h2.sw2.cell (o := 0) rfl
  have p1 := h2.sw2.cell (o := 1) rfl
  have p2 := h2.sw2.cell (o := 2) rfl
  have p3 := h2.sw2.cell (o := 3) rfl
  have H2 := Lib.hid h2
  have HCI := Lib.hid hcin
  clear h2 hcin H1
  go_wp2_with fail
  go_quiet ((go_at_call 16; exact Calls.quiet_of_same (HBQ.out _ _ (by unfold Sm; omega))))
  go_wp2_with fail
  go_quiet (fail)
  go_wp2_with fail
  refine (HBK.out _).mono ?_
  rintro r0 w2 ⟨rfl, rfl⟩
  clear p0 p1 p2 p3
  go_wp2_with fail
  refine (revive_any D (H2.out.drewN _).sw3).mono ?_
  rintro r0 w3 ⟨rfl, h3⟩
  have H3 := Lib.hid h3.sw4
  clear h3 H2
  go_wp2_with fail
  refine (rrevive_any D H3.out).mono ?_
  rintro r0 w4 ⟨rfl, h4⟩
  have H4 := Lib.hid h4
  clear h4 H3
  have HS : Hid (∃ xs, xs.length = l.length ∧ Bys xs ∧ Sep w0 (Rw 5 (.slice ain l.length cin) xs :: DiskT g (DS.mk D.j D.s0 D.s1 false none) :: RefT m (DS.mk D.j D.s0 D.s1 false none) :: L) _) := Lib.hid ⟨bv l, bv_length l, bys_bv l, H4.out.sw4.drop.sw3.sw3.sw2⟩
  clear H4
  have HOK1 : Hid ((DS.mk D.j D.s0 D.s1 false none).ok) := Lib.hid HOK.out
  generalize DS.mk D.j D.s0 D.s1 false none = D1 at *
  clear HOK HV HBQ HBK HLC
  go_wp2_with fail
  generalize l.length = nl at *
  go_loopw [11] (fun i wr => ∃ (k : Nat) (xs : List Value), k ≤ nl ∧ i = .int .i64 k ∧ xs.length = nl ∧ Bys xs ∧ Sep w0 (Rw 5 (.slice ain nl cin) xs :: DiskT g D1 :: RefT m D1 :: L) wr) (fun i _ => nl - (intOf i).toNat)
  case atStart => obtain ⟨xs, e1, e2, e3⟩ := HS.out; exact ⟨0, xs, by omega, rfl, e1, e2, e3⟩
  case round =>
    obtain ⟨k, xs, hk, rfl, hxl, hby, hs⟩ := hrel
    clear HS
    have hn := HLL.out
    by_cases hkn : k < nl
    · obtain ⟨b, c, hv, hc1, hc2, hcell, hfz, hset⟩ := hs.rowForm (by omega)
      rw [hxl] at hv hc1
      simp only [Value.slice.injEq, true_and] at hv
      obtain ⟨rfl, rfl⟩ := hv
      unfold maxLen at hc2
      obtain ⟨z, hz⟩ := hby.get k (by omega)
      have k0 := hcell k (by omega)
      rw [hz] at k0
      have k1 := hfz k
      have HS := Lib.hid (hset k (.int .u8 (bits BinOp.xor IntKind.u8 z 90)) (by omega))
      have HB := Lib.hid (hby.set k (bits BinOp.xor IntKind.u8 z 90))
      have HX := Lib.hid hxl
      have kk0 : (0 : Int) ≤ (k : Int) := by omega
      clear hs hcell hfz hset hby hz hxl
      go_wp2_with fail
      go_roundw
      case rel => exact ⟨k + 1, _, by omega, by go_num, by have := HX.out; simpa using this, HB.out, HS.out⟩
      case measure => simp [intOf]; omega
    · have HS := Lib.hid hs.drop
      clear hs hby hxl hn
      go_wp2_with fail
      go_ret
      exact ⟨rfl, D1, HOK1.out, HS.out⟩
set_option maxRecDepth 8000 in
set_option maxHeartbeats 4000000 in
theorem step_9_f {w0 w : World} {L : List Thing} {g m : Nat} (D : DS) (kind nn : Int) (a : Option Addr) (c : Nat) (l : List UInt8) (h : Sep w0 (DiskT g D :: RefT m D :: L) w) (hv : Sl w0 (.slice a l.length c) (bv l)) (hlc : l.length ≤ c) (hl : l.length ≤ 300) (hok : D.ok) (hkk : kind % 10 = 9) :
    Calls Try.prog 11 #[.pointer (some ⟨g, 0, none⟩), .pointer (some ⟨m, 0, none⟩), .agg #[.int .i64 kind, .int .i64 nn, .slice a l.length c, .bool false]] w fun e w' => e = .returned (.bool true) ∧ ∃ D', D'.ok ∧ Sep w0 (DiskT g D' :: RefT m D' :: L) w' := by
  have hbq : ∀ (k : Int) (wx : World), Sm k → Calls Try.prog 16 #[.int .i64 nn, .int .i64 k] wx fun e w' => e = .returned (.int .i64 (nn % k)) ∧ w' = wx := fun k wx hk => (bring_any nn k wx hk).mono fun _ _ h => ⟨h.1, h.2.symm⟩
  have HBQ := Lib.hid hbq
  have hbk : ∀ (wx : World), Calls Try.prog 16 #[.int .i64 kind, .int .i64 10] wx fun e w' => e = .returned (.int .i64 9) ∧ wx = w' := fun wx => by
    have := bring_any kind 10 wx (by unfold Sm; omega)
    rwa [hkk] at this
  have HBK := Lib.hid hbk
  have h1 := h.alloc (.cells #[.int .i64 kind, .int .i64 nn, .slice a l.length c, .bool false] 29)
  have H1 := Lib.hid h1
  have HV := Lib.hid hv
  have HLC := Lib.hid hlc
  have HLL := Lib.hid hl
  have HOK := Lib.hid hok
  obtain ⟨bx, hbx⟩ : ∃ x, x = w.heap.size := ⟨_, rfl⟩
  clear hbq hbk h h1 hv hlc hok hkk
  go_enter Try.func11, Try.ntmps11
  go_wp2_with fail
  refine (copy_sep _ l _ H1.out (HV.out.below H1.out.low) (by omega)).mono ?_
  rintro r0 w1 ⟨vin, rfl, h2⟩
  obtain ⟨ain, cin, rfl⟩ := h2.sl.len
  have hcin := h2.capOf
  rw [bv_length] at hcin h2 ⊢
  rw [← hbx] at h2 ⊢
  clear hbx
  have p0 := h2.sw2.cell (o := 0) rfl
  have p1 := h2.sw2.cell (o := 1) rfl
  have p2 := h2.sw2.cell (o := 2) rfl
  have p3 := h2.sw2.cell (o := 3) rfl
  have H2 := Lib.hid h2
  have HCI := Lib.hid hcin
  clear h2 hcin H1
  go_wp2_with fail
  go_quiet ((go_at_call 16; exact Calls.quiet_of_same (HBQ.out _ _ (by unfold Sm; omega))))
  go_wp2_with fail
  refine (HBK.out _).mono ?_
  rintro r0 w2 ⟨rfl, rfl⟩
  clear p0 p1 p2 p3
  go_wp2_with fail
  refine (revive_any D (H2.out.drewN _).sw3).mono ?_
  rintro r0 w3 ⟨rfl, h3⟩
  have H3 := Lib.hid h3.sw4
  clear h3 H2
  go_wp2_with fail
  refine (rrevive_any D H3.out).mono ?_
  rintro r0 w4 ⟨rfl, h4⟩
  have H4 := Lib.hid h4
  clear h4 H3
  have HS : Hid (∃ xs, xs.length = l.length ∧ Bys xs ∧ Sep w0 (Rw 5 (.slice ain l.length cin) xs :: DiskT g (DS.mk D.j D.s0 D.s1 false none) :: RefT m (DS.mk D.j D.s0 D.s1 false none) :: L) _) := Lib.hid ⟨bv l, bv_length l, bys_bv l, H4.out.sw4.drop.sw3.sw3.sw2⟩
  clear H4
  have HOK1 : Hid ((DS.mk D.j D.s0 D.s1 false none).ok) := Lib.hid HOK.out
  generalize DS.mk D.j D.s0 D.s1 false none = D1 at *
  clear HOK HV HBQ HBK HLC
  go_wp2_with fail
  generalize l.length = nl at *
  go_loopw [11] (fun i wr => ∃ (k : Nat) (xs : List Value), k ≤ nl ∧ i = .int .i64 k ∧ xs.length = nl ∧ Bys xs ∧ Sep w0 (Rw 5 (.slice ain nl cin) xs :: DiskT g D1 :: RefT m D1 :: L) wr) (fun i _ => nl - (intOf i).toNat)
  case atStart => obtain ⟨xs, e1, e2, e3⟩ := HS.out; exact ⟨0, xs, by omega, rfl, e1, e2, e3⟩
  case round =>
    obtain ⟨k, xs, hk, rfl, hxl, hby, hs⟩ := hrel
    clear HS
    have hn := HLL.out
    by_cases hkn : k < nl
    · obtain ⟨b, c, hv, hc1, hc2, hcell, hfz, hset⟩ := hs.rowForm (by omega)
      rw [hxl] at hv hc1
      simp only [Value.slice.injEq, true_and] at hv
      obtain ⟨rfl, rfl⟩ := hv
      unfold maxLen at hc2
      obtain ⟨z, hz⟩ := hby.get k (by omega)
      have k0 := hcell k (by omega)
      rw [hz] at k0
      have k1 := hfz k
      have HS := Lib.hid (hset k (.int .u8 (bits BinOp.xor IntKind.u8 z 90)) (by omega))
      have HB := Lib.hid (hby.set k (bits BinOp.xor IntKind.u8 z 90))
      have HX := Lib.hid hxl
      have kk0 : (0 : Int) ≤ (k : Int) := by omega
      clear hs hcell hfz hset hby hz hxl
      go_wp2_with fail
      go_roundw
      case rel => exact ⟨k + 1, _, by omega, by go_num, by have := HX.out; simpa using this, HB.out, HS.out⟩
      case measure => simp [intOf]; omega
    · have HS := Lib.hid hs.drop
      clear hs hby hxl hn
      go_wp2_with fail
      go_ret
      exact ⟨rfl, D1, HOK1.out, HS.out⟩
set_option maxRecDepth 8000 in
set_option maxHeartbeats 4000000 in
theorem step_9_t {w0 w : World} {L : List Thing} {g m : Nat} (D : DS) (kind nn : Int) (a : Option Addr) (c : Nat) (l : List UInt8) (h : Sep w0 (DiskT g D :: RefT m D :: L) w) (hv : Sl w0 (.slice a l.length c) (bv l)) (hlc : l.length ≤ c) (hl : l.length ≤ 300) (hok : D.ok) (hkk : kind % 10 = 9) :
    Calls Try.prog 11 #[.pointer (some ⟨g, 0, none⟩), .pointer (some ⟨m, 0, none⟩), .agg #[.int .i64 kind, .int .i64 nn, .slice a l.length c, .bool true]] w fun e w' => e = .returned (.bool true) ∧ ∃ D', D'.ok ∧ Sep w0 (DiskT g D' :: RefT m D' :: L) w' := by
  have hbq : ∀ (k : Int) (wx : World), Sm k → Calls Try.prog 16 #[.int .i64 nn, .int .i64 k] wx fun e w' => e = .returned (.int .i64 (nn % k)) ∧ w' = wx := fun k wx hk => (bring_any nn k wx hk).mono fun _ _ h => ⟨h.1, h.2.symm⟩
  have HBQ := Lib.hid hbq
  have hbk : ∀ (wx : World), Calls Try.prog 16 #[.int .i64 kind, .int .i64 10] wx fun e w' => e = .returned (.int .i64 9) ∧ wx = w' := fun wx => by
    have := bring_any kind 10 wx (by unfold Sm; omega)
    rwa [hkk] at this
  have HBK := Lib.hid hbk
  have h1 := h.alloc (.cells #[.int .i64 kind, .int .i64 nn, .slice a l.length c, .bool true] 29)
  have H1 := Lib.hid h1
  have HV := Lib.hid hv
  have HLC := Lib.hid hlc
  have HLL := Lib.hid hl
  have HOK := Lib.hid hok
  obtain ⟨bx, hbx⟩ : ∃ x, x = w.heap.size := ⟨_, rfl⟩
  clear hbq hbk h h1 hv hlc hok hkk
  go_enter Try.func11, Try.ntmps11
  go_wp2_with fail
  refine (copy_sep _ l _ H1.out (HV.out.below H1.out.low) (by omega)).mono ?_
  rintro r0 w1 ⟨vin, rfl, h2⟩
  obtain ⟨ain, cin, rfl⟩ := h2.sl.len
  have hcin := h2.capOf
  rw [bv_length] at hcin h2 ⊢
  rw [← hbx] at h2 ⊢
  clear hbx
  have p0 := h2.sw2.cell (o := 0) rfl
  have p1 := h2.sw2.cell (o := 1) rfl
  have p2 := h2.sw2.cell (o := 2) rfl
  have p3 := h2.sw2.cell (o := 3) rfl
  have H2 := Lib.hid h2
  have HCI := Lib.hid hcin
  clear h2 hcin H1
  go_wp2_with fail
  go_quiet ((go_at_call 16; exact Calls.quiet_of_same (HBQ.out _ _ (by unfold Sm; omega))))
  go_wp2_with fail
  go_quiet (fail)
  go_wp2_with fail
  refine (HBK.out _).mono ?_
  rintro r0 w2 ⟨rfl, rfl⟩
  clear p0 p1 p2 p3
  go_wp2_with fail
  refine (revive_any D (H2.out.drewN _).sw3).mono ?_
  rintro r0 w3 ⟨rfl, h3⟩
  have H3 := Lib.hid h3.sw4
  clear h3 H2
  go_wp2_with fail
  refine (rrevive_any D H3.out).mono ?_
  rintro r0 w4 ⟨rfl, h4⟩
  have H4 := Lib.hid h4
  clear h4 H3
  have HS : Hid (∃ xs, xs.length = l.length ∧ Bys xs ∧ Sep w0 (Rw 5 (.slice ain l.length cin) xs :: DiskT g (DS.mk D.j D.s0 D.s1 false none) :: RefT m (DS.mk D.j D.s0 D.s1 false none) :: L) _) := Lib.hid ⟨bv l, bv_length l, bys_bv l, H4.out.sw4.drop.sw3.sw3.sw2⟩
  clear H4
  have HOK1 : Hid ((DS.mk D.j D.s0 D.s1 false none).ok) := Lib.hid HOK.out
  generalize DS.mk D.j D.s0 D.s1 false none = D1 at *
  clear HOK HV HBQ HBK HLC
  go_wp2_with fail
  generalize l.length = nl at *
  go_loopw [11] (fun i wr => ∃ (k : Nat) (xs : List Value), k ≤ nl ∧ i = .int .i64 k ∧ xs.length = nl ∧ Bys xs ∧ Sep w0 (Rw 5 (.slice ain nl cin) xs :: DiskT g D1 :: RefT m D1 :: L) wr) (fun i _ => nl - (intOf i).toNat)
  case atStart => obtain ⟨xs, e1, e2, e3⟩ := HS.out; exact ⟨0, xs, by omega, rfl, e1, e2, e3⟩
  case round =>
    obtain ⟨k, xs, hk, rfl, hxl, hby, hs⟩ := hrel
    clear HS
    have hn := HLL.out
    by_cases hkn : k < nl
    · obtain ⟨b, c, hv, hc1, hc2, hcell, hfz, hset⟩ := hs.rowForm (by omega)
      rw [hxl] at hv hc1
      simp only [Value.slice.injEq, true_and] at hv
      obtain ⟨rfl, rfl⟩ := hv
      unfold maxLen at hc2
      obtain ⟨z, hz⟩ := hby.get k (by omega)
      have k0 := hcell k (by omega)
      rw [hz] at k0
      have k1 := hfz k
      have HS := Lib.hid (hset k (.int .u8 (bits BinOp.xor IntKind.u8 z 90)) (by omega))
      have HB := Lib.hid (hby.set k (bits BinOp.xor IntKind.u8 z 90))
      have HX := Lib.hid hxl
      have kk0 : (0 : Int) ≤ (k : Int) := by omega
      clear hs hcell hfz hset hby hz hxl
      go_wp2_with fail
      go_roundw
      case rel => exact ⟨k + 1, _, by omega, by go_num, by have := HX.out; simpa using this, HB.out, HS.out⟩
      case measure => simp [intOf]; omega
    · have HS := Lib.hid hs.drop
      clear hs hby hxl hn
      go_wp2_with fail
      go_ret
      exact ⟨rfl, D1, HOK1.out, HS.out⟩
set_option maxRecDepth 8000 in
set_option maxHeartbeats 4000000 in
theorem step_d_f {w0 w : World} {L : List Thing} {g m : Nat} (D : DS) (kind nn : Int) (kk : Int) (a : Option Addr) (c : Nat) (l : List UInt8) (h : Sep w0 (DiskT g D :: RefT m D :: L) w) (hv : Sl w0 (.slice a l.length c) (bv l)) (hlc : l.length ≤ c) (hl : l.length ≤ 300) (hok : D.ok) (hkk : kind % 10 = kk) (e3 : (kk == 3) = false) (e4 : (kk == 4) = false) (e5 : (kk == 5) = false) (e6 : (kk == 6) = false) (e7 : (kk == 7) = false) (e8 : (kk == 8) = false) (e9 : (kk == 9) = false) :
    Calls Try.prog 11 #[.pointer (some ⟨g, 0, none⟩), .pointer (some ⟨m, 0, none⟩), .agg #[.int .i64 kind, .int .i64 nn, .slice a l.length c, .bool false]] w fun e w' => e = .returned (.bool true) ∧ ∃ D', D'.ok ∧ Sep w0 (DiskT g D' :: RefT m D' :: L) w' := by
  have hbq : ∀ (k : Int) (wx : World), Sm k → Calls Try.prog 16 #[.int .i64 nn, .int .i64 k] wx fun e w' => e = .returned (.int .i64 (nn % k)) ∧ w' = wx := fun k wx hk => (bring_any nn k wx hk).mono fun _ _ h => ⟨h.1, h.2.symm⟩
  have HBQ := Lib.hid hbq
  have hbk : ∀ (wx : World), Calls Try.prog 16 #[.int .i64 kind, .int .i64 10] wx fun e w' => e = .returned (.int .i64 kk) ∧ wx = w' := fun wx => by
    have := bring_any kind 10 wx (by unfold Sm; omega)
    rwa [hkk] at this
  have HBK := Lib.hid hbk
  have h1 := h.alloc (.cells #[.int .i64 kind, .int .i64 nn, .slice a l.length c, .bool false] 29)
  have H1 := Lib.hid h1
  have HV := Lib.hid hv
  have HLC := Lib.hid hlc
  have HLL := Lib.hid hl
  have HOK := Lib.hid hok
  obtain ⟨bx, hbx⟩ : ∃ x, x = w.heap.size := ⟨_, rfl⟩
  clear hbq hbk h h1 hv hlc hok hkk
  go_enter Try.func11, Try.ntmps11
  go_wp2_with fail
  refine (copy_sep _ l _ H1.out (HV.out.below H1.out.low) (by omega)).mono ?_
  rintro r0 w1 ⟨vin, rfl, h2⟩
  obtain ⟨ain, cin, rfl⟩ := h2.sl.len
  have hcin := h2.capOf
  rw [bv_length] at hcin h2 ⊢
  rw [← hbx] at h2 ⊢
  clear hbx
  have p0 := h2.sw2.cell (o := 0) rfl
  have p1 := h2.sw2.cell (o := 1) rfl
  have p2 := h2.sw2.cell (o := 2) rfl
  have p3 := h2.sw2.cell (o := 3) rfl
  have H2 := Lib.hid h2
  have HCI := Lib.hid hcin
  clear h2 hcin H1
  go_wp2_with fail
  go_quiet ((go_at_call 16; exact Calls.quiet_of_same (HBQ.out _ _ (by unfold Sm; omega))))
  go_wp2_with fail
  refine (HBK.out _).mono ?_
  rintro r0 w2 ⟨rfl, rfl⟩
  go_wp2_with fail
  go_region_held3 (fun w' => w'.cell? ⟨bx, 2, none⟩ = some (.slice a l.length c)) (go_keep) (first | (go_at_call 24; refine Calls.mono (app_any D ain cin l (H2.out.drewN _).sw3 (H2.out.drewN _).sl HCI.out HOK.out (by have := HLL.out; omega)) ?_; rintro r0 w3 ⟨rfl, h3⟩; have q2 := h3.sw3.cell (o := 2) rfl; have H3 := Lib.hid h3.sw4; clear h3) | (go_at_call 33; refine Calls.mono (rapp_any D a c l H3.out (HV.out.below H3.out.low) HLC.out HOK.out (by have := HLL.out; omega)) ?_; rintro r0 w4 ⟨rfl, h4⟩; have q3 := h4.sw4.cell (o := 2) rfl; have H4 := Lib.hid h4; clear h4))
  clear p0 p1 p2 p3 q2 q3 H2 H3
  have HS : Hid (∃ xs, xs.length = l.length ∧ Bys xs ∧ Sep w0 (Rw 5 (.slice ain l.length cin) xs :: DiskT g (D.app l) :: RefT m (D.app l) :: L) _) := Lib.hid ⟨bv l, bv_length l, bys_bv l, H4.out.sw4.drop.sw3.sw3.sw2⟩
  clear H4
  have HOK1 : Hid ((D.app l).ok) := Lib.hid (HOK.out.app l)
  generalize D.app l = D1 at *
  clear HOK HV HBQ HBK HLC
  go_wp2_with fail
  generalize l.length = nl at *
  go_loopw [11] (fun i wr => ∃ (k : Nat) (xs : List Value), k ≤ nl ∧ i = .int .i64 k ∧ xs.length = nl ∧ Bys xs ∧ Sep w0 (Rw 5 (.slice ain nl cin) xs :: DiskT g D1 :: RefT m D1 :: L) wr) (fun i _ => nl - (intOf i).toNat)
  case atStart => obtain ⟨xs, e1, e2, e3⟩ := HS.out; exact ⟨0, xs, by omega, rfl, e1, e2, e3⟩
  case round =>
    obtain ⟨k, xs, hk, rfl, hxl, hby, hs⟩ := hrel
    clear HS
    have hn := HLL.out
    by_cases hkn : k < nl
    · obtain ⟨b, c, hv, hc1, hc2, hcell, hfz, hset⟩ := hs.rowForm (by omega)
      rw [hxl] at hv hc1
      simp only [Value.slice.injEq, true_and] at hv
      obtain ⟨rfl, rfl⟩ := hv
      unfold maxLen at hc2
      obtain ⟨z, hz⟩ := hby.get k (by omega)
      have k0 := hcell k (by omega)
      rw [hz] at k0
      have k1 := hfz k
      have HS := Lib.hid (hset k (.int .u8 (bits BinOp.xor IntKind.u8 z 90)) (by omega))
      have HB := Lib.hid (hby.set k (bits BinOp.xor IntKind.u8 z 90))
      have HX := Lib.hid hxl
      have kk0 : (0 : Int) ≤ (k : Int) := by omega
      clear hs hcell hfz hset hby hz hxl
      go_wp2_with fail
      go_roundw
      case rel => exact ⟨k + 1, _, by omega, by go_num, by have := HX.out; simpa using this, HB.out, HS.out⟩
      case measure => simp [intOf]; omega
    · have HS := Lib.hid hs.drop
      clear hs hby hxl hn
      go_wp2_with fail
      go_ret
      exact ⟨rfl, D1, HOK1.out, HS.out⟩
set_option maxRecDepth 8000 in
set_option maxHeartbeats 4000000 in
theorem step_d_t {w0 w : World} {L : List Thing} {g m : Nat} (D : DS) (kind nn : Int) (kk : Int) (a : Option Addr) (c : Nat) (l : List UInt8) (h : Sep w0 (DiskT g D :: RefT m D :: L) w) (hv : Sl w0 (.slice a l.length c) (bv l)) (hlc : l.length ≤ c) (hl : l.length ≤ 300) (hok : D.ok) (hkk : kind % 10 = kk) (e3 : (kk == 3) = false) (e4 : (kk == 4) = false) (e5 : (kk == 5) = false) (e6 : (kk == 6) = false) (e7 : (kk == 7) = false) (e8 : (kk == 8) = false) (e9 : (kk == 9) = false) :
    Calls Try.prog 11 #[.pointer (some ⟨g, 0, none⟩), .pointer (some ⟨m, 0, none⟩), .agg #[.int .i64 kind, .int .i64 nn, .slice a l.length c, .bool true]] w fun e w' => e = .returned (.bool true) ∧ ∃ D', D'.ok ∧ Sep w0 (DiskT g D' :: RefT m D' :: L) w' := by
  have hbq : ∀ (k : Int) (wx : World), Sm k → Calls Try.prog 16 #[.int .i64 nn, .int .i64 k] wx fun e w' => e = .returned (.int .i64 (nn % k)) ∧ w' = wx := fun k wx hk => (bring_any nn k wx hk).mono fun _ _ h => ⟨h.1, h.2.symm⟩
  have HBQ := Lib.hid hbq
  have hbk : ∀ (wx : World), Calls Try.prog 16 #[.int .i64 kind, .int .i64 10] wx fun e w' => e = .returned (.int .i64 kk) ∧ wx = w' := fun wx => by
    have := bring_any kind 10 wx (by unfold Sm; omega)
    rwa [hkk] at this
  have HBK := Lib.hid hbk
  have h1 := h.alloc (.cells #[.int .i64 kind, .int .i64 nn, .slice a l.length c, .bool true] 29)
  have H1 := Lib.hid h1
  have HV := Lib.hid hv
  have HLC := Lib.hid hlc
  have HLL := Lib.hid hl
  have HOK := Lib.hid hok
  obtain ⟨bx, hbx⟩ : ∃ x, x = w.heap.size := ⟨_, rfl⟩
  clear hbq hbk h h1 hv hlc hok hkk
  go_enter Try.func11, Try.ntmps11
  go_wp2_with fail
  refine (copy_sep _ l _ H1.out (HV.out.below H1.out.low) (by omega)).mono ?_
  rintro r0 w1 ⟨vin, rfl, h2⟩
  obtain ⟨ain, cin, rfl⟩ := h2.sl.len
  have hcin := h2.capOf
  rw [bv_length] at hcin h2 ⊢
  rw [← hbx] at h2 ⊢
  clear hbx
  have p0 := h2.sw2.cell (o := 0) rfl
  have p1 := h2.sw2.cell (o := 1) rfl
  have p2 := h2.sw2.cell (o := 2) rfl
  have p3 := h2.sw2.cell (o := 3) rfl
  have H2 := Lib.hid h2
  have HCI := Lib.hid hcin
  clear h2 hcin H1
  go_wp2_with fail
  go_quiet ((go_at_call 16; exact Calls.quiet_of_same (HBQ.out _ _ (by unfold Sm; omega))))
  go_wp2_with fail
  go_quiet (fail)
  go_wp2_with fail
  refine (HBK.out _).mono ?_
  rintro r0 w2 ⟨rfl, rfl⟩
  go_wp2_with fail
  go_region_held3 (fun w' => w'.cell? ⟨bx, 2, none⟩ = some (.slice a l.length c)) (go_keep) (first | (go_at_call 24; refine Calls.mono (app_any D ain cin l (H2.out.drewN _).sw3 (H2.out.drewN _).sl HCI.out HOK.out (by have := HLL.out; omega)) ?_; rintro r0 w3 ⟨rfl, h3⟩; have q2 := h3.sw3.cell (o := 2) rfl; have H3 := Lib.hid h3.sw4; clear h3) | (go_at_call 33; refine Calls.mono (rapp_any D a c l H3.out (HV.out.below H3.out.low) HLC.out HOK.out (by have := HLL.out; omega)) ?_; rintro r0 w4 ⟨rfl, h4⟩; have q3 := h4.sw4.cell (o := 2) rfl; have H4 := Lib.hid h4; clear h4))
  clear p0 p1 p2 p3 q2 q3 H2 H3
  have HS : Hid (∃ xs, xs.length = l.length ∧ Bys xs ∧ Sep w0 (Rw 5 (.slice ain l.length cin) xs :: DiskT g (D.app l) :: RefT m (D.app l) :: L) _) := Lib.hid ⟨bv l, bv_length l, bys_bv l, H4.out.sw4.drop.sw3.sw3.sw2⟩
  clear H4
  have HOK1 : Hid ((D.app l).ok) := Lib.hid (HOK.out.app l)
  generalize D.app l = D1 at *
  clear HOK HV HBQ HBK HLC
  go_wp2_with fail
  generalize l.length = nl at *
  go_loopw [11] (fun i wr => ∃ (k : Nat) (xs : List Value), k ≤ nl ∧ i = .int .i64 k ∧ xs.length = nl ∧ Bys xs ∧ Sep w0 (Rw 5 (.slice ain nl cin) xs :: DiskT g D1 :: RefT m D1 :: L) wr) (fun i _ => nl - (intOf i).toNat)
  case atStart => obtain ⟨xs, e1, e2, e3⟩ := HS.out; exact ⟨0, xs, by omega, rfl, e1, e2, e3⟩
  case round =>
    obtain ⟨k, xs, hk, rfl, hxl, hby, hs⟩ := hrel
    clear HS
    have hn := HLL.out
    by_cases hkn : k < nl
    · obtain ⟨b, c, hv, hc1, hc2, hcell, hfz, hset⟩ := hs.rowForm (by omega)
      rw [hxl] at hv hc1
      simp only [Value.slice.injEq, true_and] at hv
      obtain ⟨rfl, rfl⟩ := hv
      unfold maxLen at hc2
      obtain ⟨z, hz⟩ := hby.get k (by omega)
      have k0 := hcell k (by omega)
      rw [hz] at k0
      have k1 := hfz k
      have HS := Lib.hid (hset k (.int .u8 (bits BinOp.xor IntKind.u8 z 90)) (by omega))
      have HB := Lib.hid (hby.set k (bits BinOp.xor IntKind.u8 z 90))
      have HX := Lib.hid hxl
      have kk0 : (0 : Int) ≤ (k : Int) := by omega
      clear hs hcell hfz hset hby hz hxl
      go_wp2_with fail
      go_roundw
      case rel => exact ⟨k + 1, _, by omega, by go_num, by have := HX.out; simpa using this, HB.out, HS.out⟩
      case measure => simp [intOf]; omega
    · have HS := Lib.hid hs.drop
      clear hs hby hxl hn
      go_wp2_with fail
      go_ret
      exact ⟨rfl, D1, HOK1.out, HS.out⟩
end Go.Proofs.Ytpnafgkoijnplaa
