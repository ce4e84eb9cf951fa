/- The walk of DiskTears. -/
import Derived.Test.YtpnafgkoijnplaaDisk4
import Derived.Test.YtpnafgkoijnplaaBring
import Derived.Test.YtpnafgkoijnplaaSlPart2
import Derived.Test.YtpnafgkoijnplaaSep2
namespace Go.Proofs.Ytpnafgkoijnplaa
open Go.RowKit
set_option linter.unusedVariables false
theorem arm_dead {w0 w : World} {L : List Thing} {g : Nat} (D : DS) (n : Int) (h : Sep w0 (DiskT g D :: L) w) (hd : D.dead = true) :
    Calls Try.prog 22 #[.pointer (some ⟨g, 0, none⟩), .int .i64 n] w fun e w' => e = .returned (.int .i64 130) ∧ Sep w0 (DiskT g D :: L) w' := by
  have e1 : D.armE n = 130 := by simp [DS.armE, hd]
  have := arm_no D n h (by rw [e1]; decide)
  rwa [e1] at this
theorem trim_dead {w0 w : World} {L : List Thing} {g : Nat} (D : DS) (n : Int) (h : Sep w0 (DiskT g D :: L) w) (hj : D.j.length ≤ 1048576) (hd : D.dead = true) :
    Calls Try.prog 20 #[.pointer (some ⟨g, 0, none⟩), .int .i64 n] w fun e w' => e = .returned (.int .i64 130) ∧ Sep w0 (DiskT g D :: L) w' := by
  have e1 : D.keepE n = 130 := by simp [DS.keepE, hd]
  have e2 : D.trim n = D := by unfold DS.trim; rw [if_neg (by rw [e1]; decide)]
  have := trim_any D n h hj
  rwa [e1, e2] at this
theorem cut_dead {w0 w : World} {L : List Thing} {g : Nat} (D : DS) (n : Int) (h : Sep w0 (DiskT g D :: L) w) (hj : D.j.length ≤ 1048576) (hd : D.dead = true) :
    Calls Try.prog 21 #[.pointer (some ⟨g, 0, none⟩), .int .i64 n] w fun e w' => e = .returned (.int .i64 130) ∧ Sep w0 (DiskT g D :: L) w' := by
  have e1 : D.keepE n = 130 := by simp [DS.keepE, hd]
  have e2 : D.cut n = D := by unfold DS.cut; rw [if_neg (by rw [e1]; decide)]
  have := cut_any D n h hj
  rwa [e1, e2] at this
set_option maxRecDepth 8000 in
set_option maxHeartbeats 4000000 in
theorem tears_0 (a a' : Option Addr) (c c' : Nat) (l l' : List UInt8) (n0 n1 : Int) (w : World) (h : Sl w (.slice a l.length c) (bv l)) (h' : Sl w (.slice a' l'.length c') (bv l')) (hlc : l.length ≤ c) (hlc' : l'.length ≤ c') (hcm : c ≤ maxLen) (hcm' : c' ≤ maxLen) (hk : n1 % 3 = 0) :
    Calls Try.prog 5 #[.slice a l.length c, .slice a' l'.length c', .agg #[.int .i64 n0, .int .i64 n1]] w fun e w' => e = .returned (.bool true) ∧ Below w.heap.size w w' := by
  obtain ⟨m, hm, hm300, hmin, _⟩ := min_len l.length 300
  obtain ⟨m', hm', hm300', hmin', _⟩ := min_len l'.length 300
  rw [show ((300 : Nat) : Int) = 300 from rfl] at hmin hmin'
  have hp := sl_pre h hm
  have hp' := sl_pre h' hm'
  obtain ⟨b, hb⟩ : ∃ b, b = l.take m := ⟨_, rfl⟩
  obtain ⟨b', hb'⟩ : ∃ b', b' = l'.take m' := ⟨_, rfl⟩
  have hbl : b.length = m := by rw [hb, List.length_take]; omega
  have hbl' : b'.length = m' := by rw [hb', List.length_take]; omega
  rw [← hb] at hp
  rw [← hb'] at hp'
  obtain ⟨n, hn, hnm⟩ : ∃ n : Nat, n0 % ((m' : Int) + 3) = (n : Int) ∧ n ≤ m' + 2 := by
    have h1 := Int.emod_nonneg n0 (show ((m' : Int) + 3) ≠ 0 by omega)
    have h2 := Int.emod_lt_of_pos n0 (show 0 < ((m' : Int) + 3) by omega)
    exact ⟨(n0 % ((m' : Int) + 3)).toNat, by omega, by omega⟩
  obtain ⟨q, hqm, hqn, hqmin, hq⟩ := min_len n m'
  have hqmin' : (if m' < n then (m' : Int) else (n : Int)) = (q : Int) := by rw [← hqmin]; simp only [Int.ofNat_lt]
  obtain ⟨bt, hbt⟩ : ∃ bt, bt = b'.take q := ⟨_, rfl⟩
  have hbtn : b'.take n = bt := by
    rw [hbt]
    rcases hq with rfl | rfl
    · rfl
    · rw [List.take_of_length_le (by omega), List.take_of_length_le (by omega)]
  have hpt := sl_pre (a := a') (c := c') (u := q) (by rw [hbl']; exact hp') (by omega)
  rw [← hbt] at hpt
  have hbtl : bt.length ≤ 300 := by rw [hbt, List.length_take]; omega
  have hB1 : ∀ wx : World, Calls Try.prog 16 #[.int .i64 n0, .int .i64 ((m' : Int) + 3)] wx fun e w' => e = .returned (.int .i64 (n : Int)) ∧ w' = wx := fun wx => by
    have := bring_any n0 ((m' : Int) + 3) wx (by unfold Sm; omega)
    rw [hn] at this
    exact this.mono fun _ _ h => ⟨h.1, h.2.symm⟩
  have hB2 : ∀ wx : World, Calls Try.prog 16 #[.int .i64 n1, .int .i64 3] wx fun e w' => e = .returned (.int .i64 0) ∧ w' = wx := fun wx => by
    have := bring_any n1 3 wx (by unfold Sm; omega)
    rw [hk] at this
    exact this.mono fun _ _ h => ⟨h.1, h.2.symm⟩
  have HB1 := Lib.hid hB1
  have HB2 := Lib.hid hB2
  have HP := Lib.hid hp
  have HP' := Lib.hid hp'
  have HPT := Lib.hid hpt
  have HT := Lib.hid hbtn
  have HL : Hid (b.length ≤ 300 ∧ b'.length ≤ 300 ∧ bt.length ≤ 300) := Lib.hid ⟨by omega, by omega, hbtl⟩
  have HLe : Hid (b.length = m ∧ b'.length = m') := Lib.hid ⟨hbl, hbl'⟩
  have hmc : m ≤ c := by omega
  have hmc' : m' ≤ c' := by omega
  have hqc' : q ≤ c' := by omega
  have z0 : (0 : Int) ≤ (m : Int) := by omega
  have z1 : (0 : Int) ≤ (m' : Int) := by omega
  have z2 : (0 : Int) ≤ (q : Int) := by omega
  have z3 : (m : Int) ≤ (c : Int) := by omega
  have z4 : (m' : Int) ≤ (c' : Int) := by omega
  have z5 : IntKind.i64.wrap ((m' : Int) + 3) = (m' : Int) + 3 := IntWalk.i64_in _ (by omega)
  unfold maxLen at hcm hcm'
  clear hB1 hB2 hp hp' hpt hn h h' hb hb' hbl hbl' hm hm' hbtl hbtn hbt hlc hlc' hk hq
  go_enter Try.func5, Try.ntmps5
  go_wp2_with fail
  have hx0 : (w.alloc (.cells #[.int .i64 n0, .int .i64 n1] 44)).cell? ⟨w.heap.size, 0, none⟩ = some (.int .i64 n0) := ((Sep.start w).alloc _).cell rfl
  have hx1 : (w.alloc (.cells #[.int .i64 n0, .int .i64 n1] 44)).cell? ⟨w.heap.size, 1, none⟩ = some (.int .i64 n1) := ((Sep.start w).alloc _).cell rfl
  have hs0 : Sep w [] (w.alloc (.cells #[.int .i64 n0, .int .i64 n1] 44)) := (Sep.start w).alloc0 _
  generalize w.alloc (.cells #[.int .i64 n0, .int .i64 n1] 44) = W0 at *
  obtain ⟨bx, hbx⟩ : ∃ x, x = w.heap.size := ⟨_, rfl⟩
  rw [← hbx] at hx0 hx1 ⊢
  clear hbx
  have HS0 := Lib.hid hs0
  clear hs0
  go_quiet (fail)
  clear hmin hmin'
  go_wp2_with fail
  go_region_held3 (fun w' => w'.cell? ⟨bx, 0, none⟩ = some (.int .i64 n0) ∧ w'.cell? ⟨bx, 1, none⟩ = some (.int .i64 n1)) (go_keep) (first | (go_at_call_of 16 (Value.int .i64 n0); refine Calls.mono (HB1.out _) ?_; rintro r0 w1 ⟨rfl, rfl⟩) | (go_at_call_of 16 (Value.int .i64 n1); refine Calls.mono (HB2.out _) ?_; rintro r0 w1 ⟨rfl, rfl⟩))
  clear hx0 hx1 HB1 HB2
  clear z5
  go_wp2_with fail
  refine (new_any (HS0.out.drewN _)).mono ?_
  rintro r0 w1 ⟨g, rfl, h1⟩
  have H1 := Lib.hid h1
  have HV1 := Lib.hid (HP.out.below h1.low)
  clear h1 HS0
  go_wp2_with fail
  refine (append_none [] [] [] _ b H1.out HV1.out (by have := HL.out; simp; omega)).mono ?_
  rintro r0 w2 ⟨rfl, h2⟩
  rw [List.nil_append] at h2
  have H2 := Lib.hid h2
  clear h2 H1 HV1
  go_wp2_with fail
  refine (slot0_lit 1 _ [] [] [1] _ H2.out rfl rfl (by decide)).mono ?_
  rintro r0 w3 ⟨rfl, h3⟩
  have H3 := Lib.hid h3
  clear h3 H2
  go_wp2_with fail
  refine (slot1_lit 2 _ _ [] [2, 2] _ H3.out rfl rfl (by decide)).mono ?_
  rintro r0 w4 ⟨rfl, h4⟩
  have H4 := Lib.hid h4
  clear h4 H3
  go_wp2_with fail
  refine (arm_ok _ n H4.out rfl).mono ?_
  rintro r0 w5 ⟨rfl, h5⟩
  have H5 := Lib.hid h5
  have HV5 := Lib.hid (HP.out.below h5.low)
  clear h5 H4
  go_wp2_with fail
  refine (copy_sep _ b _ H5.out HV5.out (by have := HL.out; omega)).mono ?_
  rintro r0 w6 ⟨v6, rfl, h6⟩
  have h7 := (((h6.alloc (.cells #[.int .u8 1] 5)).asRow 1 rfl (by unfold maxLen; omega)).alloc (.cells #[.int .u8 2, .int .u8 2] 5)).asRow 2 rfl (by unfold maxLen; omega)
  have h8 := h7.alloc (.cells #[.slice (some ⟨w6.heap.size, 0, none⟩) 1 1, .slice (some ⟨w6.heap.size + 1, 0, none⟩) 2 2] 34)
  rw [show ((w6.alloc (.cells #[.int .u8 1] 5)).alloc (.cells #[.int .u8 2, .int .u8 2] 5)).heap.size = w6.heap.size + 2 by simp, show (w6.alloc (.cells #[.int .u8 1] 5)).heap.size = w6.heap.size + 1 by simp] at h8
  have H8 : Hid (Sep w (Cl (w6.heap.size + 2) #[.slice (some ⟨w6.heap.size, 0, none⟩) 1 1, .slice (some ⟨w6.heap.size + 1, 0, none⟩) 2 2] 34 :: By (.slice (some ⟨w6.heap.size + 1, 0, none⟩) 2 2) [2, 2] :: By (.slice (some ⟨w6.heap.size, 0, none⟩) 1 1) [1] :: By v6 b :: DiskT g ⟨b, [1], [2, 2], false, some n⟩ :: []) _) := Lib.hid h8
  have HV8 := Lib.hid (HPT.out.below h8.low)
  clear h6 h7 h8 H5 HV5
  go_wp2_with fail
  refine (copy_sep _ bt _ H8.out HV8.out (by have := HL.out; omega)).mono ?_
  rintro r0 w8 ⟨v8, rfl, h8⟩
  obtain ⟨a8, c8, rfl⟩ := h8.sl.len
  obtain ⟨a6, c6, rfl⟩ := h8.sw5.sl.len
  obtain ⟨x6, hx6⟩ : ∃ x, x = w6.heap.size := ⟨_, rfl⟩
  rw [← hx6] at h8 ⊢
  clear hx6 H8 HV8
  have H9 := Lib.hid h8.sw6
  have HV9 := Lib.hid (HP'.out.below h8.low)
  clear h8
  go_wp2_with fail
  refine (slot0_some b [1] [2, 2] _ b' H9.out HV9.out (by have := HL.out; omega)).mono ?_
  rintro r0 w9 ⟨rfl, h9⟩
  rw [HT.out] at h9
  have p0 := h9.sw3.cell (o := 0) rfl
  have p1 := h9.sw3.frozen 0
  have HD := Lib.hid (h9.sw3.setCell 0 (.slice a8 (bv bt).length c8)).sw5.drop.sw5.sw3.sw4.to5
  clear h9 H9 HV9
  go_wp2_with fail
  clear p0 p1
  refine (slots_any _ HD.out (by have := HL.out; simp; try omega) (by have := HL.out; simp; try omega)).mono ?_
  rintro r0 w11 ⟨v11, u11, rfl, h11⟩
  obtain ⟨av, cv, rfl⟩ := h11.sl.len
  obtain ⟨au, cu, rfl⟩ := h11.sw2.sl.len
  have H12 := Lib.hid (h11.alloc (.cells #[.slice av (bv bt).length cv, .slice au (bv [2, 2]).length cu] 34)).sw4
  clear h11 HD
  go_wp2_with fail
  refine (log_any _ H12.out (by have := HL.out; simp; try omega)).mono ?_
  rintro r0 w13 ⟨v13, rfl, h13⟩
  have p0 := h13.sw3.cell (o := 0) rfl
  have p1 := h13.sw3.cell (o := 1) rfl
  have p2 := h13.sw7.cell (o := 0) rfl
  have p3 := h13.sw7.cell (o := 1) rfl
  have H13 := Lib.hid h13
  clear h13 H12
  go_wp2_with fail
  refine (eqSame_any _ _ b _ H13.out.sl H13.out.sw6.sl).mono ?_
  rintro r0 w14 ⟨rfl, rfl⟩
  go_wp2_with fail
  refine (eqSame_any _ _ bt _ H13.out.sw4.sl H13.out.sw9.sl).mono ?_
  rintro r0 w14 ⟨rfl, rfl⟩
  go_wp2_with fail
  refine (eqSame_any _ _ [2, 2] _ H13.out.sw5.sl H13.out.sw8.sl).mono ?_
  rintro r0 w14 ⟨rfl, rfl⟩
  clear p0 p1 p2 p3
  go_wp2_with fail
  refine (dead_any H13.out.sw2).mono ?_
  rintro r0 w14 ⟨rfl, rfl⟩
  go_wp2_with fail
  refine (arm_dead _ 0 H13.out.sw2 rfl).mono ?_
  rintro r0 w14 ⟨rfl, h14⟩
  have H14 := Lib.hid h14
  clear h14 H13
  go_wp2_with fail
  refine (trim_dead _ 0 H14.out (by have := HL.out; simp; try omega) rfl).mono ?_
  rintro r0 w15 ⟨rfl, h15⟩
  have H15 := Lib.hid h15
  clear h15 H14
  go_wp2_with fail
  refine (cut_dead _ 0 H15.out (by have := HL.out; simp; try omega) rfl).mono ?_
  rintro r0 w16 ⟨rfl, h16⟩
  have H16 := Lib.hid h16
  clear h16 H15
  go_wp2_with fail
  refine (slot_dead 0 _ H16.out rfl).mono ?_
  rintro r0 w17 ⟨rfl, rfl⟩
  go_wp2_with fail
  refine (append_dead _ H16.out rfl).mono ?_
  rintro r0 w17 ⟨rfl, rfl⟩
  go_wp2_with fail
  refine (revive_any _ H16.out).mono ?_
  rintro r0 w18 ⟨rfl, h18⟩
  have H18 := Lib.hid h18
  clear h18 H16
  go_wp2_with fail
  refine (append_none b bt [2, 2] _ [] H18.out (.inl (.inl ⟨rfl, rfl⟩)) (by have := HL.out; simp; try omega)).mono ?_
  rintro r0 w19 ⟨rfl, h19⟩
  rw [List.append_nil] at h19
  have H19 := Lib.hid h19
  clear h19 H18
  go_wp2_with fail
  refine (log_any _ H19.out (by have := HL.out; simp; try omega)).mono ?_
  rintro r0 w20 ⟨v20, rfl, h20⟩
  have H20 := Lib.hid h20
  clear h20 H19
  go_wp2_with fail
  refine (eqSame_any _ _ b _ H20.out.sl H20.out.sw7.sl).mono ?_
  rintro r0 w21 ⟨rfl, rfl⟩
  go_wp2_with fail
  refine (works_any _).mono ?_
  rintro r0 w22 ⟨rfl, hb22⟩
  have HF := Lib.hid (below_step H20.out.low hb22)
  clear hb22 H20
  go_wp2_with fail
  go_ret
  exact ⟨rfl, HF.out⟩
set_option maxRecDepth 8000 in
set_option maxHeartbeats 4000000 in
theorem tears_1 (a a' : Option Addr) (c c' : Nat) (l l' : List UInt8) (n0 n1 : Int) (w : World) (h : Sl w (.slice a l.length c) (bv l)) (h' : Sl w (.slice a' l'.length c') (bv l')) (hlc : l.length ≤ c) (hlc' : l'.length ≤ c') (hcm : c ≤ maxLen) (hcm' : c' ≤ maxLen) (hk : n1 % 3 = 1) :
    Calls Try.prog 5 #[.slice a l.length c, .slice a' l'.length c', .agg #[.int .i64 n0, .int .i64 n1]] w fun e w' => e = .returned (.bool true) ∧ Below w.heap.size w w' := by
  obtain ⟨m, hm, hm300, hmin, _⟩ := min_len l.length 300
  obtain ⟨m', hm', hm300', hmin', _⟩ := min_len l'.length 300
  rw [show ((300 : Nat) : Int) = 300 from rfl] at hmin hmin'
  have hp := sl_pre h hm
  have hp' := sl_pre h' hm'
  obtain ⟨b, hb⟩ : ∃ b, b = l.take m := ⟨_, rfl⟩
  obtain ⟨b', hb'⟩ : ∃ b', b' = l'.take m' := ⟨_, rfl⟩
  have hbl : b.length = m := by rw [hb, List.length_take]; omega
  have hbl' : b'.length = m' := by rw [hb', List.length_take]; omega
  rw [← hb] at hp
  rw [← hb'] at hp'
  obtain ⟨n, hn, hnm⟩ : ∃ n : Nat, n0 % ((m' : Int) + 3) = (n : Int) ∧ n ≤ m' + 2 := by
    have h1 := Int.emod_nonneg n0 (show ((m' : Int) + 3) ≠ 0 by omega)
    have h2 := Int.emod_lt_of_pos n0 (show 0 < ((m' : Int) + 3) by omega)
    exact ⟨(n0 % ((m' : Int) + 3)).toNat, by omega, by omega⟩
  obtain ⟨q, hqm, hqn, hqmin, hq⟩ := min_len n m'
  have hqmin' : (if m' < n then (m' : Int) else (n : Int)) = (q : Int) := by rw [← hqmin]; simp only [Int.ofNat_lt]
  obtain ⟨bt, hbt⟩ : ∃ bt, bt = b'.take q := ⟨_, rfl⟩
  have hbtn : b'.take n = bt := by
    rw [hbt]
    rcases hq with rfl | rfl
    · rfl
    · rw [List.take_of_length_le (by omega), List.take_of_length_le (by omega)]
  have hpt := sl_pre (a := a') (c := c') (u := q) (by rw [hbl']; exact hp') (by omega)
  rw [← hbt] at hpt
  have hbtl : bt.length ≤ 300 := by rw [hbt, List.length_take]; omega
  have hB1 : ∀ wx : World, Calls Try.prog 16 #[.int .i64 n0, .int .i64 ((m' : Int) + 3)] wx fun e w' => e = .returned (.int .i64 (n : Int)) ∧ w' = wx := fun wx => by
    have := bring_any n0 ((m' : Int) + 3) wx (by unfold Sm; omega)
    rw [hn] at this
    exact this.mono fun _ _ h => ⟨h.1, h.2.symm⟩
  have hB2 : ∀ wx : World, Calls Try.prog 16 #[.int .i64 n1, .int .i64 3] wx fun e w' => e = .returned (.int .i64 1) ∧ w' = wx := fun wx => by
    have := bring_any n1 3 wx (by unfold Sm; omega)
    rw [hk] at this
    exact this.mono fun _ _ h => ⟨h.1, h.2.symm⟩
  have HB1 := Lib.hid hB1
  have HB2 := Lib.hid hB2
  have HP := Lib.hid hp
  have HP' := Lib.hid hp'
  have HPT := Lib.hid hpt
  have HT := Lib.hid hbtn
  have HL : Hid (b.length ≤ 300 ∧ b'.length ≤ 300 ∧ bt.length ≤ 300) := Lib.hid ⟨by omega, by omega, hbtl⟩
  have HLe : Hid (b.length = m ∧ b'.length = m') := Lib.hid ⟨hbl, hbl'⟩
  have hmc : m ≤ c := by omega
  have hmc' : m' ≤ c' := by omega
  have hqc' : q ≤ c' := by omega
  have z0 : (0 : Int) ≤ (m : Int) := by omega
  have z1 : (0 : Int) ≤ (m' : Int) := by omega
  have z2 : (0 : Int) ≤ (q : Int) := by omega
  have z3 : (m : Int) ≤ (c : Int) := by omega
  have z4 : (m' : Int) ≤ (c' : Int) := by omega
  have z5 : IntKind.i64.wrap ((m' : Int) + 3) = (m' : Int) + 3 := IntWalk.i64_in _ (by omega)
  unfold maxLen at hcm hcm'
  clear hB1 hB2 hp hp' hpt hn h h' hb hb' hbl hbl' hm hm' hbtl hbtn hbt hlc hlc' hk hq
  go_enter Try.func5, Try.ntmps5
  go_wp2_with fail
  have hx0 : (w.alloc (.cells #[.int .i64 n0, .int .i64 n1] 44)).cell? ⟨w.heap.size, 0, none⟩ = some (.int .i64 n0) := ((Sep.start w).alloc _).cell rfl
  have hx1 : (w.alloc (.cells #[.int .i64 n0, .int .i64 n1] 44)).cell? ⟨w.heap.size, 1, none⟩ = some (.int .i64 n1) := ((Sep.start w).alloc _).cell rfl
  have hs0 : Sep w [] (w.alloc (.cells #[.int .i64 n0, .int .i64 n1] 44)) := (Sep.start w).alloc0 _
  generalize w.alloc (.cells #[.int .i64 n0, .int .i64 n1] 44) = W0 at *
  obtain ⟨bx, hbx⟩ : ∃ x, x = w.heap.size := ⟨_, rfl⟩
  rw [← hbx] at hx0 hx1 ⊢
  clear hbx
  have HS0 := Lib.hid hs0
  clear hs0
  go_quiet (fail)
  clear hmin hmin'
  go_wp2_with fail
  go_region_held3 (fun w' => w'.cell? ⟨bx, 0, none⟩ = some (.int .i64 n0) ∧ w'.cell? ⟨bx, 1, none⟩ = some (.int .i64 n1)) (go_keep) (first | (go_at_call_of 16 (Value.int .i64 n0); refine Calls.mono (HB1.out _) ?_; rintro r0 w1 ⟨rfl, rfl⟩) | (go_at_call_of 16 (Value.int .i64 n1); refine Calls.mono (HB2.out _) ?_; rintro r0 w1 ⟨rfl, rfl⟩))
  clear hx0 hx1 HB1 HB2
  clear z5
  go_wp2_with fail
  refine (new_any (HS0.out.drewN _)).mono ?_
  rintro r0 w1 ⟨g, rfl, h1⟩
  have H1 := Lib.hid h1
  have HV1 := Lib.hid (HP.out.below h1.low)
  clear h1 HS0
  go_wp2_with fail
  refine (append_none [] [] [] _ b H1.out HV1.out (by have := HL.out; simp; omega)).mono ?_
  rintro r0 w2 ⟨rfl, h2⟩
  rw [List.nil_append] at h2
  have H2 := Lib.hid h2
  clear h2 H1 HV1
  go_wp2_with fail
  refine (slot0_lit 1 _ [] [] [1] _ H2.out rfl rfl (by decide)).mono ?_
  rintro r0 w3 ⟨rfl, h3⟩
  have H3 := Lib.hid h3
  clear h3 H2
  go_wp2_with fail
  refine (slot1_lit 2 _ _ [] [2, 2] _ H3.out rfl rfl (by decide)).mono ?_
  rintro r0 w4 ⟨rfl, h4⟩
  have H4 := Lib.hid h4
  clear h4 H3
  go_wp2_with fail
  refine (arm_ok _ n H4.out rfl).mono ?_
  rintro r0 w5 ⟨rfl, h5⟩
  have H5 := Lib.hid h5
  have HV5 := Lib.hid (HP.out.below h5.low)
  clear h5 H4
  go_wp2_with fail
  refine (copy_sep _ b _ H5.out HV5.out (by have := HL.out; omega)).mono ?_
  rintro r0 w6 ⟨v6, rfl, h6⟩
  have h7 := (((h6.alloc (.cells #[.int .u8 1] 5)).asRow 1 rfl (by unfold maxLen; omega)).alloc (.cells #[.int .u8 2, .int .u8 2] 5)).asRow 2 rfl (by unfold maxLen; omega)
  have h8 := h7.alloc (.cells #[.slice (some ⟨w6.heap.size, 0, none⟩) 1 1, .slice (some ⟨w6.heap.size + 1, 0, none⟩) 2 2] 34)
  rw [show ((w6.alloc (.cells #[.int .u8 1] 5)).alloc (.cells #[.int .u8 2, .int .u8 2] 5)).heap.size = w6.heap.size + 2 by simp, show (w6.alloc (.cells #[.int .u8 1] 5)).heap.size = w6.heap.size + 1 by simp] at h8
  have H8 : Hid (Sep w (Cl (w6.heap.size + 2) #[.slice (some ⟨w6.heap.size, 0, none⟩) 1 1, .slice (some ⟨w6.heap.size + 1, 0, none⟩) 2 2] 34 :: By (.slice (some ⟨w6.heap.size + 1, 0, none⟩) 2 2) [2, 2] :: By (.slice (some ⟨w6.heap.size, 0, none⟩) 1 1) [1] :: By v6 b :: DiskT g ⟨b, [1], [2, 2], false, some n⟩ :: []) _) := Lib.hid h8
  have HV8 := Lib.hid (HPT.out.below h8.low)
  clear h6 h7 h8 H5 HV5
  go_wp2_with fail
  refine (copy_sep _ bt _ H8.out HV8.out (by have := HL.out; omega)).mono ?_
  rintro r0 w8 ⟨v8, rfl, h8⟩
  obtain ⟨a8, c8, rfl⟩ := h8.sl.len
  obtain ⟨a6, c6, rfl⟩ := h8.sw5.sl.len
  obtain ⟨x6, hx6⟩ : ∃ x, x = w6.heap.size := ⟨_, rfl⟩
  rw [← hx6] at h8 ⊢
  clear hx6 H8 HV8
  have H9 := Lib.hid h8.sw6
  have HV9 := Lib.hid (HP'.out.below h8.low)
  clear h8
  go_wp2_with fail
  refine (slot1_some b [1] [2, 2] _ b' H9.out HV9.out (by have := HL.out; omega)).mono ?_
  rintro r0 w9 ⟨rfl, h9⟩
  rw [HT.out] at h9
  have p0 := h9.sw3.cell (o := 1) rfl
  have p1 := h9.sw3.frozen 1
  have HD := Lib.hid (h9.sw3.setCell 1 (.slice a8 (bv bt).length c8)).sw4.drop.sw5.sw3
  clear h9 H9 HV9
  go_wp2_with fail
  clear p0 p1
  refine (slots_any _ HD.out (by have := HL.out; simp; try omega) (by have := HL.out; simp; try omega)).mono ?_
  rintro r0 w11 ⟨v11, u11, rfl, h11⟩
  obtain ⟨av, cv, rfl⟩ := h11.sl.len
  obtain ⟨au, cu, rfl⟩ := h11.sw2.sl.len
  have H12 := Lib.hid (h11.alloc (.cells #[.slice av (bv [1]).length cv, .slice au (bv bt).length cu] 34)).sw4
  clear h11 HD
  go_wp2_with fail
  refine (log_any _ H12.out (by have := HL.out; simp; try omega)).mono ?_
  rintro r0 w13 ⟨v13, rfl, h13⟩
  have p0 := h13.sw3.cell (o := 0) rfl
  have p1 := h13.sw3.cell (o := 1) rfl
  have p2 := h13.sw7.cell (o := 0) rfl
  have p3 := h13.sw7.cell (o := 1) rfl
  have H13 := Lib.hid h13
  clear h13 H12
  go_wp2_with fail
  refine (eqSame_any _ _ b _ H13.out.sl H13.out.sw6.sl).mono ?_
  rintro r0 w14 ⟨rfl, rfl⟩
  go_wp2_with fail
  refine (eqSame_any _ _ [1] _ H13.out.sw4.sl H13.out.sw9.sl).mono ?_
  rintro r0 w14 ⟨rfl, rfl⟩
  go_wp2_with fail
  refine (eqSame_any _ _ bt _ H13.out.sw5.sl H13.out.sw8.sl).mono ?_
  rintro r0 w14 ⟨rfl, rfl⟩
  clear p0 p1 p2 p3
  go_wp2_with fail
  refine (dead_any H13.out.sw2).mono ?_
  rintro r0 w14 ⟨rfl, rfl⟩
  go_wp2_with fail
  refine (arm_dead _ 0 H13.out.sw2 rfl).mono ?_
  rintro r0 w14 ⟨rfl, h14⟩
  have H14 := Lib.hid h14
  clear h14 H13
  go_wp2_with fail
  refine (trim_dead _ 0 H14.out (by have := HL.out; simp; try omega) rfl).mono ?_
  rintro r0 w15 ⟨rfl, h15⟩
  have H15 := Lib.hid h15
  clear h15 H14
  go_wp2_with fail
  refine (cut_dead _ 0 H15.out (by have := HL.out; simp; try omega) rfl).mono ?_
  rintro r0 w16 ⟨rfl, h16⟩
  have H16 := Lib.hid h16
  clear h16 H15
  go_wp2_with fail
  refine (slot_dead 0 _ H16.out rfl).mono ?_
  rintro r0 w17 ⟨rfl, rfl⟩
  go_wp2_with fail
  refine (append_dead _ H16.out rfl).mono ?_
  rintro r0 w17 ⟨rfl, rfl⟩
  go_wp2_with fail
  refine (revive_any _ H16.out).mono ?_
  rintro r0 w18 ⟨rfl, h18⟩
  have H18 := Lib.hid h18
  clear h18 H16
  go_wp2_with fail
  refine (append_none b [1] bt _ [] H18.out (.inl (.inl ⟨rfl, rfl⟩)) (by have := HL.out; simp; try omega)).mono ?_
  rintro r0 w19 ⟨rfl, h19⟩
  rw [List.append_nil] at h19
  have H19 := Lib.hid h19
  clear h19 H18
  go_wp2_with fail
  refine (log_any _ H19.out (by have := HL.out; simp; try omega)).mono ?_
  rintro r0 w20 ⟨v20, rfl, h20⟩
  have H20 := Lib.hid h20
  clear h20 H19
  go_wp2_with fail
  refine (eqSame_any _ _ b _ H20.out.sl H20.out.sw7.sl).mono ?_
  rintro r0 w21 ⟨rfl, rfl⟩
  go_wp2_with fail
  refine (works_any _).mono ?_
  rintro r0 w22 ⟨rfl, hb22⟩
  have HF := Lib.hid (below_step H20.out.low hb22)
  clear hb22 H20
  go_wp2_with fail
  go_ret
  exact ⟨rfl, HF.out⟩
set_option maxRecDepth 8000 in
set_option maxHeartbeats 4000000 in
theorem tears_2 (a a' : Option Addr) (c c' : Nat) (l l' : List UInt8) (n0 n1 : Int) (w : World) (h : Sl w (.slice a l.length c) (bv l)) (h' : Sl w (.slice a' l'.length c') (bv l')) (hlc : l.length ≤ c) (hlc' : l'.length ≤ c') (hcm : c ≤ maxLen) (hcm' : c' ≤ maxLen) (hk : n1 % 3 = 2) :
    Calls Try.prog 5 #[.slice a l.length c, .slice a' l'.length c', .agg #[.int .i64 n0, .int .i64 n1]] w fun e w' => e = .returned (.bool true) ∧ Below w.heap.size w w' := by
  obtain ⟨m, hm, hm300, hmin, _⟩ := min_len l.length 300
  obtain ⟨m', hm', hm300', hmin', _⟩ := min_len l'.length 300
  rw [show ((300 : Nat) : Int) = 300 from rfl] at hmin hmin'
  have hp := sl_pre h hm
  have hp' := sl_pre h' hm'
  obtain ⟨b, hb⟩ : ∃ b, b = l.take m := ⟨_, rfl⟩
  obtain ⟨b', hb'⟩ : ∃ b', b' = l'.take m' := ⟨_, rfl⟩
  have hbl : b.length = m := by rw [hb, List.length_take]; omega
  have hbl' : b'.length = m' := by rw [hb', List.length_take]; omega
  rw [← hb] at hp
  rw [← hb'] at hp'
  obtain ⟨n, hn, hnm⟩ : ∃ n : Nat, n0 % ((m' : Int) + 3) = (n : Int) ∧ n ≤ m' + 2 := by
    have h1 := Int.emod_nonneg n0 (show ((m' : Int) + 3) ≠ 0 by omega)
    have h2 := Int.emod_lt_of_pos n0 (show 0 < ((m' : Int) + 3) by omega)
    exact ⟨(n0 % ((m' : Int) + 3)).toNat, by omega, by omega⟩
  obtain ⟨q, hqm, hqn, hqmin, hq⟩ := min_len n m'
  have hqmin' : (if m' < n then (m' : Int) else (n : Int)) = (q : Int) := by rw [← hqmin]; simp only [Int.ofNat_lt]
  obtain ⟨bt, hbt⟩ : ∃ bt, bt = b'.take q := ⟨_, rfl⟩
  have hbtn : b'.take n = bt := by
    rw [hbt]
    rcases hq with rfl | rfl
    · rfl
    · rw [List.take_of_length_le (by omega), List.take_of_length_le (by omega)]
  have hpt := sl_pre (a := a') (c := c') (u := q) (by rw [hbl']; exact hp') (by omega)
  rw [← hbt] at hpt
  have hbtl : bt.length ≤ 300 := by rw [hbt, List.length_take]; omega
  have hB1 : ∀ wx : World, Calls Try.prog 16 #[.int .i64 n0, .int .i64 ((m' : Int) + 3)] wx fun e w' => e = .returned (.int .i64 (n : Int)) ∧ w' = wx := fun wx => by
    have := bring_any n0 ((m' : Int) + 3) wx (by unfold Sm; omega)
    rw [hn] at this
    exact this.mono fun _ _ h => ⟨h.1, h.2.symm⟩
  have hB2 : ∀ wx : World, Calls Try.prog 16 #[.int .i64 n1, .int .i64 3] wx fun e w' => e = .returned (.int .i64 2) ∧ w' = wx := fun wx => by
    have := bring_any n1 3 wx (by unfold Sm; omega)
    rw [hk] at this
    exact this.mono fun _ _ h => ⟨h.1, h.2.symm⟩
  have HB1 := Lib.hid hB1
  have HB2 := Lib.hid hB2
  have HP := Lib.hid hp
  have HP' := Lib.hid hp'
  have HPT := Lib.hid hpt
  have HT := Lib.hid hbtn
  have HL : Hid (b.length ≤ 300 ∧ b'.length ≤ 300 ∧ bt.length ≤ 300) := Lib.hid ⟨by omega, by omega, hbtl⟩
  have HLe : Hid (b.length = m ∧ b'.length = m') := Lib.hid ⟨hbl, hbl'⟩
  have hmc : m ≤ c := by omega
  have hmc' : m' ≤ c' := by omega
  have hqc' : q ≤ c' := by omega
  have z0 : (0 : Int) ≤ (m : Int) := by omega
  have z1 : (0 : Int) ≤ (m' : Int) := by omega
  have z2 : (0 : Int) ≤ (q : Int) := by omega
  have z3 : (m : Int) ≤ (c : Int) := by omega
  have z4 : (m' : Int) ≤ (c' : Int) := by omega
  have z5 : IntKind.i64.wrap ((m' : Int) + 3) = (m' : Int) + 3 := IntWalk.i64_in _ (by omega)
  unfold maxLen at hcm hcm'
  clear hB1 hB2 hp hp' hpt hn h h' hb hb' hbl hbl' hm hm' hbtl hbtn hbt hlc hlc' hk hq
  go_enter Try.func5, Try.ntmps5
  go_wp2_with fail
  have hx0 : (w.alloc (.cells #[.int .i64 n0, .int .i64 n1] 44)).cell? ⟨w.heap.size, 0, none⟩ = some (.int .i64 n0) := ((Sep.start w).alloc _).cell rfl
  have hx1 : (w.alloc (.cells #[.int .i64 n0, .int .i64 n1] 44)).cell? ⟨w.heap.size, 1, none⟩ = some (.int .i64 n1) := ((Sep.start w).alloc _).cell rfl
  have hs0 : Sep w [] (w.alloc (.cells #[.int .i64 n0, .int .i64 n1] 44)) := (Sep.start w).alloc0 _
  generalize w.alloc (.cells #[.int .i64 n0, .int .i64 n1] 44) = W0 at *
  obtain ⟨bx, hbx⟩ : ∃ x, x = w.heap.size := ⟨_, rfl⟩
  rw [← hbx] at hx0 hx1 ⊢
  clear hbx
  have HS0 := Lib.hid hs0
  clear hs0
  go_quiet (fail)
  clear hmin hmin'
  go_wp2_with fail
  go_region_held3 (fun w' => w'.cell? ⟨bx, 0, none⟩ = some (.int .i64 n0) ∧ w'.cell? ⟨bx, 1, none⟩ = some (.int .i64 n1)) (go_keep) (first | (go_at_call_of 16 (Value.int .i64 n0); refine Calls.mono (HB1.out _) ?_; rintro r0 w1 ⟨rfl, rfl⟩) | (go_at_call_of 16 (Value.int .i64 n1); refine Calls.mono (HB2.out _) ?_; rintro r0 w1 ⟨rfl, rfl⟩))
  clear hx0 hx1 HB1 HB2
  clear z5
  go_wp2_with fail
  refine (new_any (HS0.out.drewN _)).mono ?_
  rintro r0 w1 ⟨g, rfl, h1⟩
  have H1 := Lib.hid h1
  have HV1 := Lib.hid (HP.out.below h1.low)
  clear h1 HS0
  go_wp2_with fail
  refine (append_none [] [] [] _ b H1.out HV1.out (by have := HL.out; simp; omega)).mono ?_
  rintro r0 w2 ⟨rfl, h2⟩
  rw [List.nil_append] at h2
  have H2 := Lib.hid h2
  clear h2 H1 HV1
  go_wp2_with fail
  refine (slot0_lit 1 _ [] [] [1] _ H2.out rfl rfl (by decide)).mono ?_
  rintro r0 w3 ⟨rfl, h3⟩
  have H3 := Lib.hid h3
  clear h3 H2
  go_wp2_with fail
  refine (slot1_lit 2 _ _ [] [2, 2] _ H3.out rfl rfl (by decide)).mono ?_
  rintro r0 w4 ⟨rfl, h4⟩
  have H4 := Lib.hid h4
  clear h4 H3
  go_wp2_with fail
  refine (arm_ok _ n H4.out rfl).mono ?_
  rintro r0 w5 ⟨rfl, h5⟩
  have H5 := Lib.hid h5
  have HV5 := Lib.hid (HP.out.below h5.low)
  clear h5 H4
  go_wp2_with fail
  refine (copy_sep _ b _ H5.out HV5.out (by have := HL.out; omega)).mono ?_
  rintro r0 w6 ⟨v6, rfl, h6⟩
  have h7 := (((h6.alloc (.cells #[.int .u8 1] 5)).asRow 1 rfl (by unfold maxLen; omega)).alloc (.cells #[.int .u8 2, .int .u8 2] 5)).asRow 2 rfl (by unfold maxLen; omega)
  have h8 := h7.alloc (.cells #[.slice (some ⟨w6.heap.size, 0, none⟩) 1 1, .slice (some ⟨w6.heap.size + 1, 0, none⟩) 2 2] 34)
  rw [show ((w6.alloc (.cells #[.int .u8 1] 5)).alloc (.cells #[.int .u8 2, .int .u8 2] 5)).heap.size = w6.heap.size + 2 by simp, show (w6.alloc (.cells #[.int .u8 1] 5)).heap.size = w6.heap.size + 1 by simp] at h8
  have H8 : Hid (Sep w (Cl (w6.heap.size + 2) #[.slice (some ⟨w6.heap.size, 0, none⟩) 1 1, .slice (some ⟨w6.heap.size + 1, 0, none⟩) 2 2] 34 :: By (.slice (some ⟨w6.heap.size + 1, 0, none⟩) 2 2) [2, 2] :: By (.slice (some ⟨w6.heap.size, 0, none⟩) 1 1) [1] :: By v6 b :: DiskT g ⟨b, [1], [2, 2], false, some n⟩ :: []) _) := Lib.hid h8
  have HV8 := Lib.hid (HPT.out.below h8.low)
  clear h6 h7 h8 H5 HV5
  go_wp2_with fail
  refine (copy_sep _ bt _ H8.out HV8.out (by have := HL.out; omega)).mono ?_
  rintro r0 w8 ⟨v8, rfl, h8⟩
  obtain ⟨a8, c8, rfl⟩ := h8.sl.len
  obtain ⟨a6, c6, rfl⟩ := h8.sw5.sl.len
  obtain ⟨x6, hx6⟩ : ∃ x, x = w6.heap.size := ⟨_, rfl⟩
  rw [← hx6] at h8 ⊢
  clear hx6 H8 HV8
  have H9 := Lib.hid h8.sw6
  have HV9 := Lib.hid (HP'.out.below h8.low)
  clear h8
  go_wp2_with fail
  refine (append_some b [1] [2, 2] _ b' H9.out HV9.out (by have := HL.out; omega)).mono ?_
  rintro r0 w9 ⟨rfl, h9⟩
  rw [HT.out] at h9
  obtain ⟨v10, w10, hr10, h10, _⟩ := app8 (ty := 27) h9.sw6 h9.sw2.sl (by have := HL.out; omega)
  have Hr10 := Lib.hid hr10
  have HD := Lib.hid h10.sw3.drop.sw2
  clear h9 h10 hr10 H9 HV9
  go_wp2_with (at_builtin; refine wpList_append_run rfl _ _ _ _ rfl rfl rfl Hr10.out ?_)
  clear Hr10
  refine (slots_any _ HD.out (by have := HL.out; simp; try omega) (by have := HL.out; simp; try omega)).mono ?_
  rintro r0 w11 ⟨v11, u11, rfl, h11⟩
  obtain ⟨av, cv, rfl⟩ := h11.sl.len
  obtain ⟨au, cu, rfl⟩ := h11.sw2.sl.len
  have H12 := Lib.hid (h11.alloc (.cells #[.slice av (bv [1]).length cv, .slice au (bv [2, 2]).length cu] 34)).sw4
  clear h11 HD
  go_wp2_with fail
  refine (log_any _ H12.out (by have := HL.out; simp; try omega)).mono ?_
  rintro r0 w13 ⟨v13, rfl, h13⟩
  have p0 := h13.sw3.cell (o := 0) rfl
  have p1 := h13.sw3.cell (o := 1) rfl
  have p2 := h13.sw7.cell (o := 0) rfl
  have p3 := h13.sw7.cell (o := 1) rfl
  have H13 := Lib.hid h13
  clear h13 H12
  go_wp2_with fail
  refine (eqSame_any _ _ (b ++ bt) _ H13.out.sl H13.out.sw6.sl).mono ?_
  rintro r0 w14 ⟨rfl, rfl⟩
  go_wp2_with fail
  refine (eqSame_any _ _ [1] _ H13.out.sw4.sl H13.out.sw9.sl).mono ?_
  rintro r0 w14 ⟨rfl, rfl⟩
  go_wp2_with fail
  refine (eqSame_any _ _ [2, 2] _ H13.out.sw5.sl H13.out.sw8.sl).mono ?_
  rintro r0 w14 ⟨rfl, rfl⟩
  clear p0 p1 p2 p3
  go_wp2_with fail
  refine (dead_any H13.out.sw2).mono ?_
  rintro r0 w14 ⟨rfl, rfl⟩
  go_wp2_with fail
  refine (arm_dead _ 0 H13.out.sw2 rfl).mono ?_
  rintro r0 w14 ⟨rfl, h14⟩
  have H14 := Lib.hid h14
  clear h14 H13
  go_wp2_with fail
  refine (trim_dead _ 0 H14.out (by have := HL.out; simp; try omega) rfl).mono ?_
  rintro r0 w15 ⟨rfl, h15⟩
  have H15 := Lib.hid h15
  clear h15 H14
  go_wp2_with fail
  refine (cut_dead _ 0 H15.out (by have := HL.out; simp; try omega) rfl).mono ?_
  rintro r0 w16 ⟨rfl, h16⟩
  have H16 := Lib.hid h16
  clear h16 H15
  go_wp2_with fail
  refine (slot_dead 0 _ H16.out rfl).mono ?_
  rintro r0 w17 ⟨rfl, rfl⟩
  go_wp2_with fail
  refine (append_dead _ H16.out rfl).mono ?_
  rintro r0 w17 ⟨rfl, rfl⟩
  go_wp2_with fail
  refine (revive_any _ H16.out).mono ?_
  rintro r0 w18 ⟨rfl, h18⟩
  have H18 := Lib.hid h18
  clear h18 H16
  go_wp2_with fail
  refine (append_none (b ++ bt) [1] [2, 2] _ [] H18.out (.inl (.inl ⟨rfl, rfl⟩)) (by have := HL.out; simp; try omega)).mono ?_
  rintro r0 w19 ⟨rfl, h19⟩
  rw [List.append_nil] at h19
  have H19 := Lib.hid h19
  clear h19 H18
  go_wp2_with fail
  refine (log_any _ H19.out (by have := HL.out; simp; try omega)).mono ?_
  rintro r0 w20 ⟨v20, rfl, h20⟩
  have H20 := Lib.hid h20
  clear h20 H19
  go_wp2_with fail
  refine (eqSame_any _ _ (b ++ bt) _ H20.out.sl H20.out.sw7.sl).mono ?_
  rintro r0 w21 ⟨rfl, rfl⟩
  go_wp2_with fail
  refine (works_any _).mono ?_
  rintro r0 w22 ⟨rfl, hb22⟩
  have HF := Lib.hid (below_step H20.out.low hb22)
  clear hb22 H20
  go_wp2_with fail
  go_ret
  exact ⟨rfl, HF.out⟩
theorem tears_any (a a' : Option Addr) (c c' : Nat) (l l' : List UInt8) (n0 n1 : Int) (w : World) (h : Sl w (.slice a l.length c) (bv l)) (h' : Sl w (.slice a' l'.length c') (bv l')) (hlc : l.length ≤ c) (hlc' : l'.length ≤ c') (hcm : c ≤ maxLen) (hcm' : c' ≤ maxLen) :
    Calls Try.prog 5 #[.slice a l.length c, .slice a' l'.length c', .agg #[.int .i64 n0, .int .i64 n1]] w fun e w' => e = .returned (.bool true) ∧ Below w.heap.size w w' := by
  obtain hk | hk | hk : n1 % 3 = 0 ∨ n1 % 3 = 1 ∨ n1 % 3 = 2 := by omega
  · exact tears_0 a a' c c' l l' n0 n1 w h h' hlc hlc' hcm hcm' hk
  · exact tears_1 a a' c c' l l' n0 n1 w h h' hlc hlc' hcm hcm' hk
  · exact tears_2 a a' c c' l l' n0 n1 w h h' hlc hlc' hcm hcm' hk
end Go.Proofs.Ytpnafgkoijnplaa
