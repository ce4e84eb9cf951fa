/- The document's disk: what it is, and the contracts of its calls. -/
import Derived.Test.YtpnafgkoijnplaaDisk4
import Derived.Test.YtpnafgkoijnplaaSlPart2
import Derived.Test.YtpnafgkoijnplaaSep2
namespace Go.Proofs.Ytpnafgkoijnplaa
open Go.RowKit
set_option linter.unusedVariables false
/-- How it says after how many bytes a write tears. -/
def aI : Option Nat → Int
  | none => -1
  | some n => n
abbrev RC (vj v0 v1 : Value) (dead : Bool) (arm : Option Nat) : Array Value := #[vj, v0, v1, .bool dead, .int .i64 (aI arm)]
abbrev RL (m : Nat) (D : DS) (vj v0 v1 : Value) : List Thing := [Cl m (RC vj v0 v1 D.dead D.arm) 55, By vj D.j, By v0 D.s0, By v1 D.s1]
def RefT (m : Nat) (D : DS) : Thing := Ex fun x : Value × Value × Value => Grp (RL m D x.1 x.2.1 x.2.2)
theorem loc_rl (m : Nat) (D : DS) (vj v0 v1 : Value) : ∀ A ∈ RL m D vj v0 v1, Loc A := by
  intro A hA
  simp only [RL, List.mem_cons, List.not_mem_nil, or_false] at hA
  rcases hA with rfl | rfl | rfl | rfl
  · exact loc_blk _ _
  · exact loc_rw _ _ _
  · exact loc_rw _ _ _
  · exact loc_rw _ _ _
theorem loc_ref (m : Nat) (D : DS) : Loc (RefT m D) := loc_ex fun _ => loc_grp (loc_rl _ _ _ _ _)
theorem Sep.openR {w0 w : World} {m : Nat} {D : DS} {L : List Thing} (h : Sep w0 (RefT m D :: L) w) :
    ∃ vj v0 v1, Sep w0 (Cl m (RC vj v0 v1 D.dead D.arm) 55 :: By vj D.j :: By v0 D.s0 :: By v1 D.s1 :: L) w := by
  obtain ⟨x, h⟩ := h.ex fun _ => loc_grp (loc_rl _ _ _ _ _)
  exact ⟨x.1, x.2.1, x.2.2, h.open_ (loc_rl _ _ _ _ _)⟩
theorem Sep.closeR {w0 w : World} {m : Nat} (D : DS) {vj v0 v1 : Value} {L : List Thing} (h : Sep w0 (Cl m (RC vj v0 v1 D.dead D.arm) 55 :: By vj D.j :: By v0 D.s0 :: By v1 D.s1 :: L) w) : Sep w0 (RefT m D :: L) w :=
  Sep.give (A := fun x : Value × Value × Value => Grp (RL m D x.1 x.2.1 x.2.2)) (vj, v0, v1) (Sep.close (M := RL m D vj v0 v1) h) fun _ => loc_grp (loc_rl _ _ _ _ _)
theorem Sep.cellsR {w0 w : World} {m : Nat} {vj v0 v1 : Value} {dead : Bool} {arm : Option Nat} {L : List Thing} (h : Sep w0 (Cl m (RC vj v0 v1 dead arm) 55 :: L) w) :
    w.cell? ⟨m, 0, none⟩ = some vj ∧ w.cell? ⟨m, 1, none⟩ = some v0 ∧ w.cell? ⟨m, 2, none⟩ = some v1 ∧ w.cell? ⟨m, 3, none⟩ = some (.bool dead) ∧ w.cell? ⟨m, 4, none⟩ = some (.int .i64 (aI arm)) :=
  ⟨h.cell rfl, h.cell rfl, h.cell rfl, h.cell rfl, h.cell rfl⟩
theorem rnew_any {w0 w : World} {L : List Thing} (h : Sep w0 L w) :
    Calls Try.prog 10 #[] w fun e w' => ∃ m, e = .returned (.pointer (some ⟨m, 0, none⟩)) ∧ Sep w0 (RefT m ⟨[], [], [], false, none⟩ :: L) w' := by
  go_enter Try.func10, Try.ntmps10
  go_wp2
  go_ret
  refine ⟨_, rfl, Sep.closeR ⟨[], [], [], false, none⟩ (vj := .slice none 0 0) (v0 := .slice none 0 0) (v1 := .slice none 0 0) ?_⟩
  exact (((((h.alloc _)).rnil 5).rnil 5).rnil 5).sw4
theorem rc_ne (a0 a1 a2 : Option Addr) (n0 c0 n1 c1 n2 c2 : Nat) (d : Bool) (x : Option Nat) : ∀ (o : Nat) (n : Int), (RC (.slice a0 n0 c0) (.slice a1 n1 c1) (.slice a2 n2 c2) d x)[o]? ≠ some (Value.int .u8 n) := by
  intro o n
  match o with
  | 0 | 1 | 2 | 3 | 4 => simp
  | o + 5 => simp
theorem rdead_any {w0 w : World} {m : Nat} {D : DS} {L : List Thing} (h : Sep w0 (RefT m D :: L) w) :
    Calls Try.prog 36 #[.pointer (some ⟨m, 0, none⟩)] w fun e w' => e = .returned (.bool D.dead) ∧ w = w' := by
  obtain ⟨vj, v0, v1, h⟩ := h.openR
  obtain ⟨c0, c1, c2, c3, c4⟩ := h.cellsR
  clear h c0 c1 c2 c4
  go_enter Try.func36, Try.ntmps36
  go_wp2
  go_ret
  exact ⟨rfl, rfl⟩
theorem rends_any {w0 w : World} {m : Nat} {D : DS} {L : List Thing} (h : Sep w0 (RefT m D :: L) w) :
    Calls Try.prog 45 #[.pointer (some ⟨m, 0, none⟩)] w fun e w' => e = .returned (.int .i64 (ckE D.dead)) ∧ w = w' := by
  obtain ⟨vj, v0, v1, h⟩ := h.openR
  obtain ⟨c0, c1, c2, c3, c4⟩ := h.cellsR
  clear h c0 c1 c2 c4
  cases hd : D.dead
  all_goals
    rw [hd] at c3
    go_enter Try.func45, Try.ntmps45
    go_wp2
    go_ret
    exact ⟨rfl, rfl⟩
set_option maxHeartbeats 1000000 in
theorem lays_none {w0 w : World} {L : List Thing} {m : Nat} {vj v0 v1 : Value} {d : Bool} (v : Value) (l : List UInt8) (h : Sep w0 (Cl m (RC vj v0 v1 d none) 55 :: L) w) (hv : Sl w v (bv l)) (hl : l.length ≤ 1048576) :
    Calls Try.prog 44 #[.pointer (some ⟨m, 0, none⟩), v] w fun e w' => ∃ v', e = .returned v' ∧ Sep w0 (By v' l :: Cl m (RC vj v0 v1 d none) 55 :: L) w' := by
  have H := Lib.hid h
  have HV := Lib.hid hv
  obtain ⟨c0, c1, c2, c3, c4⟩ := h.cellsR
  unfold aI at c4
  clear h hv c0 c1 c2 c3
  go_enter Try.func44, Try.ntmps44
  go_wp2_with (go_at_call 25; refine (copy_sep _ l _ H.out HV.out (by omega)).mono ?_; rintro r0 w1 ⟨v1, rfl, h1⟩)
  go_ret
  exact ⟨_, rfl, h1⟩
set_option maxHeartbeats 1000000 in
theorem lays_some {w0 w : World} {L : List Thing} {m n : Nat} {vj v0 v1 : Value} {d : Bool} (a : Option Addr) (c : Nat) (l : List UInt8) (h : Sep w0 (Cl m (RC vj v0 v1 d (some n)) 55 :: L) w) (hx : ∀ (o : Nat) (n' : Int), (RC vj v0 v1 d (some n))[o]? ≠ some (Value.int .u8 n')) (hv : Sl w (.slice a l.length c) (bv l)) (hlc : l.length ≤ c) (hl : l.length ≤ 1048576) :
    Calls Try.prog 44 #[.pointer (some ⟨m, 0, none⟩), .slice a l.length c] w fun e w' => ∃ v', e = .returned v' ∧ Sep w0 (By v' (l.take n) :: Cl m (RC vj v0 v1 true (some n)) 55 :: L) w' := by
  obtain ⟨c0, c1, c2, c3, c4⟩ := h.cellsR
  have q5 := h.frozen 3
  have h1 := h.setCell 3 (.bool true)
  have hv1 := sl_off hv h.blk hx 3 (.bool true)
  obtain ⟨q, hq1, hq2, hqmin, hq⟩ := min_len l.length n
  have hqmin' : (if n < l.length then (n : Int) else (l.length : Int)) = (q : Int) := by rw [← hqmin]; simp only [Int.ofNat_lt]
  have hp := sl_pre hv1 hq1
  have hlt : l.take q = l.take n := by
    rcases hq with rfl | rfl
    · rw [List.take_length, List.take_of_length_le (by omega)]
    · rfl
  rw [hlt] at hp
  obtain ⟨k0, k1, k2, k3, k4⟩ := h1.cellsR (arm := some n)
  unfold aI at c4 k4
  have z0 : (0 : Int) ≤ (q : Int) := by omega
  have z1 : (q : Int) ≤ (c : Int) := by omega
  have z2 : (0 : Int) ≤ (n : Int) := by omega
  have H1 := Lib.hid h1
  have HP := Lib.hid hp
  clear h hx hv h1 hv1 hp c0 c1 c2 k0 k1 k2 k3 hq hlt
  go_enter Try.func44, Try.ntmps44
  go_wp2_with fail
  refine (copy_sep _ (l.take n) _ H1.out HP.out (by simp; omega)).mono ?_
  rintro r0 w1 ⟨v1, rfl, h1⟩
  go_wp2_with fail
  go_ret
  exact ⟨_, rfl, h1⟩
set_option maxHeartbeats 1000000 in
theorem rappend_none {w0 w : World} {L : List Thing} {m  : Nat} (j s0 s1 : List UInt8) (a : Option Addr) (c : Nat) (l : List UInt8) (h : Sep w0 (RefT m ⟨j, s0, s1, false, none⟩ :: L) w) (hv : Sl w (.slice a l.length c) (bv l)) (hlc : l.length ≤ c) (hl : j.length + l.length ≤ 1048576) :
    Calls Try.prog 33 #[.pointer (some ⟨m, 0, none⟩), .slice a l.length c] w fun e w' => e = .returned (.int .i64 0) ∧ Sep w0 (RefT m ⟨j ++ l, s0, s1, false, none⟩ :: L) w' := by
  obtain ⟨vj, v0, v1, h⟩ := h.openR
  obtain ⟨aj, cj, rfl⟩ := h.sw2.sl.len
  obtain ⟨a0', c0', rfl⟩ := h.sw3.sl.len
  obtain ⟨a1', c1', rfl⟩ := h.sw4.sl.len
  obtain ⟨c0, c1, c2, c3, c4⟩ := h.cellsR
  simp only [bv_length] at *
  have hs := Lib.hid h.drew
  have hv' := Lib.hid (hv.below ((Below.refl _ w).drew))
  have Hx := Lib.hid (rc_ne aj a0' a1' j.length cj s0.length c0' s1.length c1' false (none))
  clear h hv c1 c2 c4
  go_enter Try.func33, Try.ntmps33
  go_wp2_with fail
  go_region_law (first | (go_simp; go_at_call 44; refine Calls.mono (lays_none _ l hs.out hv'.out (by omega)) ?_; rintro r0 w1 ⟨v1', rfl, h1⟩; obtain ⟨k0, _, _, _, _⟩ := h1.sw2.cellsR; obtain ⟨v2, w2, hr2, h2, _⟩ := app8 (ty := 27) h1.sw3 h1.sl (by omega); obtain ⟨a2, c2, rfl⟩ := h2.sl.len; obtain ⟨q0, _, _, _, _⟩ := h2.sw3.cellsR; have q5 := h2.sw3.frozen 0; have H3 := Lib.hid (Sep.closeR ⟨j ++ l, s0, s1, false, none⟩ (h2.sw3.setCell 0 (.slice a2 (bv (j ++ l)).length c2)).sw3.drop); have Hr2 := Lib.hid hr2; clear hr2 h2 h1) | (refine step_append_run (by rfl) (.tmp 22) (.tmp 25) 27 27 (by rfl) _ _ (by rfl) (by rfl) Hr2.out ?_))
  all_goals
    clear Hr2 k0 q0 q5
    go_wp2_with (go_at_call 45; refine (rends_any H3.out).mono ?_; rintro r0 w1 ⟨rfl, rfl⟩)
    go_ret
    exact ⟨rfl, H3.out⟩
set_option maxHeartbeats 1000000 in
theorem rappend_some {w0 w : World} {L : List Thing} {m n : Nat} (j s0 s1 : List UInt8) (a : Option Addr) (c : Nat) (l : List UInt8) (h : Sep w0 (RefT m ⟨j, s0, s1, false, some n⟩ :: L) w) (hv : Sl w (.slice a l.length c) (bv l)) (hlc : l.length ≤ c) (hl : j.length + l.length ≤ 1048576) :
    Calls Try.prog 33 #[.pointer (some ⟨m, 0, none⟩), .slice a l.length c] w fun e w' => e = .returned (.int .i64 130) ∧ Sep w0 (RefT m ⟨j ++ l.take n, s0, s1, true, some n⟩ :: L) w' := by
  obtain ⟨vj, v0, v1, h⟩ := h.openR
  obtain ⟨aj, cj, rfl⟩ := h.sw2.sl.len
  obtain ⟨a0', c0', rfl⟩ := h.sw3.sl.len
  obtain ⟨a1', c1', rfl⟩ := h.sw4.sl.len
  obtain ⟨c0, c1, c2, c3, c4⟩ := h.cellsR
  simp only [bv_length] at *
  have hs := Lib.hid h.drew
  have hv' := Lib.hid (hv.below ((Below.refl _ w).drew))
  have Hx := Lib.hid (rc_ne aj a0' a1' j.length cj s0.length c0' s1.length c1' false (some n))
  clear h hv c1 c2 c4
  go_enter Try.func33, Try.ntmps33
  go_wp2_with fail
  go_region_law (first | (go_simp; go_at_call 44; refine Calls.mono (lays_some _ _ l hs.out Hx.out hv'.out hlc (by omega)) ?_; rintro r0 w1 ⟨v1', rfl, h1⟩; obtain ⟨k0, _, _, _, _⟩ := h1.sw2.cellsR; obtain ⟨v2, w2, hr2, h2, _⟩ := app8 (ty := 27) h1.sw3 h1.sl (by simp only [List.length_take]; omega); obtain ⟨a2, c2, rfl⟩ := h2.sl.len; obtain ⟨q0, _, _, _, _⟩ := h2.sw3.cellsR; have q5 := h2.sw3.frozen 0; have H3 := Lib.hid (Sep.closeR ⟨j ++ l.take n, s0, s1, true, some n⟩ (h2.sw3.setCell 0 (.slice a2 (bv (j ++ l.take n)).length c2)).sw3.drop); have Hr2 := Lib.hid hr2; clear hr2 h2 h1) | (refine step_append_run (by rfl) (.tmp 22) (.tmp 25) 27 27 (by rfl) _ _ (by rfl) (by rfl) Hr2.out ?_))
  all_goals
    clear Hr2 k0 q0 q5
    go_wp2_with (go_at_call 45; refine (rends_any H3.out).mono ?_; rintro r0 w1 ⟨rfl, rfl⟩)
    go_ret
    exact ⟨rfl, H3.out⟩
set_option maxHeartbeats 1000000 in
theorem rslot0_none {w0 w : World} {L : List Thing} {m  : Nat} (j s0 s1 : List UInt8) (a : Option Addr) (c : Nat) (l : List UInt8) (h : Sep w0 (RefT m ⟨j, s0, s1, false, none⟩ :: L) w) (hv : Sl w (.slice a l.length c) (bv l)) (hlc : l.length ≤ c) (hl : l.length ≤ 65536) :
    Calls Try.prog 27 #[.pointer (some ⟨m, 0, none⟩), .int .i64 0, .slice a l.length c] w fun e w' => e = .returned (.int .i64 0) ∧ Sep w0 (RefT m ⟨j, l, s1, false, none⟩ :: L) w' := by
  obtain ⟨vj, v0, v1, h⟩ := h.openR
  obtain ⟨aj, cj, rfl⟩ := h.sw2.sl.len
  obtain ⟨a0', c0', rfl⟩ := h.sw3.sl.len
  obtain ⟨a1', c1', rfl⟩ := h.sw4.sl.len
  obtain ⟨c0, c1, c2, c3, c4⟩ := h.cellsR
  simp only [bv_length] at *
  have hs := Lib.hid h.drew
  have hv' := Lib.hid (hv.below ((Below.refl _ w).drew))
  have Hx := Lib.hid (rc_ne aj a0' a1' j.length cj s0.length c0' s1.length c1' false (none))
  clear h hv c1 c2 c4
  go_enter Try.func27, Try.ntmps27
  go_wp2_with fail
  go_region_law (first | (go_simp; go_at_call 44; refine Calls.mono (lays_none _ l hs.out hv'.out (by omega)) ?_; rintro r0 w1 ⟨v1', rfl, h1⟩; obtain ⟨a2, c2, rfl⟩ := h1.sl.len; obtain ⟨_, k1, k2, _, _⟩ := h1.sw2.cellsR; have q5 := h1.sw2.frozen 1; have H3 := Lib.hid (Sep.closeR ⟨j, l, s1, false, none⟩ (h1.sw2.setCell 1 (.slice a2 (bv (l)).length c2)).sw4.drop.sw3.sw2); clear h1) | fail)
  all_goals
    clear k1 k2 q5
    go_wp2_with (go_at_call 45; refine (rends_any H3.out).mono ?_; rintro r0 w1 ⟨rfl, rfl⟩)
    go_ret
    exact ⟨rfl, H3.out⟩
set_option maxHeartbeats 1000000 in
theorem rslot0_some {w0 w : World} {L : List Thing} {m n : Nat} (j s0 s1 : List UInt8) (a : Option Addr) (c : Nat) (l : List UInt8) (h : Sep w0 (RefT m ⟨j, s0, s1, false, some n⟩ :: L) w) (hv : Sl w (.slice a l.length c) (bv l)) (hlc : l.length ≤ c) (hl : l.length ≤ 65536) :
    Calls Try.prog 27 #[.pointer (some ⟨m, 0, none⟩), .int .i64 0, .slice a l.length c] w fun e w' => e = .returned (.int .i64 130) ∧ Sep w0 (RefT m ⟨j, l.take n, s1, true, some n⟩ :: L) w' := by
  obtain ⟨vj, v0, v1, h⟩ := h.openR
  obtain ⟨aj, cj, rfl⟩ := h.sw2.sl.len
  obtain ⟨a0', c0', rfl⟩ := h.sw3.sl.len
  obtain ⟨a1', c1', rfl⟩ := h.sw4.sl.len
  obtain ⟨c0, c1, c2, c3, c4⟩ := h.cellsR
  simp only [bv_length] at *
  have hs := Lib.hid h.drew
  have hv' := Lib.hid (hv.below ((Below.refl _ w).drew))
  have Hx := Lib.hid (rc_ne aj a0' a1' j.length cj s0.length c0' s1.length c1' false (some n))
  clear h hv c1 c2 c4
  go_enter Try.func27, Try.ntmps27
  go_wp2_with fail
  go_region_law (first | (go_simp; go_at_call 44; refine Calls.mono (lays_some _ _ l hs.out Hx.out hv'.out hlc (by omega)) ?_; rintro r0 w1 ⟨v1', rfl, h1⟩; obtain ⟨a2, c2, rfl⟩ := h1.sl.len; obtain ⟨_, k1, k2, _, _⟩ := h1.sw2.cellsR; have q5 := h1.sw2.frozen 1; have H3 := Lib.hid (Sep.closeR ⟨j, l.take n, s1, true, some n⟩ (h1.sw2.setCell 1 (.slice a2 (bv (l.take n)).length c2)).sw4.drop.sw3.sw2); clear h1) | fail)
  all_goals
    clear k1 k2 q5
    go_wp2_with (go_at_call 45; refine (rends_any H3.out).mono ?_; rintro r0 w1 ⟨rfl, rfl⟩)
    go_ret
    exact ⟨rfl, H3.out⟩
set_option maxHeartbeats 1000000 in
theorem rslot1_none {w0 w : World} {L : List Thing} {m  : Nat} (j s0 s1 : List UInt8) (a : Option Addr) (c : Nat) (l : List UInt8) (h : Sep w0 (RefT m ⟨j, s0, s1, false, none⟩ :: L) w) (hv : Sl w (.slice a l.length c) (bv l)) (hlc : l.length ≤ c) (hl : l.length ≤ 65536) :
    Calls Try.prog 27 #[.pointer (some ⟨m, 0, none⟩), .int .i64 1, .slice a l.length c] w fun e w' => e = .returned (.int .i64 0) ∧ Sep w0 (RefT m ⟨j, s0, l, false, none⟩ :: L) w' := by
  obtain ⟨vj, v0, v1, h⟩ := h.openR
  obtain ⟨aj, cj, rfl⟩ := h.sw2.sl.len
  obtain ⟨a0', c0', rfl⟩ := h.sw3.sl.len
  obtain ⟨a1', c1', rfl⟩ := h.sw4.sl.len
  obtain ⟨c0, c1, c2, c3, c4⟩ := h.cellsR
  simp only [bv_length] at *
  have hs := Lib.hid h.drew
  have hv' := Lib.hid (hv.below ((Below.refl _ w).drew))
  have Hx := Lib.hid (rc_ne aj a0' a1' j.length cj s0.length c0' s1.length c1' false (none))
  clear h hv c1 c2 c4
  go_enter Try.func27, Try.ntmps27
  go_wp2_with fail
  go_region_law (first | (go_simp; go_at_call 44; refine Calls.mono (lays_none _ l hs.out hv'.out (by omega)) ?_; rintro r0 w1 ⟨v1', rfl, h1⟩; obtain ⟨a2, c2, rfl⟩ := h1.sl.len; obtain ⟨_, k1, k2, _, _⟩ := h1.sw2.cellsR; have q5 := h1.sw2.frozen 2; have H3 := Lib.hid (Sep.closeR ⟨j, s0, l, false, none⟩ (h1.sw2.setCell 2 (.slice a2 (bv (l)).length c2)).sw5.drop.sw3.sw2.sw4.sw3.sw3); clear h1) | fail)
  all_goals
    clear k1 k2 q5
    go_wp2_with (go_at_call 45; refine (rends_any H3.out).mono ?_; rintro r0 w1 ⟨rfl, rfl⟩)
    go_ret
    exact ⟨rfl, H3.out⟩
set_option maxHeartbeats 1000000 in
theorem rslot1_some {w0 w : World} {L : List Thing} {m n : Nat} (j s0 s1 : List UInt8) (a : Option Addr) (c : Nat) (l : List UInt8) (h : Sep w0 (RefT m ⟨j, s0, s1, false, some n⟩ :: L) w) (hv : Sl w (.slice a l.length c) (bv l)) (hlc : l.length ≤ c) (hl : l.length ≤ 65536) :
    Calls Try.prog 27 #[.pointer (some ⟨m, 0, none⟩), .int .i64 1, .slice a l.length c] w fun e w' => e = .returned (.int .i64 130) ∧ Sep w0 (RefT m ⟨j, s0, l.take n, true, some n⟩ :: L) w' := by
  obtain ⟨vj, v0, v1, h⟩ := h.openR
  obtain ⟨aj, cj, rfl⟩ := h.sw2.sl.len
  obtain ⟨a0', c0', rfl⟩ := h.sw3.sl.len
  obtain ⟨a1', c1', rfl⟩ := h.sw4.sl.len
  obtain ⟨c0, c1, c2, c3, c4⟩ := h.cellsR
  simp only [bv_length] at *
  have hs := Lib.hid h.drew
  have hv' := Lib.hid (hv.below ((Below.refl _ w).drew))
  have Hx := Lib.hid (rc_ne aj a0' a1' j.length cj s0.length c0' s1.length c1' false (some n))
  clear h hv c1 c2 c4
  go_enter Try.func27, Try.ntmps27
  go_wp2_with fail
  go_region_law (first | (go_simp; go_at_call 44; refine Calls.mono (lays_some _ _ l hs.out Hx.out hv'.out hlc (by omega)) ?_; rintro r0 w1 ⟨v1', rfl, h1⟩; obtain ⟨a2, c2, rfl⟩ := h1.sl.len; obtain ⟨_, k1, k2, _, _⟩ := h1.sw2.cellsR; have q5 := h1.sw2.frozen 2; have H3 := Lib.hid (Sep.closeR ⟨j, s0, l.take n, true, some n⟩ (h1.sw2.setCell 2 (.slice a2 (bv (l.take n)).length c2)).sw5.drop.sw3.sw2.sw4.sw3.sw3); clear h1) | fail)
  all_goals
    clear k1 k2 q5
    go_wp2_with (go_at_call 45; refine (rends_any H3.out).mono ?_; rintro r0 w1 ⟨rfl, rfl⟩)
    go_ret
    exact ⟨rfl, H3.out⟩
end Go.Proofs.Ytpnafgkoijnplaa
