/- Append and Slot of both disks, whatever the disk. -/
import Derived.Test.YtpnafgkoijnplaaDiskSame
import Derived.Test.YtpnafgkoijnplaaBring
namespace Go.Proofs.Ytpnafgkoijnplaa
open Go.RowKit
set_option linter.unusedVariables false
def DS.ok (D : DS) : Prop := D.j.length ≤ 1048576 ∧ D.s0.length ≤ 65536 ∧ D.s1.length ≤ 65536
def DS.appE (D : DS) (n : Nat) : Int := if D.dead then 130 else if 1048576 < D.j.length + n then 5 else if D.arm.isSome then 130 else 0
def DS.app (D : DS) (l : List UInt8) : DS := if D.dead then D else if 1048576 < D.j.length + l.length then D else ⟨D.j ++ wrB l D.arm, D.s0, D.s1, D.arm.isSome, D.arm⟩
def DS.slotE (D : DS) (k : Int) (n : Nat) : Int := if D.dead then 130 else if k ≠ 0 ∧ k ≠ 1 then 9 else if 65536 < n then 5 else if D.arm.isSome then 130 else 0
def DS.slot (D : DS) (k : Int) (l : List UInt8) : DS := if D.dead then D else if k ≠ 0 ∧ k ≠ 1 then D else if 65536 < l.length then D else if k = 0 then ⟨D.j, wrB l D.arm, D.s1, D.arm.isSome, D.arm⟩ else ⟨D.j, D.s0, wrB l D.arm, D.arm.isSome, D.arm⟩
theorem wrB_len (l : List UInt8) (a : Option Nat) : (wrB l a).length ≤ l.length := by
  cases a with
  | none => exact Nat.le_refl _
  | some n => simp only [wrB, List.length_take]; omega
theorem DS.ok.app {D : DS} (h : D.ok) (l : List UInt8) : (D.app l).ok := by
  unfold DS.app
  split
  · exact h
  · split
    · exact h
    · obtain ⟨h1, h2, h3⟩ := h
      have := wrB_len l D.arm
      exact ⟨by simp only [List.length_append]; omega, h2, h3⟩
theorem DS.ok.slot {D : DS} (h : D.ok) (k : Int) (l : List UInt8) : (D.slot k l).ok := by
  unfold DS.slot
  obtain ⟨h1, h2, h3⟩ := h
  have := wrB_len l D.arm
  split
  · exact ⟨h1, h2, h3⟩
  · split
    · exact ⟨h1, h2, h3⟩
    · split
      · exact ⟨h1, h2, h3⟩
      · split
        · exact ⟨h1, by show (wrB l D.arm).length ≤ 65536; omega, h3⟩
        · exact ⟨h1, h2, by show (wrB l D.arm).length ≤ 65536; omega⟩
theorem DS.ok.trim {D : DS} (h : D.ok) (n : Int) : (D.trim n).ok := by
  unfold DS.trim
  obtain ⟨h1, h2, h3⟩ := h
  split
  · exact ⟨by simp only [List.length_drop]; omega, h2, h3⟩
  · exact ⟨h1, h2, h3⟩
theorem DS.ok.cut {D : DS} (h : D.ok) (n : Int) : (D.cut n).ok := by
  unfold DS.cut
  obtain ⟨h1, h2, h3⟩ := h
  split
  · exact ⟨by simp only [List.length_take]; omega, h2, h3⟩
  · exact ⟨h1, h2, h3⟩
theorem DS.ok.arm {D : DS} (h : D.ok) (n : Int) : (D.armD n).ok := by
  unfold DS.armD
  split
  · exact h
  · exact h
theorem app_any {w0 w : World} {L : List Thing} {g : Nat} (D : DS) (a : Option Addr) (c : Nat) (l : List UInt8) (h : Sep w0 (DiskT g D :: L) w) (hv : Sl w (.slice a l.length c) (bv l)) (hlc : l.length ≤ c) (hok : D.ok) (hl : l.length ≤ 1048576) :
    Calls Try.prog 24 #[.pointer (some ⟨g, 0, none⟩), .slice a l.length c] w fun e w' => e = .returned (.int .i64 (D.appE l.length)) ∧ Sep w0 (DiskT g (D.app l) :: L) w' := by
  obtain ⟨j, s0, s1, dead, arm⟩ := D
  obtain ⟨h1, h2, h3⟩ := hok
  simp only at h1 h2 h3
  cases dead
  · by_cases hx : 1048576 < j.length + l.length
    · have e1 : (DS.mk j s0 s1 false arm).appE l.length = 5 := by simp [DS.appE, hx]
      have e2 : (DS.mk j s0 s1 false arm).app l = ⟨j, s0, s1, false, arm⟩ := by simp [DS.app, hx]
      rw [e1, e2]
      exact (append_limit a l.length c h rfl h1 hl hx).mono fun e w' ⟨h1, h2⟩ => ⟨h1, h2 ▸ h⟩
    · cases arm with
      | none =>
        have e1 : (DS.mk j s0 s1 false none).appE l.length = 0 := by simp [DS.appE, hx]
        have e2 : (DS.mk j s0 s1 false none).app l = ⟨j ++ l, s0, s1, false, none⟩ := by simp [DS.app, hx, wrB]
        rw [e1, e2]
        exact append_none j s0 s1 _ l h hv (by omega)
      | some n =>
        have e1 : (DS.mk j s0 s1 false (some n)).appE l.length = 130 := by simp [DS.appE, hx]
        have e2 : (DS.mk j s0 s1 false (some n)).app l = ⟨j ++ l.take n, s0, s1, true, some n⟩ := by simp [DS.app, hx, wrB]
        rw [e1, e2]
        exact append_some j s0 s1 _ l h hv (by omega)
  · have e1 : (DS.mk j s0 s1 true arm).appE l.length = 130 := by simp [DS.appE]
    have e2 : (DS.mk j s0 s1 true arm).app l = ⟨j, s0, s1, true, arm⟩ := by simp [DS.app]
    rw [e1, e2]
    exact (append_dead _ h rfl).mono fun e w' ⟨h1, h2⟩ => ⟨h1, h2 ▸ h⟩
theorem slot_any {w0 w : World} {L : List Thing} {g : Nat} (D : DS) (k : Int) (a : Option Addr) (c : Nat) (l : List UInt8) (h : Sep w0 (DiskT g D :: L) w) (hv : Sl w (.slice a l.length c) (bv l)) (hlc : l.length ≤ c) (hok : D.ok) (hl : l.length ≤ 1048576) :
    Calls Try.prog 17 #[.pointer (some ⟨g, 0, none⟩), .int .i64 k, .slice a l.length c] w fun e w' => e = .returned (.int .i64 (D.slotE k l.length)) ∧ Sep w0 (DiskT g (D.slot k l) :: L) w' := by
  obtain ⟨j, s0, s1, dead, arm⟩ := D
  obtain ⟨h1, h2, h3⟩ := hok
  simp only at h1 h2 h3
  cases dead
  · by_cases hk : k ≠ 0 ∧ k ≠ 1
    · have e1 : (DS.mk j s0 s1 false arm).slotE k l.length = 9 := by simp [DS.slotE, hk]
      have e2 : (DS.mk j s0 s1 false arm).slot k l = ⟨j, s0, s1, false, arm⟩ := by simp [DS.slot, hk]
      rw [e1, e2]
      exact (slot_range k _ h rfl (by omega)).mono fun e w' ⟨h1, h2⟩ => ⟨h1, h2 ▸ h⟩
    · by_cases hx : 65536 < l.length
      · have e1 : (DS.mk j s0 s1 false arm).slotE k l.length = 5 := by unfold DS.slotE; rw [if_neg (by simp), if_neg hk, if_pos hx]
        have e2 : (DS.mk j s0 s1 false arm).slot k l = ⟨j, s0, s1, false, arm⟩ := by unfold DS.slot; rw [if_neg (by simp), if_neg hk, if_pos hx]
        rw [e1, e2]
        exact (slot_limit k a l.length c h rfl (by omega) (by omega) hx hl).mono fun e w' ⟨h1, h2⟩ => ⟨h1, h2 ▸ h⟩
      · obtain rfl | rfl : k = 0 ∨ k = 1 := by omega
        · cases arm with
          | none =>
            have e1 : (DS.mk j s0 s1 false none).slotE 0 l.length = 0 := by simp [DS.slotE, hx]
            have e2 : (DS.mk j s0 s1 false none).slot 0 l = ⟨j, l, s1, false, none⟩ := by simp [DS.slot, hx, wrB]
            rw [e1, e2]
            exact slot0_none j s0 s1 _ l h hv (by omega)
          | some n =>
            have e1 : (DS.mk j s0 s1 false (some n)).slotE 0 l.length = 130 := by simp [DS.slotE, hx]
            have e2 : (DS.mk j s0 s1 false (some n)).slot 0 l = ⟨j, l.take n, s1, true, some n⟩ := by simp [DS.slot, hx, wrB]
            rw [e1, e2]
            exact slot0_some j s0 s1 _ l h hv (by omega)
        · cases arm with
          | none =>
            have e1 : (DS.mk j s0 s1 false none).slotE 1 l.length = 0 := by simp [DS.slotE, hx]
            have e2 : (DS.mk j s0 s1 false none).slot 1 l = ⟨j, s0, l, false, none⟩ := by simp [DS.slot, hx, wrB]
            rw [e1, e2]
            exact slot1_none j s0 s1 _ l h hv (by omega)
          | some n =>
            have e1 : (DS.mk j s0 s1 false (some n)).slotE 1 l.length = 130 := by simp [DS.slotE, hx]
            have e2 : (DS.mk j s0 s1 false (some n)).slot 1 l = ⟨j, s0, l.take n, true, some n⟩ := by simp [DS.slot, hx, wrB]
            rw [e1, e2]
            exact slot1_some j s0 s1 _ l h hv (by omega)
  · have e1 : (DS.mk j s0 s1 true arm).slotE k l.length = 130 := by simp [DS.slotE]
    have e2 : (DS.mk j s0 s1 true arm).slot k l = ⟨j, s0, s1, true, arm⟩ := by simp [DS.slot]
    rw [e1, e2]
    exact (slot_dead k _ h rfl).mono fun e w' ⟨h1, h2⟩ => ⟨h1, h2 ▸ h⟩
theorem rapp_any {w0 w : World} {L : List Thing} {g : Nat} (D : DS) (a : Option Addr) (c : Nat) (l : List UInt8) (h : Sep w0 (RefT g D :: L) w) (hv : Sl w (.slice a l.length c) (bv l)) (hlc : l.length ≤ c) (hok : D.ok) (hl : l.length ≤ 1048576) :
    Calls Try.prog 33 #[.pointer (some ⟨g, 0, none⟩), .slice a l.length c] w fun e w' => e = .returned (.int .i64 (D.appE l.length)) ∧ Sep w0 (RefT g (D.app l) :: L) w' := by
  obtain ⟨j, s0, s1, dead, arm⟩ := D
  obtain ⟨h1, h2, h3⟩ := hok
  simp only at h1 h2 h3
  cases dead
  · by_cases hx : 1048576 < j.length + l.length
    · have e1 : (DS.mk j s0 s1 false arm).appE l.length = 5 := by simp [DS.appE, hx]
      have e2 : (DS.mk j s0 s1 false arm).app l = ⟨j, s0, s1, false, arm⟩ := by simp [DS.app, hx]
      rw [e1, e2]
      exact (rappend_limit a l.length c h rfl h1 hl hx).mono fun e w' ⟨h1, h2⟩ => ⟨h1, h2 ▸ h⟩
    · cases arm with
      | none =>
        have e1 : (DS.mk j s0 s1 false none).appE l.length = 0 := by simp [DS.appE, hx]
        have e2 : (DS.mk j s0 s1 false none).app l = ⟨j ++ l, s0, s1, false, none⟩ := by simp [DS.app, hx, wrB]
        rw [e1, e2]
        exact rappend_none j s0 s1 _ _ l h hv hlc (by omega)
      | some n =>
        have e1 : (DS.mk j s0 s1 false (some n)).appE l.length = 130 := by simp [DS.appE, hx]
        have e2 : (DS.mk j s0 s1 false (some n)).app l = ⟨j ++ l.take n, s0, s1, true, some n⟩ := by simp [DS.app, hx, wrB]
        rw [e1, e2]
        exact rappend_some j s0 s1 _ _ l h hv hlc (by omega)
  · have e1 : (DS.mk j s0 s1 true arm).appE l.length = 130 := by simp [DS.appE]
    have e2 : (DS.mk j s0 s1 true arm).app l = ⟨j, s0, s1, true, arm⟩ := by simp [DS.app]
    rw [e1, e2]
    exact (rappend_dead _ h rfl).mono fun e w' ⟨h1, h2⟩ => ⟨h1, h2 ▸ h⟩
theorem rslot_any {w0 w : World} {L : List Thing} {g : Nat} (D : DS) (k : Int) (a : Option Addr) (c : Nat) (l : List UInt8) (h : Sep w0 (RefT g D :: L) w) (hv : Sl w (.slice a l.length c) (bv l)) (hlc : l.length ≤ c) (hok : D.ok) (hl : l.length ≤ 1048576) :
    Calls Try.prog 27 #[.pointer (some ⟨g, 0, none⟩), .int .i64 k, .slice a l.length c] w fun e w' => e = .returned (.int .i64 (D.slotE k l.length)) ∧ Sep w0 (RefT g (D.slot k l) :: L) w' := by
  obtain ⟨j, s0, s1, dead, arm⟩ := D
  obtain ⟨h1, h2, h3⟩ := hok
  simp only at h1 h2 h3
  cases dead
  · by_cases hk : k ≠ 0 ∧ k ≠ 1
    · have e1 : (DS.mk j s0 s1 false arm).slotE k l.length = 9 := by simp [DS.slotE, hk]
      have e2 : (DS.mk j s0 s1 false arm).slot k l = ⟨j, s0, s1, false, arm⟩ := by simp [DS.slot, hk]
      rw [e1, e2]
      exact (rslot_range k _ h rfl (by omega)).mono fun e w' ⟨h1, h2⟩ => ⟨h1, h2 ▸ h⟩
    · by_cases hx : 65536 < l.length
      · have e1 : (DS.mk j s0 s1 false arm).slotE k l.length = 5 := by unfold DS.slotE; rw [if_neg (by simp), if_neg hk, if_pos hx]
        have e2 : (DS.mk j s0 s1 false arm).slot k l = ⟨j, s0, s1, false, arm⟩ := by unfold DS.slot; rw [if_neg (by simp), if_neg hk, if_pos hx]
        rw [e1, e2]
        exact (rslot_limit k a l.length c h rfl (by omega) hx hl).mono fun e w' ⟨h1, h2⟩ => ⟨h1, h2 ▸ h⟩
      · obtain rfl | rfl : k = 0 ∨ k = 1 := by omega
        · cases arm with
          | none =>
            have e1 : (DS.mk j s0 s1 false none).slotE 0 l.length = 0 := by simp [DS.slotE, hx]
            have e2 : (DS.mk j s0 s1 false none).slot 0 l = ⟨j, l, s1, false, none⟩ := by simp [DS.slot, hx, wrB]
            rw [e1, e2]
            exact rslot0_none j s0 s1 _ _ l h hv hlc (by omega)
          | some n =>
            have e1 : (DS.mk j s0 s1 false (some n)).slotE 0 l.length = 130 := by simp [DS.slotE, hx]
            have e2 : (DS.mk j s0 s1 false (some n)).slot 0 l = ⟨j, l.take n, s1, true, some n⟩ := by simp [DS.slot, hx, wrB]
            rw [e1, e2]
            exact rslot0_some j s0 s1 _ _ l h hv hlc (by omega)
        · cases arm with
          | none =>
            have e1 : (DS.mk j s0 s1 false none).slotE 1 l.length = 0 := by simp [DS.slotE, hx]
            have e2 : (DS.mk j s0 s1 false none).slot 1 l = ⟨j, s0, l, false, none⟩ := by simp [DS.slot, hx, wrB]
            rw [e1, e2]
            exact rslot1_none j s0 s1 _ _ l h hv hlc (by omega)
          | some n =>
            have e1 : (DS.mk j s0 s1 false (some n)).slotE 1 l.length = 130 := by simp [DS.slotE, hx]
            have e2 : (DS.mk j s0 s1 false (some n)).slot 1 l = ⟨j, s0, l.take n, true, some n⟩ := by simp [DS.slot, hx, wrB]
            rw [e1, e2]
            exact rslot1_some j s0 s1 _ _ l h hv hlc (by omega)
  · have e1 : (DS.mk j s0 s1 true arm).slotE k l.length = 130 := by simp [DS.slotE]
    have e2 : (DS.mk j s0 s1 true arm).slot k l = ⟨j, s0, s1, true, arm⟩ := by simp [DS.slot]
    rw [e1, e2]
    exact (rslot_dead k _ h rfl).mono fun e w' ⟨h1, h2⟩ => ⟨h1, h2 ▸ h⟩
/-- A number of bytes that a journal may have. -/
def partV (raw : Bool) (n : Int) (k : Nat) : Int := if raw then n else n % ((k : Int) + 1)
theorem part_any (x n : Int) (u : Value) (raw : Bool) (k : Nat) (w : World) (hk : k ≤ 1048576) :
    Calls Try.prog 28 #[.agg #[.int .i64 x, .int .i64 n, u, .bool raw], .int .i64 k] w fun e w' => e = .returned (.int .i64 (partV raw n k)) ∧ w' = w.alloc (.cells #[.int .i64 x, .int .i64 n, u, .bool raw] 29) := by
  have hb := fun wx => bring_any n ((k : Int) + 1) wx (by unfold Sm; omega)
  have HB := Lib.hid hb
  clear hb
  cases raw
  · go_enter Try.func28, Try.ntmps28
    go_wp2_with fail
    refine (HB.out _).mono ?_
    rintro r0 w1 ⟨rfl, rfl⟩
    go_wp2_with fail
    go_ret
    exact ⟨rfl, rfl⟩
  · go_enter Try.func28, Try.ntmps28
    go_wp2_with fail
    go_ret
    exact ⟨rfl, rfl⟩
end Go.Proofs.Ytpnafgkoijnplaa
