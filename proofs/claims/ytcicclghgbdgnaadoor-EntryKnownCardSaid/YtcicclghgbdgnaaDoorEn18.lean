/- The statement's own (stage 4): EntryReads. -/
import Derived.Test.YtcicclghgbdgnaaDoorEn13
import Derived.Test.YtcicclghgbdgnaaDoorEn15
import Derived.Test.YtcicclghgbdgnaaDoorEn17
namespace Go.Proofs.YtcicclghgbdgnaaDoor
open Go.RowKit
set_option linter.unusedVariables false
set_option linter.unusedSimpArgs false
set_option maxRecDepth 100000 in
set_option maxHeartbeats 16000000 in
theorem reads04 (a : Option Addr) (c n m : Nat) (t : List UInt8) (w : World) (hs : Sl w (.slice a m c) (bv t)) (hl : t.length ≤ 1000) (hk : KindsAt w) (hmin : (if (1000 : Int) < (n : Int) then (1000 : Int) else (n : Int)) = (m : Int)) (hmc : m ≤ c) :
    Calls Tryd.prog 25 #[.slice a n c] w fun e w' => e = .returned (.bool true) ∧ Sep w [] w' := by
  have HP := Lib.hid (eparse_any _ t (Sep.start w) hs hk (by omega))
  have HS := Lib.hid hs
  have HK := Lib.hid hk
  have HL := Lib.hid hl
  have hfew : (rwsOf t).1.length ≤ 900 := by
    by_cases h2 : (rwsOf t).2 = 0
    · exact rows_few hl h2
    · rw [rwsOf_err h2]; exact Nat.zero_le _
  have HFW := Lib.hid hfew
  clear hs hl hk hfew
  go_enter Tryd.func25, Tryd.ntmps25
  go_wp2_with fail
  refine HP.out.mono ?_
  rintro r0 w1 ⟨x, err, u, rfl, hp, h2⟩
  clear HP
  obtain ⟨ax, kx, rfl, -⟩ := h2.rnForm
  have h3 := h2.alloc (.cells (enC x (.slice ax x.p.ls.length kx)) 26)
  obtain ⟨b3, hb3⟩ : ∃ z, z = w1.heap.size := ⟨_, rfl⟩
  obtain ⟨w3, hw3⟩ : ∃ z, z = w1.alloc (.cells (enC x (.slice ax x.p.ls.length kx)) 26) := ⟨_, rfl⟩
  rw [← hb3, ← hw3] at h3
  have HRP := Lib.hid (reparse_any (.slice a m c) t h3 (HS.out.below h3.low) (by have := HL.out; omega))
  have HPX := Lib.hid hp
  unfold enC at hw3
  unfold enV
  clear h2 h3 hp
  go_wp2_with fail
  rw [← hw3, ← hb3]
  clear hw3 hb3
  refine HRP.out.mono ?_
  rintro r0 w4 ⟨y, err', u', rfl, hp, h4⟩
  clear HRP
  obtain ⟨hyx, rfl⟩ := Prod.mk.inj (hp.trans HPX.out.symm)
  subst y
  obtain ⟨ay, ky, rfl, -⟩ := h4.rnForm
  have h5 := h4.alloc (.cells (enC x (.slice ay x.p.ls.length ky)) 26)
  obtain ⟨b5, hb5⟩ : ∃ z, z = w4.heap.size := ⟨_, rfl⟩
  obtain ⟨w5, hw5⟩ : ∃ z, z = w4.alloc (.cells (enC x (.slice ay x.p.ls.length ky)) 26) := ⟨_, rfl⟩
  rw [← hb5, ← hw5] at h5
  have HRW := Lib.hid (rows_any (.slice a m c) t h5 (HS.out.below h5.low) (HK.out.below h5.low) (by have := HL.out; omega))
  unfold enC at hw5
  unfold enV
  clear h4 h5 hp HPX
  go_wp2_with fail
  rw [← hw5, ← hb5]
  clear hw5 hb5
  refine HRW.out.mono ?_
  rintro r0 w6 ⟨ps, um, rfl, hps, h6⟩
  clear HRW
  obtain ⟨a6, c6, rfl, -⟩ := h6.enForm
  have HRR := Lib.hid (rerows_any (.slice a m c) t h6 (HS.out.below h6.low) (by have := HL.out; omega))
  have HPS := Lib.hid hps
  clear h6 hps
  go_wp2_with fail
  refine HRR.out.mono ?_
  rintro r0 w7 ⟨ms, un, rfl, hms, h7⟩
  clear HRR
  obtain ⟨a7, c7, rfl, -⟩ := h7.enForm
  have hlp : ps.length ≤ 900 := by rw [← List.length_map (f := (·.1)), HPS.out]; exact HFW.out
  have hlm : ms.length ≤ 900 := by rw [← List.length_map (f := (·.1)), hms]; exact HFW.out
  have hsm := resame_any x x (.slice ax x.p.ls.length kx) (.slice ay x.p.ls.length ky) h7 (Sep.lnS h7.sw6) (Sep.lnS h7.sw4) (lns_maxl (Sep.lnS h7.sw6))
  rw [enSame_self] at hsm
  have HSM := Lib.hid hsm
  have HSP := Lib.hid (sameP_of (hms.trans HPS.out.symm) : SameP ps ms)
  have HLL := Lib.hid (And.intro hlp hlm)
  have H7 := Lib.hid h7
  unfold enC at h7
  obtain ⟨c0, c1, c2, c3, c4, c5, c6'⟩ := cells7 h7.sw3
  obtain ⟨d0, d1, d2, d3, d4, d5, d6⟩ := cells7 h7.sw5
  have he1 : (err' == err') = true := beq_self_eq_true _
  unfold enV at HSM
  clear h7 hsm hms hlp hlm HFW HPS
  generalize (rwsOf t).2 = er at *
  have he2 : (er == er) = true := beq_self_eq_true _
  go_wp2_with fail
  refine HSM.out.mono ?_
  rintro r0 w8 ⟨rfl, h8⟩
  clear c0 c1 c2 c3 c4 c5 c6' d0 d1 d2 d3 d4 d5 d6 HSM
  have HSR := Lib.hid (resamerow_w a6 a7 c6 c7 ps ms h8.sw2.enS h8.enS HLL.out.1 HLL.out.2)
  have H8 := Lib.hid (h8.pick [] rfl : Sep w [] w8)
  clear h8 H7
  have RL : ∀ (wx : World), Calls Tryd.prog 17 #[] wx (fun e w' => True) ∨ True := fun _ => .inr trivial
  clear RL
  go_wp2_with (first
    | (refine HSR.out.mono ?_; rintro r0 w9 ⟨r, rfl, hr, h9⟩; obtain rfl : r = true := hr.2 HSP.out; have h9' := H8.out.below h9.low; have HW := Lib.hid (works4_any h9' (HK.out.below h9'.low)); clear hr h9 h9')
    | (refine HW.out.mono ?_; rintro r0 w10 ⟨rfl, h10⟩))
  go_ret
  exact ⟨rfl, h10⟩
theorem reads04_any {w0 w : World} {L : List Thing} (a : Option Addr) (c : Nat) (l : List UInt8) (n : Nat) (h0 : Sep w0 L w) (h : Sl w (.slice a n c) (bv l)) (hn : l.length = n) (hk : KindsAt w) (hnc : n ≤ c) :
    Calls Tryd.prog 25 #[.slice a n c] w fun e w' => e = .returned (.bool true) ∧ Sep w0 L w' := by
  obtain ⟨m, hm1, hm2, hm3, hm4⟩ := min_len n 1000
  have hs : Sl w (.slice a m c) (bv (l.take m)) := by
    subst hn
    exact sl_pre h hm1
  have hl : (l.take m).length = m := by rw [List.length_take]; omega
  exact (reads04 a c n m (l.take m) w hs (by omega) hk hm3 (by omega)).mono fun e w' ⟨h1, h2⟩ => ⟨h1, h0.below h2.low⟩
end Go.Proofs.YtcicclghgbdgnaaDoor
