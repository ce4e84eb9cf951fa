/- Calls of a disk with literals; the chapter's disk. -/
import Derived.Test.YtpnafgkoijnplaaDisk3
import Derived.Test.YtpnafgkoijnplaaLit
namespace Go.Proofs.Ytpnafgkoijnplaa
open Go.RowKit
set_option linter.unusedVariables false
theorem disk_lt {w0 w : World} {g : Nat} {D : DS} {L : List Thing} (h : Sep w0 (DiskT g D :: L) w) : w0.heap.size ≤ g ∧ g < w.heap.size := by
  obtain ⟨_, _, _, _, h⟩ := h.openD
  exact h.blk_lt
theorem append_lit {w0 w : World} {L : List Thing} {g : Nat} (n : Nat) (j s0 s1 l : List UInt8) (cs : Array Value) (h : Sep w0 (DiskT g ⟨j, s0, s1, false, none⟩ :: L) w) (hc : cs.toList = bv l) (hn : l.length = n) (h1 : n ≤ 1000) (hl : j.length + n ≤ 1048576) :
    Calls Try.prog 24 #[.pointer (some ⟨g, 0, none⟩), .slice (some ⟨w.heap.size, 0, none⟩) n n] (w.alloc (.cells cs 5)) fun e w' => e = .returned (.int .i64 0) ∧ Sep w0 (DiskT g ⟨j ++ l, s0, s1, false, none⟩ :: L) w' := by
  subst hn
  exact append_none j s0 s1 _ l (h.alloc0 _) (sl_lit w cs l hc h1 _) hl
theorem slot1_lit {w0 w : World} {L : List Thing} {g : Nat} (n : Nat) (j s0 s1 l : List UInt8) (cs : Array Value) (h : Sep w0 (DiskT g ⟨j, s0, s1, false, none⟩ :: L) w) (hc : cs.toList = bv l) (hn : l.length = n) (h1 : n ≤ 1000) :
    Calls Try.prog 17 #[.pointer (some ⟨g, 0, none⟩), .int .i64 1, .slice (some ⟨w.heap.size, 0, none⟩) n n] (w.alloc (.cells cs 5)) fun e w' => e = .returned (.int .i64 0) ∧ Sep w0 (DiskT g ⟨j, s0, l, false, none⟩ :: L) w' := by
  subst hn
  exact slot1_none j s0 s1 _ l (h.alloc0 _) (sl_lit w cs l hc h1 _) (by omega)
theorem slot0_lit {w0 w : World} {L : List Thing} {g : Nat} (n : Nat) (j s0 s1 l : List UInt8) (cs : Array Value) (h : Sep w0 (DiskT g ⟨j, s0, s1, false, none⟩ :: L) w) (hc : cs.toList = bv l) (hn : l.length = n) (h1 : n ≤ 1000) :
    Calls Try.prog 17 #[.pointer (some ⟨g, 0, none⟩), .int .i64 0, .slice (some ⟨w.heap.size, 0, none⟩) n n] (w.alloc (.cells cs 5)) fun e w' => e = .returned (.int .i64 0) ∧ Sep w0 (DiskT g ⟨j, l, s1, false, none⟩ :: L) w' := by
  subst hn
  exact slot0_none j s0 s1 _ l (h.alloc0 _) (sl_lit w cs l hc h1 _) (by omega)
theorem slot1_torn {w0 w : World} {L : List Thing} {g m : Nat} (n : Nat) (j s0 s1 l : List UInt8) (cs : Array Value) (h : Sep w0 (DiskT g ⟨j, s0, s1, false, some m⟩ :: L) w) (hc : cs.toList = bv l) (hn : l.length = n) (h1 : n ≤ 1000) :
    Calls Try.prog 17 #[.pointer (some ⟨g, 0, none⟩), .int .i64 1, .slice (some ⟨w.heap.size, 0, none⟩) n n] (w.alloc (.cells cs 5)) fun e w' => e = .returned (.int .i64 130) ∧ Sep w0 (DiskT g ⟨j, s0, l.take m, true, some m⟩ :: L) w' := by
  subst hn
  exact slot1_some j s0 s1 _ l (h.alloc0 _) (sl_lit w cs l hc h1 _) (by omega)
theorem trim_ok {w0 w : World} {L : List Thing} {g : Nat} (j s0 s1 : List UInt8) (a : Option Nat) (n : Nat) (k : Int) (hk : k = n) (h : Sep w0 (DiskT g ⟨j, s0, s1, false, a⟩ :: L) w) (hj : j.length ≤ 1048576) (hn : n ≤ j.length) :
    Calls Try.prog 20 #[.pointer (some ⟨g, 0, none⟩), .int .i64 k] w fun e w' => e = .returned (.int .i64 0) ∧ Sep w0 (DiskT g ⟨j.drop n, s0, s1, false, a⟩ :: L) w' := by
  subst hk
  have h1 := trim_any ⟨j, s0, s1, false, a⟩ n h hj
  have e1 : (DS.mk j s0 s1 false a).keepE (n : Int) = 0 := by simp [DS.keepE]; omega
  have e2 : (DS.mk j s0 s1 false a).trim (n : Int) = ⟨j.drop n, s0, s1, false, a⟩ := by unfold DS.trim; rw [if_pos e1]; rfl
  rwa [e1, e2] at h1
theorem cut_ok {w0 w : World} {L : List Thing} {g : Nat} (j s0 s1 : List UInt8) (a : Option Nat) (n : Nat) (k : Int) (hk : k = n) (h : Sep w0 (DiskT g ⟨j, s0, s1, false, a⟩ :: L) w) (hj : j.length ≤ 1048576) (hn : n ≤ j.length) :
    Calls Try.prog 21 #[.pointer (some ⟨g, 0, none⟩), .int .i64 k] w fun e w' => e = .returned (.int .i64 0) ∧ Sep w0 (DiskT g ⟨j.take n, s0, s1, false, a⟩ :: L) w' := by
  subst hk
  have h1 := cut_any ⟨j, s0, s1, false, a⟩ n h hj
  have e1 : (DS.mk j s0 s1 false a).keepE (n : Int) = 0 := by simp [DS.keepE]; omega
  have e2 : (DS.mk j s0 s1 false a).cut (n : Int) = ⟨j.take n, s0, s1, false, a⟩ := by unfold DS.cut; rw [if_pos e1]; rfl
  rwa [e1, e2] at h1
theorem eq_lit {w0 w : World} {L : List Thing} (n : Nat) (v : Value) (m l : List UInt8) (cs : Array Value) (b : Nat) (hb : w.heap.size = b) (h : Sep w0 (By v m :: L) w) (hc : cs.toList = bv l) (hn : l.length = n) (h1 : n ≤ 1000) :
    Calls Try.prog 19 #[v, .slice (some ⟨b, 0, none⟩) n n] (w.alloc (.cells cs 5)) fun e w' => e = .returned (.bool (m == l)) ∧ Sep w0 L w' := by
  subst hn hb
  exact (eqBytes_any _ _ _ _ _ (h.alloc0 _).sl (sl_lit w cs l hc h1 _)).mono fun e w' ⟨h1, h2⟩ => ⟨h1, h2 ▸ (h.alloc0 _).drop⟩
set_option maxRecDepth 8000 in
set_option maxHeartbeats 1000000 in
theorem works_any (w : World) : Calls Try.prog 13 #[] w fun e w' => e = .returned (.bool true) ∧ Below w.heap.size w w' := by
  go_enter Try.func13, Try.ntmps13
  go_wp2_with fail
  refine (new_any (Sep.start w)).mono ?_
  rintro r0 w1 ⟨g, rfl, h1⟩
  go_wp2_with fail
  refine (append_lit 2 [] [] [] [1, 2] _ h1 rfl rfl (by decide) (by decide)).mono ?_
  rintro r0 w2 ⟨rfl, h2⟩
  clear h1
  go_wp2_with fail
  refine (slot1_lit 2 _ [] [] [3, 4] _ h2 rfl rfl (by decide)).mono ?_
  rintro r0 w3 ⟨rfl, h3⟩
  clear h2
  go_wp2_with fail
  refine (arm_ok _ 1 h3 rfl).mono ?_
  rintro r0 w4 ⟨rfl, h4⟩
  clear h3
  go_wp2_with fail
  refine (slot1_torn 2 _ [] _ [5, 6] _ h4 rfl rfl (by decide)).mono ?_
  rintro r0 w5 ⟨rfl, h5⟩
  clear h4
  go_wp2_with fail
  refine (append_dead _ (h5.alloc0 _) rfl).mono ?_
  rintro r0 w6 ⟨rfl, rfl⟩
  go_wp2_with fail
  refine (dead_any (h5.alloc0 _)).mono ?_
  rintro r0 w6 ⟨rfl, rfl⟩
  go_wp2_with fail
  refine (slots_any _ (h5.alloc0 _) (by decide) (by decide)).mono ?_
  rintro r0 w6 ⟨v, u, rfl, h6⟩
  clear h5
  obtain ⟨av, cv, rfl⟩ := h6.sl.len
  obtain ⟨au, cu, rfl⟩ := h6.sw2.sl.len
  go_wp2_with fail
  refine (eq_lit 1 _ [5] [5] _ _ (by simp) (h6.drop.alloc0 _) rfl rfl (by decide)).mono ?_
  rintro r0 w7 ⟨rfl, h7⟩
  clear h6
  go_wp2_with fail
  refine (revive_any _ h7).mono ?_
  rintro r0 w8 ⟨rfl, h8⟩
  clear h7
  go_wp2_with fail
  refine (trim_ok [1, 2] [] [5] none 1 1 rfl h8 (by decide) (by decide)).mono ?_
  rintro r0 w9 ⟨rfl, h9⟩
  clear h8
  go_wp2_with fail
  refine (append_lit 1 [2] [] [5] [8] _ h9 rfl rfl (by decide) (by decide)).mono ?_
  rintro r0 wa ⟨rfl, ha⟩
  clear h9
  go_wp2_with fail
  refine (log_any _ ha (by decide)).mono ?_
  rintro r0 wb ⟨v1, rfl, hb⟩
  clear ha
  go_wp2_with fail
  refine (eq_lit 2 _ [2, 8] [2, 8] _ _ rfl hb rfl rfl (by decide)).mono ?_
  rintro r0 wc ⟨rfl, hc⟩
  clear hb
  go_wp2_with fail
  refine (cut_ok [2, 8] [] [5] none 1 1 rfl hc (by decide) (by decide)).mono ?_
  rintro r0 wd ⟨rfl, hd⟩
  clear hc
  go_wp2_with fail
  refine (log_any _ hd (by decide)).mono ?_
  rintro r0 we ⟨v2, rfl, he⟩
  clear hd
  go_wp2_with fail
  refine (eq_lit 1 _ [2] [2] _ _ rfl he rfl rfl (by decide)).mono ?_
  rintro r0 wf ⟨rfl, hf⟩
  clear he
  go_wp2_with fail
  refine (slot_range 2 _ (hf.alloc0 _) rfl (by omega)).mono ?_
  rintro r0 wg ⟨rfl, rfl⟩
  go_wp2_with fail
  go_ret
  exact ⟨rfl, (hf.alloc0 _).low⟩
end Go.Proofs.Ytpnafgkoijnplaa
