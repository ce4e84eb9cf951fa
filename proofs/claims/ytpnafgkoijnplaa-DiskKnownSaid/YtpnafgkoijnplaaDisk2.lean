/- More calls of a disk: those that are refused, Trim, Cut, Arm, Revive, Log, Slots. -/
import Derived.Test.YtpnafgkoijnplaaDisk
import Derived.Deep.QuietTactic
import Derived.BigQuiet
namespace Go.Proofs.Ytpnafgkoijnplaa
open Go.RowKit
set_option linter.unusedVariables false
theorem append_dead {w0 w : World} {g : Nat} {D : DS} {L : List Thing} (v : Value) (h : Sep w0 (DiskT g D :: L) w) (hd : D.dead = true) :
    Calls Try.prog 24 #[.pointer (some ⟨g, 0, none⟩), v] w fun e w' => e = .returned (.int .i64 130) ∧ w = w' := by
  have hc := check_any h
  rw [hd] at hc
  have HC := Lib.hid hc
  clear hc h hd
  go_enter Try.func24, Try.ntmps24
  go_wp2_with (go_at_call 39; refine HC.out.mono ?_; rintro r0 w1 ⟨rfl, rfl⟩)
  go_ret
  exact ⟨rfl, rfl⟩
theorem append_limit {w0 w : World} {g : Nat} {D : DS} {L : List Thing} (a : Option Addr) (n c : Nat) (h : Sep w0 (DiskT g D :: L) w) (hd : D.dead = false) (hj : D.j.length ≤ 1048576) (hn : n ≤ 1048576) (hl : 1048576 < D.j.length + n) :
    Calls Try.prog 24 #[.pointer (some ⟨g, 0, none⟩), .slice a n c] w fun e w' => e = .returned (.int .i64 5) ∧ w = w' := by
  have hc := check_any h
  rw [hd] at hc
  have HC := Lib.hid hc
  obtain ⟨vj, v0, v1, wf, h⟩ := h.openD
  obtain ⟨c0, c1, c2, c3, c4⟩ := h.cellsD
  obtain ⟨aj, cj, rfl⟩ := h.sw2.sl.len
  rw [bv_length] at c0
  generalize D.j.length = jl at *
  clear hc h hd c1 c2 c3 c4
  go_enter Try.func24, Try.ntmps24
  go_wp2_with (go_at_call 39; refine HC.out.mono ?_; rintro r0 w1 ⟨rfl, rfl⟩)
  go_ret
  exact ⟨rfl, rfl⟩
theorem slot_dead {w0 w : World} {g : Nat} {D : DS} {L : List Thing} (k : Int) (v : Value) (h : Sep w0 (DiskT g D :: L) w) (hd : D.dead = true) :
    Calls Try.prog 17 #[.pointer (some ⟨g, 0, none⟩), .int .i64 k, v] w fun e w' => e = .returned (.int .i64 130) ∧ w = w' := by
  have hc := check_any h
  rw [hd] at hc
  have HC := Lib.hid hc
  clear hc h hd
  go_enter Try.func17, Try.ntmps17
  go_wp2_with (go_at_call 39; refine HC.out.mono ?_; rintro r0 w1 ⟨rfl, rfl⟩)
  go_ret
  exact ⟨rfl, rfl⟩
theorem slot_range {w0 w : World} {g : Nat} {D : DS} {L : List Thing} (k : Int) (v : Value) (h : Sep w0 (DiskT g D :: L) w) (hd : D.dead = false) (hk : k < 0 ∨ 2 ≤ k) :
    Calls Try.prog 17 #[.pointer (some ⟨g, 0, none⟩), .int .i64 k, v] w fun e w' => e = .returned (.int .i64 9) ∧ w = w' := by
  have hc := check_any h
  rw [hd] at hc
  have HC := Lib.hid hc
  clear hc h hd
  rcases hk with hk | hk
  · go_enter Try.func17, Try.ntmps17
    go_wp2_with (go_at_call 39; refine HC.out.mono ?_; rintro r0 w1 ⟨rfl, rfl⟩)
    go_ret
    exact ⟨rfl, rfl⟩
  · have hk0 : ¬ k < 0 := by omega
    go_enter Try.func17, Try.ntmps17
    go_wp2_with (go_at_call 39; refine HC.out.mono ?_; rintro r0 w1 ⟨rfl, rfl⟩)
    go_ret
    exact ⟨rfl, rfl⟩
theorem slot_limit {w0 w : World} {g : Nat} {D : DS} {L : List Thing} (k : Int) (a : Option Addr) (n c : Nat) (h : Sep w0 (DiskT g D :: L) w) (hd : D.dead = false) (hk : 0 ≤ k) (hk2 : k < 2) (hn : 65536 < n) (hm : n ≤ 1048576) :
    Calls Try.prog 17 #[.pointer (some ⟨g, 0, none⟩), .int .i64 k, .slice a n c] w fun e w' => e = .returned (.int .i64 5) ∧ w = w' := by
  have hc := check_any h
  rw [hd] at hc
  have HC := Lib.hid hc
  clear hc h hd
  go_enter Try.func17, Try.ntmps17
  go_wp2_with (go_at_call 39; refine HC.out.mono ?_; rintro r0 w1 ⟨rfl, rfl⟩)
  go_ret
  exact ⟨rfl, rfl⟩
theorem slice_from {w : World} {v : Value} {j : List UInt8} (n : Nat) (hn : n ≤ j.length) (hs : SlS w v (bv j)) :
    (v = .slice none 0 0 ∧ j = [] ∧ n = 0) ∨ ∃ b off c, v = .slice (some ⟨b, off, none⟩) j.length c ∧ j.length ≤ c ∧ c ≤ maxLen ∧ SlS w (.slice (some ⟨b, off, none⟩) j.length c) (bv j) := by
  rcases hs with ⟨rfl, hx⟩ | ⟨b, off, c, rfl, h1, h2, h3, h4⟩
  · obtain rfl := (bv_nil_iff j).1 hx
    exact .inl ⟨rfl, rfl, by simpa using hn⟩
  · rw [bv_length] at h1 ⊢
    exact .inr ⟨b, off, c, rfl, h1, h2, .inr ⟨b, off, c, by rw [bv_length], by rw [bv_length]; exact h1, h2, h3, h4⟩⟩
theorem trim1_any {w : World} {g pb : Nat} {vj : Value} {j : List UInt8} (n : Nat) (hp : w.cell? ⟨pb, 0, none⟩ = some (.pointer (some ⟨g, 0, none⟩))) (c0 : w.cell? ⟨g, 0, none⟩ = some vj) (hs : SlS w vj (bv j)) (hn : n ≤ j.length) (hj : j.length ≤ 1048576) :
    Calls Try.prog 41 #[.int .i64 n, .pointer (some ⟨pb, 0, none⟩)] w fun e w' => ∃ v, e = .returned v ∧ Sl w v (bv (j.drop n)) ∧ w = w' := by
  rcases slice_from n hn hs with ⟨rfl, rfl, rfl⟩ | ⟨b, off, c, rfl, h1, h2, hs'⟩
  · clear hs hn hj
    go_enter Try.func41, Try.ntmps41
    go_wp2
    go_ret
    exact ⟨_, rfl, sl_nil w, rfl⟩
  · have HS := Lib.hid hs'
    clear hs hs'
    unfold maxLen at h2
    by_cases hc : c = n
    · have hc' : (c : Int) - (n : Int) = 0 := by omega
      subst hc
      go_enter Try.func41, Try.ntmps41
      go_wp2
      go_ret
      have h3 := sl_from_cap HS.out rfl hn
      rw [show j.length - c = 0 by omega] at h3
      exact ⟨_, rfl, h3.sl, rfl⟩
    · go_enter Try.func41, Try.ntmps41
      go_wp2
      go_ret
      exact ⟨_, rfl, (sl_from HS.out hn hc).sl, rfl⟩
theorem cut1_any {w : World} {g pb : Nat} {vj : Value} {j : List UInt8} (n : Nat) (hp : w.cell? ⟨pb, 0, none⟩ = some (.pointer (some ⟨g, 0, none⟩))) (c0 : w.cell? ⟨g, 0, none⟩ = some vj) (hs : SlS w vj (bv j)) (hn : n ≤ j.length) (hj : j.length ≤ 1048576) :
    Calls Try.prog 42 #[.int .i64 n, .pointer (some ⟨pb, 0, none⟩)] w fun e w' => ∃ v, e = .returned v ∧ Sl w v (bv (j.take n)) ∧ w = w' := by
  rcases slice_from n hn hs with ⟨rfl, rfl, rfl⟩ | ⟨b, off, c, rfl, h1, h2, hs'⟩
  · clear hs hn hj
    go_enter Try.func42, Try.ntmps42
    go_wp2
    go_ret
    exact ⟨_, rfl, sl_nil w, rfl⟩
  · have HS := Lib.hid hs'
    clear hs hs'
    unfold maxLen at h2
    go_enter Try.func42, Try.ntmps42
    go_wp2
    go_ret
    exact ⟨_, rfl, (sl_take HS.out hn).sl, rfl⟩
set_option maxHeartbeats 1000000 in
theorem keep_trim {w0 w : World} {L : List Thing} {g pb : Nat} (D : DS) (n : Nat) (h : Sep w0 (DiskT g D :: Cl pb #[.pointer (some ⟨g, 0, none⟩)] 23 :: L) w) (hd : D.dead = false) (hn : n ≤ D.j.length) (hj : D.j.length ≤ 1048576) :
    Calls Try.prog 40 #[.pointer (some ⟨g, 0, none⟩), .int .i64 n, .func (.func 41) #[] #[.pointer (some ⟨pb, 0, none⟩)]] w fun e w' => e = .returned (.int .i64 0) ∧
      Sep w0 (DiskT g { D with j := D.j.drop n } :: Cl pb #[.pointer (some ⟨g, 0, none⟩)] 23 :: L) w' := by
  have hc := check_any h
  rw [hd] at hc
  have HC := Lib.hid hc
  obtain ⟨vj, v0, v1, wf, h⟩ := h.openD
  obtain ⟨c0, c1, c2, c3, c4⟩ := h.cellsD
  obtain ⟨aj, cj, rfl⟩ := h.sw2.sl.len
  rw [bv_length] at c0
  have ht := trim1_any n (h.sw6.cell (o := 0) rfl) (vj := .slice aj D.j.length cj) c0 (by have := h.sw2.rw_.sls; rwa [bv_length] at this) hn hj
  have HT := Lib.hid ht
  have H := Lib.hid h
  obtain ⟨jl, hjl⟩ : ∃ n, n = D.j.length := ⟨_, rfl⟩
  rw [← hjl] at c0
  have hnj : n ≤ jl := by omega
  have hjm : jl ≤ 1048576 := by omega
  have HL : Hid ((D.j.drop n).length ≤ 1048576) := Lib.hid (by simp; omega)
  clear h hc ht c1 c2 c3 c4 hd hn hj hjl
  go_enter Try.func40, Try.ntmps40
  go_wp2_with (go_at_call 39; refine HC.out.mono ?_; rintro r0 w1 ⟨rfl, rfl⟩)
  refine HT.out.mono ?_
  rintro r0 w1 ⟨v, rfl, hs, rfl⟩
  have HS := Lib.hid hs
  clear hs HT HC c0
  go_wp2_with fail
  refine (clone_sep _ _ _ H.out HS.out (by have := HL.out; omega)).mono ?_
  rintro r0 w1 ⟨v1', rfl, h1⟩
  obtain ⟨a2, c2, rfl⟩ := h1.sl.len
  obtain ⟨k0, _, _, _, _⟩ := h1.sw2.cellsD
  have q5 := h1.sw2.frozen 0
  have H3 := Lib.hid (Sep.closeD { D with j := D.j.drop n } (h1.sw2.setCell 0 (.slice a2 (bv (D.j.drop n)).length c2)).sw3.drop)
  clear h1 HS H
  go_wp2_with fail
  go_ret
  exact ⟨rfl, H3.out⟩
theorem keep_trim_dead {w0 w : World} {L : List Thing} {g : Nat} (D : DS) (n : Int) (f : Value) (h : Sep w0 (DiskT g D :: L) w) (hd : D.dead = true) :
    Calls Try.prog 40 #[.pointer (some ⟨g, 0, none⟩), .int .i64 n, f] w fun e w' => e = .returned (.int .i64 130) ∧ w = w' := by
  have hc := check_any h
  rw [hd] at hc
  have HC := Lib.hid hc
  clear h hc hd
  go_enter Try.func40, Try.ntmps40
  go_wp2_with (go_at_call 39; refine HC.out.mono ?_; rintro r0 w1 ⟨rfl, rfl⟩)
  go_ret
  exact ⟨rfl, rfl⟩
theorem keep_trim_range {w0 w : World} {L : List Thing} {g : Nat} (D : DS) (n : Int) (f : Value) (h : Sep w0 (DiskT g D :: L) w) (hd : D.dead = false) (hn : n < 0 ∨ (D.j.length : Int) < n) (hj : D.j.length ≤ 1048576) :
    Calls Try.prog 40 #[.pointer (some ⟨g, 0, none⟩), .int .i64 n, f] w fun e w' => e = .returned (.int .i64 9) ∧ w = w' := by
  have hc := check_any h
  rw [hd] at hc
  have HC := Lib.hid hc
  obtain ⟨vj, v0, v1, wf, h⟩ := h.openD
  obtain ⟨c0, c1, c2, c3, c4⟩ := h.cellsD
  obtain ⟨aj, cj, rfl⟩ := h.sw2.sl.len
  rw [bv_length] at c0
  generalize D.j.length = jl at *
  clear h hc hd c1 c2 c3 c4
  rcases hn with hn | hn
  · go_enter Try.func40, Try.ntmps40
    go_wp2_with (go_at_call 39; refine HC.out.mono ?_; rintro r0 w1 ⟨rfl, rfl⟩)
    go_ret
    exact ⟨rfl, rfl⟩
  · have hn0 : ¬ n < 0 := by omega
    go_enter Try.func40, Try.ntmps40
    go_wp2_with (go_at_call 39; refine HC.out.mono ?_; rintro r0 w1 ⟨rfl, rfl⟩)
    go_ret
    exact ⟨rfl, rfl⟩
set_option maxHeartbeats 1000000 in
theorem keep_cut {w0 w : World} {L : List Thing} {g pb : Nat} (D : DS) (n : Nat) (h : Sep w0 (DiskT g D :: Cl pb #[.pointer (some ⟨g, 0, none⟩)] 23 :: L) w) (hd : D.dead = false) (hn : n ≤ D.j.length) (hj : D.j.length ≤ 1048576) :
    Calls Try.prog 40 #[.pointer (some ⟨g, 0, none⟩), .int .i64 n, .func (.func 42) #[] #[.pointer (some ⟨pb, 0, none⟩)]] w fun e w' => e = .returned (.int .i64 0) ∧
      Sep w0 (DiskT g { D with j := D.j.take n } :: Cl pb #[.pointer (some ⟨g, 0, none⟩)] 23 :: L) w' := by
  have hc := check_any h
  rw [hd] at hc
  have HC := Lib.hid hc
  obtain ⟨vj, v0, v1, wf, h⟩ := h.openD
  obtain ⟨c0, c1, c2, c3, c4⟩ := h.cellsD
  obtain ⟨aj, cj, rfl⟩ := h.sw2.sl.len
  rw [bv_length] at c0
  have ht := cut1_any n (h.sw6.cell (o := 0) rfl) (vj := .slice aj D.j.length cj) c0 (by have := h.sw2.rw_.sls; rwa [bv_length] at this) hn hj
  have HT := Lib.hid ht
  have H := Lib.hid h
  obtain ⟨jl, hjl⟩ : ∃ n, n = D.j.length := ⟨_, rfl⟩
  rw [← hjl] at c0
  have hnj : n ≤ jl := by omega
  have hjm : jl ≤ 1048576 := by omega
  have HL : Hid ((D.j.take n).length ≤ 1048576) := Lib.hid (by simp; omega)
  clear h hc ht c1 c2 c3 c4 hd hn hj hjl
  go_enter Try.func40, Try.ntmps40
  go_wp2_with (go_at_call 39; refine HC.out.mono ?_; rintro r0 w1 ⟨rfl, rfl⟩)
  refine HT.out.mono ?_
  rintro r0 w1 ⟨v, rfl, hs, rfl⟩
  have HS := Lib.hid hs
  clear hs HT HC c0
  go_wp2_with fail
  refine (clone_sep _ _ _ H.out HS.out (by have := HL.out; omega)).mono ?_
  rintro r0 w1 ⟨v1', rfl, h1⟩
  obtain ⟨a2, c2, rfl⟩ := h1.sl.len
  obtain ⟨k0, _, _, _, _⟩ := h1.sw2.cellsD
  have q5 := h1.sw2.frozen 0
  have H3 := Lib.hid (Sep.closeD { D with j := D.j.take n } (h1.sw2.setCell 0 (.slice a2 (bv (D.j.take n)).length c2)).sw3.drop)
  clear h1 HS H
  go_wp2_with fail
  go_ret
  exact ⟨rfl, H3.out⟩
theorem keep_cut_dead {w0 w : World} {L : List Thing} {g : Nat} (D : DS) (n : Int) (f : Value) (h : Sep w0 (DiskT g D :: L) w) (hd : D.dead = true) :
    Calls Try.prog 40 #[.pointer (some ⟨g, 0, none⟩), .int .i64 n, f] w fun e w' => e = .returned (.int .i64 130) ∧ w = w' := by
  have hc := check_any h
  rw [hd] at hc
  have HC := Lib.hid hc
  clear h hc hd
  go_enter Try.func40, Try.ntmps40
  go_wp2_with (go_at_call 39; refine HC.out.mono ?_; rintro r0 w1 ⟨rfl, rfl⟩)
  go_ret
  exact ⟨rfl, rfl⟩
theorem keep_cut_range {w0 w : World} {L : List Thing} {g : Nat} (D : DS) (n : Int) (f : Value) (h : Sep w0 (DiskT g D :: L) w) (hd : D.dead = false) (hn : n < 0 ∨ (D.j.length : Int) < n) (hj : D.j.length ≤ 1048576) :
    Calls Try.prog 40 #[.pointer (some ⟨g, 0, none⟩), .int .i64 n, f] w fun e w' => e = .returned (.int .i64 9) ∧ w = w' := by
  have hc := check_any h
  rw [hd] at hc
  have HC := Lib.hid hc
  obtain ⟨vj, v0, v1, wf, h⟩ := h.openD
  obtain ⟨c0, c1, c2, c3, c4⟩ := h.cellsD
  obtain ⟨aj, cj, rfl⟩ := h.sw2.sl.len
  rw [bv_length] at c0
  generalize D.j.length = jl at *
  clear h hc hd c1 c2 c3 c4
  rcases hn with hn | hn
  · go_enter Try.func40, Try.ntmps40
    go_wp2_with (go_at_call 39; refine HC.out.mono ?_; rintro r0 w1 ⟨rfl, rfl⟩)
    go_ret
    exact ⟨rfl, rfl⟩
  · have hn0 : ¬ n < 0 := by omega
    go_enter Try.func40, Try.ntmps40
    go_wp2_with (go_at_call 39; refine HC.out.mono ?_; rintro r0 w1 ⟨rfl, rfl⟩)
    go_ret
    exact ⟨rfl, rfl⟩
end Go.Proofs.Ytpnafgkoijnplaa
