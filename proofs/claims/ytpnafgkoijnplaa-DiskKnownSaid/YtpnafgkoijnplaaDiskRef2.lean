/- More calls of the document's disk. -/
import Derived.Test.YtpnafgkoijnplaaDiskRef
namespace Go.Proofs.Ytpnafgkoijnplaa
open Go.RowKit
set_option linter.unusedVariables false
theorem rappend_dead {w0 w : World} {m : Nat} {D : DS} {L : List Thing} (v : Value) (h : Sep w0 (RefT m D :: L) w) (hd : D.dead = true) :
    Calls Try.prog 33 #[.pointer (some ⟨m, 0, none⟩), v] w fun e w' => e = .returned (.int .i64 130) ∧ w = w' := by
  obtain ⟨vj, v0, v1, h⟩ := h.openR
  obtain ⟨c0, c1, c2, c3, c4⟩ := h.cellsR
  rw [hd] at c3
  clear h hd c0 c1 c2 c4
  go_enter Try.func33, Try.ntmps33
  go_wp2
  go_ret
  exact ⟨rfl, rfl⟩
theorem rappend_limit {w0 w : World} {m : Nat} {D : DS} {L : List Thing} (a : Option Addr) (n c : Nat) (h : Sep w0 (RefT m D :: L) w) (hd : D.dead = false) (hj : D.j.length ≤ 1048576) (hn : n ≤ 1048576) (hl : 1048576 < D.j.length + n) :
    Calls Try.prog 33 #[.pointer (some ⟨m, 0, none⟩), .slice a n c] w fun e w' => e = .returned (.int .i64 5) ∧ w = w' := by
  obtain ⟨vj, v0, v1, h⟩ := h.openR
  obtain ⟨aj, cj, rfl⟩ := h.sw2.sl.len
  obtain ⟨c0, c1, c2, c3, c4⟩ := h.cellsR
  rw [hd] at c3
  rw [bv_length] at c0
  generalize D.j.length = jl at *
  clear h hd c1 c2 c4
  go_enter Try.func33, Try.ntmps33
  go_wp2
  go_ret
  exact ⟨rfl, rfl⟩
theorem rslot_dead {w0 w : World} {m : Nat} {D : DS} {L : List Thing} (k : Int) (v : Value) (h : Sep w0 (RefT m D :: L) w) (hd : D.dead = true) :
    Calls Try.prog 27 #[.pointer (some ⟨m, 0, none⟩), .int .i64 k, v] w fun e w' => e = .returned (.int .i64 130) ∧ w = w' := by
  obtain ⟨vj, v0, v1, h⟩ := h.openR
  obtain ⟨c0, c1, c2, c3, c4⟩ := h.cellsR
  rw [hd] at c3
  clear h hd c0 c1 c2 c4
  go_enter Try.func27, Try.ntmps27
  go_wp2
  go_ret
  exact ⟨rfl, rfl⟩
theorem rslot_range {w0 w : World} {m : Nat} {D : DS} {L : List Thing} (k : Int) (v : Value) (h : Sep w0 (RefT m D :: L) w) (hd : D.dead = false) (hk : k < 0 ∨ 2 ≤ k) :
    Calls Try.prog 27 #[.pointer (some ⟨m, 0, none⟩), .int .i64 k, v] w fun e w' => e = .returned (.int .i64 9) ∧ w = w' := by
  obtain ⟨vj, v0, v1, h⟩ := h.openR
  obtain ⟨c0, c1, c2, c3, c4⟩ := h.cellsR
  rw [hd] at c3
  have e0 : (k != 0) = true := by rw [bne_iff_ne]; omega
  have e1 : (k != 1) = true := by rw [bne_iff_ne]; omega
  clear h hd c0 c1 c2 c4 hk
  go_enter Try.func27, Try.ntmps27
  go_wp2
  go_ret
  exact ⟨rfl, rfl⟩
theorem rslot_limit {w0 w : World} {m : Nat} {D : DS} {L : List Thing} (k : Int) (a : Option Addr) (n c : Nat) (h : Sep w0 (RefT m D :: L) w) (hd : D.dead = false) (hk : k = 0 ∨ k = 1) (hn : 65536 < n) (hm : n ≤ 1048576) :
    Calls Try.prog 27 #[.pointer (some ⟨m, 0, none⟩), .int .i64 k, .slice a n c] w fun e w' => e = .returned (.int .i64 5) ∧ w = w' := by
  obtain ⟨vj, v0, v1, h⟩ := h.openR
  obtain ⟨c0, c1, c2, c3, c4⟩ := h.cellsR
  rw [hd] at c3
  clear h hd c0 c1 c2 c4
  rcases hk with rfl | rfl
  all_goals
    go_enter Try.func27, Try.ntmps27
    go_wp2
    go_ret
    exact ⟨rfl, rfl⟩
theorem rasked_any {w0 w : World} {m : Nat} {D : DS} {L : List Thing} (n : Int) (h : Sep w0 (RefT m D :: L) w) (hj : D.j.length ≤ 1048576) :
    Calls Try.prog 46 #[.pointer (some ⟨m, 0, none⟩), .int .i64 n] w fun e w' => e = .returned (.int .i64 (D.keepE n)) ∧ w = w' := by
  obtain ⟨vj, v0, v1, h⟩ := h.openR
  obtain ⟨aj, cj, rfl⟩ := h.sw2.sl.len
  obtain ⟨c0, c1, c2, c3, c4⟩ := h.cellsR
  rw [bv_length] at c0
  unfold DS.keepE
  cases hd : D.dead
  · rw [hd] at c3
    simp only [Bool.false_eq_true, if_false]
    generalize D.j.length = jl at *
    clear h hd c1 c2 c4
    by_cases h0 : n < 0
    · rw [if_pos (.inl h0)]
      go_enter Try.func46, Try.ntmps46
      go_wp2
      go_ret
      exact ⟨rfl, rfl⟩
    · by_cases h1 : (jl : Int) < n
      · rw [if_pos (.inr h1)]
        go_enter Try.func46, Try.ntmps46
        go_wp2
        go_ret
        exact ⟨rfl, rfl⟩
      · rw [if_neg (by omega)]
        go_enter Try.func46, Try.ntmps46
        go_wp2
        go_ret
        exact ⟨rfl, rfl⟩
  · rw [hd] at c3
    rw [if_pos rfl]
    clear h hd c0 c1 c2 c4
    go_enter Try.func46, Try.ntmps46
    go_wp2
    go_ret
    exact ⟨rfl, rfl⟩
set_option maxHeartbeats 1000000 in
theorem rtrim_ok {w0 w : World} {L : List Thing} {m : Nat} (D : DS) (n : Nat) (h : Sep w0 (RefT m D :: L) w) (hd : D.dead = false) (hn : n ≤ D.j.length) (hj : D.j.length ≤ 1048576) :
    Calls Try.prog 29 #[.pointer (some ⟨m, 0, none⟩), .int .i64 n] w fun e w' => e = .returned (.int .i64 0) ∧ Sep w0 (RefT m { D with j := D.j.drop n } :: L) w' := by
  have hc := rasked_any n h hj
  rw [show D.keepE n = 0 by unfold DS.keepE; rw [hd, if_neg (by simp), if_neg (by omega)]] at hc
  have HC := Lib.hid hc
  obtain ⟨vj, v0, v1, h⟩ := h.openR
  obtain ⟨aj, cj, hvj⟩ := h.sw2.sl.len
  subst hvj
  obtain ⟨c0, c1, c2, c3, c4⟩ := h.cellsR
  have hsl := h.sw2.sl
  have hcap := h.sw2.rw_.sls
  rw [bv_length] at c0 hsl hcap
  have hcj : D.j.length ≤ cj := by
    rcases sl_form hcap with ⟨_, he, _⟩ | ⟨_, _, _, hc⟩
    · rw [he]; simp
    · exact hc
  have hcm : cj ≤ maxLen := by
    rcases hcap with ⟨hv, _⟩ | ⟨_, _, _, hv, _, h2, _⟩
    · simp only [Value.slice.injEq] at hv; rw [hv.2.2]; exact Nat.zero_le _
    · simp only [Value.slice.injEq] at hv; rw [hv.2.2]; exact h2
  unfold maxLen at hcm
  have hp := sl_part hsl rfl n D.j.length hn (Nat.le_refl _)
  rw [List.take_length] at hp
  obtain ⟨q0, hq0⟩ : ∃ q, (if cj = n then aj else Option.map (fun q => q.add n) aj) = q := ⟨_, rfl⟩
  rw [hq0] at hp
  have HP := Lib.hid hp
  have H := Lib.hid h
  have HL : Hid ((D.j.drop n).length ≤ 1048576) := Lib.hid (by simp; omega)
  obtain ⟨jl, hjl⟩ : ∃ n, n = D.j.length := ⟨_, rfl⟩
  rw [← hjl] at c0 hn hcj hj
  rw [← hjl] at HP
  clear h hc hp hsl hcap c1 c2 c3 c4 hd hjl
  go_enter Try.func29, Try.ntmps29
  go_wp2_with fail
  refine HC.out.mono ?_
  rintro r0 w1 ⟨rfl, rfl⟩
  go_wp2_with fail
  refine (copy_sep _ _ _ H.out HP.out (by have := HL.out; omega)).mono ?_
  rintro r0 w1 ⟨v1', rfl, h1⟩
  obtain ⟨a2, c2, rfl⟩ := h1.sl.len
  obtain ⟨k0, _, _, _, _⟩ := h1.sw2.cellsR
  have q5 := h1.sw2.frozen 0
  have H3 := Lib.hid (Sep.closeR { D with j := D.j.drop n } (h1.sw2.setCell 0 (.slice a2 (bv (D.j.drop n)).length c2)).sw3.drop)
  clear h1 HP H
  go_wp2_with fail
  go_ret
  exact ⟨rfl, H3.out⟩
theorem rtrim_any {w0 w : World} {L : List Thing} {m : Nat} (D : DS) (n : Int) (h : Sep w0 (RefT m D :: L) w) (hj : D.j.length ≤ 1048576) :
    Calls Try.prog 29 #[.pointer (some ⟨m, 0, none⟩), .int .i64 n] w fun e w' => e = .returned (.int .i64 (D.keepE n)) ∧ Sep w0 (RefT m (D.trim n) :: L) w' := by
  by_cases hz : D.keepE n = 0
  · have hd : D.dead = false := by unfold DS.keepE at hz; cases hd : D.dead <;> simp_all
    have hn : ¬ (n < 0 ∨ (D.j.length : Int) < n) := by intro hn; unfold DS.keepE at hz; rw [hd, if_neg (by simp), if_pos hn] at hz; cases hz
    obtain ⟨k, rfl⟩ := Int.eq_ofNat_of_zero_le (show 0 ≤ n by omega)
    have e2 : D.trim k = { D with j := D.j.drop k } := by unfold DS.trim; rw [if_pos hz]; rfl
    rw [hz, e2]
    exact rtrim_ok D k h hd (by omega) hj
  · have e2 : D.trim n = D := by unfold DS.trim; rw [if_neg hz]
    rw [e2]
    have hc := rasked_any n h hj
    have hne : (D.keepE n != 0) = true := bne_iff_ne.2 hz
    generalize D.keepE n = e at *
    have HC := Lib.hid hc
    have H := Lib.hid h
    clear hc h hz
    go_enter Try.func29, Try.ntmps29
    go_wp2_with fail
    refine HC.out.mono ?_
    rintro r0 w1 ⟨rfl, rfl⟩
    go_wp2_with fail
    go_ret
    exact ⟨rfl, H.out⟩
set_option maxHeartbeats 1000000 in
theorem rcut_ok {w0 w : World} {L : List Thing} {m : Nat} (D : DS) (n : Nat) (h : Sep w0 (RefT m D :: L) w) (hd : D.dead = false) (hn : n ≤ D.j.length) (hj : D.j.length ≤ 1048576) :
    Calls Try.prog 30 #[.pointer (some ⟨m, 0, none⟩), .int .i64 n] w fun e w' => e = .returned (.int .i64 0) ∧ Sep w0 (RefT m { D with j := D.j.take n } :: L) w' := by
  have hc := rasked_any n h hj
  rw [show D.keepE n = 0 by unfold DS.keepE; rw [hd, if_neg (by simp), if_neg (by omega)]] at hc
  have HC := Lib.hid hc
  obtain ⟨vj, v0, v1, h⟩ := h.openR
  obtain ⟨aj, cj, hvj⟩ := h.sw2.sl.len
  subst hvj
  obtain ⟨c0, c1, c2, c3, c4⟩ := h.cellsR
  have hsl := h.sw2.sl
  have hcap := h.sw2.rw_.sls
  rw [bv_length] at c0 hsl hcap
  have hcj : D.j.length ≤ cj := by
    rcases sl_form hcap with ⟨_, he, _⟩ | ⟨_, _, _, hc⟩
    · rw [he]; simp
    · exact hc
  have hcm : cj ≤ maxLen := by
    rcases hcap with ⟨hv, _⟩ | ⟨_, _, _, hv, _, h2, _⟩
    · simp only [Value.slice.injEq] at hv; rw [hv.2.2]; exact Nat.zero_le _
    · simp only [Value.slice.injEq] at hv; rw [hv.2.2]; exact h2
  unfold maxLen at hcm
  have hp := sl_pre hsl hn
  have HP := Lib.hid hp
  have H := Lib.hid h
  have HL : Hid ((D.j.take n).length ≤ 1048576) := Lib.hid (by simp; omega)
  obtain ⟨jl, hjl⟩ : ∃ n, n = D.j.length := ⟨_, rfl⟩
  rw [← hjl] at c0 hn hcj hj
  skip
  clear h hc hp hsl hcap c1 c2 c3 c4 hd hjl
  go_enter Try.func30, Try.ntmps30
  go_wp2_with fail
  refine HC.out.mono ?_
  rintro r0 w1 ⟨rfl, rfl⟩
  go_wp2_with fail
  refine (copy_sep _ _ _ H.out HP.out (by have := HL.out; omega)).mono ?_
  rintro r0 w1 ⟨v1', rfl, h1⟩
  obtain ⟨a2, c2, rfl⟩ := h1.sl.len
  obtain ⟨k0, _, _, _, _⟩ := h1.sw2.cellsR
  have q5 := h1.sw2.frozen 0
  have H3 := Lib.hid (Sep.closeR { D with j := D.j.take n } (h1.sw2.setCell 0 (.slice a2 (bv (D.j.take n)).length c2)).sw3.drop)
  clear h1 HP H
  go_wp2_with fail
  go_ret
  exact ⟨rfl, H3.out⟩
theorem rcut_any {w0 w : World} {L : List Thing} {m : Nat} (D : DS) (n : Int) (h : Sep w0 (RefT m D :: L) w) (hj : D.j.length ≤ 1048576) :
    Calls Try.prog 30 #[.pointer (some ⟨m, 0, none⟩), .int .i64 n] w fun e w' => e = .returned (.int .i64 (D.keepE n)) ∧ Sep w0 (RefT m (D.cut n) :: L) w' := by
  by_cases hz : D.keepE n = 0
  · have hd : D.dead = false := by unfold DS.keepE at hz; cases hd : D.dead <;> simp_all
    have hn : ¬ (n < 0 ∨ (D.j.length : Int) < n) := by intro hn; unfold DS.keepE at hz; rw [hd, if_neg (by simp), if_pos hn] at hz; cases hz
    obtain ⟨k, rfl⟩ := Int.eq_ofNat_of_zero_le (show 0 ≤ n by omega)
    have e2 : D.cut k = { D with j := D.j.take k } := by unfold DS.cut; rw [if_pos hz]; rfl
    rw [hz, e2]
    exact rcut_ok D k h hd (by omega) hj
  · have e2 : D.cut n = D := by unfold DS.cut; rw [if_neg hz]
    rw [e2]
    have hc := rasked_any n h hj
    have hne : (D.keepE n != 0) = true := bne_iff_ne.2 hz
    generalize D.keepE n = e at *
    have HC := Lib.hid hc
    have H := Lib.hid h
    clear hc h hz
    go_enter Try.func30, Try.ntmps30
    go_wp2_with fail
    refine HC.out.mono ?_
    rintro r0 w1 ⟨rfl, rfl⟩
    go_wp2_with fail
    go_ret
    exact ⟨rfl, H.out⟩
theorem rarm_any {w0 w : World} {L : List Thing} {m : Nat} (D : DS) (n : Int) (h : Sep w0 (RefT m D :: L) w) :
    Calls Try.prog 31 #[.pointer (some ⟨m, 0, none⟩), .int .i64 n] w fun e w' => e = .returned (.int .i64 (D.armE n)) ∧ Sep w0 (RefT m (D.armD n) :: L) w' := by
  have H := Lib.hid h
  obtain ⟨vj, v0, v1, h⟩ := h.openR
  obtain ⟨c0, c1, c2, c3, c4⟩ := h.cellsR
  have q5 := h.frozen 4
  unfold DS.armD DS.armE
  cases hd : D.dead
  · simp only [Bool.false_eq_true, if_false]
    by_cases h0 : n < 0
    · simp only [h0, if_true]
      rw [if_neg (by decide)]
      rw [hd] at c3
      clear h c0 c1 c2 hd
      go_enter Try.func31, Try.ntmps31
      go_wp2
      go_ret
      exact ⟨rfl, H.out⟩
    · obtain ⟨k, rfl⟩ := Int.eq_ofNat_of_zero_le (show 0 ≤ n by omega)
      simp only [h0, if_false, if_true]
      have h3' := Sep.closeR { D with arm := some k } (h.setCell 4 (.int .i64 (k : Int)))
      rw [hd] at h3' c3
      have h3 := Lib.hid h3'
      clear h3'
      clear h c0 c1 c2 hd
      go_enter Try.func31, Try.ntmps31
      go_wp2
      go_ret
      exact ⟨rfl, h3.out⟩
  · rw [hd] at c3
    simp only [if_true]
    rw [if_neg (by decide)]
    clear h c0 c1 c2 hd
    go_enter Try.func31, Try.ntmps31
    go_wp2
    go_ret
    exact ⟨rfl, H.out⟩
theorem rrevive_any {w0 w : World} {L : List Thing} {m : Nat} (D : DS) (h : Sep w0 (RefT m D :: L) w) :
    Calls Try.prog 32 #[.pointer (some ⟨m, 0, none⟩)] w fun e w' => e = .returned (.int .i64 0) ∧ Sep w0 (RefT m { D with dead := false, arm := none } :: L) w' := by
  obtain ⟨vj, v0, v1, h⟩ := h.openR
  obtain ⟨c0, c1, c2, c3, c4⟩ := h.cellsR
  have q3 := h.frozen 3
  have q4 := h.frozen 4
  have H3 := Lib.hid (Sep.closeR { D with dead := false, arm := none } ((h.setCell 3 (.bool false)).setCell 4 (.int .i64 (-1))))
  clear h c0 c1 c2
  go_enter Try.func32, Try.ntmps32
  go_wp2
  go_ret
  exact ⟨rfl, H3.out⟩
theorem rlog_any {w0 w : World} {L : List Thing} {m : Nat} (D : DS) (h : Sep w0 (RefT m D :: L) w) (hj : D.j.length ≤ 1048576) :
    Calls Try.prog 35 #[.pointer (some ⟨m, 0, none⟩)] w fun e w' => ∃ v, e = .returned v ∧ Sep w0 (By v D.j :: RefT m D :: L) w' := by
  have H := Lib.hid h
  obtain ⟨vj, v0, v1, h2⟩ := h.openR
  obtain ⟨c0, c1, c2, c3, c4⟩ := h2.cellsR
  have HS := Lib.hid h2.sw2.sl
  clear h h2 c1 c2 c3 c4
  go_enter Try.func35, Try.ntmps35
  go_wp2_with fail
  refine (copy_sep _ _ _ H.out HS.out (by omega)).mono ?_
  rintro r0 w1 ⟨v1, rfl, h1⟩
  go_wp2_with fail
  go_ret
  exact ⟨_, rfl, h1⟩
set_option maxHeartbeats 1000000 in
theorem rslots_any {w0 w : World} {L : List Thing} {m : Nat} (D : DS) (h : Sep w0 (RefT m D :: L) w) (h0 : D.s0.length ≤ 1048576) (h1 : D.s1.length ≤ 1048576) :
    Calls Try.prog 34 #[.pointer (some ⟨m, 0, none⟩)] w fun e w' => ∃ v u, e = .returned (.agg #[v, u]) ∧ Sep w0 (By v D.s0 :: By u D.s1 :: RefT m D :: L) w' := by
  obtain ⟨vj, v0, v1, h2⟩ := h.openR
  have h3 := (h2.alloc (.cells #[.slice none 0 0, .slice none 0 0] 34)).alloc (.cells #[.slice none 0 0, .slice none 0 0] 34)
  rw [show (w.alloc (.cells #[.slice none 0 0, .slice none 0 0] 34)).heap.size = w.heap.size + 1 by simp] at h3
  -- B, A, Cl, j, 0, 1
  obtain ⟨c0, c1, c2, c3, c4⟩ := h3.sw3.cellsR
  have H3 := Lib.hid h3
  clear h h2 h3 c0 c3 c4
  go_enter Try.func34, Try.ntmps34
  go_wp2_with fail
  refine (copy_sep _ _ _ H3.out H3.out.sw5.sl (by omega)).mono ?_
  rintro r0 w1 ⟨u0, rfl, h4⟩
  obtain ⟨au, cu, rfl⟩ := h4.sl.len
  have p0 := h4.sw2.cell (o := 0) rfl
  have p1 := h4.sw2.frozen 0
  have h5 := h4.sw2.setCell 0 (.slice au (bv D.s0).length cu)
  -- B, u0, A, Cl, j, 0, 1
  obtain ⟨_, _, k2, _, _⟩ := h5.sw4.cellsR
  have H5 := Lib.hid h5
  clear h4 h5 H3 c1 c2
  go_wp2_with fail
  refine (copy_sep _ _ _ H5.out H5.out.sw7.sl (by omega)).mono ?_
  rintro r0 w2 ⟨u1, rfl, h6⟩
  obtain ⟨av, cv, rfl⟩ := h6.sl.len
  have p2 := h6.sw2.cell (o := 1) rfl
  have p3 := h6.sw2.frozen 1
  have h7 := h6.sw2.setCell 1 (.slice av (bv D.s1).length cv)
  -- B, u1, u0, A, Cl, j, 0, 1
  have p4 := h7.cell (o := 0) rfl
  have p5 := h7.cell (o := 1) rfl
  have p6 := h7.sw4.cell (o := 0) rfl
  have p7 := h7.sw4.cell (o := 1) rfl
  have p8 := h7.sw4.frozen 0
  have p9 := h7.sw4.frozen 1
  have H7 := Lib.hid h7
  clear h6 h7 H5 k2 p0 p1
  have h8 := ((((H7.out.sw4.setCell 0 (.slice au (bv D.s0).length cu)).setCell 1 (.slice av (bv D.s1).length cv))))
  have r0 := h8.cell (o := 0) rfl
  have r1 := h8.cell (o := 1) rfl
  have H8 := Lib.hid (Sep.closeR D h8.drop.drop.sw2.sw6.sw6.sw6.sw6).to3
  clear h8 H7
  go_wp2_with fail
  exact bodyPost_ret (v := .agg #[.slice au (bv D.s0).length cu, .slice av (bv D.s1).length cv]) (by simp [results, Try.results34, go_sem, r0, r1]) rfl ⟨_, _, rfl, H8.out⟩
end Go.Proofs.Ytpnafgkoijnplaa
