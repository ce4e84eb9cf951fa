/- Trim, Cut, Arm, Revive, Log, Slots of a disk. -/
import Derived.Test.YtpnafgkoijnplaaDisk2
import Derived.Laws.EntriesVeiled
namespace Go.Proofs.Ytpnafgkoijnplaa
open Go.RowKit
set_option linter.unusedVariables false
def DS.keepE (D : DS) (n : Int) : Int := if D.dead then 130 else if n < 0 ∨ (D.j.length : Int) < n then 9 else 0
def DS.trim (D : DS) (n : Int) : DS := if D.keepE n = 0 then { D with j := D.j.drop n.toNat } else D
def DS.cut (D : DS) (n : Int) : DS := if D.keepE n = 0 then { D with j := D.j.take n.toNat } else D
theorem keep_trim_all {w0 w : World} {L : List Thing} {g pb : Nat} (D : DS) (n : Int) (h : Sep w0 (DiskT g D :: Cl pb #[.pointer (some ⟨g, 0, none⟩)] 23 :: L) w) (hj : D.j.length ≤ 1048576) :
    Calls Try.prog 40 #[.pointer (some ⟨g, 0, none⟩), .int .i64 n, .func (.func 41) #[] #[.pointer (some ⟨pb, 0, none⟩)]] w fun e w' => e = .returned (.int .i64 (D.keepE n)) ∧
      Sep w0 (DiskT g (D.trim n) :: Cl pb #[.pointer (some ⟨g, 0, none⟩)] 23 :: L) w' := by
  by_cases hd : D.dead = true
  · have e1 : D.keepE n = 130 := by simp [DS.keepE, hd]
    have e2 : D.trim n = D := by simp [DS.trim, e1]
    rw [e1, e2]
    exact (keep_trim_dead D n _ h hd).mono fun e w' ⟨h1, h2⟩ => ⟨h1, h2 ▸ h⟩
  · have hd : D.dead = false := by simpa using hd
    by_cases hn : n < 0 ∨ (D.j.length : Int) < n
    · have e1 : D.keepE n = 9 := by simp [DS.keepE, hd, hn]
      have e2 : D.trim n = D := by simp [DS.trim, e1]
      rw [e1, e2]
      exact (keep_trim_range D n _ h hd hn hj).mono fun e w' ⟨h1, h2⟩ => ⟨h1, h2 ▸ h⟩
    · obtain ⟨m, rfl⟩ := Int.eq_ofNat_of_zero_le (show 0 ≤ n by omega)
      have e1 : D.keepE m = 0 := by unfold DS.keepE; rw [hd, if_neg (by simp), if_neg hn]
      have e2 : D.trim m = { D with j := D.j.drop m } := by unfold DS.trim; rw [if_pos e1]; rfl
      rw [e1, e2]
      exact keep_trim D m h hd (by omega) hj
theorem trim_any {w0 w : World} {L : List Thing} {g : Nat} (D : DS) (n : Int) (h : Sep w0 (DiskT g D :: L) w) (hj : D.j.length ≤ 1048576) :
    Calls Try.prog 20 #[.pointer (some ⟨g, 0, none⟩), .int .i64 n] w fun e w' => e = .returned (.int .i64 (D.keepE n)) ∧ Sep w0 (DiskT g (D.trim n) :: L) w' := by
  have h1 := (h.alloc (.cells #[.pointer (some ⟨g, 0, none⟩)] 23)).sw2
  have H1 := Lib.hid h1
  clear h h1
  go_enter Try.func20, Try.ntmps20
  go_wp2_with fail
  refine (keep_trim_all D n H1.out hj).mono ?_
  rintro r0 w1 ⟨rfl, h2⟩
  have H2 := Lib.hid h2.sw2.drop
  clear h2 H1
  go_wp2_with fail
  go_ret
  exact ⟨rfl, H2.out⟩
theorem keep_cut_all {w0 w : World} {L : List Thing} {g pb : Nat} (D : DS) (n : Int) (h : Sep w0 (DiskT g D :: Cl pb #[.pointer (some ⟨g, 0, none⟩)] 23 :: L) w) (hj : D.j.length ≤ 1048576) :
    Calls Try.prog 40 #[.pointer (some ⟨g, 0, none⟩), .int .i64 n, .func (.func 42) #[] #[.pointer (some ⟨pb, 0, none⟩)]] w fun e w' => e = .returned (.int .i64 (D.keepE n)) ∧
      Sep w0 (DiskT g (D.cut n) :: Cl pb #[.pointer (some ⟨g, 0, none⟩)] 23 :: L) w' := by
  by_cases hd : D.dead = true
  · have e1 : D.keepE n = 130 := by simp [DS.keepE, hd]
    have e2 : D.cut n = D := by simp [DS.cut, e1]
    rw [e1, e2]
    exact (keep_cut_dead D n _ h hd).mono fun e w' ⟨h1, h2⟩ => ⟨h1, h2 ▸ h⟩
  · have hd : D.dead = false := by simpa using hd
    by_cases hn : n < 0 ∨ (D.j.length : Int) < n
    · have e1 : D.keepE n = 9 := by simp [DS.keepE, hd, hn]
      have e2 : D.cut n = D := by simp [DS.cut, e1]
      rw [e1, e2]
      exact (keep_cut_range D n _ h hd hn hj).mono fun e w' ⟨h1, h2⟩ => ⟨h1, h2 ▸ h⟩
    · obtain ⟨m, rfl⟩ := Int.eq_ofNat_of_zero_le (show 0 ≤ n by omega)
      have e1 : D.keepE m = 0 := by unfold DS.keepE; rw [hd, if_neg (by simp), if_neg hn]
      have e2 : D.cut m = { D with j := D.j.take m } := by unfold DS.cut; rw [if_pos e1]; rfl
      rw [e1, e2]
      exact keep_cut D m h hd (by omega) hj
theorem cut_any {w0 w : World} {L : List Thing} {g : Nat} (D : DS) (n : Int) (h : Sep w0 (DiskT g D :: L) w) (hj : D.j.length ≤ 1048576) :
    Calls Try.prog 21 #[.pointer (some ⟨g, 0, none⟩), .int .i64 n] w fun e w' => e = .returned (.int .i64 (D.keepE n)) ∧ Sep w0 (DiskT g (D.cut n) :: L) w' := by
  have h1 := (h.alloc (.cells #[.pointer (some ⟨g, 0, none⟩)] 23)).sw2
  have H1 := Lib.hid h1
  clear h h1
  go_enter Try.func21, Try.ntmps21
  go_wp2_with fail
  refine (keep_cut_all D n H1.out hj).mono ?_
  rintro r0 w1 ⟨rfl, h2⟩
  have H2 := Lib.hid h2.sw2.drop
  clear h2 H1
  go_wp2_with fail
  go_ret
  exact ⟨rfl, H2.out⟩
def DS.armE (D : DS) (n : Int) : Int := if D.dead then 130 else if n < 0 then 2 else 0
def DS.armD (D : DS) (n : Int) : DS := if D.armE n = 0 then { D with arm := some n.toNat } else D
set_option maxHeartbeats 1000000 in
theorem arm_ok {w0 w : World} {L : List Thing} {g : Nat} (D : DS) (n : Nat) (h : Sep w0 (DiskT g D :: L) w) (hd : D.dead = false) :
    Calls Try.prog 22 #[.pointer (some ⟨g, 0, none⟩), .int .i64 n] w fun e w' => e = .returned (.int .i64 0) ∧ Sep w0 (DiskT g { D with arm := some n } :: L) w' := by
  have h1 := (h.alloc (.cells #[.pointer (some ⟨g, 0, none⟩)] 23)).alloc (.cells #[.int .i64 n] 3)
  rw [show (w.alloc (.cells #[.pointer (some ⟨g, 0, none⟩)] 23)).heap.size = w.heap.size + 1 by simp] at h1
  have hc := check_any h1.sw3
  rw [hd] at hc
  have HC := Lib.hid hc
  obtain ⟨vj, v0, v1, wf, h2⟩ := h1.sw3.openD
  obtain ⟨c0, c1, c2, c3, c4⟩ := h2.cellsD
  obtain ⟨f, c, rfl⟩ := h2.sw5.isFunc
  have q5 := h2.frozen 4
  -- Cl g :: By vj :: By v0 :: By v1 :: Wr :: Cl pc :: Cl pd :: L
  have h3 := h2.sw5.drop.setCell 4 (.func (.func 43) #[] #[.pointer (some ⟨w.heap.size, 0, none⟩), .pointer (some ⟨w.heap.size + 1, 0, none⟩)])
  have H3 := Lib.hid (Sep.closeD { D with arm := some n } (h3.sw5.sw6.closeW.to5))
  clear h h1 hc h2 h3 c0 c1 c2 c3
  have hn0 : (0 : Int) ≤ (n : Int) := by omega
  go_enter Try.func22, Try.ntmps22
  go_wp2_with (go_at_call 39; refine HC.out.mono ?_; rintro r0 w1 ⟨rfl, rfl⟩)
  go_ret
  exact ⟨rfl, H3.out⟩
theorem arm_no {w0 w : World} {L : List Thing} {g : Nat} (D : DS) (n : Int) (h : Sep w0 (DiskT g D :: L) w) (hn : D.armE n ≠ 0) :
    Calls Try.prog 22 #[.pointer (some ⟨g, 0, none⟩), .int .i64 n] w fun e w' => e = .returned (.int .i64 (D.armE n)) ∧ Sep w0 (DiskT g D :: L) w' := by
  have h1 := (h.alloc (.cells #[.pointer (some ⟨g, 0, none⟩)] 23)).alloc (.cells #[.int .i64 n] 3)
  have hc := check_any h1.sw3
  have H3 := Lib.hid h1.drop.drop
  unfold DS.armE at hn ⊢
  cases hd : D.dead
  · rw [hd] at hc hn
    have HC := Lib.hid hc
    have hn1 : n < 0 := by simpa using hn
    clear h h1 hc hd hn
    simp only [hn1, if_true, Bool.false_eq_true, if_false]
    go_enter Try.func22, Try.ntmps22
    go_wp2_with (go_at_call 39; refine HC.out.mono ?_; rintro r0 w1 ⟨rfl, rfl⟩)
    go_ret
    exact ⟨rfl, H3.out⟩
  · rw [hd] at hc
    have HC := Lib.hid hc
    clear h h1 hc hd hn
    go_enter Try.func22, Try.ntmps22
    go_wp2_with (go_at_call 39; refine HC.out.mono ?_; rintro r0 w1 ⟨rfl, rfl⟩)
    go_ret
    exact ⟨rfl, H3.out⟩
theorem arm_any {w0 w : World} {L : List Thing} {g : Nat} (D : DS) (n : Int) (h : Sep w0 (DiskT g D :: L) w) :
    Calls Try.prog 22 #[.pointer (some ⟨g, 0, none⟩), .int .i64 n] w fun e w' => e = .returned (.int .i64 (D.armE n)) ∧ Sep w0 (DiskT g (D.armD n) :: L) w' := by
  by_cases hn : D.armE n = 0
  · have hd : D.dead = false := by unfold DS.armE at hn; cases hd : D.dead <;> simp_all
    have h0 : 0 ≤ n := by unfold DS.armE at hn; rw [hd] at hn; simp at hn; exact hn
    obtain ⟨m, rfl⟩ := Int.eq_ofNat_of_zero_le h0
    have e2 : D.armD m = { D with arm := some m } := by unfold DS.armD; rw [if_pos hn]; rfl
    rw [hn, e2]
    exact arm_ok D m h hd
  · have e2 : D.armD n = D := by unfold DS.armD; rw [if_neg hn]
    rw [e2]
    exact arm_no D n h hn
set_option maxHeartbeats 1000000 in
theorem revive_any {w0 w : World} {L : List Thing} {g : Nat} (D : DS) (h : Sep w0 (DiskT g D :: L) w) :
    Calls Try.prog 23 #[.pointer (some ⟨g, 0, none⟩)] w fun e w' => e = .returned (.int .i64 0) ∧ Sep w0 (DiskT g { D with dead := false, arm := none } :: L) w' := by
  have H := Lib.hid h
  obtain ⟨vj, v0, v1, wf, h2⟩ := h.openD
  obtain ⟨c0, c1, c2, c3, c4⟩ := h2.cellsD
  obtain ⟨f, c, rfl⟩ := h2.sw5.isFunc
  have q3 := h2.frozen 3
  have q4 := h2.frozen 4
  have h3 := (h2.sw5.drop.setCell 3 (.bool false)).setCell 4 (.func (.func 26) #[] #[])
  have H3 := Lib.hid (Sep.closeD { D with dead := false, arm := none } (wf := .func (.func 26) #[] #[]) ((h3.say rfl).to5))
  clear h h2 h3 c0 c1 c2
  go_enter Try.func23, Try.ntmps23
  go_wp2_with (go_at_call 37; refine (none_any H.out).mono ?_; rintro r0 w1 ⟨rfl, rfl⟩)
  go_ret
  exact ⟨rfl, H3.out⟩
theorem log_any {w0 w : World} {L : List Thing} {g : Nat} (D : DS) (h : Sep w0 (DiskT g D :: L) w) (hj : D.j.length ≤ 1048576) :
    Calls Try.prog 14 #[.pointer (some ⟨g, 0, none⟩)] w fun e w' => ∃ v, e = .returned v ∧ Sep w0 (By v D.j :: DiskT g D :: L) w' := by
  have H := Lib.hid h
  obtain ⟨vj, v0, v1, wf, h2⟩ := h.openD
  obtain ⟨c0, c1, c2, c3, c4⟩ := h2.cellsD
  have HS := Lib.hid h2.sw2.sl
  clear h h2 c1 c2 c3 c4
  go_enter Try.func14, Try.ntmps14
  go_wp2_with (first | (go_at_call 37; refine (none_any H.out).mono ?_; rintro r0 w1 ⟨rfl, rfl⟩) | (go_at_call 38; refine (clone_sep _ _ _ H.out HS.out (by omega)).mono ?_; rintro r0 w1 ⟨v1, rfl, h1⟩))
  go_ret
  exact ⟨_, rfl, h1⟩
set_option maxHeartbeats 1000000 in
theorem slots_any {w0 w : World} {L : List Thing} {g : Nat} (D : DS) (h : Sep w0 (DiskT g D :: L) w) (h0 : D.s0.length ≤ 1048576) (h1 : D.s1.length ≤ 1048576) :
    Calls Try.prog 18 #[.pointer (some ⟨g, 0, none⟩)] w fun e w' => ∃ v u, e = .returned (.agg #[v, u]) ∧ Sep w0 (By v D.s0 :: By u D.s1 :: DiskT g D :: L) w' := by
  have H := Lib.hid (h.alloc (.cells #[.slice none 0 0, .slice none 0 0] 34)).sw2
  have hlt := h
  obtain ⟨vj, v0, v1, wf, h2⟩ := h.openD
  have h3 := (h2.alloc (.cells #[.slice none 0 0, .slice none 0 0] 34)).drew
  obtain ⟨c0, c1, c2, c3, c4⟩ := h3.sw2.cellsD
  have HS0 := Lib.hid h3.sw4.sl
  have H3 := Lib.hid h3
  have hne : g ≠ w.heap.size := by have := h2.blk_lt; omega
  clear h h2 h3 c0 c3 c4
  go_enter Try.func18, Try.ntmps18
  go_wp2_with (go_at_call 37; refine (none_any H.out).mono ?_; rintro r0 w1 ⟨rfl, rfl⟩)
  go_region_held3 (fun w' => w'.cell? ⟨g, 1, none⟩ = some v0 ∧ w'.cell? ⟨g, 2, none⟩ = some v1) (first | go_keep | exact ⟨(World.cell?_setCell_far _ _ _ _ hne.symm).trans ((World.cell?_setCell_far _ _ _ _ hne.symm).trans k1), (World.cell?_setCell_far _ _ _ _ hne.symm).trans ((World.cell?_setCell_far _ _ _ _ hne.symm).trans k2)⟩) (first | (go_at_call 38; refine Calls.mono (clone_sep v0 D.s0 _ H3.out HS0.out (by omega)) ?_; rintro r0 w1 ⟨u0, rfl, h4⟩; obtain ⟨_, k1, k2, _, _⟩ := h4.sw3.cellsD) | (go_at_call 38; refine Calls.mono (clone_sep v1 D.s1 _ h4 h4.sw6.sl (by omega)) ?_; rintro r0 w2 ⟨u1, rfl, h5⟩; obtain ⟨au, cu, rfl⟩ := h4.sl.len; obtain ⟨av, cv, rfl⟩ := h5.sl.len; have p0 := h5.sw3.cell (o := 0) rfl; have p1 := h5.sw3.cell (o := 1) rfl; have f0 := h5.sw3.frozen 0; have f1 := h5.sw3.frozen 1; obtain ⟨_, k1, k2, _, _⟩ := h5.sw4.cellsD; have H5 := Lib.hid h5; clear h4 h5))
  all_goals
    have h6 := (((H5.out.sw3.setCell 0 (.slice au (bv D.s0).length cu)).setCell 1 (.slice av (bv D.s1).length cv)).drop).sw2
    have H6 := Lib.hid (Sep.closeD D h6.sw7.sw7.sw7.sw7.sw7).to3
    clear h6 H5 H3 H HS0 k1 k2
    go_wp2_with fail
    have r0 : ((w2.setCell ⟨w.heap.size, 0, none⟩ (.slice au (bv D.s0).length cu)).setCell ⟨w.heap.size, 1, none⟩ (.slice av (bv D.s1).length cv)).cell? ⟨w.heap.size, 0, none⟩ = some (.slice au (bv D.s0).length cu) := by
      rw [World.cell?_setCell_other _ _ _ _ (by simp)]
      exact World.cell?_setCell_same' _ _ _ (by rw [p0]; rfl)
    have r1 : ((w2.setCell ⟨w.heap.size, 0, none⟩ (.slice au (bv D.s0).length cu)).setCell ⟨w.heap.size, 1, none⟩ (.slice av (bv D.s1).length cv)).cell? ⟨w.heap.size, 1, none⟩ = some (.slice av (bv D.s1).length cv) :=
      World.cell?_setCell_same' _ _ _ (by rw [World.cell?_setCell_other _ _ _ _ (by simp), p1]; rfl)
    exact bodyPost_ret (v := .agg #[.slice au (bv D.s0).length cu, .slice av (bv D.s1).length cv]) (by simp [results, Try.results18, go_sem, r0, r1]) rfl ⟨_, _, rfl, H6.out⟩
end Go.Proofs.Ytpnafgkoijnplaa
