/- The statement EntryAgain. -/
import Derived.Test.YtcicclghgbdgnaaDoorEn5
import Derived.Test.YtcicclghgbdgnaaDoorEn12
namespace Go.Proofs.YtcicclghgbdgnaaDoor
open Go.RowKit
set_option linter.unusedVariables false
set_option linter.unusedSimpArgs false
theorem entBs_pos (x : EnM) : 1 ≤ (entBs x).length := by unfold entBs; simp
theorem rows_many : ∀ xs : List EnM, xs.length * 2 ≤ ((xs.map rowTx).flatten).length
  | [] => Nat.zero_le _
  | x :: xs => by
    have h1 := rows_many xs
    have h2 := entBs_pos x
    have h3 := vint_pos (entBs x).length
    rw [List.map_cons, List.flatten_cons, List.length_append, List.length_cons]
    unfold rowTx at h1 ⊢
    rw [List.length_append]
    omega
theorem rows_few {l : List UInt8} (hl : l.length ≤ 1000) (h : (rwsOf l).2 = 0) : (rwsOf l).1.length ≤ 900 := by
  have h1 := (rwsOf_again (by unfold maxLen; omega) h).1
  have h2 := rows_many (rwsOf l).1
  have h3 := congrArg List.length h1
  unfold rowBs at h3
  rw [List.length_append] at h3
  omega
theorem rows_all {ps : List (EnM × Value)} {xs : List EnM} (h : ps.map (·.1) = xs) (hx : ∀ x ∈ xs, x.ok = true) : rowOk ps = true := by
  subst h
  unfold rowOk
  rw [List.all_eq_true]
  intro q hq
  exact hx q.1 (List.mem_map_of_mem hq)
set_option maxRecDepth 100000 in
set_option maxHeartbeats 16000000 in
theorem eagain_11 (a : Option Addr) (c n m : Nat) (t : List UInt8) (w : World) (hs : Sl w (.slice a m c) (bv t)) (hl : t.length ≤ 1000) (hk : KindsAt w) (hmin : (if (1000 : Int) < (n : Int) then (1000 : Int) else (n : Int)) = (m : Int)) (hmc : m ≤ c) (HP1 : Hid (∃ x : EnM, prsEn t = (x, 0) ∧ x.ok = true ∧ t = entBs x)) (HX : Hid ((rwsOf t).2 = 0 ∧ t = rowBs (rwsOf t).1 ∧ (∀ x ∈ (rwsOf t).1, x.ok = true) ∧ (rwsOf t).1.length ≤ 900)) :
    Calls Tryd.prog 6 #[.slice a n c] w fun e w' => e = .returned (.bool true) ∧ Below w.heap.size w w' := by
  have HP := Lib.hid (eparse_any _ t (Sep.start w) hs hk (by omega))
  have HS := Lib.hid hs
  have HK := Lib.hid hk
  have HL := Lib.hid hl
  clear hs hk hl
  go_enter Tryd.func6, Tryd.ntmps6
  go_wp2_with fail
  refine HP.out.mono ?_
  rintro r0 w1 ⟨x, err, u, rfl, hp, h2⟩
  clear HP
  obtain ⟨a2, c2, rfl, -⟩ := h2.rnForm
  obtain ⟨x0, hr1, hok, ht1⟩ := HP1.out
  rw [hr1] at hp
  obtain ⟨rfl, rfl⟩ := Prod.mk.inj hp
  have h3 := h2.alloc (.cells (enC x (.slice a2 x.p.ls.length c2)) 26)
  have hb := ebytes_u x (.slice a2 x.p.ls.length c2) h3 (Sep.lnS h3.sw2) (HK.out.below h3.low)
  rw [hok] at hb
  have HB := Lib.hid hb
  unfold BysE enV eB at HB
  simp only [if_true] at HB
  unfold enC at HB h3
  obtain ⟨c0, c1, c2', c3, c4, c5, c6⟩ := cells7 h3
  have HT1 := Lib.hid ht1
  unfold enV
  clear hp hr1 hok ht1 h2 h3 hb HP1
  go_wp2_with fail
  refine HB.out.mono ?_
  rintro r0 w4 ⟨u4, rfl, h4⟩
  obtain ⟨a4, c4', rfl⟩ := h4.sl.len
  have HQ1 := Lib.hid (eqBytes_any (.slice a m c) (.slice a4 (bv (entBs x)).length c4') t _ w4 (HS.out.below h4.low) h4.sl)
  rw [show (t == entBs x) = true by rw [← HT1.out]; exact beq_self_eq_true _] at HQ1
  have HRW := Lib.hid (rows_any (.slice a m c) t (h4.pick [] rfl : Sep w [] w4) (HS.out.below h4.low) (HK.out.below h4.low) (by have := HL.out; omega))
  clear h4 HB c0 c1 c2' c3 c4 c5 c6
  go_wp2_with (refine HQ1.out.mono ?_; rintro r0 w5 ⟨rfl, rfl⟩)
  refine HRW.out.mono ?_
  rintro r0 w6 ⟨ps, u6, rfl, hps, h6⟩
  obtain ⟨a6, c6, rfl, -⟩ := h6.enForm
  clear HRW
  obtain ⟨r1, r2, r3, r4⟩ := HX.out
  rw [r1]
  have hle : ps.length ≤ 900 := by rw [← List.length_map (f := (·.1)), hps]; exact r4
  have hro := row_any a6 c6 ps.length ps h6 h6.enS (HK.out.below h6.low) rfl hle
  rw [rows_all hps r3, hps, ← r2] at hro
  have HRO := Lib.hid hro
  unfold BysE eB at HRO
  simp only [if_true] at HRO
  clear r1 r2 r3 r4 hle hro hps HX h6
  go_wp2_with fail
  refine HRO.out.mono ?_
  rintro r0 w7 ⟨u7, rfl, h7⟩
  obtain ⟨a7, c7, rfl⟩ := h7.sl.len
  have HQ2 := Lib.hid (eqSame_any (.slice a m c) (.slice a7 (bv t).length c7) t w7 (HS.out.below h7.low) h7.sl)
  have HW := Lib.hid (works4_any h7 (HK.out.below h7.low))
  clear h7 HRO
  go_wp2_with (first | (refine HQ2.out.mono ?_; rintro r0 w10 ⟨rfl, rfl⟩) | (refine HW.out.mono ?_; rintro r0 w10 ⟨rfl, h10⟩))
  go_ret
  exact ⟨rfl, h10.low⟩
set_option maxRecDepth 100000 in
set_option maxHeartbeats 16000000 in
theorem eagain_10 (a : Option Addr) (c n m : Nat) (t : List UInt8) (w : World) (hs : Sl w (.slice a m c) (bv t)) (hl : t.length ≤ 1000) (hk : KindsAt w) (hmin : (if (1000 : Int) < (n : Int) then (1000 : Int) else (n : Int)) = (m : Int)) (hmc : m ≤ c) (HP1 : Hid (∃ x : EnM, prsEn t = (x, 0) ∧ x.ok = true ∧ t = entBs x)) (HX : Hid ((rwsOf t).1 = [] ∧ (rwsOf t).2 ≠ 0)) :
    Calls Tryd.prog 6 #[.slice a n c] w fun e w' => e = .returned (.bool true) ∧ Below w.heap.size w w' := by
  have HP := Lib.hid (eparse_any _ t (Sep.start w) hs hk (by omega))
  have HS := Lib.hid hs
  have HK := Lib.hid hk
  have HL := Lib.hid hl
  clear hs hk hl
  go_enter Tryd.func6, Tryd.ntmps6
  go_wp2_with fail
  refine HP.out.mono ?_
  rintro r0 w1 ⟨x, err, u, rfl, hp, h2⟩
  clear HP
  obtain ⟨a2, c2, rfl, -⟩ := h2.rnForm
  obtain ⟨x0, hr1, hok, ht1⟩ := HP1.out
  rw [hr1] at hp
  obtain ⟨rfl, rfl⟩ := Prod.mk.inj hp
  have h3 := h2.alloc (.cells (enC x (.slice a2 x.p.ls.length c2)) 26)
  have hb := ebytes_u x (.slice a2 x.p.ls.length c2) h3 (Sep.lnS h3.sw2) (HK.out.below h3.low)
  rw [hok] at hb
  have HB := Lib.hid hb
  unfold BysE enV eB at HB
  simp only [if_true] at HB
  unfold enC at HB h3
  obtain ⟨c0, c1, c2', c3, c4, c5, c6⟩ := cells7 h3
  have HT1 := Lib.hid ht1
  unfold enV
  clear hp hr1 hok ht1 h2 h3 hb HP1
  go_wp2_with fail
  refine HB.out.mono ?_
  rintro r0 w4 ⟨u4, rfl, h4⟩
  obtain ⟨a4, c4', rfl⟩ := h4.sl.len
  have HQ1 := Lib.hid (eqBytes_any (.slice a m c) (.slice a4 (bv (entBs x)).length c4') t _ w4 (HS.out.below h4.low) h4.sl)
  rw [show (t == entBs x) = true by rw [← HT1.out]; exact beq_self_eq_true _] at HQ1
  have HRW := Lib.hid (rows_any (.slice a m c) t (h4.pick [] rfl : Sep w [] w4) (HS.out.below h4.low) (HK.out.below h4.low) (by have := HL.out; omega))
  clear h4 HB c0 c1 c2' c3 c4 c5 c6
  go_wp2_with (refine HQ1.out.mono ?_; rintro r0 w5 ⟨rfl, rfl⟩)
  refine HRW.out.mono ?_
  rintro r0 w6 ⟨ps, u6, rfl, hps, h6⟩
  obtain ⟨a6, c6, rfl, -⟩ := h6.enForm
  clear HRW
  obtain ⟨r1, r2⟩ := HX.out
  rw [r1] at hps
  obtain rfl : ps = [] := List.map_eq_nil_iff.1 hps
  have hb2 : ((rwsOf t).2 == 0) = false := by rw [beq_eq_false_iff_ne]; exact r2
  have hb3 : ((rwsOf t).2 != 0) = true := by rw [bne_iff_ne]; exact r2
  have HW := Lib.hid (works4_any h6 (HK.out.below h6.low))
  rw [List.length_nil]
  clear r1 r2 hps h6 HX
  generalize (rwsOf t).2 = e6 at *
  go_wp2_with (refine HW.out.mono ?_; rintro r0 w10 ⟨rfl, h10⟩)
  go_ret
  exact ⟨rfl, h10.low⟩
set_option maxRecDepth 100000 in
set_option maxHeartbeats 16000000 in
theorem eagain_01 (a : Option Addr) (c n m : Nat) (t : List UInt8) (w : World) (hs : Sl w (.slice a m c) (bv t)) (hl : t.length ≤ 1000) (hk : KindsAt w) (hmin : (if (1000 : Int) < (n : Int) then (1000 : Int) else (n : Int)) = (m : Int)) (hmc : m ≤ c) (HP1 : Hid (∃ er, prsEn t = (EnM.zero, er) ∧ er ≠ 0)) (HX : Hid ((rwsOf t).2 = 0 ∧ t = rowBs (rwsOf t).1 ∧ (∀ x ∈ (rwsOf t).1, x.ok = true) ∧ (rwsOf t).1.length ≤ 900)) :
    Calls Tryd.prog 6 #[.slice a n c] w fun e w' => e = .returned (.bool true) ∧ Below w.heap.size w w' := by
  have HP := Lib.hid (eparse_any _ t (Sep.start w) hs hk (by omega))
  have HS := Lib.hid hs
  have HK := Lib.hid hk
  have HL := Lib.hid hl
  clear hs hk hl
  go_enter Tryd.func6, Tryd.ntmps6
  go_wp2_with fail
  refine HP.out.mono ?_
  rintro r0 w1 ⟨x, err, u, rfl, hp, h2⟩
  clear HP
  obtain ⟨a2, c2, rfl, -⟩ := h2.rnForm
  obtain ⟨er, hr1, hne⟩ := HP1.out
  rw [hr1] at hp
  obtain ⟨rfl, rfl⟩ := Prod.mk.inj hp
  have h3 := h2.alloc (.cells (enC EnM.zero (.slice a2 EnM.zero.p.ls.length c2)) 26)
  have HRW := Lib.hid (rows_any (.slice a m c) t (h3.pick [] rfl : Sep w [] _) (HS.out.below h3.low) (HK.out.below h3.low) (by have := HL.out; omega))
  unfold enC at h3 HRW
  obtain ⟨c0, c1, c2', c3, c4, c5, c6⟩ := cells7 h3
  unfold enV
  have hb : (err == 0) = false := by rw [beq_eq_false_iff_ne]; exact hne
  dsimp only [EnM.zero, OpM.zero] at *
  clear hp hr1 hne h2 h3 HP1
  go_wp2_with fail
  refine HRW.out.mono ?_
  rintro r0 w6 ⟨ps, u6, rfl, hps, h6⟩
  obtain ⟨a6, c6, rfl, -⟩ := h6.enForm
  clear HRW
  obtain ⟨r1, r2, r3, r4⟩ := HX.out
  rw [r1]
  have hle : ps.length ≤ 900 := by rw [← List.length_map (f := (·.1)), hps]; exact r4
  have hro := row_any a6 c6 ps.length ps h6 h6.enS (HK.out.below h6.low) rfl hle
  rw [rows_all hps r3, hps, ← r2] at hro
  have HRO := Lib.hid hro
  unfold BysE eB at HRO
  simp only [if_true] at HRO
  clear r1 r2 r3 r4 hle hro hps HX h6
  go_wp2_with fail
  refine HRO.out.mono ?_
  rintro r0 w7 ⟨u7, rfl, h7⟩
  obtain ⟨a7, c7, rfl⟩ := h7.sl.len
  have HQ2 := Lib.hid (eqSame_any (.slice a m c) (.slice a7 (bv t).length c7) t w7 (HS.out.below h7.low) h7.sl)
  have HW := Lib.hid (works4_any h7 (HK.out.below h7.low))
  clear h7 HRO
  go_wp2_with (first | (refine HQ2.out.mono ?_; rintro r0 w10 ⟨rfl, rfl⟩) | (refine HW.out.mono ?_; rintro r0 w10 ⟨rfl, h10⟩))
  go_ret
  exact ⟨rfl, h10.low⟩
set_option maxRecDepth 100000 in
set_option maxHeartbeats 16000000 in
theorem eagain_00 (a : Option Addr) (c n m : Nat) (t : List UInt8) (w : World) (hs : Sl w (.slice a m c) (bv t)) (hl : t.length ≤ 1000) (hk : KindsAt w) (hmin : (if (1000 : Int) < (n : Int) then (1000 : Int) else (n : Int)) = (m : Int)) (hmc : m ≤ c) (HP1 : Hid (∃ er, prsEn t = (EnM.zero, er) ∧ er ≠ 0)) (HX : Hid ((rwsOf t).1 = [] ∧ (rwsOf t).2 ≠ 0)) :
    Calls Tryd.prog 6 #[.slice a n c] w fun e w' => e = .returned (.bool true) ∧ Below w.heap.size w w' := by
  have HP := Lib.hid (eparse_any _ t (Sep.start w) hs hk (by omega))
  have HS := Lib.hid hs
  have HK := Lib.hid hk
  have HL := Lib.hid hl
  clear hs hk hl
  go_enter Tryd.func6, Tryd.ntmps6
  go_wp2_with fail
  refine HP.out.mono ?_
  rintro r0 w1 ⟨x, err, u, rfl, hp, h2⟩
  clear HP
  obtain ⟨a2, c2, rfl, -⟩ := h2.rnForm
  obtain ⟨er, hr1, hne⟩ := HP1.out
  rw [hr1] at hp
  obtain ⟨rfl, rfl⟩ := Prod.mk.inj hp
  have h3 := h2.alloc (.cells (enC EnM.zero (.slice a2 EnM.zero.p.ls.length c2)) 26)
  have HRW := Lib.hid (rows_any (.slice a m c) t (h3.pick [] rfl : Sep w [] _) (HS.out.below h3.low) (HK.out.below h3.low) (by have := HL.out; omega))
  unfold enC at h3 HRW
  obtain ⟨c0, c1, c2', c3, c4, c5, c6⟩ := cells7 h3
  unfold enV
  have hb : (err == 0) = false := by rw [beq_eq_false_iff_ne]; exact hne
  dsimp only [EnM.zero, OpM.zero] at *
  clear hp hr1 hne h2 h3 HP1
  go_wp2_with fail
  refine HRW.out.mono ?_
  rintro r0 w6 ⟨ps, u6, rfl, hps, h6⟩
  obtain ⟨a6, c6, rfl, -⟩ := h6.enForm
  clear HRW
  obtain ⟨r1, r2⟩ := HX.out
  rw [r1] at hps
  obtain rfl : ps = [] := List.map_eq_nil_iff.1 hps
  have hb2 : ((rwsOf t).2 == 0) = false := by rw [beq_eq_false_iff_ne]; exact r2
  have hb3 : ((rwsOf t).2 != 0) = true := by rw [bne_iff_ne]; exact r2
  have HW := Lib.hid (works4_any h6 (HK.out.below h6.low))
  rw [List.length_nil]
  clear r1 r2 hps h6 HX
  generalize (rwsOf t).2 = e6 at *
  go_wp2_with (refine HW.out.mono ?_; rintro r0 w10 ⟨rfl, h10⟩)
  go_ret
  exact ⟨rfl, h10.low⟩
theorem again04 (a : Option Addr) (c : Nat) (l : List UInt8) (n : Nat) (w : World) (h : Sl w (.slice a n c) (bv l)) (hn : l.length = n) (hk : KindsAt w) (hnc : n ≤ c) :
    Calls Tryd.prog 6 #[.slice a n c] w fun e w' => e = .returned (.bool true) ∧ Below w.heap.size w w' := by
  obtain ⟨m, hm1, hm2, hm3, hm4⟩ := min_len n 1000
  have hs : Sl w (.slice a m c) (bv (l.take m)) := by
    subst hn
    exact sl_pre h hm1
  have hl : (l.take m).length = m := by rw [List.length_take]; omega
  generalize l.take m = t at *
  have hm3' : (if (1000 : Int) < (n : Int) then (1000 : Int) else (n : Int)) = (m : Int) := hm3
  have hr : ((rwsOf t).2 = 0 ∧ t = rowBs (rwsOf t).1 ∧ (∀ x ∈ (rwsOf t).1, x.ok = true) ∧ (rwsOf t).1.length ≤ 900) ∨ ((rwsOf t).1 = [] ∧ (rwsOf t).2 ≠ 0) := by
    by_cases h2 : (rwsOf t).2 = 0
    · obtain ⟨h3, h4⟩ := rwsOf_again (by unfold maxLen; omega) h2
      exact .inl ⟨h2, h3, h4, rows_few (by omega) h2⟩
    · exact .inr ⟨rwsOf_err h2, h2⟩
  rcases prsEn_again t (by unfold maxLen; omega) with h1 | h1 <;> rcases hr with h2 | h2
  · exact eagain_11 a c n m t w hs (by omega) hk hm3' (by omega) (Lib.hid h1) (Lib.hid h2)
  · exact eagain_10 a c n m t w hs (by omega) hk hm3' (by omega) (Lib.hid h1) (Lib.hid h2)
  · exact eagain_01 a c n m t w hs (by omega) hk hm3' (by omega) (Lib.hid h1) (Lib.hid h2)
  · exact eagain_00 a c n m t w hs (by omega) hk hm3' (by omega) (Lib.hid h1) (Lib.hid h2)
end Go.Proofs.YtcicclghgbdgnaaDoor
