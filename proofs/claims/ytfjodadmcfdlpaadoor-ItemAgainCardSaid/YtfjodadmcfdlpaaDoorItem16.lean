/- The statement ItemAgain. -/
import Derived.Test.YtfjodadmcfdlpaaDoorItem14
import Derived.Test.YtfjodadmcfdlpaaDoorItem10
import Derived.Test.YtfjodadmcfdlpaaDoorItem11
import Derived.Test.YtfjodadmcfdlpaaDoorSlPart
namespace Go.Proofs.YtfjodadmcfdlpaaDoor
open Go.RowKit
set_option linter.unusedVariables false
set_option linter.unusedSimpArgs false
set_option maxRecDepth 100000 in
set_option maxHeartbeats 16000000 in
theorem again_11 (a : Option Addr) (c n m : Nat) (t : List UInt8) (w : World) (hs : Sl w (.slice a m c) (bv t)) (hl : t.length ≤ 1000000) (hk : KindsAt w) (hmin : (if (300 : Int) < (n : Int) then (300 : Int) else (n : Int)) = (m : Int)) (hmc : m ≤ c) (HP1 : Hid (∃ p : OpM, prsOp t = (p, 0) ∧ p.ok = true ∧ t = opBs p.k p.s p.o p.n p.ls)) (HX : Hid (∃ c a b : Int, prsRes t = ((c, a, b), 0) ∧ resB c a b = true ∧ t = resBs c a b)) :
    Calls Tryd.prog 6 #[.slice a n c] w fun e w' => e = .returned (.bool true) ∧ Below w.heap.size w w' := by
  have HP := Lib.hid (parse_any _ t (Sep.start w) hs hk hl)
  have HS := Lib.hid hs
  have HK := Lib.hid hk
  have HL := Lib.hid hl
  clear hs hk hl
  go_enter Tryd.func6, Tryd.ntmps6
  go_wp2_with fail
  refine HP.out.mono ?_
  rintro r0 w1 ⟨p, err, u, rfl, hp, h2⟩
  clear HP
  obtain ⟨p0, hr1, hok, ht1⟩ := HP1.out
  rw [hr1] at hp
  obtain ⟨rfl, rfl⟩ := Prod.mk.inj hp
  obtain ⟨a2, c2, rfl, -⟩ := h2.rnForm
  have h3 := h2.alloc (.cells (opCells p.k p.s p.o p.n (.slice a2 p.ls.length c2)) 24)
  have HB := Lib.hid (bytes_ok p.k p.s p.o p.n _ p.ls h3 (Sep.lnS h3.sw2) (HK.out.below h3.low) hok)
  unfold opCells at HB h3
  obtain ⟨c0, c1, c2, c3, c4⟩ := cells5 h3
  have HT1 := Lib.hid ht1
  clear hp hr1 hok ht1 h2 h3 HP1
  try dsimp only
  go_wp2_with fail
  refine HB.out.mono ?_
  rintro r0 w4 ⟨u4, rfl, h4⟩
  have HQ1 := Lib.hid (eqBytes_any (.slice a m c) u4 t _ w4 (HS.out.below h4.low) h4.sl)
  rw [show (t == opBs p.k p.s p.o p.n p.ls) = true by rw [← HT1.out]; exact beq_self_eq_true _] at HQ1
  have H4 := Lib.hid h4
  clear h4 HB c0 c1 c2 c3 c4
  try dsimp only
  go_wp2_with (refine HQ1.out.mono ?_; rintro r0 w5 ⟨rfl, rfl⟩)
  have h4 := H4.out
  clear H4
  have HPR := Lib.hid (parseRes_any (.slice a m c) t h4 (HS.out.below h4.low) (by have := HL.out; omega))
  go_wp2_with fail
  refine HPR.out.mono ?_
  rintro r0 w8 ⟨q, er, rfl, hq, h8⟩
  clear HPR h4
  obtain ⟨cc, ca, cb, hr, hb, ht⟩ := HX.out
  rw [hr] at hq
  obtain ⟨rfl, rfl⟩ := Prod.mk.inj hq
  try dsimp only at h8
  have h9 := h8.alloc (.cells #[.int .i64 cc, .int .i64 ca, .int .i64 cb] 26)
  have HB := Lib.hid (bytesRes_ok cc ca cb h9 hb)
  obtain ⟨y0, y1, y2⟩ := cells3 h9
  have HT := Lib.hid ht
  clear hq hr hb ht h8 h9 HX
  try dsimp only
  go_wp2_with fail
  refine HB.out.mono ?_
  rintro r0 w9 ⟨u9, rfl, h9⟩
  have HQ := Lib.hid (eqBytes_any (.slice a m c) u9 t _ w9 (HS.out.below h9.low) h9.sl)
  rw [show (t == resBs cc ca cb) = true by rw [← HT.out]; exact beq_self_eq_true _] at HQ
  have HW := Lib.hid (works_any h9 (HK.out.below h9.low))
  clear h9 HB
  go_wp2_with (first | (refine HQ.out.mono ?_; rintro r0 w10 ⟨rfl, rfl⟩) | (refine HW.out.mono ?_; rintro r0 w10 ⟨rfl, h10⟩))
  go_ret
  exact ⟨rfl, h10.low⟩
set_option maxRecDepth 100000 in
set_option maxHeartbeats 16000000 in
theorem again_10 (a : Option Addr) (c n m : Nat) (t : List UInt8) (w : World) (hs : Sl w (.slice a m c) (bv t)) (hl : t.length ≤ 1000000) (hk : KindsAt w) (hmin : (if (300 : Int) < (n : Int) then (300 : Int) else (n : Int)) = (m : Int)) (hmc : m ≤ c) (HP1 : Hid (∃ p : OpM, prsOp t = (p, 0) ∧ p.ok = true ∧ t = opBs p.k p.s p.o p.n p.ls)) (HX : Hid (∃ er, prsRes t = ((0, 0, 0), er) ∧ er ≠ 0)) :
    Calls Tryd.prog 6 #[.slice a n c] w fun e w' => e = .returned (.bool true) ∧ Below w.heap.size w w' := by
  have HP := Lib.hid (parse_any _ t (Sep.start w) hs hk hl)
  have HS := Lib.hid hs
  have HK := Lib.hid hk
  have HL := Lib.hid hl
  clear hs hk hl
  go_enter Tryd.func6, Tryd.ntmps6
  go_wp2_with fail
  refine HP.out.mono ?_
  rintro r0 w1 ⟨p, err, u, rfl, hp, h2⟩
  clear HP
  obtain ⟨p0, hr1, hok, ht1⟩ := HP1.out
  rw [hr1] at hp
  obtain ⟨rfl, rfl⟩ := Prod.mk.inj hp
  obtain ⟨a2, c2, rfl, -⟩ := h2.rnForm
  have h3 := h2.alloc (.cells (opCells p.k p.s p.o p.n (.slice a2 p.ls.length c2)) 24)
  have HB := Lib.hid (bytes_ok p.k p.s p.o p.n _ p.ls h3 (Sep.lnS h3.sw2) (HK.out.below h3.low) hok)
  unfold opCells at HB h3
  obtain ⟨c0, c1, c2, c3, c4⟩ := cells5 h3
  have HT1 := Lib.hid ht1
  clear hp hr1 hok ht1 h2 h3 HP1
  try dsimp only
  go_wp2_with fail
  refine HB.out.mono ?_
  rintro r0 w4 ⟨u4, rfl, h4⟩
  have HQ1 := Lib.hid (eqBytes_any (.slice a m c) u4 t _ w4 (HS.out.below h4.low) h4.sl)
  rw [show (t == opBs p.k p.s p.o p.n p.ls) = true by rw [← HT1.out]; exact beq_self_eq_true _] at HQ1
  have H4 := Lib.hid h4
  clear h4 HB c0 c1 c2 c3 c4
  try dsimp only
  go_wp2_with (refine HQ1.out.mono ?_; rintro r0 w5 ⟨rfl, rfl⟩)
  have h4 := H4.out
  clear H4
  have HPR := Lib.hid (parseRes_any (.slice a m c) t h4 (HS.out.below h4.low) (by have := HL.out; omega))
  go_wp2_with fail
  refine HPR.out.mono ?_
  rintro r0 w8 ⟨q, er, rfl, hq, h8⟩
  clear HPR h4
  obtain ⟨er2, hr, hne⟩ := HX.out
  rw [hr] at hq
  obtain ⟨rfl, rfl⟩ := Prod.mk.inj hq
  try dsimp only at h8
  have h9 := h8.alloc (.cells #[.int .i64 0, .int .i64 0, .int .i64 0] 26)
  obtain ⟨y0, y1, y2⟩ := cells3 h9
  have HW := Lib.hid (works_any h9 (HK.out.below h9.low))
  have hne2 : (er == 0) = false := by rw [beq_eq_false_iff_ne]; exact hne
  clear hq hr hne h8 h9 HX
  try dsimp only
  go_wp2_with (refine HW.out.mono ?_; rintro r0 w10 ⟨rfl, h10⟩)
  go_ret
  exact ⟨rfl, h10.low⟩
set_option maxRecDepth 100000 in
set_option maxHeartbeats 16000000 in
theorem again_01 (a : Option Addr) (c n m : Nat) (t : List UInt8) (w : World) (hs : Sl w (.slice a m c) (bv t)) (hl : t.length ≤ 1000000) (hk : KindsAt w) (hmin : (if (300 : Int) < (n : Int) then (300 : Int) else (n : Int)) = (m : Int)) (hmc : m ≤ c) (HP1 : Hid (∃ er, prsOp t = (OpM.zero, er) ∧ er ≠ 0)) (HX : Hid (∃ c a b : Int, prsRes t = ((c, a, b), 0) ∧ resB c a b = true ∧ t = resBs c a b)) :
    Calls Tryd.prog 6 #[.slice a n c] w fun e w' => e = .returned (.bool true) ∧ Below w.heap.size w w' := by
  have HP := Lib.hid (parse_any _ t (Sep.start w) hs hk hl)
  have HS := Lib.hid hs
  have HK := Lib.hid hk
  have HL := Lib.hid hl
  clear hs hk hl
  go_enter Tryd.func6, Tryd.ntmps6
  go_wp2_with fail
  refine HP.out.mono ?_
  rintro r0 w1 ⟨p, err, u, rfl, hp, h2⟩
  clear HP
  obtain ⟨er1, hr1, hne1⟩ := HP1.out
  rw [hr1] at hp
  obtain ⟨rfl, rfl⟩ := Prod.mk.inj hp
  unfold OpM.zero at h2
  unfold OpM.zero
  dsimp only at h2
  have h3 := h2.alloc (.cells #[.int .i64 0, .string ⟨#[]⟩, .int .i64 0, .int .i64 0, u] 24)
  obtain ⟨a2, c2, rfl, -⟩ := h2.rnForm
  obtain ⟨c0, c1, c2, c3, c4⟩ := cells5 h3
  have hne2 : (err == 0) = false := by rw [beq_eq_false_iff_ne]; exact hne1
  have H3 := Lib.hid h3
  clear hp hr1 hne1 h2 h3 HP1
  try dsimp only
  go_wp2_with fail
  have h4 := H3.out
  clear H3
  have HPR := Lib.hid (parseRes_any (.slice a m c) t h4 (HS.out.below h4.low) (by have := HL.out; omega))
  go_wp2_with fail
  refine HPR.out.mono ?_
  rintro r0 w8 ⟨q, er, rfl, hq, h8⟩
  clear HPR h4
  obtain ⟨cc, ca, cb, hr, hb, ht⟩ := HX.out
  rw [hr] at hq
  obtain ⟨rfl, rfl⟩ := Prod.mk.inj hq
  try dsimp only at h8
  have h9 := h8.alloc (.cells #[.int .i64 cc, .int .i64 ca, .int .i64 cb] 26)
  have HB := Lib.hid (bytesRes_ok cc ca cb h9 hb)
  obtain ⟨y0, y1, y2⟩ := cells3 h9
  have HT := Lib.hid ht
  clear hq hr hb ht h8 h9 HX
  try dsimp only
  go_wp2_with fail
  refine HB.out.mono ?_
  rintro r0 w9 ⟨u9, rfl, h9⟩
  have HQ := Lib.hid (eqBytes_any (.slice a m c) u9 t _ w9 (HS.out.below h9.low) h9.sl)
  rw [show (t == resBs cc ca cb) = true by rw [← HT.out]; exact beq_self_eq_true _] at HQ
  have HW := Lib.hid (works_any h9 (HK.out.below h9.low))
  clear h9 HB
  go_wp2_with (first | (refine HQ.out.mono ?_; rintro r0 w10 ⟨rfl, rfl⟩) | (refine HW.out.mono ?_; rintro r0 w10 ⟨rfl, h10⟩))
  go_ret
  exact ⟨rfl, h10.low⟩
set_option maxRecDepth 100000 in
set_option maxHeartbeats 16000000 in
theorem again_00 (a : Option Addr) (c n m : Nat) (t : List UInt8) (w : World) (hs : Sl w (.slice a m c) (bv t)) (hl : t.length ≤ 1000000) (hk : KindsAt w) (hmin : (if (300 : Int) < (n : Int) then (300 : Int) else (n : Int)) = (m : Int)) (hmc : m ≤ c) (HP1 : Hid (∃ er, prsOp t = (OpM.zero, er) ∧ er ≠ 0)) (HX : Hid (∃ er, prsRes t = ((0, 0, 0), er) ∧ er ≠ 0)) :
    Calls Tryd.prog 6 #[.slice a n c] w fun e w' => e = .returned (.bool true) ∧ Below w.heap.size w w' := by
  have HP := Lib.hid (parse_any _ t (Sep.start w) hs hk hl)
  have HS := Lib.hid hs
  have HK := Lib.hid hk
  have HL := Lib.hid hl
  clear hs hk hl
  go_enter Tryd.func6, Tryd.ntmps6
  go_wp2_with fail
  refine HP.out.mono ?_
  rintro r0 w1 ⟨p, err, u, rfl, hp, h2⟩
  clear HP
  obtain ⟨er1, hr1, hne1⟩ := HP1.out
  rw [hr1] at hp
  obtain ⟨rfl, rfl⟩ := Prod.mk.inj hp
  unfold OpM.zero at h2
  unfold OpM.zero
  dsimp only at h2
  have h3 := h2.alloc (.cells #[.int .i64 0, .string ⟨#[]⟩, .int .i64 0, .int .i64 0, u] 24)
  obtain ⟨a2, c2, rfl, -⟩ := h2.rnForm
  obtain ⟨c0, c1, c2, c3, c4⟩ := cells5 h3
  have hne2 : (err == 0) = false := by rw [beq_eq_false_iff_ne]; exact hne1
  have H3 := Lib.hid h3
  clear hp hr1 hne1 h2 h3 HP1
  try dsimp only
  go_wp2_with fail
  have h4 := H3.out
  clear H3
  have HPR := Lib.hid (parseRes_any (.slice a m c) t h4 (HS.out.below h4.low) (by have := HL.out; omega))
  go_wp2_with fail
  refine HPR.out.mono ?_
  rintro r0 w8 ⟨q, er, rfl, hq, h8⟩
  clear HPR h4
  obtain ⟨er2, hr, hne⟩ := HX.out
  rw [hr] at hq
  obtain ⟨rfl, rfl⟩ := Prod.mk.inj hq
  try dsimp only at h8
  have h9 := h8.alloc (.cells #[.int .i64 0, .int .i64 0, .int .i64 0] 26)
  obtain ⟨y0, y1, y2⟩ := cells3 h9
  have HW := Lib.hid (works_any h9 (HK.out.below h9.low))
  have hne2 : (er == 0) = false := by rw [beq_eq_false_iff_ne]; exact hne
  clear hq hr hne h8 h9 HX
  try dsimp only
  go_wp2_with (refine HW.out.mono ?_; rintro r0 w10 ⟨rfl, h10⟩)
  go_ret
  exact ⟨rfl, h10.low⟩
theorem again03 (a : Option Addr) (c : Nat) (l : List UInt8) (n : Nat) (w : World) (h : Sl w (.slice a n c) (bv l)) (hn : l.length = n) (hk : KindsAt w) (hnc : n ≤ c) :
    Calls Tryd.prog 6 #[.slice a n c] w fun e w' => e = .returned (.bool true) ∧ Below w.heap.size w w' := by
  obtain ⟨m, hm1, hm2, hm3, hm4⟩ := min_len n 300
  have hs : Sl w (.slice a m c) (bv (l.take m)) := by
    subst hn
    exact sl_pre h hm1
  have hl : (l.take m).length = m := by rw [List.length_take]; omega
  generalize l.take m = t at *
  have hm3' : (if (300 : Int) < (n : Int) then (300 : Int) else (n : Int)) = (m : Int) := hm3
  rcases prs_again t (by unfold maxLen; omega) with h1 | h1 <;> rcases prsRes_again t with h2 | h2
  · exact again_11 a c n m t w hs (by omega) hk hm3' (by omega) (Lib.hid h1) (Lib.hid h2)
  · exact again_10 a c n m t w hs (by omega) hk hm3' (by omega) (Lib.hid h1) (Lib.hid h2)
  · exact again_01 a c n m t w hs (by omega) hk hm3' (by omega) (Lib.hid h1) (Lib.hid h2)
  · exact again_00 a c n m t w hs (by omega) hk hm3' (by omega) (Lib.hid h1) (Lib.hid h2)
end Go.Proofs.YtfjodadmcfdlpaaDoor
