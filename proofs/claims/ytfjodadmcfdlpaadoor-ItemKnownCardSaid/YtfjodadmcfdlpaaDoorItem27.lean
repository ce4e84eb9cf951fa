/- The statement ItemReads. -/
import Derived.Test.YtfjodadmcfdlpaaDoorRefP4
import Derived.Test.YtfjodadmcfdlpaaDoorBkJ
import Derived.Test.YtfjodadmcfdlpaaDoorSlPart
import Derived.Test.YtfjodadmcfdlpaaDoorBkL
namespace Go.Proofs.YtfjodadmcfdlpaaDoor
open Go.RowKit
set_option linter.unusedVariables false
set_option linter.unusedSimpArgs false
theorem prs_len {t : List UInt8} {p : OpM} {err : Int} (h : (p, err) = prsOp t) (ht : t.length ≤ 1000000) : p.ls.length ≤ 1000 := by
  rcases prs_again t (by unfold maxLen; omega) with ⟨q, h1, h2, _⟩ | ⟨er, h1, _⟩
  · rw [h1] at h
    obtain ⟨rfl, rfl⟩ := Prod.mk.inj h
    have := ok_len h2
    omega
  · rw [h1] at h
    obtain ⟨rfl, rfl⟩ := Prod.mk.inj h
    exact Nat.zero_le _
set_option maxRecDepth 100000 in
set_option maxHeartbeats 16000000 in
theorem reads_w (a : Option Addr) (c n m : Nat) (t : List UInt8) (w : World) (hs : Sl w (.slice a m c) (bv t)) (hl : t.length ≤ 1000000) (hk : KindsAt w) (hmin : (if (300 : Int) < (n : Int) then (300 : Int) else (n : Int)) = (m : Int)) (hmc : m ≤ c) :
    Calls Tryd.prog 4 #[.slice a n c] w fun e w' => e = .returned (.bool true) ∧ Below w.heap.size w w' := by
  have HP := Lib.hid (parse_any _ t (Sep.start w) hs hk hl)
  have HS := Lib.hid hs
  have HK := Lib.hid hk
  have HL := Lib.hid hl
  clear hs hk hl
  go_enter Tryd.func4, Tryd.ntmps4
  go_wp2_with fail
  refine HP.out.mono ?_
  rintro r0 w1 ⟨p, err, u, rfl, hp, h2⟩
  clear HP
  have HPP := Lib.hid hp
  have HPL := Lib.hid (prs_len hp HL.out)
  obtain ⟨a2, c2, rfl, -⟩ := h2.rnForm
  have h3 := h2.alloc (.cells (opCells p.k p.s p.o p.n (.slice a2 p.ls.length c2)) 24)
  have HB := Lib.hid (rparse_any (.slice a m c) t h3 (HS.out.below h3.low) HL.out)
  unfold opCells at HB h3
  have H3 := Lib.hid h3
  clear hp h2 h3
  try dsimp only
  go_wp2_with fail
  refine HB.out.mono ?_
  rintro r0 w3 ⟨p', err', u', rfl, hp, h4⟩
  clear HB H3
  rw [← HPP.out] at hp
  obtain ⟨rfl, rfl⟩ := Prod.mk.inj hp
  obtain ⟨a4, c4, rfl, -⟩ := h4.rnForm
  have h5 := h4.alloc (.cells (opCells p'.k p'.s p'.o p'.n (.slice a4 p'.ls.length c4)) 24)
  have HB := Lib.hid (parseRes_any (.slice a m c) t h5 (HS.out.below h5.low) HL.out)
  unfold opCells at HB h5
  clear hp h4 h5 HPP
  try dsimp only
  go_wp2_with fail
  refine HB.out.mono ?_
  rintro r0 w5 ⟨⟨q1, q2, q3⟩, er, rfl, hq, h6⟩
  clear HB
  have HQQ := Lib.hid hq
  dsimp only at *
  have h7 := h6.alloc (.cells #[.int .i64 q1, .int .i64 q2, .int .i64 q3] 26)
  have HB := Lib.hid (rparseRes_any (.slice a m c) t h7 (HS.out.below h7.low) HL.out)
  clear hq h6 h7
  try dsimp only
  go_wp2_with fail
  refine HB.out.mono ?_
  rintro r0 w7 ⟨⟨q1', q2', q3'⟩, er', rfl, hq, h8⟩
  clear HB
  rw [← HQQ.out] at hq
  obtain ⟨hq1, rfl⟩ := Prod.mk.inj hq
  obtain ⟨rfl, hq2⟩ := Prod.mk.inj hq1
  obtain ⟨rfl, rfl⟩ := Prod.mk.inj hq2
  dsimp only at *
  have h9 := h8.alloc (.cells #[.int .i64 q1', .int .i64 q2', .int .i64 q3'] 26)
  have HSM := Lib.hid (rsame_any p'.k p'.s p'.o p'.n _ p'.ls p'.k p'.s p'.o p'.n _ p'.ls h9 (Sep.lnS h9.sw6) (Sep.lnS h9.sw4) (by have := HPL.out; omega))
  rw [same_self] at HSM
  obtain ⟨x0, x1, x2, x3, x4⟩ := cells5 h9.sw3
  obtain ⟨y0, y1, y2, y3, y4⟩ := cells5 h9.sw5
  clear hq hq1 hq2 h8 h9 HQQ
  try dsimp only
  go_wp2_with fail
  refine HSM.out.mono ?_
  rintro r0 w9 ⟨rfl, h10⟩
  clear HSM x0 x1 x2 x3 x4 y0 y1 y2 y3 y4
  obtain ⟨x0, x1, x2⟩ := cells3 h10
  obtain ⟨y0, y1, y2⟩ := cells3 h10.sw2
  have HW := Lib.hid (works_any h10 (HK.out.below h10.low))
  clear h10
  go_wp2_with (refine HW.out.mono ?_; rintro r0 w10 ⟨rfl, h11⟩)
  go_ret
  exact ⟨rfl, h11.low⟩
theorem reads03 (a : Option Addr) (c : Nat) (l : List UInt8) (n : Nat) (w : World) (h : Sl w (.slice a n c) (bv l)) (hn : l.length = n) (hk : KindsAt w) (hnc : n ≤ c) :
    Calls Tryd.prog 4 #[.slice a n c] w fun e w' => e = .returned (.bool true) ∧ Below w.heap.size w w' := by
  obtain ⟨m, hm1, hm2, hm3, hm4⟩ := min_len n 300
  have hs : Sl w (.slice a m c) (bv (l.take m)) := by
    subst hn
    exact sl_pre h hm1
  have hl : (l.take m).length = m := by rw [List.length_take]; omega
  generalize l.take m = t at *
  have hm3' : (if (300 : Int) < (n : Int) then (300 : Int) else (n : Int)) = (m : Int) := hm3
  exact reads_w a c n m t w hs (by omega) hk hm3' (by omega)
end Go.Proofs.YtfjodadmcfdlpaaDoor
