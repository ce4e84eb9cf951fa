/- The chapter's tally and acks. -/
import Derived.Test.YtidbniigfkocpaaWon2
import Derived.Test.YtidbniigfkocpaaWho
import Derived.Test.YtidbniigfkocpaaSureMath
import Derived.Test.YtidbniigfkocpaaEqInts
namespace Go.Proofs.Ytidbniigfkocpaa
open Go.RowKit
set_option linter.unusedVariables false
set_option linter.unusedSimpArgs false
theorem small_nil : Small [] := fun y => by show 0 < 32768; omega
theorem add_lit {w0 w : World} {g b n : Nat} {S S' : List (Bal × Nat)} {L : List Thing} (x : Bal) (who m : Nat) (z k1 k2 : Int) (hz : z = n) (hk1 : k1 = who) (hk2 : k2 = m) (h : Sep w0 (TalC g b z :: BalM b S :: L) w) (hw : who < n) (hn : n ≤ 15) (hS : Small S) (hm : popc ((mget S x).getD 0 ||| 2 ^ who) = m) (hS' : addS S x who = S') :
    Calls Try.prog 12 #[.pointer (some ⟨g, 0, none⟩), balV x, .int .i64 k1] w fun e w' => e = .returned (.tuple #[.int .i64 k2, .int .i64 0]) ∧ Sep w0 (TalC g b z :: BalM b S' :: L) w' := by
  subst hz hk1 hk2 hm hS'
  exact add_ok x who h hw hn hS
theorem won_none {w0 w : World} {g b n : Nat} {S : List (Bal × Nat)} {L : List Thing} (z : Int) (hz : z = n) (h : Sep w0 (TalC g b z :: BalM b S :: L) w) (hn : n ≤ 15) (hS : Small S) (hno : ∀ p ∈ S, ¬ enough n ≤ popc p.2) :
    Calls Try.prog 14 #[.pointer (some ⟨g, 0, none⟩)] w fun e w' => e = .returned (.tuple #[.agg #[.int .i64 0, .int .i64 0, .int .i64 0, .int .i64 0, .int .i64 0], .bool false]) ∧ Sep w0 (TalC g b z :: BalM b S :: L) w' := by
  subst hz
  refine (won_any h hn hS).mono ?_
  rintro e w' ⟨o, rfl, ho, h1⟩
  cases o with
  | none => exact ⟨rfl, h1⟩
  | some x =>
    obtain ⟨⟨p, hp, _, hE⟩, _⟩ := ho.2 x rfl
    exact absurd hE (hno p hp)
theorem won_one {w0 w : World} {g b n : Nat} {S : List (Bal × Nat)} {L : List Thing} (x : Bal) (v : Value) (hv : balV x = v) (z : Int) (hz : z = n) (h : Sep w0 (TalC g b z :: BalM b S :: L) w) (hn : n ≤ 15) (hS : Small S) (hone : ∀ p ∈ S, enough n ≤ popc p.2 → p.1 = x) (hex : ∃ p ∈ S, enough n ≤ popc p.2) :
    Calls Try.prog 14 #[.pointer (some ⟨g, 0, none⟩)] w fun e w' => e = .returned (.tuple #[v, .bool true]) ∧ Sep w0 (TalC g b z :: BalM b S :: L) w' := by
  subst hz hv
  refine (won_any h hn hS).mono ?_
  rintro e w' ⟨o, rfl, ho, h1⟩
  cases o with
  | none =>
    obtain ⟨p, hp, hE⟩ := hex
    exact absurd hE (ho.1 rfl p hp)
  | some y =>
    obtain ⟨⟨p, hp, he, hE⟩, _⟩ := ho.2 y rfl
    have := hone p hp hE
    rw [he] at this
    subst this
    exact ⟨rfl, h1⟩
theorem note_lit {w0 w : World} {g n : Nat} {A A' : List Int} {L : List Thing} (who : Nat) (z k op : Int) (hz : z = n) (hk : k = who) (h : Sep w0 (AckT g z A :: L) w) (hw : who < n) (hn : n ≤ 15) (hA : A.length = 15) (h2 : 0 ≤ op) (hA' : A.set who (max (A[who]?.getD 0) op) = A') :
    Calls Try.prog 23 #[.pointer (some ⟨g, 0, none⟩), .int .i64 k, .int .i64 op] w fun e w' => e = .returned (.int .i64 0) ∧ Sep w0 (AckT g z A' :: L) w' := by
  subst hz hk hA'
  exact note_ok who op h hw hn hA h2
theorem sure_lit {w0 w : World} {g n : Nat} {A : List Int} {L : List Thing} (z s : Int) (hz : z = n) (h : Sep w0 (AckT g z A :: L) w) (hn : enough n ≠ 0) (hA : A.length = 15) (hs : sureOf n A = s) :
    Calls Try.prog 25 #[.pointer (some ⟨g, 0, none⟩)] w fun e w' => e = .returned (.int .i64 s) ∧ Sep w0 (AckT g z A :: L) w' := by
  subst hz hs
  exact sure_any h hn hA
def qb : Bal := ⟨(1, 5, 0, 0, 0), by decide⟩
theorem qb1 : addS [] qb 0 = [(qb, 1)] := rfl
theorem qb2 : addS [(qb, 1)] qb 0 = [(qb, 1)] := rfl
theorem qb3 : addS [(qb, 1)] qb 2 = [(qb, 5)] := rfl
theorem qs1 : Small [(qb, 1)] := qb1 ▸ small_add small_nil qb 0 (by omega)
theorem qs3 : Small [(qb, 5)] := qb3 ▸ small_add qs1 qb 2 (by omega)
theorem enough_is (n r : Int) (w : World) (hn : I64 n) (hr : enough n = r) : Calls Try.prog 10 #[.int .i64 n] w fun e w' => e = .returned (.int .i64 r) ∧ w = w' := by
  subst hr
  exact enough_any n w hn
theorem qb_cells {w0 w : World} {bq : Nat} {L : List Thing} (h : Sep w0 (Cl bq (cellsB qb) 34 :: L) w) :
    w.cell? ⟨bq, 0, none⟩ = some (.int .i64 1) ∧ w.cell? ⟨bq, 1, none⟩ = some (.int .i64 5) ∧ w.cell? ⟨bq, 2, none⟩ = some (.int .i64 0) ∧ w.cell? ⟨bq, 3, none⟩ = some (.int .i64 0) ∧ w.cell? ⟨bq, 4, none⟩ = some (.int .i64 0) :=
  ⟨h.cell rfl, h.cell rfl, h.cell rfl, h.cell rfl, h.cell rfl⟩
set_option maxRecDepth 100000 in
set_option maxHeartbeats 4000000 in
theorem qworks_any (w : World) : Calls Try.prog 20 #[] w fun e w' => e = .returned (.bool true) ∧ Below w.heap.size w w' := by
  go_enter Try.func20, Try.ntmps20
  go_wp2_with fail
  refine (newTally_bad 17 _ (by decide) (by decide)).mono ?_
  rintro r0 w1 ⟨rfl, rfl⟩
  go_wp2_with fail
  refine (newTally_ok 3 _ (Sep.start _) (by decide) (by decide)).mono ?_
  rintro r0 w2 ⟨g, b, rfl, h2⟩
  have H2 := Lib.hid h2
  clear h2
  go_wp2_with fail
  refine (newAcks_ok 5 _ H2.out (by decide) (by decide)).mono ?_
  rintro r0 w3 ⟨ga, rfl, h3⟩
  have H3 := Lib.hid h3
  clear h3 H2
  go_wp2_with fail
  refine (enough_is 3 2 _ (by decide) (by decide)).mono ?_
  rintro r0 w4 ⟨rfl, rfl⟩
  go_wp2_with fail
  refine (enough_is 4 0 _ (by decide) (by decide)).mono ?_
  rintro r0 w4 ⟨rfl, rfl⟩
  go_wp2_with fail
  refine (enough_is 15 8 _ (by decide) (by decide)).mono ?_
  rintro r0 w4 ⟨rfl, rfl⟩
  have h4 := (H3.out.alloc (.cells (cellsB qb) 34)).sw3.sw3
  obtain ⟨bx, hbx⟩ : ∃ k, k = w3.heap.size := ⟨_, rfl⟩
  obtain ⟨wx, hwx⟩ : ∃ k, k = w3.alloc (.cells (cellsB qb) 34) := ⟨_, rfl⟩
  rw [← hbx, ← hwx] at h4
  have H4 := Lib.hid h4
  clear h4 H3
  have H5 := Lib.hid (H4.out.pickL (M := [AckT ga 5 (List.replicate 15 0), TalC g b 3, Cl bx (cellsB qb) 34, BalM b []]) (L := []) [1, 3, 2, 0] rfl)
  obtain ⟨c0, c1, c2, c3, c4⟩ := qb_cells H5.out.sw3
  clear H4
  go_wp2_with fail
  rw [show w3.alloc (.cells #[.int .i64 1, .int .i64 5, .int .i64 0, .int .i64 0, .int .i64 0] 34) = wx from hwx.symm, ← hbx]
  clear hwx hbx
  refine (add_lit (n := 3) qb 0 1 3 0 1 rfl rfl rfl H5.out (by omega) (by omega) small_nil rfl qb1).mono ?_
  rintro r0 w5 ⟨rfl, h6⟩
  clear c0 c1 c2 c3 c4
  obtain ⟨c0, c1, c2, c3, c4⟩ := qb_cells h6.sw3
  have H6 := Lib.hid h6
  clear h6 H5
  go_wp2_with fail
  refine (add_lit (n := 3) qb 0 1 3 0 1 rfl rfl rfl H6.out (by omega) (by omega) qs1 rfl qb2).mono ?_
  rintro r0 w6 ⟨rfl, h7⟩
  clear c0 c1 c2 c3 c4
  have H7 := Lib.hid h7
  clear h7 H6
  go_wp2_with fail
  refine (won_none (n := 3) 3 rfl H7.out (by omega) qs1 (by decide)).mono ?_
  rintro r0 w7 ⟨rfl, h8⟩
  have h8' := (h8.alloc (.cells #[.int .i64 0, .int .i64 0, .int .i64 0, .int .i64 0, .int .i64 0] 34)).drop
  obtain ⟨c0, c1, c2, c3, c4⟩ := qb_cells h8'.sw3
  have H8 := Lib.hid h8'
  clear h8 H7 h8'
  go_wp2_with fail
  refine (add_lit (n := 3) qb 2 2 3 2 2 rfl rfl rfl H8.out (by omega) (by omega) qs1 rfl qb3).mono ?_
  rintro r0 w8 ⟨rfl, h9⟩
  clear c0 c1 c2 c3 c4
  have H9 := Lib.hid h9
  clear h9 H8
  go_wp2_with fail
  refine (won_one (n := 3) qb (.agg #[.int .i64 1, .int .i64 5, .int .i64 0, .int .i64 0, .int .i64 0]) rfl 3 rfl H9.out (by omega) qs3 (by decide) (by decide)).mono ?_
  rintro r0 w9 ⟨rfl, ha⟩
  have hb := ha.alloc (.cells #[.int .i64 1, .int .i64 5, .int .i64 0, .int .i64 0, .int .i64 0] 34)
  obtain ⟨c0, c1, c2, c3, c4⟩ := qb_cells hb.sw4
  have HB := Lib.hid (hb.drop.pickL (M := [TalC g b 3, BalM b [(qb, 5)], Cl bx (cellsB qb) 34, AckT ga 5 (List.replicate 15 0)]) (L := []) [0, 1, 3] rfl)
  clear ha hb H9
  go_wp2_with fail
  refine (who_any (n := 3) qb HB.out (by omega) qs3).mono ?_
  rintro r0 wa ⟨v, rfl, hc⟩
  obtain ⟨va, vc, rfl⟩ := hc.sl.len
  have hd := hc.drop
  have hx := (hc.alloc (.cells #[.int .i64 0, .int .i64 2] 3)).asRow 2 rfl (by unfold maxLen; omega)
  have hq := eqInts_sep _ _ _ [0, 2] hx.sw2 hx.sw2.sl hx.sl (by decide)
  rw [show ((whoOf ((mget [(qb, 5)] qb).getD 0) 3) == [0, 2]) = true by decide] at hq
  have HQ := Lib.hid hq
  clear hc hx hq HB c0 c1 c2 c3 c4 hd
  go_wp2_with fail
  refine HQ.out.mono ?_
  rintro r0 wb ⟨rfl, hd⟩
  have H := Lib.hid (hd.drop.drop.sw3)
  clear hd HQ
  go_wp2_with fail
  refine (note_lit (n := 5) 0 5 0 7 rfl rfl H.out (by omega) (by omega) rfl (by omega) (A' := [7, 0, 0, 0, 0, 0, 0, 0, 0, 0, 0, 0, 0, 0, 0]) (by decide)).mono ?_
  rintro r0 wc ⟨rfl, h1⟩
  have H1 := Lib.hid h1
  clear h1 H
  go_wp2_with fail
  refine (note_lit (n := 5) 3 5 3 4 rfl rfl H1.out (by omega) (by omega) rfl (by omega) (A' := [7, 0, 0, 4, 0, 0, 0, 0, 0, 0, 0, 0, 0, 0, 0]) (by decide)).mono ?_
  rintro r0 wd ⟨rfl, h2⟩
  have H2 := Lib.hid h2
  clear h2 H1
  go_wp2_with fail
  refine (note_lit (n := 5) 4 5 4 6 rfl rfl H2.out (by omega) (by omega) rfl (by omega) (A' := [7, 0, 0, 4, 6, 0, 0, 0, 0, 0, 0, 0, 0, 0, 0]) (by decide)).mono ?_
  rintro r0 we ⟨rfl, h3⟩
  have H3 := Lib.hid h3
  clear h3 H2
  go_wp2_with fail
  refine (sure_lit (n := 5) 5 4 rfl H3.out (by decide) rfl (sure_is rfl (by omega) rfl (by decide) (by decide))).mono ?_
  rintro r0 wf ⟨rfl, h4⟩
  have H4 := Lib.hid h4
  clear h4 H3
  go_wp2_with fail
  refine (note_lit (n := 5) 1 5 1 9 rfl rfl H4.out (by omega) (by omega) rfl (by omega) (A' := [7, 9, 0, 4, 6, 0, 0, 0, 0, 0, 0, 0, 0, 0, 0]) (by decide)).mono ?_
  rintro r0 wg ⟨rfl, h5⟩
  have H5 := Lib.hid h5
  clear h5 H4
  go_wp2_with fail
  refine (sure_lit (n := 5) 5 6 rfl H5.out (by decide) rfl (sure_is rfl (by omega) rfl (by decide) (by decide))).mono ?_
  rintro r0 wh ⟨rfl, h6⟩
  have H6 := Lib.hid h6.low
  clear h6 H5
  go_wp2_with fail
  go_ret
  exact ⟨rfl, H6.out⟩
end Go.Proofs.Ytidbniigfkocpaa
