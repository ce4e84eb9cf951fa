/- The walk of DiskAgain. -/
import Derived.Test.YtpnafgkoijnplaaDisk4
import Derived.Test.YtpnafgkoijnplaaBring
import Derived.Test.YtpnafgkoijnplaaSlPart2
import Derived.Test.YtpnafgkoijnplaaSep2
import Derived.Test.YtpnafgkoijnplaaInts
namespace Go.Proofs.Ytpnafgkoijnplaa
open Go.RowKit
set_option linter.unusedVariables false
/-- A slice of bytes. -/
def Bsl (w : World) (u : Value) : Prop := ∃ (a : Option Addr) (c : Nat) (l : List UInt8), u = .slice a l.length c ∧ l.length ≤ c ∧ c ≤ maxLen ∧ Sl w (.slice a l.length c) (bv l)
theorem br_nat' (i : Int) (k : Nat) : ∃ x : Nat, i % ((k : Int) + 1) = (x : Int) ∧ x ≤ k := by
  have h1 := Int.emod_nonneg i (show ((k : Int) + 1) ≠ 0 by omega)
  have h2 := Int.emod_lt_of_pos i (show 0 < ((k : Int) + 1) by omega)
  exact ⟨(i % ((k : Int) + 1)).toNat, by omega, by omega⟩
set_option maxRecDepth 8000 in
set_option maxHeartbeats 4000000 in
theorem dagain_any (a : Option Addr) (cap : Nat) (vs : List Value) (which cut : Int) (w : World) (h : Sl w (.slice a vs.length cap) vs) (hvs : ∀ u ∈ vs, Bsl w u) (hcm : cap ≤ maxLen) (hlc : vs.length ≤ cap) :
    Calls Try.prog 7 #[.slice a vs.length cap, .int .i64 which, .int .i64 cut] w fun e w' => e = .returned (.bool true) ∧ Below w.heap.size w w' := by
  obtain ⟨q, hq, hq20⟩ := br_nat' which 19
  have hB1 : ∀ wx : World, Calls Try.prog 16 #[.int .i64 which, .int .i64 20] wx fun e w' => e = .returned (.int .i64 (q : Int)) ∧ wx = w' := fun wx => by
    have := bring_any which 20 wx (by unfold Sm; omega)
    rw [show which % 20 = (q : Int) from hq] at this
    exact this
  have HB1 := Lib.hid hB1
  have H := Lib.hid h
  have HVS := Lib.hid hvs
  have HC := Lib.hid hcm
  have HLC := Lib.hid hlc
  have hl63 : vs.length ≤ 9223372036854775807 := by unfold maxLen at hcm; omega
  clear hB1 h hvs hq hcm hlc
  go_enter Try.func7, Try.ntmps7
  go_wp2_with fail
  refine (new_any (Sep.start w)).mono ?_
  rintro r0 w1 ⟨g, rfl, h1⟩
  go_wp2_with fail
  refine (new_any h1).mono ?_
  rintro r0 w2 ⟨g', rfl, h2⟩
  have HS0 := Lib.hid h2.sw2
  clear h1 h2
  go_wp2_with fail
  go_loopw [9] (fun i wr => ∃ (k : Nat) (j : List UInt8), k ≤ vs.length ∧ k ≤ 20 ∧ i = .int .i64 k ∧ j.length ≤ 100 * k ∧ Sep w [DiskT g ⟨j, [], [], false, none⟩, DiskT g' ⟨j, [], [], false, none⟩] wr) (fun i _ => 20 - (intOf i).toNat)
  case atStart => exact ⟨0, [], by omega, by omega, rfl, by simp, HS0.out⟩
  case round =>
    obtain ⟨k, j, hk, hk20, rfl, hj, hs⟩ := hrel
    clear HS0
    have HS := Lib.hid hs
    have HLo := Lib.hid hs.low
    have HJ := Lib.hid hj
    clear hs hj
    have k0 : (0 : Int) ≤ (k : Int) := by omega
    by_cases hkl : k < vs.length ∧ k < 20
    · obtain ⟨hk1, hk2⟩ := hkl
      obtain ⟨bb, off, rfl, _, _⟩ := H.out.at (by omega)
      have hcu := H.out.cellAt (by omega) (List.getElem?_eq_getElem hk1) HLo.out
      obtain ⟨au, cu, lu, hu, huc, hum, hsu⟩ := HVS.out _ (List.getElem_mem hk1)
      rw [hu] at hcu
      clear hu
      obtain ⟨m, hm, hm100, hmin, _⟩ := min_len lu.length 100
      rw [show ((100 : Nat) : Int) = 100 from rfl] at hmin
      obtain ⟨b, hb⟩ : ∃ b, b = lu.take m := ⟨_, rfl⟩
      have hbl : b.length = m := by rw [hb, List.length_take]; omega
      have hp := sl_pre hsu hm
      rw [← hb] at hp
      obtain ⟨n, hn, hnm⟩ := br_nat' cut m
      have hB2 : ∀ wx : World, Calls Try.prog 16 #[.int .i64 cut, .int .i64 ((m : Int) + 1)] wx fun e w' => e = .returned (.int .i64 (n : Int)) ∧ wx = w' := fun wx => by
        have := bring_any cut ((m : Int) + 1) wx (by unfold Sm; omega)
        rwa [hn] at this
      have HB2 := Lib.hid hB2
      have HP := Lib.hid hp
      have HBL := Lib.hid hbl
      have hkL : (k : Int) < (vs.length : Int) := by omega
      have z0 : (0 : Int) ≤ (m : Int) := by omega
      have z1 : (m : Int) ≤ (cu : Int) := by omega
      have z2 : (m : Int) ≤ 100 := by omega
      have hnm' := hnm
      unfold maxLen at hum
      clear hB2 hp hbl hn hsu hb hm
      go_wp2_with fail
      go_quiet (fail)
      clear hmin hcu
      have HS1 := Lib.hid (HS.out.drewN nq)
      clear HS HLo
      go_wp2_with fail
      refine (HB1.out _).mono ?_
      rintro r0 w3 ⟨rfl, rfl⟩
      by_cases hkq : k = q
      · have hj0 := HJ.out
        have hbl0 := HBL.out
        go_wp2_with fail
        refine (log_any _ HS1.out (by simp; omega)).mono ?_
        rintro r0 w3 ⟨v3, rfl, h3⟩
        obtain ⟨a3, c3, rfl⟩ := h3.sl.len
        rw [bv_length]
        have H3 := Lib.hid h3.drop
        clear h3 HS1
        go_wp2_with fail
        refine (HB2.out _).mono ?_
        rintro r0 w4 ⟨rfl, rfl⟩
        go_wp2_with fail
        refine (arm_ok _ n H3.out rfl).mono ?_
        rintro r0 w4 ⟨rfl, h4⟩
        have H4 := Lib.hid h4
        clear h4 H3
        go_wp2_with fail
        refine (append_some j [] [] _ b H4.out (HP.out.below H4.out.low) (by omega)).mono ?_
        rintro r0 w5 ⟨rfl, h5⟩
        have H5 := Lib.hid h5
        clear h5 H4
        go_wp2_with fail
        refine (log_any _ H5.out (by simp; omega)).mono ?_
        rintro r0 w6 ⟨v6, rfl, h6⟩
        obtain ⟨a6, c6, rfl⟩ := h6.sl.len
        have e6 : (bv (j ++ b.take n)).length = j.length + n := by rw [bv_length, List.length_append, List.length_take]; omega
        rw [e6]
        have H6 := Lib.hid h6.drop
        clear h6 H5 e6
        have hn0 : (j.length : Int) + (n : Int) ≤ 100000 := by omega
        go_wp2_with fail
        refine (revive_any _ H6.out).mono ?_
        rintro r0 w7 ⟨rfl, h7⟩
        have H7 := Lib.hid h7
        clear h7 H6
        go_wp2_with fail
        refine (cut_ok (j ++ b.take n) [] [] none j.length _ rfl H7.out (by simp; omega) (by simp)).mono ?_
        rintro r0 w8 ⟨rfl, h8⟩
        rw [List.take_left] at h8
        have HS2 := Lib.hid h8
        clear h8 H7 hj0 hbl0
        go_wp2_with fail
        refine (append_none j [] [] _ b HS2.out (HP.out.below HS2.out.low) (by have := HJ.out; have := HBL.out; omega)).mono ?_
        rintro r0 w5 ⟨rfl, h5⟩
        have H5 := Lib.hid h5.sw2
        clear h5 HS2
        go_wp2_with fail
        refine (append_none j [] [] _ b H5.out (HP.out.below H5.out.low) (by have := HJ.out; have := HBL.out; omega)).mono ?_
        rintro r0 w6 ⟨rfl, h6⟩
        have H6 := Lib.hid h6.sw2
        clear h6 H5
        go_wp2_with fail
        refine (log_any _ H6.out (by have := HJ.out; have := HBL.out; simp; omega)).mono ?_
        rintro r0 w7 ⟨v7, rfl, h7⟩
        have H7 := Lib.hid h7.sw3
        clear h7 H6
        go_wp2_with fail
        refine (log_any _ H7.out (by have := HJ.out; have := HBL.out; simp; omega)).mono ?_
        rintro r0 w8 ⟨v8, rfl, h8⟩
        have H8 := Lib.hid h8
        clear h8 H7
        go_wp2_with fail
        refine (eqSame_any _ _ (j ++ b) _ H8.out.sw3.sl H8.out.sl).mono ?_
        rintro r0 w9 ⟨rfl, rfl⟩
        go_wp2_with fail
        go_roundw
        case rel => exact ⟨k + 1, j ++ b, by omega, by omega, by go_num, by have := HJ.out; have := HBL.out; simp; omega, H8.out.drop.sw2.drop.sw2⟩
        case measure => simp [intOf]; omega
      · have hs2 := HS1
        have HS2 := hs2
        clear hs2 HS1
        have hkq' : ((k : Int) == (q : Int)) = false := beq_eq_false_iff_ne.2 (by omega)
        go_wp2_with fail
        refine (append_none j [] [] _ b HS2.out (HP.out.below HS2.out.low) (by have := HJ.out; have := HBL.out; omega)).mono ?_
        rintro r0 w5 ⟨rfl, h5⟩
        have H5 := Lib.hid h5.sw2
        clear h5 HS2
        go_wp2_with fail
        refine (append_none j [] [] _ b H5.out (HP.out.below H5.out.low) (by have := HJ.out; have := HBL.out; omega)).mono ?_
        rintro r0 w6 ⟨rfl, h6⟩
        have H6 := Lib.hid h6.sw2
        clear h6 H5
        go_wp2_with fail
        refine (log_any _ H6.out (by have := HJ.out; have := HBL.out; simp; omega)).mono ?_
        rintro r0 w7 ⟨v7, rfl, h7⟩
        have H7 := Lib.hid h7.sw3
        clear h7 H6
        go_wp2_with fail
        refine (log_any _ H7.out (by have := HJ.out; have := HBL.out; simp; omega)).mono ?_
        rintro r0 w8 ⟨v8, rfl, h8⟩
        have H8 := Lib.hid h8
        clear h8 H7
        go_wp2_with fail
        refine (eqSame_any _ _ (j ++ b) _ H8.out.sw3.sl H8.out.sl).mono ?_
        rintro r0 w9 ⟨rfl, rfl⟩
        go_wp2_with fail
        go_roundw
        case rel => exact ⟨k + 1, j ++ b, by omega, by omega, by go_num, by have := HJ.out; have := HBL.out; simp; omega, H8.out.drop.sw2.drop.sw2⟩
        case measure => simp [intOf]; omega
    · have hkl2 := hkl
      go_wp2_with fail
      all_goals
        refine (dead_any HS.out).mono ?_
        rintro r0 w3 ⟨rfl, rfl⟩
        go_wp2_with fail
        refine (works_any _).mono ?_
        rintro r0 w4 ⟨rfl, hb4⟩
        have HF := Lib.hid (below_step HLo.out hb4)
        clear hb4
        go_wp2_with fail
        go_ret
        exact ⟨rfl, HF.out⟩
end Go.Proofs.Ytpnafgkoijnplaa
