/- The walk of ClockLate. -/
import Derived.Test.YtbiohldgcdfafaaClockWorks
import Derived.Test.YtbiohldgcdfafaaInts
namespace Go.Proofs.Ytbiohldgcdfafaa
open Go.RowKit
set_option linter.unusedVariables false
set_option maxHeartbeats 1000000 in
theorem late_walk (lim : Int) (a : Option Addr) (c : Nat) (l : List Int) (w : World) (h : Sl w (.slice a l.length c) (iv .i64 l)) :
    Calls Try.prog 4 #[.int .i64 lim, .slice a l.length c] w fun e w' => e = .returned (.bool true) ∧ Below w.heap.size w w' := by
  have H := Lib.hid h
  clear h
  go_enter Try.func4, Try.ntmps4
  go_wp2_with fail
  refine (works_any _).mono ?_
  rintro r0 w1 ⟨rfl, hb1⟩
  go_wp2_with fail
  refine (bring_any lim 1000 _ (by unfold Sm; omega)).mono ?_
  rintro r0 w2 ⟨rfl, rfl⟩
  obtain ⟨n, hn, hn1, hn2⟩ : ∃ n : Nat, lim % 1000 = (n : Int) - 1 ∧ 1 ≤ n ∧ n ≤ 1000 := ⟨(lim % 1000).toNat + 1, by omega, by omega, by omega⟩
  have hw : IntKind.i64.wrap (1 + lim % 1000) = n := by rw [hn, show 1 + ((n : Int) - 1) = n by omega]; exact IntWalk.i64_in _ (by omega)
  clear hn
  go_wp2_with fail
  refine (cnew_ok n _ (by omega) (by omega)).mono ?_
  rintro r0 w2 ⟨⟨g, rfl, hg, hk⟩, hb2⟩
  have hgw : w.heap.size ≤ g := by have := hb1.size; omega
  have hb := below_step hb1 hb2
  have Hk := Lib.hid hk
  clear hk hb1 hb2 hg
  go_wp2_with fail
  have Hw := Lib.hid hw
  clear hw
  go_loopw [8] (fun i wr => ∃ (j : Nat), j ≤ 20 ∧ i = .int .i64 j ∧ Ck wr g n 0 ∧ Below w.heap.size w wr) (fun i _ => 20 - (intOf i).toNat)
  case atStart => exact ⟨0, by omega, rfl, Hk.out, hb⟩
  case round =>
    obtain ⟨j, hj, rfl, hkr, hbr⟩ := hrel
    clear hb Hk
    by_cases hjl : j < l.length ∧ j < 20
    · obtain ⟨hj1, hj2⟩ := hjl
      have hs := H.out.keep hbr.size fun b _ hlt => hbr.block b hlt
      obtain ⟨b, off, rfl, hll, hc⟩ := hs.at (by omega)
      have hcj := hc j _ (iv_get .i64 l j hj1)
      clear hs hc hll
      have Hkr := Lib.hid hkr
      clear hkr
      go_wp2_with fail
      refine (bring_any _ 2000 _ (by unfold Sm; omega)).mono ?_
      rintro r0 w3 ⟨rfl, rfl⟩
      obtain ⟨q, hq, hq2⟩ : ∃ q : Nat, l[j] % 2000 = q ∧ q < 2000 := ⟨(l[j] % 2000).toNat, by omega, by omega⟩
      rw [hq]
      clear hq hcj
      go_wp2_with fail
      go_loopw [10] (fun i wz => ∃ (t : Nat), 1 ≤ t ∧ t ≤ q + 1 ∧ i = .int .i64 t ∧ Ck wz g n (min ((t : Int) - 1) n) ∧ Below w.heap.size w wz) (fun i _ => 2001 - (intOf i).toNat)
      case atStart => exact ⟨1, by omega, by omega, rfl, by rw [show min (((1 : Nat) : Int) - 1) n = 0 by omega]; exact Hkr.out, hbr⟩
      case round =>
        obtain ⟨t, ht1, ht2, rfl, hkz, hbz⟩ := hrel
        clear hbr Hkr
        have Hkz := Lib.hid hkz
        clear hkz
        by_cases htq : t ≤ q
        · go_wp2_with fail
          refine (tick_at g n (min ((t : Int) - 1) n) (min (t : Int) n) (decide ((n : Int) ≤ t)) _ Hkz.out (by omega) (by omega) (by omega) (by omega) (by rw [Bool.eq_iff_iff]; simp; omega) (by omega)).mono ?_
          rintro r0 w4 ⟨rfl, hk4, hu4⟩
          have Hk4 := Lib.hid hk4
          have hb4 : Below w.heap.size w w4 := hbz.trans (hu4.below hgw hbz.size)
          clear hk4 hu4 hbz Hkz
          go_wp2_with fail
          refine (left_at g n (min (t : Int) n) (max 0 ((n : Int) - t)) _ Hk4.out (by omega) (by omega) (by omega) (by omega) (by omega)).mono ?_
          rintro r0 w5 ⟨rfl, hk5, hu5⟩
          have Hk5 := Lib.hid hk5
          have hb5 : Below w.heap.size w w5 := hb4.trans (hu5.below hgw hb4.size)
          have hws : IntKind.i64.wrap ((n : Int) - t) = (n : Int) - t := IntWalk.i64_in _ (by omega)
          clear hk5 hu5 hb4 Hk4
          go_wp2_with fail
          go_roundw
          case rel => exact ⟨t + 1, by omega, by omega, by go_num, by rw [show (((t + 1 : Nat) : Int) - 1) = t by omega]; exact Hk5.out, hb5⟩
          case measure => simp [intOf]; omega
        · go_wp2_with fail
          refine (creset_ok g n _ _ Hkz.out (by omega)).mono ?_
          rintro r0 w5 ⟨⟨x, rfl⟩, hk5, hu5⟩
          have Hk5 := Lib.hid hk5
          have hb5 : Below w.heap.size w w5 := hbz.trans (hu5.below hgw hbz.size)
          clear hk5 hu5 hbz Hkz
          go_wp2_with fail
          go_roundw
          case rel => exact ⟨j + 1, by omega, by go_num, Hk5.out, hb5⟩
          case measure => simp [intOf]; omega
    · have Hkr := Lib.hid hkr
      clear hkr
      by_cases hj1 : j < l.length
      · have hj2 : ¬ j < 20 := by omega
        clear hjl
        go_wp2_with (first | (go_at_call 16; refine (limit_ok g n 0 _ Hkr.out (by omega)).mono ?_; rintro r0 w5 ⟨rfl, rfl⟩) | (go_at_call 14; refine (left_at g n 0 n _ Hkr.out (by omega) (by omega) (by omega) (by omega) (by omega)).mono ?_; rintro r0 w5 ⟨rfl, _, hu5⟩))
        go_ret
        exact ⟨rfl, hbr.trans (hu5.below hgw hbr.size)⟩
      · clear hjl
        go_wp2_with (first | (go_at_call 16; refine (limit_ok g n 0 _ Hkr.out (by omega)).mono ?_; rintro r0 w5 ⟨rfl, rfl⟩) | (go_at_call 14; refine (left_at g n 0 n _ Hkr.out (by omega) (by omega) (by omega) (by omega) (by omega)).mono ?_; rintro r0 w5 ⟨rfl, _, hu5⟩))
        go_ret
        exact ⟨rfl, hbr.trans (hu5.below hgw hbr.size)⟩
end Go.Proofs.Ytbiohldgcdfafaa
