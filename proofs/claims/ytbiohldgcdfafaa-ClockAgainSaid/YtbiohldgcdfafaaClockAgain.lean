/- The walk of ClockAgain. -/
import Derived.Test.YtbiohldgcdfafaaClockWorks
import Derived.Test.YtbiohldgcdfafaaInts
import Derived.Test.YtbiohldgcdfafaaBools
namespace Go.Proofs.Ytbiohldgcdfafaa
open Go.RowKit
set_option linter.unusedVariables false
set_option maxRecDepth 8000 in
set_option maxHeartbeats 1000000 in
theorem cagain_walk (lim ah : Int) (a : Option Addr) (c : Nat) (l : List Bool) (w : World) (h : Sl w (.slice a l.length c) (lv l)) :
    Calls Try.prog 5 #[.int .i64 lim, .int .i64 ah, .slice a l.length c] w fun e w' => e = .returned (.bool true) ∧ Below w.heap.size w w' := by
  have H := Lib.hid h
  clear h
  go_enter Try.func5, Try.ntmps5
  go_wp2_with fail
  refine (bring_any lim 1000 _ (by unfold Sm; omega)).mono ?_
  rintro r0 w1 ⟨rfl, rfl⟩
  have hw : IntKind.i64.wrap (1 + lim % 1000) = 1 + lim % 1000 := IntWalk.i64_in _ (by omega)
  have hn : 1 ≤ 1 + lim % 1000 ∧ 1 + lim % 1000 ≤ 1000 := by omega
  go_wp2_with fail
  clear hw
  generalize 1 + lim % 1000 = n at *
  obtain ⟨hn1, hn2⟩ := hn
  refine (cnew_ok n _ (by omega) (by omega)).mono ?_
  rintro r0 w2 ⟨⟨g, rfl, hg, hk⟩, hb2⟩
  have Hk := Lib.hid hk
  clear hk
  go_wp2_with fail
  refine (cnew_ok n _ (by omega) (by omega)).mono ?_
  rintro r0 w3 ⟨⟨d, rfl, hd, hkd⟩, hb3⟩
  have hkc := Hk.out.below hb3
  have hgd : g < d := by have := Hk.out.lt; omega
  have hb := below_step hb2 hb3
  have Hd := Lib.hid hkd
  have Hc := Lib.hid hkc
  clear hkd hkc Hk hd hb2 hb3
  go_wp2_with fail
  obtain ⟨m, hm, hm2⟩ : ∃ m : Nat, ah % 2000 = m ∧ m < 2000 := ⟨(ah % 2000).toNat, by omega, by omega⟩
  go_loopw [12] (fun i wr => ∃ t : Nat, t ≤ m ∧ i = .int .i64 t ∧ Ck wr g n (min (t : Int) n) ∧ Ck wr d n 0 ∧ Below w.heap.size w wr) (fun i _ => 2000 - (intOf i).toNat)
  case atStart => exact ⟨0, by omega, rfl, by rw [show min ((0 : Nat) : Int) n = 0 by omega]; exact Hc.out, Hd.out, hb⟩
  case round =>
    obtain ⟨t, ht, rfl, hkc, hkd, hbr⟩ := hrel
    have HKc := Lib.hid hkc
    have HKd := Lib.hid hkd
    have Hm := Lib.hid hm
    clear Hc Hd hb hkc hkd hm
    go_wp2_with fail
    refine (bring_any ah 2000 _ (by unfold Sm; omega)).mono ?_
    rintro r0 w4 ⟨rfl, rfl⟩
    rw [Hm.out]
    by_cases htm : t < m
    · go_wp2_with fail
      refine (tick_at g n (min (t : Int) n) (min ((t : Int) + 1) n) (decide (n ≤ (t : Int) + 1)) _ HKc.out (by omega) (by omega) (by omega) (by omega) (by rw [Bool.eq_iff_iff]; simp; omega) (by omega)).mono ?_
      rintro r0 w5 ⟨rfl, hk5, hu5⟩
      have HK5 := Lib.hid hk5
      have HD5 := Lib.hid (HKd.out.upd hu5 (by omega))
      have hb5 := hbr.trans (hu5.below hg hbr.size)
      clear hk5 hu5 hbr HKc HKd
      go_wp2_with fail
      go_roundw
      case rel => exact ⟨t + 1, by omega, by go_num, by rw [show ((t + 1 : Nat) : Int) = (t : Int) + 1 by omega]; exact HK5.out, HD5.out, hb5⟩
      case measure => simp [intOf]; omega
    · obtain rfl : t = m := by omega
      go_wp2_with fail
      refine (creset_ok g n _ _ HKc.out (by omega)).mono ?_
      rintro r0 w5 ⟨⟨x, rfl⟩, hk5, hu5⟩
      have HK5 := Lib.hid hk5
      have HD5 := Lib.hid (HKd.out.upd hu5 (by omega))
      have hb5 := hbr.trans (hu5.below hg hbr.size)
      clear hk5 hu5 hbr HKc HKd
      go_wp2_with fail
      go_loopw [13] (fun i wz => ∃ (k : Nat) (q : Int), k ≤ 300 ∧ i = .int .i64 k ∧ 0 ≤ q ∧ q ≤ n ∧ Ck wz g n q ∧ Ck wz d n q ∧ Below w.heap.size w wz) (fun i _ => 300 - (intOf i).toNat)
      case atStart => exact ⟨0, 0, by omega, rfl, by omega, by omega, HK5.out, HD5.out, hb5⟩
      case round =>
        obtain ⟨k, q, hk, rfl, hq0, hqn, hkc, hkd, hbz⟩ := hrel
        clear HK5 HD5 hb5
        have HC := Lib.hid hkc
        have HD := Lib.hid hkd
        clear hkc hkd
        by_cases hkl : k < l.length ∧ k < 300
        · obtain ⟨hk1, hk2⟩ := hkl
          obtain ⟨bb, off, rfl, hll, _⟩ := H.out.at (by omega)
          have CZ : Hid (∀ wz : World, Below w.heap.size w wz → wz.cell? ⟨bb, off + k, none⟩ = some (.bool l[k])) := Lib.hid fun wz hb => H.out.cellAt (by omega) (lv_get l k hk1) hb
          have hcj := CZ.out _ hbz
          clear hll
          have hnd : g ≠ d := by omega
          cases hlk : l[k] with
          | true =>
            rw [hlk] at hcj CZ
            go_wp2_with fail
            refine (tick_at g n q (min (q + 1) n) (decide (n ≤ q + 1)) _ HC.out (by omega) (by omega) (by omega) (by omega) rfl rfl).mono ?_
            rintro r0 w6 ⟨rfl, hk6, hu6⟩
            have HC6 := Lib.hid hk6
            have HD6 := Lib.hid (HD.out.upd hu6 (Ne.symm hnd))
            have hb6 := hbz.trans (hu6.below hg hbz.size)
            clear hk6 hu6 HC HD hbz hcj
            go_wp2_with fail
            refine (tick_at d n q (min (q + 1) n) (decide (n ≤ q + 1)) _ HD6.out (by omega) (by omega) (by omega) (by omega) rfl rfl).mono ?_
            rintro r0 w7 ⟨rfl, hk7, hu7⟩
            have HC7 := Lib.hid (HC6.out.upd hu7 hnd)
            have HD7 := Lib.hid hk7
            have hb7 := hb6.trans (hu7.below (by omega) hb6.size)
            have hcj := CZ.out _ hb7
            clear hk7 hu7 HC6 HD6 hb6
            go_wp2_with fail
            refine (left_at g n (min (q + 1) n) (n - min (q + 1) n) _ HC7.out (by omega) (by omega) (by omega) (by omega) rfl).mono ?_
            rintro r0 w8 ⟨rfl, hk8, hu8⟩
            have HC8 := Lib.hid hk8
            have HD8 := Lib.hid (HD7.out.upd hu8 (Ne.symm hnd))
            have hb8 := hb7.trans (hu8.below hg hb7.size)
            clear hk8 hu8 HC7 HD7 hb7 hcj
            go_wp2_with fail
            refine (left_at d n (min (q + 1) n) (n - min (q + 1) n) _ HD8.out (by omega) (by omega) (by omega) (by omega) rfl).mono ?_
            rintro r0 w9 ⟨rfl, hk9, hu9⟩
            have HC9 := Lib.hid (HC8.out.upd hu9 hnd)
            have HD9 := Lib.hid hk9
            have hb9 := hb8.trans (hu9.below (by omega) hb8.size)
            clear hk9 hu9 HC8 HD8 hb8
            go_wp2_with fail
            go_roundw
            case rel => exact ⟨k + 1, min (q + 1) n, by omega, by go_num, by omega, by omega, HC9.out, HD9.out, hb9⟩
            case measure => simp [intOf]; omega
          | false =>
            rw [hlk] at hcj CZ
            go_wp2_with fail
            refine (creset_ok g n _ _ HC.out (by omega)).mono ?_
            rintro r0 w6 ⟨⟨x6, rfl⟩, hk6, hu6⟩
            have HC6 := Lib.hid hk6
            have HD6 := Lib.hid (HD.out.upd hu6 (Ne.symm hnd))
            have hb6 := hbz.trans (hu6.below hg hbz.size)
            clear hk6 hu6 HC HD hbz hcj
            go_wp2_with fail
            refine (creset_ok d n _ _ HD6.out (by omega)).mono ?_
            rintro r0 w7 ⟨⟨x7, rfl⟩, hk7, hu7⟩
            have HC7 := Lib.hid (HC6.out.upd hu7 hnd)
            have HD7 := Lib.hid hk7
            have hb7 := hb6.trans (hu7.below (by omega) hb6.size)
            clear hk7 hu7 HC6 HD6 hb6
            go_wp2_with fail
            refine (left_at g n 0 n _ HC7.out (by omega) (by omega) (by omega) (by omega) (by omega)).mono ?_
            rintro r0 w8 ⟨rfl, hk8, hu8⟩
            have HC8 := Lib.hid hk8
            have HD8 := Lib.hid (HD7.out.upd hu8 (Ne.symm hnd))
            have hb8 := hb7.trans (hu8.below hg hb7.size)
            clear hk8 hu8 HC7 HD7 hb7
            go_wp2_with fail
            refine (left_at d n 0 n _ HD8.out (by omega) (by omega) (by omega) (by omega) (by omega)).mono ?_
            rintro r0 w9 ⟨rfl, hk9, hu9⟩
            have HC9 := Lib.hid (HC8.out.upd hu9 hnd)
            have HD9 := Lib.hid hk9
            have hb9 := hb8.trans (hu9.below (by omega) hb8.size)
            clear hk9 hu9 HC8 HD8 hb8
            go_wp2_with fail
            go_roundw
            case rel => exact ⟨k + 1, 0, by omega, by go_num, by omega, by omega, HC9.out, HD9.out, hb9⟩
            case measure => simp [intOf]; omega
        · by_cases hk1 : k < l.length
          · have hk2 : ¬ k < 300 := by omega
            clear hkl
            go_wp2_with (go_at_call 18; refine (works_any _).mono ?_; rintro r0 w6 ⟨rfl, hb6⟩)
            go_ret
            exact ⟨rfl, below_step hbz hb6⟩
          · clear hkl
            go_wp2_with (go_at_call 18; refine (works_any _).mono ?_; rintro r0 w6 ⟨rfl, hb6⟩)
            go_ret
            exact ⟨rfl, below_step hbz hb6⟩
end Go.Proofs.Ytbiohldgcdfafaa
