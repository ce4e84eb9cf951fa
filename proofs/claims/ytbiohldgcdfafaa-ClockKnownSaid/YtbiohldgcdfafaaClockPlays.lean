/- The walk of ClockPlays. -/
import Derived.Test.YtbiohldgcdfafaaClockWorks
import Derived.Test.YtbiohldgcdfafaaClockRef
import Derived.Test.YtbiohldgcdfafaaInts
import Derived.Test.YtbiohldgcdfafaaBools
namespace Go.Proofs.Ytbiohldgcdfafaa
open Go.RowKit
set_option linter.unusedVariables false
set_option maxRecDepth 8000 in
theorem plays_no (n : Int) (a : Option Addr) (c m : Nat) (w : World) (hn : n < 1 ∨ 1000 < n) :
    Calls Try.prog 3 #[.int .i64 n, .slice a m c] w fun e w' => e = .returned (.bool true) ∧ Below w.heap.size w w' := by
  have Hn := Lib.hid hn
  clear hn
  go_enter Try.func3, Try.ntmps3
  go_wp2_with fail
  refine (cnew_no n _ Hn.out).mono ?_
  rintro r0 w1 ⟨rfl, rfl⟩
  go_wp2_with fail
  refine (rnew_no n _ Hn.out).mono ?_
  rintro r0 w1 ⟨rfl, rfl⟩
  go_wp2_with fail
  go_loopw [9] (fun i wr => i = .int .i64 0 ∧ wr = w) (fun i _ => 0)
  case atStart => exact ⟨rfl, rfl⟩
  case round =>
    obtain ⟨rfl, rfl⟩ := hrel
    by_cases hm : 0 < m
    · go_wp2_with (go_at_call 18; refine (works_any _).mono ?_; rintro r0 w6 ⟨rfl, hb6⟩)
      go_ret
      exact ⟨rfl, hb6⟩
    · go_wp2_with (go_at_call 18; refine (works_any _).mono ?_; rintro r0 w6 ⟨rfl, hb6⟩)
      go_ret
      exact ⟨rfl, hb6⟩
set_option maxRecDepth 8000 in
set_option maxHeartbeats 1000000 in
theorem plays_walk (n : Int) (a : Option Addr) (c : Nat) (l : List Bool) (w : World) (h : Sl w (.slice a l.length c) (lv l)) (hn1 : 1 ≤ n) (hn2 : n ≤ 1000) :
    Calls Try.prog 3 #[.int .i64 n, .slice a l.length c] w fun e w' => e = .returned (.bool true) ∧ Below w.heap.size w w' := by
  have H := Lib.hid h
  clear h
  go_enter Try.func3, Try.ntmps3
  go_wp2_with fail
  refine (cnew_ok n _ (by omega) (by omega)).mono ?_
  rintro r0 w2 ⟨⟨g, rfl, hg, hk⟩, hb2⟩
  have Hk := Lib.hid hk
  clear hk
  go_wp2_with fail
  refine (rnew_ok n _ (by omega) (by omega)).mono ?_
  rintro r0 w3 ⟨⟨d, rfl, hd, hkd⟩, hb3⟩
  have hkc := Hk.out.below hb3
  have hgd : g < d := by have := Hk.out.lt; omega
  have hb := below_step hb2 hb3
  have Hd := Lib.hid hkd
  have Hc := Lib.hid hkc
  clear hkd hkc Hk hd hb2 hb3
  go_wp2_with fail
  go_loopw [9] (fun i wz => ∃ (k : Nat) (q : Int), k ≤ 500 ∧ i = .int .i64 k ∧ 0 ≤ q ∧ q ≤ n ∧ Ck wz g n q ∧ Rk wz d n q ∧ Below w.heap.size w wz) (fun i _ => 500 - (intOf i).toNat)
  case atStart => exact ⟨0, 0, by omega, rfl, by omega, by omega, Hc.out, Hd.out, hb⟩
  case round =>
    obtain ⟨k, q, hk, rfl, hq0, hqn, hkc, hkd, hbz⟩ := hrel
    clear Hc Hd hb
    have HC := Lib.hid hkc
    have HD := Lib.hid hkd
    clear hkc hkd
    by_cases hkl : k < l.length ∧ k < 500
    · obtain ⟨hk1, hk2⟩ := hkl
      obtain ⟨bb, off, rfl, hll, _⟩ := H.out.at (by omega)
      have CZ : Hid (∀ wz : World, Below w.heap.size w wz → wz.cell? ⟨bb, off + k, none⟩ = some (.bool l[k])) := Lib.hid fun wz hb => H.out.cellAt (by omega) (lv_get l k hk1) hb
      have hcj := CZ.out _ hbz
      clear hll
      have hnd : g ≠ d := by omega
      cases hlk : l[k] with
      | true =>
        rw [hlk] at hcj CZ
        go_wp2_with fail
        refine (tick_at g n q (min (q + 1) n) (decide (n ≤ q + 1)) _ HC.out (by omega) (by omega) (by omega) (by omega) rfl rfl).mono ?_
        rintro r0 w6 ⟨rfl, hk6, hu6⟩
        have HC6 := Lib.hid hk6
        have HD6 := Lib.hid (HD.out.upd hu6 (Ne.symm hnd))
        have hb6 := hbz.trans (hu6.below hg hbz.size)
        clear hk6 hu6 HC HD hbz hcj
        go_wp2_with fail
        refine (rtick_at d n q (min (q + 1) n) (decide (n ≤ q + 1)) _ HD6.out (by omega) (by omega) (by omega) (by omega) (by rw [Bool.eq_iff_iff]; simp; omega) rfl).mono ?_
        rintro r0 w7 ⟨rfl, hk7, hu7⟩
        have HC7 := Lib.hid (HC6.out.upd hu7 hnd)
        have HD7 := Lib.hid hk7
        have hb7 := hb6.trans (hu7.below (by omega) hb6.size)
        clear hk7 hu7 HC6 HD6 hb6
        go_wp2_with fail
        refine (left_at g n (min (q + 1) n) (n - min (q + 1) n) _ HC7.out (by omega) (by omega) (by omega) (by omega) rfl).mono ?_
        rintro r0 w8 ⟨rfl, hk8, hu8⟩
        have HC8 := Lib.hid hk8
        have HD8 := Lib.hid (HD7.out.upd hu8 (Ne.symm hnd))
        have hb8 := hb7.trans (hu8.below hg hb7.size)
        clear hk8 hu8 HC7 HD7 hb7
        go_wp2_with fail
        refine (rleft_ok d n (min (q + 1) n) _ HD8.out (by omega) (by omega) (by omega) (by omega)).mono ?_
        rintro r0 w9 ⟨rfl, hk9, hu9⟩
        have HC9 := Lib.hid (HC8.out.upd hu9 hnd)
        have HD9 := Lib.hid hk9
        have hb9 := hb8.trans (hu9.below (by omega) hb8.size)
        clear hk9 hu9 HC8 HD8 hb8
        go_wp2_with (first | (go_at_call 16; refine (limit_ok g n _ _ HC9.out (by omega)).mono ?_; rintro r0 w5 ⟨rfl, rfl⟩) | (go_at_call 17; refine (rlimit_ok d n _ _ HD9.out).mono ?_; rintro r0 w5 ⟨rfl, rfl⟩))
        go_roundw
        case rel => exact ⟨k + 1, min (q + 1) n, by omega, by go_num, by omega, by omega, HC9.out, HD9.out, hb9⟩
        case measure => simp [intOf]; omega
      | false =>
        rw [hlk] at hcj CZ
        go_wp2_with fail
        refine (creset_ok g n _ _ HC.out (by omega)).mono ?_
        rintro r0 w6 ⟨⟨x6, rfl⟩, hk6, hu6⟩
        have HC6 := Lib.hid hk6
        have HD6 := Lib.hid (HD.out.upd hu6 (Ne.symm hnd))
        have hb6 := hbz.trans (hu6.below hg hbz.size)
        clear hk6 hu6 HC HD hbz hcj
        go_wp2_with fail
        refine (rreset_ok d n _ _ HD6.out).mono ?_
        rintro r0 w7 ⟨⟨x7, rfl⟩, hk7, hu7⟩
        have HC7 := Lib.hid (HC6.out.upd hu7 hnd)
        have HD7 := Lib.hid hk7
        have hb7 := hb6.trans (hu7.below (by omega) hb6.size)
        clear hk7 hu7 HC6 HD6 hb6
        go_wp2_with fail
        refine (left_at g n 0 (n - 0) _ HC7.out (by omega) (by omega) (by omega) (by omega) (by omega)).mono ?_
        rintro r0 w8 ⟨rfl, hk8, hu8⟩
        have HC8 := Lib.hid hk8
        have HD8 := Lib.hid (HD7.out.upd hu8 (Ne.symm hnd))
        have hb8 := hb7.trans (hu8.below hg hb7.size)
        clear hk8 hu8 HC7 HD7 hb7
        go_wp2_with fail
        refine (rleft_ok d n 0 _ HD8.out (by omega) (by omega) (by omega) (by omega)).mono ?_
        rintro r0 w9 ⟨rfl, hk9, hu9⟩
        have HC9 := Lib.hid (HC8.out.upd hu9 hnd)
        have HD9 := Lib.hid hk9
        have hb9 := hb8.trans (hu9.below (by omega) hb8.size)
        clear hk9 hu9 HC8 HD8 hb8
        go_wp2_with (first | (go_at_call 16; refine (limit_ok g n _ _ HC9.out (by omega)).mono ?_; rintro r0 w5 ⟨rfl, rfl⟩) | (go_at_call 17; refine (rlimit_ok d n _ _ HD9.out).mono ?_; rintro r0 w5 ⟨rfl, rfl⟩))
        go_roundw
        case rel => exact ⟨k + 1, 0, by omega, by go_num, by omega, by omega, HC9.out, HD9.out, hb9⟩
        case measure => simp [intOf]; omega
    · by_cases hk1 : k < l.length
      · have hk2 : ¬ k < 500 := by omega
        clear hkl
        go_wp2_with (go_at_call 18; refine (works_any _).mono ?_; rintro r0 w6 ⟨rfl, hb6⟩)
        go_ret
        exact ⟨rfl, below_step hbz hb6⟩
      · clear hkl
        go_wp2_with (go_at_call 18; refine (works_any _).mono ?_; rintro r0 w6 ⟨rfl, hb6⟩)
        go_ret
        exact ⟨rfl, below_step hbz hb6⟩
theorem plays_any (n : Int) (a : Option Addr) (c : Nat) (l : List Bool) (w : World) (h : Sl w (.slice a l.length c) (lv l)) :
    Calls Try.prog 3 #[.int .i64 n, .slice a l.length c] w fun e w' => e = .returned (.bool true) ∧ Below w.heap.size w w' := by
  by_cases hn : 1 ≤ n ∧ n ≤ 1000
  · exact plays_walk n a c l w h hn.1 hn.2
  · exact plays_no n a c l.length w (by omega)
end Go.Proofs.Ytbiohldgcdfafaa
