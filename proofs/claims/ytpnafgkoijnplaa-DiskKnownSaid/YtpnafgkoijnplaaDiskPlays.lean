/- The walk of DiskPlays. -/
import Derived.Test.YtpnafgkoijnplaaDiskStep5
import Derived.Test.YtpnafgkoijnplaaDiskDos
namespace Go.Proofs.Ytpnafgkoijnplaa
open Go.RowKit
set_option linter.unusedVariables false
theorem step_any {w0 w : World} {L : List Thing} {g m : Nat} (D : DS) (kind nn : Int) (a : Option Addr) (c : Nat) (l : List UInt8) (raw : Bool) (h : Sep w0 (DiskT g D :: RefT m D :: L) w) (hv : Sl w0 (.slice a l.length c) (bv l)) (hlc : l.length ≤ c) (hl : l.length ≤ 300) (hok : D.ok) :
    Calls Try.prog 11 #[.pointer (some ⟨g, 0, none⟩), .pointer (some ⟨m, 0, none⟩), .agg #[.int .i64 kind, .int .i64 nn, .slice a l.length c, .bool raw]] w fun e w' => e = .returned (.bool true) ∧ ∃ D', D'.ok ∧ Sep w0 (DiskT g D' :: RefT m D' :: L) w' := by
  have hd : ∀ kk : Int, kind % 10 = kk → kk = 0 ∨ kk = 1 ∨ kk = 2 → Calls Try.prog 11 #[.pointer (some ⟨g, 0, none⟩), .pointer (some ⟨m, 0, none⟩), .agg #[.int .i64 kind, .int .i64 nn, .slice a l.length c, .bool raw]] w fun e w' => e = .returned (.bool true) ∧ ∃ D', D'.ok ∧ Sep w0 (DiskT g D' :: RefT m D' :: L) w' := by
    intro kk hkk h3
    have e : ∀ q : Int, 3 ≤ q → (kk == q) = false := fun q hq => beq_eq_false_iff_ne.2 (by omega)
    cases raw
    · exact step_d_f D kind nn kk a c l h hv hlc hl hok hkk (e 3 (by decide)) (e 4 (by decide)) (e 5 (by decide)) (e 6 (by decide)) (e 7 (by decide)) (e 8 (by decide)) (e 9 (by decide))
    · exact step_d_t D kind nn kk a c l h hv hlc hl hok hkk (e 3 (by decide)) (e 4 (by decide)) (e 5 (by decide)) (e 6 (by decide)) (e 7 (by decide)) (e 8 (by decide)) (e 9 (by decide))
  obtain hk | hk | hk | hk | hk | hk | hk | hk | hk | hk : kind % 10 = 0 ∨ kind % 10 = 1 ∨ kind % 10 = 2 ∨ kind % 10 = 3 ∨ kind % 10 = 4 ∨ kind % 10 = 5 ∨ kind % 10 = 6 ∨ kind % 10 = 7 ∨ kind % 10 = 8 ∨ kind % 10 = 9 := by omega
  · exact hd _ hk (by omega)
  · exact hd _ hk (by omega)
  · exact hd _ hk (by omega)
  · cases raw
    · exact step_3_f D kind nn a c l h hv hlc hl hok hk
    · exact step_3_t D kind nn a c l h hv hlc hl hok hk
  · cases raw
    · exact step_4_f D kind nn a c l h hv hlc hl hok hk
    · exact step_4_t D kind nn a c l h hv hlc hl hok hk
  · cases raw
    · exact step_5_f D kind nn a c l h hv hlc hl hok hk
    · exact step_5_t D kind nn a c l h hv hlc hl hok hk
  · cases raw
    · exact step_6_f D kind nn a c l h hv hlc hl hok hk
    · exact step_6_t D kind nn a c l h hv hlc hl hok hk
  · cases raw
    · exact step_7_f D kind nn a c l h hv hlc hl hok hk
    · exact step_7_t D kind nn a c l h hv hlc hl hok hk
  · cases raw
    · exact step_8_f D kind nn a c l h hv hlc hl hok hk
    · exact step_8_t D kind nn a c l h hv hlc hl hok hk
  · cases raw
    · exact step_9_f D kind nn a c l h hv hlc hl hok hk
    · exact step_9_t D kind nn a c l h hv hlc hl hok hk
set_option maxRecDepth 8000 in
set_option maxHeartbeats 4000000 in
theorem dplays_any (a : Option Addr) (len cap : Nat) (w : World) (h : Dos w a len) (hlc : len ≤ cap) (hcm : cap ≤ maxLen) :
    Calls Try.prog 3 #[.slice a len cap] w fun e w' => e = .returned (.bool true) ∧ Below w.heap.size w w' := by
  have H := Lib.hid h
  have hl63 : len ≤ 9223372036854775807 := by unfold maxLen at hcm; omega
  clear h hcm hlc
  go_enter Try.func3, Try.ntmps3
  go_wp2_with fail
  refine (new_any (Sep.start w)).mono ?_
  rintro r0 w1 ⟨g, rfl, h1⟩
  go_wp2_with fail
  refine (rnew_any h1).mono ?_
  rintro r0 w2 ⟨m, rfl, h2⟩
  have HS0 := Lib.hid h2.sw2
  clear h1 h2
  go_wp2_with fail
  go_loopw [5] (fun i wr => ∃ (k : Nat) (D : DS), k ≤ len ∧ k ≤ 100 ∧ i = .int .i64 k ∧ D.ok ∧ Sep w [DiskT g D, RefT m D] wr) (fun i _ => 100 - (intOf i).toNat)
  case atStart => exact ⟨0, ⟨[], [], [], false, none⟩, by omega, by omega, rfl, ⟨by simp, by simp, by simp⟩, HS0.out⟩
  case round =>
    obtain ⟨k, D, hk, hk100, rfl, hok, hs⟩ := hrel
    clear HS0
    have HS := Lib.hid hs
    have HOK := Lib.hid hok
    clear hs hok
    have k0 : (0 : Int) ≤ (k : Int) := by omega
    by_cases hkl : k < len ∧ k < 100
    · obtain ⟨hk1, hk2⟩ := hkl
      obtain ⟨b, off, rfl, hb, cs, hcell, kd, n, ab, cb, lb, raw, rfl, hbc, hbm, hsb⟩ := H.out k hk1
      have hb' := HS.out.low
      have c0 := (hb'.cell (p := ⟨b, off + k * 4, none⟩) hb).trans (hcell 0 (by simp))
      have c1 := (hb'.cell (p := ⟨b, off + k * 4 + 1, none⟩) hb).trans (hcell 1 (by simp))
      have c2 := (hb'.cell (p := ⟨b, off + k * 4 + 2, none⟩) hb).trans (hcell 2 (by simp))
      have c3 := (hb'.cell (p := ⟨b, off + k * 4 + 3, none⟩) hb).trans (hcell 3 (by simp))
      simp only [List.getElem_cons_zero, List.getElem_cons_succ] at c0 c1 c2 c3
      obtain ⟨q, hq, hq300, hmin, _⟩ := min_len lb.length 300
      rw [show ((300 : Nat) : Int) = 300 from rfl] at hmin
      obtain ⟨bb, hbb⟩ : ∃ x, x = lb.take q := ⟨_, rfl⟩
      have hbl : bb.length = q := by rw [hbb, List.length_take]; omega
      have hp := sl_pre hsb hq
      rw [← hbb, ← hbl] at hp
      have HP := Lib.hid hp
      have HL := Lib.hid hbl
      have hkL : (k : Int) < (len : Int) := by omega
      have z0 : (0 : Int) ≤ (q : Int) := by omega
      have z1 : (q : Int) ≤ (cb : Int) := by omega
      have hqc : q ≤ cb := by omega
      unfold maxLen at hbm
      have hst := step_any D kd n ab cb bb raw (HS.out.alloc0 (.cells #[.int .i64 kd, .int .i64 n, .slice ab q cb, .bool raw] 29)) HP.out (by omega) (by omega) HOK.out
      rw [hbl] at hst
      have HST := Lib.hid hst
      clear hp hbl hsb hbb hcell hb' hb hst
      go_wp2_with fail
      refine HST.out.mono ?_
      rintro r0 w3 ⟨rfl, D', hok', h3⟩
      have HOK' := Lib.hid hok'
      have H3 := Lib.hid h3
      clear hok' h3 HST HS HOK c0 c1 c2 c3 hmin
      go_wp2_with fail
      refine (same_any D' H3.out HOK'.out.1 (by have := HOK'.out.2.1; omega) (by have := HOK'.out.2.2; omega)).mono ?_
      rintro r0 w4 ⟨rfl, h4⟩
      have H4 := Lib.hid h4
      clear h4 H3
      go_wp2_with fail
      go_roundw
      case rel => exact ⟨k + 1, D', by omega, by omega, by go_num, HOK'.out, H4.out⟩
      case measure => simp [intOf]; omega
    · go_wp2_with fail
      all_goals
        refine (same_any D HS.out HOK.out.1 (by have := HOK.out.2.1; omega) (by have := HOK.out.2.2; omega)).mono ?_
        rintro r0 w4 ⟨rfl, h4⟩
        have H4 := Lib.hid h4.low
        clear h4
        go_wp2_with fail
        refine (works_any _).mono ?_
        rintro r0 w5 ⟨rfl, hb5⟩
        have HF := Lib.hid (below_step H4.out hb5)
        clear hb5
        go_wp2_with fail
        go_ret
        exact ⟨rfl, HF.out⟩
end Go.Proofs.Ytpnafgkoijnplaa
