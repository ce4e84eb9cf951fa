/- The walk of QuorumAcks. -/
import Derived.Test.YtidbniigfkocpaaRefSure
namespace Go.Proofs.Ytidbniigfkocpaa
open Go.RowKit
set_option linter.unusedVariables false
set_option linter.unusedSimpArgs false
def doCells (x : Bal) (who op : Int) : Array Value := #[.int .i64 x.1.1, .int .i64 x.1.2.1, .int .i64 x.1.2.2.1, .int .i64 x.1.2.2.2.1, .int .i64 x.1.2.2.2.2, .int .i64 who, .int .i64 op]
set_option maxRecDepth 100000 in
set_option maxHeartbeats 8000000 in
theorem qacks_any (n0 : Int) (a : Option Addr) (len cap : Nat) (w : World) (hn0 : I64 n0) (h : Dos w a len) (hlc : len ≤ cap) (hcm : cap ≤ maxLen) :
    Calls Try.prog 4 #[.int .i64 n0, .slice a len cap] w fun e w' => e = .returned (.bool true) ∧ Below w.heap.size w w' := by
  have HD := Lib.hid h
  have hlen : (len : Int) ≤ 9223372036854775807 := by unfold maxLen at hcm; omega
  clear h hlc hcm
  by_cases hen : enough n0 = 0
  · have HB1 := Lib.hid (newAcks_bad n0 w hn0 hen)
    have HB2 := Lib.hid (rnewAcks_bad n0 w hn0 hen)
    clear hen
    go_enter Try.func4, Try.ntmps4
    go_wp2_with fail
    refine HB1.out.mono ?_
    rintro r0 w1 ⟨rfl, rfl⟩
    go_wp2_with fail
    refine HB2.out.mono ?_
    rintro r0 w1 ⟨rfl, rfl⟩
    by_cases hl0 : 0 < len
    · have l0 : decide (0 < len) = true := decide_eq_true hl0
      go_wp2_with fail
      go_loopw [9] (fun i wz => i = .int .i64 0 ∧ wz = w) (fun i _ => 0)
      case atStart => exact ⟨rfl, rfl⟩
      case round =>
        obtain ⟨rfl, rfl⟩ := hrel
        go_wp2_with fail
        refine (qworks_any _).mono ?_
        rintro r3 w4 ⟨rfl, h4⟩
        have H4 := Lib.hid h4
        clear h4
        go_wp2_with fail
        go_ret
        exact ⟨rfl, H4.out⟩
    · have l0 : decide (0 < len) = false := decide_eq_false hl0
      go_wp2_with fail
      go_loopw [9] (fun i wz => i = .int .i64 0 ∧ wz = w) (fun i _ => 0)
      case atStart => exact ⟨rfl, rfl⟩
      case round =>
        obtain ⟨rfl, rfl⟩ := hrel
        go_wp2_with fail
        refine (qworks_any _).mono ?_
        rintro r3 w4 ⟨rfl, h4⟩
        have H4 := Lib.hid h4
        clear h4
        go_wp2_with fail
        go_ret
        exact ⟨rfl, H4.out⟩
  · obtain ⟨n, rfl, hn3, hn15⟩ : ∃ n : Nat, n0 = n ∧ 3 ≤ n ∧ n ≤ 15 := by
      unfold enough at hen
      split at hen
      · exact ⟨n0.toNat, by omega, by omega, by omega⟩
      · exact absurd rfl hen
    have HX := Lib.hid hen
    clear hen
    go_enter Try.func4, Try.ntmps4
    go_wp2_with fail
    refine (newAcks_ok n _ (Sep.start w) (by unfold I64; omega) HX.out).mono ?_
    rintro r0 w1 ⟨g, rfl, h1⟩
    have H1 := Lib.hid h1
    clear h1
    go_wp2_with fail
    refine (rnewAcks_ok n _ H1.out (by unfold I64; omega) HX.out).mono ?_
    rintro r0 w2 ⟨m, rfl, h2⟩
    have H2 := Lib.hid h2
    clear h2 H1
    go_wp2_with fail
    go_loopw [9] (fun i wr => ∃ (k : Nat) (A : List Int), k ≤ len ∧ k ≤ 80 ∧ i = .int .i64 k ∧ A.length = 15 ∧ (∀ x ∈ A, 0 ≤ x) ∧ Sep w [RAckT m n A, AckT g n A] wr) (fun i _ => 80 - (intOf i).toNat)
    case atStart => exact ⟨0, List.replicate 15 0, by omega, by omega, rfl, rfl, (fun x hx => by rw [List.mem_replicate] at hx; omega), H2.out⟩
    case round =>
      obtain ⟨k, A, hk, hk80, rfl, hA, hp, hs⟩ := hrel
      clear H2
      have HS := Lib.hid hs
      have HA := Lib.hid (show A.length = 15 ∧ (∀ x ∈ A, 0 ≤ x) from ⟨hA, hp⟩)
      clear hs hA hp
      have k0 : (0 : Int) ≤ (k : Int) := by omega
      by_cases hkl : k < len ∧ k < 80
      · obtain ⟨hk1, hk2⟩ := hkl
        have hd1 : decide (k < len) = true := decide_eq_true hk1
        have hd2 : decide ((k : Int) < 80) = true := decide_eq_true (by omega)
        obtain ⟨b, off, rfl, x, who, op, hw1, hw2, hcell⟩ := HD.out.at hk1
        obtain ⟨c0, c1, c2, c3, c4, c5, c6⟩ := hcell wr HS.out.low
        have kl : (k : Int) < (len : Int) := by omega
        have h3 := HS.out.alloc (.cells (doCells x who op) 36)
        obtain ⟨bq, hbq⟩ : ∃ z, z = wr.heap.size := ⟨_, rfl⟩
        obtain ⟨wq, hwq⟩ : ∃ z, z = wr.alloc (.cells (doCells x who op) 36) := ⟨_, rfl⟩
        rw [← hbq, ← hwq] at h3
        have d5 := h3.cell (o := 5) (x := .int .i64 who) rfl
        have d6 := h3.cell (o := 6) (x := .int .i64 op) rfl
        have H3 := Lib.hid h3
        clear hcell hw1 hw2 hk1 hk2 h3 HS
        go_wp2_with fail
        rw [show wr.alloc (.cells #[.int .i64 x.1.1, .int .i64 x.1.2.1, .int .i64 x.1.2.2.1, .int .i64 x.1.2.2.2.1, .int .i64 x.1.2.2.2.2, .int .i64 who, .int .i64 op] 36) = wq from hwq.symm, ← hbq]
        clear hwq hbq c0 c1 c2 c3 c4 c5 c6
        have HE0 : Hid (∀ wx, Sep w [Cl bq (doCells x who op) 36, RAckT m n A, AckT g n A] wx → Calls Try.prog 23 #[.pointer (some ⟨g, 0, none⟩), .int .i64 who, .int .i64 op] wx fun e w' => e = .returned (.int .i64 (noteE n who op)) ∧ Sep w [AckT g n (noteA n A who op), Cl bq (doCells x who op) 36, RAckT m n A] w') := Lib.hid fun wx hx => note_all who op hx.sw3 (by omega) hn15 HA.out.1
        have HE1 : Hid (∀ wx, Sep w [AckT g n (noteA n A who op), Cl bq (doCells x who op) 36, RAckT m n A] wx → Calls Try.prog 24 #[.pointer (some ⟨m, 0, none⟩), .int .i64 who, .int .i64 op] wx fun e w' => e = .returned (.int .i64 (noteE n who op)) ∧ Sep w [RAckT m n (noteA n A who op), AckT g n (noteA n A who op), Cl bq (doCells x who op) 36] w') := Lib.hid fun wx hx => rnote_all who op hx.sw3 hn15 HA.out.1
        have HB := Lib.hid (show (noteA n A who op).length = 15 ∧ (∀ x ∈ noteA n A who op, 0 ≤ x) from ⟨noteA_len HA.out.1, noteA_pos HA.out.2⟩)
        generalize noteA n A who op = B at *
        generalize noteE n who op = ee at *
        have g0 : (ee != ee) = false := by simp
        have g1 : (sureOf n B != sureOf n B) = false := by simp
        have g2 : (ofV n B who != ofV n B who) = false := by simp
        go_region_held3 (fun w' => w'.cell? ⟨bq, 5, none⟩ = some (.int .i64 who) ∧ w'.cell? ⟨bq, 6, none⟩ = some (.int .i64 op)) (first | go_keep | (exact ⟨by assumption, by assumption⟩)) (first
          | (go_at_call 23; refine Calls.mono (HE0.out _ H3.out.drew) ?_; rintro r1 v1 ⟨rfl, h4⟩; have e5 := h4.sw2.cell (o := 5) (x := .int .i64 who) rfl; have e6 := h4.sw2.cell (o := 6) (x := .int .i64 op) rfl; have H4 := Lib.hid h4; clear h4)
          | (go_at_call 24; refine Calls.mono (HE1.out _ H4.out) ?_; rintro r2 v2 ⟨rfl, h5⟩; have i5 := h5.sw3.cell (o := 5) (x := .int .i64 who) rfl; have i6 := h5.sw3.cell (o := 6) (x := .int .i64 op) rfl; have H5 := Lib.hid h5; clear h5)
          | (go_at_call 25; refine Calls.mono (sure_any H5.out.sw2 HX.out HB.out.1) ?_; rintro r3 v3 ⟨rfl, h6⟩; have j5 := h6.sw3.cell (o := 5) (x := .int .i64 who) rfl; have j6 := h6.sw3.cell (o := 6) (x := .int .i64 op) rfl; have H6 := Lib.hid h6; clear h6)
          | (go_at_call 26; refine Calls.mono (rsure_any H6.out.sw2 HX.out HB.out.1 HB.out.2) ?_; rintro r4 v4 ⟨rfl, h7⟩; have l5 := h7.sw3.cell (o := 5) (x := .int .i64 who) rfl; have l6 := h7.sw3.cell (o := 6) (x := .int .i64 op) rfl; have H7 := Lib.hid h7; clear h7)
          | (go_at_call 27; refine Calls.mono (of_all who H7.out.sw2 (by omega) hn15 HB.out.1) ?_; rintro r5 v5 ⟨rfl, h8⟩; have m5 := h8.sw3.cell (o := 5) (x := .int .i64 who) rfl; have m6 := h8.sw3.cell (o := 6) (x := .int .i64 op) rfl; have H8 := Lib.hid h8; clear h8)
          | (go_at_call 28; refine Calls.mono (rof_all who H8.out.sw2 hn15 HB.out.1) ?_; rintro r6 v6 ⟨rfl, h9⟩; have n5 := h9.sw3.cell (o := 5) (x := .int .i64 who) rfl; have n6 := h9.sw3.cell (o := 6) (x := .int .i64 op) rfl; have H9 := Lib.hid h9; clear h9))
        all_goals
          have HF := Lib.hid H9.out.sw3.drop
          clear HE0 HE1 H3 H4 H5 H6 H7 H8 H9 d5 d6 e5 e6 i5 i6 j5 j6 l5 l6 m5 m6 n5 n6
          go_wp2_with fail
          go_roundw
          case rel => exact ⟨k + 1, B, of_decide_eq_true hd1, by have := of_decide_eq_true hd2; omega, by go_num, HB.out.1, HB.out.2, HF.out⟩
          case measure => have := of_decide_eq_true hd2; simp [intOf]; omega
      · have HS2 := Lib.hid HS.out.low
        by_cases hk1 : k < len
        · have hd1 : decide (k < len) = true := decide_eq_true hk1
          have hd2 : decide ((k : Int) < 80) = false := decide_eq_false (by omega)
          clear HS HA hkl
          go_wp2_with fail
          refine (qworks_any _).mono ?_
          rintro r3 w4 ⟨rfl, h4⟩
          have H4 := Lib.hid (below_step HS2.out h4)
          clear h4
          go_wp2_with fail
          go_ret
          exact ⟨rfl, H4.out⟩
        · have hd1 : decide (k < len) = false := decide_eq_false hk1
          clear HS HA hkl
          go_wp2_with fail
          refine (qworks_any _).mono ?_
          rintro r3 w4 ⟨rfl, h4⟩
          have H4 := Lib.hid (below_step HS2.out h4)
          clear h4
          go_wp2_with fail
          go_ret
          exact ⟨rfl, H4.out⟩
end Go.Proofs.Ytidbniigfkocpaa
