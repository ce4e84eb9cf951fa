/- Acks: what they are; their calls. -/
import Derived.Test.YtidbniigfkocpaaQuorum
import Derived.Test.YtidbniigfkocpaaInts
import Derived.Deep.RegionHeld3
import Derived.Deep.QuietTactic
import Derived.BigQuiet
import Derived.StillTailTactics
namespace Go.Proofs.Ytidbniigfkocpaa
open Go.RowKit
set_option linter.unusedVariables false
set_option linter.unusedSimpArgs false
def ackCells (n : Int) (A : List Int) : Array Value := (Value.int .i64 n :: A.map (Value.int .i64)).toArray
abbrev AckT (g : Nat) (n : Int) (A : List Int) : Thing := Cl g (ackCells n A) 65
theorem Sep.ackN {w0 w : World} {g : Nat} {n : Int} {A : List Int} {L : List Thing} (h : Sep w0 (AckT g n A :: L) w) : w.cell? ⟨g, 0, none⟩ = some (.int .i64 n) := h.cell (by simp [ackCells])
theorem Sep.ackAt {w0 w : World} {g : Nat} {n : Int} {A : List Int} {L : List Thing} (h : Sep w0 (AckT g n A :: L) w) (j : Nat) (hj : j < A.length) : w.cell? ⟨g, 1 + j, none⟩ = some (.int .i64 A[j]) :=
  h.cell (by simp [ackCells, show 1 + j = j + 1 by omega, hj])
theorem Sep.ackSet {w0 w : World} {g : Nat} {n : Int} {A : List Int} {L : List Thing} (h : Sep w0 (AckT g n A :: L) w) (j : Nat) (x : Int) (hj : j < A.length) : Sep w0 (AckT g n (A.set j x) :: L) (w.setCell ⟨g, 1 + j, none⟩ (.int .i64 x)) := by
  have h1 := h.setCell (1 + j) (.int .i64 x)
  have : (ackCells n A).setIfInBounds (1 + j) (.int .i64 x) = ackCells n (A.set j x) := by
    unfold ackCells
    rw [show 1 + j = j + 1 by omega]
    simp [List.map_set]
  rwa [this] at h1
set_option maxRecDepth 100000 in
theorem anone_any {w0 w : World} {g : Nat} {n : Int} {A : List Int} {L : List Thing} (h : Sep w0 (AckT g n A :: L) w) (hn : n ≠ 0) :
    Calls Try.prog 35 #[.pointer (some ⟨g, 0, none⟩)] w fun e w' => e = .returned (.bool false) ∧ w = w' := by
  have c0 := h.ackN
  have hz : (n == 0) = false := beq_eq_false_iff_ne.2 hn
  clear h hn
  go_enter Try.func35, Try.ntmps35
  go_wp2
  go_ret
  exact ⟨rfl, rfl⟩
set_option maxRecDepth 100000 in
theorem newAcks_bad (n : Int) (w : World) (hn : I64 n) (h : enough n = 0) :
    Calls Try.prog 21 #[.int .i64 n] w fun e w' => e = .returned (.tuple #[.pointer none, .int .i64 2]) ∧ w = w' := by
  have he := enough_any n w hn
  rw [h] at he
  have HE := Lib.hid he
  clear he h hn
  go_enter Try.func21, Try.ntmps21
  go_wp2_with fail
  refine HE.out.mono ?_
  rintro r0 w1 ⟨rfl, rfl⟩
  go_wp2_with fail
  go_ret2
  exact ⟨rfl, rfl⟩
set_option maxRecDepth 100000 in
theorem newAcks_ok {w0 : World} {L : List Thing} (n : Int) (w : World) (hs : Sep w0 L w) (hn : I64 n) (h : enough n ≠ 0) :
    Calls Try.prog 21 #[.int .i64 n] w fun e w' => ∃ g, e = .returned (.tuple #[.pointer (some ⟨g, 0, none⟩), .int .i64 0]) ∧ Sep w0 (AckT g n (List.replicate 15 0) :: L) w' := by
  have he := enough_any n w hn
  have hz : (enough n == 0) = false := beq_eq_false_iff_ne.2 h
  have HE := Lib.hid he
  have h1 := hs.alloc (.cells (ackCells n (List.replicate 15 0)) 65)
  have H1 := Lib.hid h1
  clear he h hn h1 hs
  go_enter Try.func21, Try.ntmps21
  go_wp2_with fail
  refine HE.out.mono ?_
  rintro r0 w1 ⟨rfl, rfl⟩
  go_wp2_with fail
  go_ret2
  exact ⟨_, rfl, H1.out⟩
set_option maxRecDepth 100000 in
theorem note_range {w0 w : World} {g : Nat} {n : Int} {A : List Int} {L : List Thing} (who op : Int) (h : Sep w0 (AckT g n A :: L) w) (hn : n ≠ 0) (hw : who < 0 ∨ n ≤ who) :
    Calls Try.prog 23 #[.pointer (some ⟨g, 0, none⟩), .int .i64 who, .int .i64 op] w fun e w' => e = .returned (.int .i64 9) ∧ w = w' := by
  have c0 := h.ackN
  have HN := Lib.hid (anone_any h hn)
  clear h hn
  by_cases h0 : who < 0
  · clear hw
    go_enter Try.func23, Try.ntmps23
    go_wp2_with fail
    refine HN.out.mono ?_
    rintro r0 w1 ⟨rfl, rfl⟩
    go_wp2_with fail
    go_ret
    exact ⟨rfl, rfl⟩
  · have h1 : n ≤ who := by omega
    clear hw
    go_enter Try.func23, Try.ntmps23
    go_wp2_with fail
    refine HN.out.mono ?_
    rintro r0 w1 ⟨rfl, rfl⟩
    go_wp2_with fail
    go_ret
    exact ⟨rfl, rfl⟩
set_option maxRecDepth 100000 in
theorem note_arg {w0 w : World} {g : Nat} {n : Int} {A : List Int} {L : List Thing} (who op : Int) (h : Sep w0 (AckT g n A :: L) w) (hn : n ≠ 0) (h0 : 0 ≤ who) (h1 : who < n) (h2 : op < 0) :
    Calls Try.prog 23 #[.pointer (some ⟨g, 0, none⟩), .int .i64 who, .int .i64 op] w fun e w' => e = .returned (.int .i64 2) ∧ w = w' := by
  have c0 := h.ackN
  have HN := Lib.hid (anone_any h hn)
  clear h hn
  go_enter Try.func23, Try.ntmps23
  go_wp2_with fail
  refine HN.out.mono ?_
  rintro r0 w1 ⟨rfl, rfl⟩
  go_wp2_with fail
  go_ret
  exact ⟨rfl, rfl⟩
set_option maxRecDepth 100000 in
theorem note_ok {w0 w : World} {g n : Nat} {A : List Int} {L : List Thing} (who : Nat) (op : Int) (h : Sep w0 (AckT g n A :: L) w) (hw : who < n) (hn : n ≤ 15) (hA : A.length = 15) (h2 : 0 ≤ op) :
    Calls Try.prog 23 #[.pointer (some ⟨g, 0, none⟩), .int .i64 who, .int .i64 op] w fun e w' => e = .returned (.int .i64 0) ∧ Sep w0 (AckT g n (A.set who (max (A[who]?.getD 0) op)) :: L) w' := by
  have c0 := h.ackN
  have hlt : who < A.length := by omega
  have c1 := h.ackAt who hlt
  have f1 := h.frozen (1 + who)
  have hset := (h.ackSet who (max (A[who]?.getD 0) op) hlt).drew
  rw [List.getElem?_eq_getElem hlt, Option.getD_some] at hset ⊢
  have HN := Lib.hid (anone_any h (by omega))
  have HS := Lib.hid hset
  generalize A[who] = v at *
  have k0 : (0 : Int) ≤ (who : Int) := by omega
  have k1 : (who : Int) < (n : Int) := by omega
  have k2 : decide (who < n) = true := decide_eq_true hw
  have k3 : decide (n ≤ who) = false := decide_eq_false (by omega)
  have k4 : (who : Int) < 15 := by omega
  clear h hset hlt hA
  by_cases hvo : v < op
  · rw [show max v op = op by omega] at HS ⊢
    go_enter Try.func23, Try.ntmps23
    go_wp2_with fail
    refine HN.out.mono ?_
    rintro r0 w1 ⟨rfl, rfl⟩
    go_wp2_with fail
    go_still_tail 13, (by kernel_rfl)
    change wpList _ _ _ _ _ w.drew
    all_goals
      go_wp2_with fail
      go_ret
      exact ⟨rfl, HS.out⟩
  · rw [show max v op = v by omega] at HS ⊢
    have hif : (if v < op then op else v) = v := if_neg hvo
    go_enter Try.func23, Try.ntmps23
    go_wp2_with fail
    refine HN.out.mono ?_
    rintro r0 w1 ⟨rfl, rfl⟩
    go_wp2_with fail
    go_still_tail 13, (by kernel_rfl)
    change wpList _ _ _ _ _ w.drew
    all_goals
      go_wp2_with fail
      go_ret
      exact ⟨rfl, HS.out⟩
set_option maxRecDepth 100000 in
theorem of_none {w0 w : World} {g : Nat} {n : Int} {A : List Int} {L : List Thing} (who : Int) (h : Sep w0 (AckT g n A :: L) w) (hn : n ≠ 0) (hw : who < 0 ∨ n ≤ who) :
    Calls Try.prog 27 #[.pointer (some ⟨g, 0, none⟩), .int .i64 who] w fun e w' => e = .returned (.int .i64 0) ∧ w = w' := by
  have c0 := h.ackN
  have HN := Lib.hid (anone_any h hn)
  clear h hn
  by_cases h0 : who < 0
  · clear hw
    go_enter Try.func27, Try.ntmps27
    go_wp2_with fail
    refine HN.out.mono ?_
    rintro r0 w1 ⟨rfl, rfl⟩
    go_wp2_with fail
    go_ret
    exact ⟨rfl, rfl⟩
  · have h1 : n ≤ who := by omega
    clear hw
    go_enter Try.func27, Try.ntmps27
    go_wp2_with fail
    refine HN.out.mono ?_
    rintro r0 w1 ⟨rfl, rfl⟩
    go_wp2_with fail
    go_ret
    exact ⟨rfl, rfl⟩
set_option maxRecDepth 100000 in
theorem of_ok {w0 w : World} {g n : Nat} {A : List Int} {L : List Thing} (who : Nat) (h : Sep w0 (AckT g n A :: L) w) (hw : who < n) (hn : n ≤ 15) (hA : A.length = 15) :
    Calls Try.prog 27 #[.pointer (some ⟨g, 0, none⟩), .int .i64 who] w fun e w' => e = .returned (.int .i64 (A[who]?.getD 0)) ∧ w = w' := by
  have c0 := h.ackN
  have hlt : who < A.length := by omega
  have c1 := h.ackAt who hlt
  rw [List.getElem?_eq_getElem hlt, Option.getD_some]
  have HN := Lib.hid (anone_any h (by omega))
  generalize A[who] = v at *
  have k0 : (0 : Int) ≤ (who : Int) := by omega
  have k1 : (who : Int) < (n : Int) := by omega
  have k2 : decide (who < n) = true := decide_eq_true hw
  have k3 : decide (n ≤ who) = false := decide_eq_false (by omega)
  have k4 : (who : Int) < 15 := by omega
  clear h hlt hA
  go_enter Try.func27, Try.ntmps27
  go_wp2_with fail
  refine HN.out.mono ?_
  rintro r0 w1 ⟨rfl, rfl⟩
  go_wp2_with fail
  go_ret
  exact ⟨rfl, rfl⟩
end Go.Proofs.Ytidbniigfkocpaa
