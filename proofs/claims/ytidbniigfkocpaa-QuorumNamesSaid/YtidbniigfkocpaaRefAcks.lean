/- The document's acks. -/
import Derived.Test.YtidbniigfkocpaaQSure
namespace Go.Proofs.Ytidbniigfkocpaa
open Go.RowKit
set_option linter.unusedVariables false
set_option linter.unusedSimpArgs false
set_option maxRecDepth 100000 in
theorem renough_any (n : Int) (w : World) (hn : I64 n) : Calls Try.prog 11 #[.int .i64 n] w fun e w' => e = .returned (.int .i64 (enough n)) ∧ w = w' := by
  obtain ⟨hn1, hn2⟩ := hn
  by_cases h1 : n < 3
  · have he : enough n = 0 := if_neg (by omega)
    rw [he]
    go_enter Try.func11, Try.ntmps11
    go_wp2
    go_ret
    exact ⟨rfl, rfl⟩
  · by_cases h2 : 15 < n
    · have he : enough n = 0 := if_neg (by omega)
      rw [he]
      go_enter Try.func11, Try.ntmps11
      go_wp2
      go_ret
      exact ⟨rfl, rfl⟩
    · obtain ⟨k, rfl⟩ : ∃ k : Nat, n = k := ⟨n.toNat, by omega⟩
      have hall : k = 3 ∨ k = 4 ∨ k = 5 ∨ k = 6 ∨ k = 7 ∨ k = 8 ∨ k = 9 ∨ k = 10 ∨ k = 11 ∨ k = 12 ∨ k = 13 ∨ k = 14 ∨ k = 15 := by omega
      clear h1 h2 hn1 hn2
      rcases hall with rfl | rfl | rfl | rfl | rfl | rfl | rfl | rfl | rfl | rfl | rfl | rfl | rfl
      all_goals
        unfold enough
        go_enter Try.func11, Try.ntmps11
        go_wp2
        go_ret
        exact ⟨rfl, rfl⟩
abbrev RAckT (g : Nat) (n : Int) (A : List Int) : Thing := Cl g (ackCells n A) 74
theorem Sep.rackN {w0 w : World} {g : Nat} {n : Int} {A : List Int} {L : List Thing} (h : Sep w0 (RAckT g n A :: L) w) : w.cell? ⟨g, 0, none⟩ = some (.int .i64 n) := h.cell (by simp [ackCells])
theorem Sep.rackAt {w0 w : World} {g : Nat} {n : Int} {A : List Int} {L : List Thing} (h : Sep w0 (RAckT g n A :: L) w) (j : Nat) (hj : j < A.length) : w.cell? ⟨g, 1 + j, none⟩ = some (.int .i64 A[j]) :=
  h.cell (by simp [ackCells, show 1 + j = j + 1 by omega, hj])
theorem Sep.rackSet {w0 w : World} {g : Nat} {n : Int} {A : List Int} {L : List Thing} (h : Sep w0 (RAckT g n A :: L) w) (j : Nat) (x : Int) (hj : j < A.length) : Sep w0 (RAckT g n (A.set j x) :: L) (w.setCell ⟨g, 1 + j, none⟩ (.int .i64 x)) := by
  have h1 := h.setCell (1 + j) (.int .i64 x)
  have : (ackCells n A).setIfInBounds (1 + j) (.int .i64 x) = ackCells n (A.set j x) := by
    unfold ackCells
    rw [show 1 + j = j + 1 by omega]
    simp [List.map_set]
  rwa [this] at h1
set_option maxRecDepth 100000 in
theorem rnewAcks_bad (n : Int) (w : World) (hn : I64 n) (h : enough n = 0) :
    Calls Try.prog 22 #[.int .i64 n] w fun e w' => e = .returned (.tuple #[.pointer none, .int .i64 2]) ∧ w = w' := by
  have he := renough_any n w hn
  rw [h] at he
  have HE := Lib.hid he
  clear he h hn
  go_enter Try.func22, Try.ntmps22
  go_wp2_with fail
  refine HE.out.mono ?_
  rintro r0 w1 ⟨rfl, rfl⟩
  go_wp2_with fail
  go_ret2
  exact ⟨rfl, rfl⟩
set_option maxRecDepth 100000 in
theorem rnewAcks_ok {w0 : World} {L : List Thing} (n : Int) (w : World) (hs : Sep w0 L w) (hn : I64 n) (h : enough n ≠ 0) :
    Calls Try.prog 22 #[.int .i64 n] w fun e w' => ∃ g, e = .returned (.tuple #[.pointer (some ⟨g, 0, none⟩), .int .i64 0]) ∧ Sep w0 (RAckT g n (List.replicate 15 0) :: L) w' := by
  have he := renough_any n w hn
  have hz : (enough n == 0) = false := beq_eq_false_iff_ne.2 h
  have HE := Lib.hid he
  have h1 := hs.alloc (.cells (ackCells n (List.replicate 15 0)) 74)
  have H1 := Lib.hid h1
  clear he h hn h1 hs
  go_enter Try.func22, Try.ntmps22
  go_wp2_with fail
  refine HE.out.mono ?_
  rintro r0 w1 ⟨rfl, rfl⟩
  go_wp2_with fail
  go_ret2
  exact ⟨_, rfl, H1.out⟩
/-- What Note answers, and makes of the ops. -/
def noteE (n : Nat) (who op : Int) : Int := if who < 0 ∨ (n : Int) ≤ who then 9 else if op < 0 then 2 else 0
def noteA (n : Nat) (A : List Int) (who op : Int) : List Int := if who < 0 ∨ (n : Int) ≤ who then A else if op < 0 then A else A.set who.toNat (max (A[who.toNat]?.getD 0) op)
def ofV (n : Nat) (A : List Int) (who : Int) : Int := if who < 0 ∨ (n : Int) ≤ who then 0 else A[who.toNat]?.getD 0
theorem noteA_len {n : Nat} {A : List Int} {who op : Int} (h : A.length = 15) : (noteA n A who op).length = 15 := by
  unfold noteA
  split
  · exact h
  · split
    · exact h
    · simpa using h
theorem noteA_pos {n : Nat} {A : List Int} {who op : Int} (h : ∀ x ∈ A, 0 ≤ x) : ∀ x ∈ noteA n A who op, 0 ≤ x := by
  unfold noteA
  split
  · exact h
  · split
    · exact h
    · intro x hx
      rcases List.mem_or_eq_of_mem_set hx with h1 | rfl
      · exact h x h1
      · omega
theorem note_all {w0 w : World} {g n : Nat} {A : List Int} {L : List Thing} (who op : Int) (h : Sep w0 (AckT g n A :: L) w) (hn0 : 0 < n) (hn : n ≤ 15) (hA : A.length = 15) :
    Calls Try.prog 23 #[.pointer (some ⟨g, 0, none⟩), .int .i64 who, .int .i64 op] w fun e w' => e = .returned (.int .i64 (noteE n who op)) ∧ Sep w0 (AckT g n (noteA n A who op) :: L) w' := by
  unfold noteE noteA
  by_cases h1 : who < 0 ∨ (n : Int) ≤ who
  · rw [if_pos h1, if_pos h1]
    exact (note_range who op h (by omega) h1).mono fun e w' ⟨h2, h3⟩ => ⟨h2, h3 ▸ h⟩
  · rw [if_neg h1, if_neg h1]
    by_cases h2 : op < 0
    · rw [if_pos h2, if_pos h2]
      exact (note_arg who op h (by omega) (by omega) (by omega) h2).mono fun e w' ⟨h3, h4⟩ => ⟨h3, h4 ▸ h⟩
    · rw [if_neg h2, if_neg h2]
      obtain ⟨k, rfl⟩ : ∃ k : Nat, who = k := ⟨who.toNat, by omega⟩
      rw [Int.toNat_natCast]
      exact note_ok k op h (by omega) hn hA (by omega)
theorem of_all {w0 w : World} {g n : Nat} {A : List Int} {L : List Thing} (who : Int) (h : Sep w0 (AckT g n A :: L) w) (hn0 : 0 < n) (hn : n ≤ 15) (hA : A.length = 15) :
    Calls Try.prog 27 #[.pointer (some ⟨g, 0, none⟩), .int .i64 who] w fun e w' => e = .returned (.int .i64 (ofV n A who)) ∧ Sep w0 (AckT g n A :: L) w' := by
  unfold ofV
  by_cases h1 : who < 0 ∨ (n : Int) ≤ who
  · rw [if_pos h1]
    exact (of_none who h (by omega) h1).mono fun e w' ⟨h2, h3⟩ => ⟨h2, h3 ▸ h⟩
  · rw [if_neg h1]
    obtain ⟨k, rfl⟩ : ∃ k : Nat, who = k := ⟨who.toNat, by omega⟩
    rw [Int.toNat_natCast]
    exact (of_ok k h (by omega) hn hA).mono fun e w' ⟨h2, h3⟩ => ⟨h2, h3 ▸ h⟩
set_option maxRecDepth 100000 in
theorem rnote_all {w0 w : World} {g n : Nat} {A : List Int} {L : List Thing} (who op : Int) (h : Sep w0 (RAckT g n A :: L) w) (hn : n ≤ 15) (hA : A.length = 15) :
    Calls Try.prog 24 #[.pointer (some ⟨g, 0, none⟩), .int .i64 who, .int .i64 op] w fun e w' => e = .returned (.int .i64 (noteE n who op)) ∧ Sep w0 (RAckT g n (noteA n A who op) :: L) w' := by
  have c0 := h.rackN
  have H := Lib.hid h
  unfold noteE noteA
  by_cases h1 : who < 0
  · rw [if_pos (.inl h1), if_pos (.inl h1)]
    clear h hA
    go_enter Try.func24, Try.ntmps24
    go_wp2_with fail
    go_ret
    exact ⟨rfl, H.out⟩
  · by_cases h1' : (n : Int) ≤ who
    · rw [if_pos (.inr h1'), if_pos (.inr h1')]
      clear h hA
      go_enter Try.func24, Try.ntmps24
      go_wp2_with fail
      go_ret
      exact ⟨rfl, H.out⟩
    · have hg : ¬ (who < 0 ∨ (n : Int) ≤ who) := by omega
      rw [if_neg hg, if_neg hg]
      clear hg
      by_cases h2 : op < 0
      · rw [if_pos h2, if_pos h2]
        clear h hA
        go_enter Try.func24, Try.ntmps24
        go_wp2_with fail
        go_ret
        exact ⟨rfl, H.out⟩
      · rw [if_neg h2, if_neg h2]
        obtain ⟨k, rfl⟩ : ∃ k : Nat, who = k := ⟨who.toNat, by omega⟩
        rw [Int.toNat_natCast]
        have hkn : k < n := by omega
        have hlt : k < A.length := by omega
        have c1 := h.rackAt k hlt
        have f1 := h.frozen (1 + k)
        have hset := (h.rackSet k (max (A[k]?.getD 0) op) hlt).drew
        rw [List.getElem?_eq_getElem hlt, Option.getD_some] at hset ⊢
        have HS := Lib.hid hset
        generalize A[k] = v at *
        have k0 : (0 : Int) ≤ (k : Int) := by omega
        have k1 : (k : Int) < (n : Int) := by omega
        have k2 : decide (k < n) = true := decide_eq_true hkn
        have k3 : decide (n ≤ k) = false := decide_eq_false (by omega)
        have k4 : (k : Int) < 15 := by omega
        clear h hset hlt hA H hkn h1' h1
        have hmx : (if v < op then op else v) = max v op := by
          by_cases hv : v < op
          · rw [if_pos hv]; omega
          · rw [if_neg hv]; omega
        go_enter Try.func24, Try.ntmps24
        go_wp2_with fail
        go_still_tail 13, (by kernel_rfl)
        change wpList _ _ _ _ _ w.drew
        go_wp2_with fail
        go_ret
        exact ⟨rfl, HS.out⟩
set_option maxRecDepth 100000 in
theorem rof_all {w0 w : World} {g n : Nat} {A : List Int} {L : List Thing} (who : Int) (h : Sep w0 (RAckT g n A :: L) w) (hn : n ≤ 15) (hA : A.length = 15) :
    Calls Try.prog 28 #[.pointer (some ⟨g, 0, none⟩), .int .i64 who] w fun e w' => e = .returned (.int .i64 (ofV n A who)) ∧ Sep w0 (RAckT g n A :: L) w' := by
  have c0 := h.rackN
  have H := Lib.hid h
  unfold ofV
  by_cases h1 : who < 0
  · rw [if_pos (.inl h1)]
    clear h hA
    go_enter Try.func28, Try.ntmps28
    go_wp2_with fail
    go_ret
    exact ⟨rfl, H.out⟩
  · by_cases h1' : (n : Int) ≤ who
    · rw [if_pos (.inr h1')]
      clear h hA
      go_enter Try.func28, Try.ntmps28
      go_wp2_with fail
      go_ret
      exact ⟨rfl, H.out⟩
    · have hg : ¬ (who < 0 ∨ (n : Int) ≤ who) := by omega
      rw [if_neg hg]
      clear hg
      obtain ⟨k, rfl⟩ : ∃ k : Nat, who = k := ⟨who.toNat, by omega⟩
      rw [Int.toNat_natCast]
      have hkn : k < n := by omega
      have hlt : k < A.length := by omega
      have c1 := h.rackAt k hlt
      rw [List.getElem?_eq_getElem hlt, Option.getD_some]
      generalize A[k] = v at *
      have k0 : (0 : Int) ≤ (k : Int) := by omega
      have k1 : (k : Int) < (n : Int) := by omega
      have k2 : decide (k < n) = true := decide_eq_true hkn
      have k3 : decide (n ≤ k) = false := decide_eq_false (by omega)
      have k4 : (k : Int) < 15 := by omega
      clear h hlt hA hkn h1' h1
      go_enter Try.func28, Try.ntmps28
      go_wp2_with fail
      go_ret
      exact ⟨rfl, H.out⟩
end Go.Proofs.Ytidbniigfkocpaa
