/- What a request is to a table. -/
import Derived.Test.YtjjjkfdppleagaaTable6
namespace Go.Proofs.Ytjjjkfdppleagaa
open Go Go.RowKit
set_option linter.unusedVariables false
set_option linter.unusedSimpArgs false
def judgeV (T : List SW) (c n : Int) : Int :=
  if (seatAt T c).had = true then (if (seatAt T c).n < n then 1 else if (seatAt T c).n = n then 2 else 3) else (if 6 ≤ (seatsOf T).length then 4 else 1)
theorem seats_le (T : List SW) (hT : T.length = 8) : (seatsOf T).length ≤ 8 := by have := List.length_filter_le (·.had) T; unfold seatsOf; omega
set_option maxHeartbeats 8000000 in
theorem judge_any {w0 w : World} {g : Nat} {T : List SW} {L : List Thing} (c n : Int) (h : Sep w0 (TabT g T :: L) w) (hT : T.length = 8) :
    Calls Try.prog 16 #[.pointer (some ⟨g, 0, none⟩), .int .i64 c, .int .i64 n] w fun e w' => e = .returned (.int .i64 (judgeV T c n)) ∧ Sep w0 (TabT g T :: L) w' := by
  have HN := Lib.hid (tnone_c h.made)
  have HF := Lib.hid (find_any c h hT)
  have HT := Lib.hid hT
  have hle := seats_le T hT
  unfold judgeV
  generalize seatAt T c = s at HF ⊢
  unfold SW.val at HF
  clear h hT
  cases hh : s.had with
  | true =>
    rw [hh] at HF
    rw [if_pos rfl]
    clear hh hle
    by_cases h1 : s.n < n
    · have d1 : decide (s.n < n) = true := decide_eq_true h1
      rw [if_pos h1]
      clear h1
      go_enter Try.func16, Try.ntmps16
      (try dsimp only); repeat' (first | go_values | go_skip | go_guarded | go_step | go_upon | go_back)
      refine HN.out.mono ?_
      rintro r0 w1 ⟨rfl, rfl⟩
      clear HN
      (try dsimp only); repeat' (first | go_values | go_skip | go_guarded | go_step | go_upon | go_back)
      refine HF.out.mono ?_
      rintro r1 w2 ⟨rfl, h2⟩
      have h3 := h2.alloc (.cells #[.int .i64 s.c, .int .i64 s.n, .int .i64 s.o, .int .i64 s.k, .int .i64 s.a, .int .i64 s.b] 31)
      have H3 := Lib.hid h3.drop
      clear HF h2 h3
      (try dsimp only); repeat' (first | go_values | go_skip | go_guarded | go_step | go_upon | go_back)
      go_ret
      exact ⟨rfl, H3.out⟩
    · have d1 : decide (s.n < n) = false := decide_eq_false h1
      rw [if_neg h1]
      by_cases h2 : s.n = n
      · have d2 : (s.n == n) = true := beq_iff_eq.2 h2
        rw [if_pos h2]
        clear h1 h2
        go_enter Try.func16, Try.ntmps16
        (try dsimp only); repeat' (first | go_values | go_skip | go_guarded | go_step | go_upon | go_back)
        refine HN.out.mono ?_
        rintro r0 w1 ⟨rfl, rfl⟩
        clear HN
        (try dsimp only); repeat' (first | go_values | go_skip | go_guarded | go_step | go_upon | go_back)
        refine HF.out.mono ?_
        rintro r1 w2 ⟨rfl, h2⟩
        have h3 := h2.alloc (.cells #[.int .i64 s.c, .int .i64 s.n, .int .i64 s.o, .int .i64 s.k, .int .i64 s.a, .int .i64 s.b] 31)
        have H3 := Lib.hid h3.drop
        clear HF h2 h3
        (try dsimp only); repeat' (first | go_values | go_skip | go_guarded | go_step | go_upon | go_back)
        go_ret
        exact ⟨rfl, H3.out⟩
      · have d2 : (s.n == n) = false := beq_eq_false_iff_ne.2 h2
        rw [if_neg h2]
        clear h1 h2
        go_enter Try.func16, Try.ntmps16
        (try dsimp only); repeat' (first | go_values | go_skip | go_guarded | go_step | go_upon | go_back)
        refine HN.out.mono ?_
        rintro r0 w1 ⟨rfl, rfl⟩
        clear HN
        (try dsimp only); repeat' (first | go_values | go_skip | go_guarded | go_step | go_upon | go_back)
        refine HF.out.mono ?_
        rintro r1 w2 ⟨rfl, h2⟩
        have h3 := h2.alloc (.cells #[.int .i64 s.c, .int .i64 s.n, .int .i64 s.o, .int .i64 s.k, .int .i64 s.a, .int .i64 s.b] 31)
        have H3 := Lib.hid h3.drop
        clear HF h2 h3
        (try dsimp only); repeat' (first | go_values | go_skip | go_guarded | go_step | go_upon | go_back)
        go_ret
        exact ⟨rfl, H3.out⟩
  | false =>
    rw [hh] at HF
    rw [if_neg (by simp)]
    clear hh
    obtain ⟨m, hm⟩ : ∃ z, z = (seatsOf T).length := ⟨_, rfl⟩
    have HM := Lib.hid hm
    rw [← hm] at hle ⊢
    clear hm
    by_cases h1 : 6 ≤ m
    · have d1 : decide (6 ≤ (m : Int)) = true := decide_eq_true (by omega)
      rw [if_pos h1]
      clear h1
      go_enter Try.func16, Try.ntmps16
      (try dsimp only); repeat' (first | go_values | go_skip | go_guarded | go_step | go_upon | go_back)
      refine HN.out.mono ?_
      rintro r0 w1 ⟨rfl, rfl⟩
      clear HN
      (try dsimp only); repeat' (first | go_values | go_skip | go_guarded | go_step | go_upon | go_back)
      refine HF.out.mono ?_
      rintro r1 w2 ⟨rfl, h2⟩
      have h3 := h2.alloc (.cells #[.int .i64 s.c, .int .i64 s.n, .int .i64 s.o, .int .i64 s.k, .int .i64 s.a, .int .i64 s.b] 31)
      have hl := len_any h3.sw2 HT.out
      rw [← HM.out] at hl
      have HL := Lib.hid hl
      clear HF h2 h3 hl
      (try dsimp only); repeat' (first | go_values | go_skip | go_guarded | go_step | go_upon | go_back)
      refine HL.out.mono ?_
      rintro r2 w3 ⟨rfl, h4⟩
      have H4 := Lib.hid (h4.sw2.drop)
      clear HL h4
      (try dsimp only); repeat' (first | go_values | go_skip | go_guarded | go_step | go_upon | go_back)
      go_ret
      exact ⟨rfl, H4.out⟩
    · have d1 : decide (6 ≤ (m : Int)) = false := decide_eq_false (by omega)
      rw [if_neg h1]
      clear h1
      go_enter Try.func16, Try.ntmps16
      (try dsimp only); repeat' (first | go_values | go_skip | go_guarded | go_step | go_upon | go_back)
      refine HN.out.mono ?_
      rintro r0 w1 ⟨rfl, rfl⟩
      clear HN
      (try dsimp only); repeat' (first | go_values | go_skip | go_guarded | go_step | go_upon | go_back)
      refine HF.out.mono ?_
      rintro r1 w2 ⟨rfl, h2⟩
      have h3 := h2.alloc (.cells #[.int .i64 s.c, .int .i64 s.n, .int .i64 s.o, .int .i64 s.k, .int .i64 s.a, .int .i64 s.b] 31)
      have hl := len_any h3.sw2 HT.out
      rw [← HM.out] at hl
      have HL := Lib.hid hl
      clear HF h2 h3 hl
      (try dsimp only); repeat' (first | go_values | go_skip | go_guarded | go_step | go_upon | go_back)
      refine HL.out.mono ?_
      rintro r2 w3 ⟨rfl, h4⟩
      have H4 := Lib.hid (h4.sw2.drop)
      clear HL h4
      (try dsimp only); repeat' (first | go_values | go_skip | go_guarded | go_step | go_upon | go_back)
      go_ret
      exact ⟨rfl, H4.out⟩
end Go.Proofs.Ytjjjkfdppleagaa
