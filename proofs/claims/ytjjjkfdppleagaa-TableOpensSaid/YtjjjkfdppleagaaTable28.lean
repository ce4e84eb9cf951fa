/- The document's table: Back. -/
import Derived.Test.YtjjjkfdppleagaaTable27
namespace Go.Proofs.Ytjjjkfdppleagaa
open Go Go.RowKit
set_option linter.unusedVariables false
set_option linter.unusedSimpArgs false
set_option maxRecDepth 100000 in
set_option maxHeartbeats 0 in
theorem dback_no {w0 w : World} {g : Nat} {T : List SW} {L : List Thing} (c : Int) (ud : Bool) (uc un uo uk ua ub : Int) (h : Sep w0 (DocT g (seatsOf T) :: L) w) (hI : TabI T) (hs : (seatAt T c).had = false) :
    Calls Try.prog 13 #[.pointer (some ⟨g, 0, none⟩), .int .i64 c, .agg #[.bool ud, .int .i64 uc, .int .i64 un, .int .i64 uo, .int .i64 uk, .int .i64 ua, .int .i64 ub]] w fun e w' => e = .returned (.int .i64 90) ∧ Sep w0 (DocT g (seatsOf T) :: L) w' := by
  have h1 := (h.alloc (.cells #[.bool ud, .int .i64 uc, .int .i64 un, .int .i64 uo, .int .i64 uk, .int .i64 ua, .int .i64 ub] 33)).sw2
  obtain ⟨b5, hb5⟩ : ∃ z, z = w.heap.size := ⟨_, rfl⟩
  obtain ⟨w3, hw3⟩ : ∃ z, z = w.alloc (.cells #[.bool ud, .int .i64 uc, .int .i64 un, .int .i64 uo, .int .i64 uk, .int .i64 ua, .int .i64 ub] 33) := ⟨_, rfl⟩
  rw [← hb5, ← hw3] at h1
  have HF := Lib.hid (dfind_any c h1 hI)
  obtain ⟨sd, sc, sn, so, sk, sa, sb, he⟩ := seatAt_form T c
  rw [he] at HF hs
  unfold SW.val at HF
  dsimp only at HF hs
  subst hs
  clear hI he
  clear h h1
  go_enter Try.func13, Try.ntmps13
  (try dsimp only); repeat' (first | go_values | go_skip | go_guarded | go_step | go_upon | go_back)
  rw [← hw3, ← hb5]
  clear hw3 hb5
  refine HF.out.mono ?_
  rintro r0 w4 ⟨rfl, h4⟩
  clear HF
  have h5 := h4.alloc (.cells #[.int .i64 sc, .int .i64 sn, .int .i64 so, .int .i64 sk, .int .i64 sa, .int .i64 sb] 31)
  have h5q : Sep w0 (Cl b5 #[.bool ud, .int .i64 uc, .int .i64 un, .int .i64 uo, .int .i64 uk, .int .i64 ua, .int .i64 ub] 33 :: DocT g (seatsOf T) :: Cl w4.heap.size #[.int .i64 sc, .int .i64 sn, .int .i64 so, .int .i64 sk, .int .i64 sa, .int .i64 sb] 31 :: L) _ := (h5.pickL (M := [_, _, _]) [2, 1, 0] rfl)
  obtain ⟨v0, v1, v2, v3, v4, v5, v6⟩ := cells7z h5q
  obtain ⟨x0, x1, x2, x3, x4, x5⟩ := cells6z h5
  have H5 := Lib.hid h5q
  clear h4 h5 h5q
  cases ud with
  | false =>
    by_cases q0 : uc = 0
    rotate_left
    · have e0 : (uc == 0) = false := beq_eq_false_iff_ne.2 q0
      as_aux_lemma =>
        clear q0
        (try dsimp only); repeat' (first | go_values | go_skip | go_guarded | go_step | go_upon | go_back)
        go_ret
        exact ⟨rfl, (H5.out.pickL (M := [_, _, _]) [1] rfl)⟩
    subst q0
    by_cases q1 : un = 0
    rotate_left
    · have e1 : (un == 0) = false := beq_eq_false_iff_ne.2 q1
      as_aux_lemma =>
        clear q1
        (try dsimp only); repeat' (first | go_values | go_skip | go_guarded | go_step | go_upon | go_back)
        go_ret
        exact ⟨rfl, (H5.out.pickL (M := [_, _, _]) [1] rfl)⟩
    subst q1
    by_cases q2 : uo = 0
    rotate_left
    · have e2 : (uo == 0) = false := beq_eq_false_iff_ne.2 q2
      as_aux_lemma =>
        clear q2
        (try dsimp only); repeat' (first | go_values | go_skip | go_guarded | go_step | go_upon | go_back)
        go_ret
        exact ⟨rfl, (H5.out.pickL (M := [_, _, _]) [1] rfl)⟩
    subst q2
    by_cases q3 : uk = 0
    rotate_left
    · have e3 : (uk == 0) = false := beq_eq_false_iff_ne.2 q3
      as_aux_lemma =>
        clear q3
        (try dsimp only); repeat' (first | go_values | go_skip | go_guarded | go_step | go_upon | go_back)
        go_ret
        exact ⟨rfl, (H5.out.pickL (M := [_, _, _]) [1] rfl)⟩
    subst q3
    by_cases q4 : ua = 0
    rotate_left
    · have e4 : (ua == 0) = false := beq_eq_false_iff_ne.2 q4
      as_aux_lemma =>
        clear q4
        (try dsimp only); repeat' (first | go_values | go_skip | go_guarded | go_step | go_upon | go_back)
        go_ret
        exact ⟨rfl, (H5.out.pickL (M := [_, _, _]) [1] rfl)⟩
    subst q4
    by_cases q5 : ub = 0
    rotate_left
    · have e5 : (ub == 0) = false := beq_eq_false_iff_ne.2 q5
      as_aux_lemma =>
        clear q5
        (try dsimp only); repeat' (first | go_values | go_skip | go_guarded | go_step | go_upon | go_back)
        go_ret
        exact ⟨rfl, (H5.out.pickL (M := [_, _, _]) [1] rfl)⟩
    subst q5
    as_aux_lemma =>
      (try dsimp only); repeat' (first | go_values | go_skip | go_guarded | go_step | go_upon | go_back)
      go_ret
      exact ⟨rfl, (H5.out.pickL (M := [_, _, _]) [1] rfl)⟩
  | true =>
    cases hok : clientOk uc un uo uk ua ub with
    | false =>
      as_aux_lemma =>
        have HMA := Lib.hid (may_any uc un uo uk ua ub H5.out)
        rw [hok] at HMA
        clear H5 hok
        (try dsimp only); repeat' (first | go_values | go_skip | go_guarded | go_step | go_upon | go_back)
        refine HMA.out.mono ?_
        rintro r1 w5 ⟨rfl, h5⟩
        clear HMA v0 v1 v2 v3 v4 v5 v6 x0 x1 x2 x3 x4 x5
        obtain ⟨v0, v1, v2, v3, v4, v5, v6⟩ := cells7z h5
        obtain ⟨x0, x1, x2, x3, x4, x5⟩ := cells6z h5.sw3
        have H5 := Lib.hid h5
        clear h5
        (try dsimp only); repeat' (first | go_values | go_skip | go_guarded | go_step | go_upon | go_back)
        go_ret
        exact ⟨rfl, (H5.out.pickL (M := [_, _, _]) [1] rfl)⟩
    | true =>
      by_cases qc : uc = c
      rotate_left
      · have ec : (uc == c) = false := beq_eq_false_iff_ne.2 qc
        as_aux_lemma =>
          clear qc
          have HMA := Lib.hid (may_any uc un uo uk ua ub H5.out)
          rw [hok] at HMA
          clear H5 hok
          (try dsimp only); repeat' (first | go_values | go_skip | go_guarded | go_step | go_upon | go_back)
          refine HMA.out.mono ?_
          rintro r1 w5 ⟨rfl, h5⟩
          clear HMA v0 v1 v2 v3 v4 v5 v6 x0 x1 x2 x3 x4 x5
          obtain ⟨v0, v1, v2, v3, v4, v5, v6⟩ := cells7z h5
          obtain ⟨x0, x1, x2, x3, x4, x5⟩ := cells6z h5.sw3
          have H5 := Lib.hid h5
          clear h5
          (try dsimp only); repeat' (first | go_values | go_skip | go_guarded | go_step | go_upon | go_back)
          go_ret
          exact ⟨rfl, (H5.out.pickL (M := [_, _, _]) [1] rfl)⟩
      have ec : (uc == c) = true := beq_iff_eq.2 qc
      by_cases qn : un < sn
      rotate_left
      · have en : decide (un < sn) = false := decide_eq_false qn
        as_aux_lemma =>
          clear qc qn
          have HMA := Lib.hid (may_any uc un uo uk ua ub H5.out)
          rw [hok] at HMA
          clear H5 hok
          (try dsimp only); repeat' (first | go_values | go_skip | go_guarded | go_step | go_upon | go_back)
          refine HMA.out.mono ?_
          rintro r1 w5 ⟨rfl, h5⟩
          clear HMA v0 v1 v2 v3 v4 v5 v6 x0 x1 x2 x3 x4 x5
          obtain ⟨v0, v1, v2, v3, v4, v5, v6⟩ := cells7z h5
          obtain ⟨x0, x1, x2, x3, x4, x5⟩ := cells6z h5.sw3
          have H5 := Lib.hid h5
          clear h5
          (try dsimp only); repeat' (first | go_values | go_skip | go_guarded | go_step | go_upon | go_back)
          go_ret
          exact ⟨rfl, (H5.out.pickL (M := [_, _, _]) [1] rfl)⟩
      have en : decide (un < sn) = true := decide_eq_true qn
      as_aux_lemma =>
        clear qc qn
        have HMA := Lib.hid (may_any uc un uo uk ua ub H5.out)
        rw [hok] at HMA
        clear H5 hok
        (try dsimp only); repeat' (first | go_values | go_skip | go_guarded | go_step | go_upon | go_back)
        refine HMA.out.mono ?_
        rintro r1 w5 ⟨rfl, h5⟩
        clear HMA v0 v1 v2 v3 v4 v5 v6 x0 x1 x2 x3 x4 x5
        obtain ⟨v0, v1, v2, v3, v4, v5, v6⟩ := cells7z h5
        obtain ⟨x0, x1, x2, x3, x4, x5⟩ := cells6z h5.sw3
        have H5 := Lib.hid h5
        clear h5
        (try dsimp only); repeat' (first | go_values | go_skip | go_guarded | go_step | go_upon | go_back)
        go_ret
        exact ⟨rfl, (H5.out.pickL (M := [_, _, _]) [1] rfl)⟩
set_option maxRecDepth 100000 in
set_option maxHeartbeats 0 in
theorem dback_bad {w0 w : World} {g : Nat} {T : List SW} {L : List Thing} (c : Int) (ud : Bool) (uc un uo uk ua ub : Int) (h : Sep w0 (DocT g (seatsOf T) :: L) w) (hI : TabI T) (hs : (seatAt T c).had = true) (hp : precV ⟨ud, uc, un, uo, uk, ua, ub⟩ (seatAt T c) = false) :
    Calls Try.prog 13 #[.pointer (some ⟨g, 0, none⟩), .int .i64 c, .agg #[.bool ud, .int .i64 uc, .int .i64 un, .int .i64 uo, .int .i64 uk, .int .i64 ua, .int .i64 ub]] w fun e w' => e = .returned (.int .i64 90) ∧ Sep w0 (DocT g (seatsOf T) :: L) w' := by
  have h1 := (h.alloc (.cells #[.bool ud, .int .i64 uc, .int .i64 un, .int .i64 uo, .int .i64 uk, .int .i64 ua, .int .i64 ub] 33)).sw2
  obtain ⟨b5, hb5⟩ : ∃ z, z = w.heap.size := ⟨_, rfl⟩
  obtain ⟨w3, hw3⟩ : ∃ z, z = w.alloc (.cells #[.bool ud, .int .i64 uc, .int .i64 un, .int .i64 uo, .int .i64 uk, .int .i64 ua, .int .i64 ub] 33) := ⟨_, rfl⟩
  rw [← hb5, ← hw3] at h1
  have HF := Lib.hid (dfind_any c h1 hI)
  have hsc : (seatAt T c).c = c := by
    obtain ⟨i, rfl, -, hi, e9⟩ := seatAt_had hI c hs
    rw [e9] at hs ⊢
    exact (hI.ok i hi hs).1
  obtain ⟨sd, sc, sn, so, sk, sa, sb, he⟩ := seatAt_form T c
  rw [he] at HF hs hp hsc
  unfold SW.val at HF
  dsimp only at HF hs hsc
  subst hs hsc
  have HPV := Lib.hid hp
  clear hI he hp
  clear h h1
  go_enter Try.func13, Try.ntmps13
  (try dsimp only); repeat' (first | go_values | go_skip | go_guarded | go_step | go_upon | go_back)
  rw [← hw3, ← hb5]
  clear hw3 hb5
  refine HF.out.mono ?_
  rintro r0 w4 ⟨rfl, h4⟩
  clear HF
  have h5 := h4.alloc (.cells #[.int .i64 sc, .int .i64 sn, .int .i64 so, .int .i64 sk, .int .i64 sa, .int .i64 sb] 31)
  have h5q : Sep w0 (Cl b5 #[.bool ud, .int .i64 uc, .int .i64 un, .int .i64 uo, .int .i64 uk, .int .i64 ua, .int .i64 ub] 33 :: DocT g (seatsOf T) :: Cl w4.heap.size #[.int .i64 sc, .int .i64 sn, .int .i64 so, .int .i64 sk, .int .i64 sa, .int .i64 sb] 31 :: L) _ := (h5.pickL (M := [_, _, _]) [2, 1, 0] rfl)
  obtain ⟨v0, v1, v2, v3, v4, v5, v6⟩ := cells7z h5q
  obtain ⟨x0, x1, x2, x3, x4, x5⟩ := cells6z h5
  have H5 := Lib.hid h5q
  clear h4 h5 h5q
  cases ud with
  | false =>
    by_cases q0 : uc = 0
    rotate_left
    · have e0 : (uc == 0) = false := beq_eq_false_iff_ne.2 q0
      as_aux_lemma =>
        clear HPV q0
        (try dsimp only); repeat' (first | go_values | go_skip | go_guarded | go_step | go_upon | go_back)
        go_ret
        exact ⟨rfl, (H5.out.pickL (M := [_, _, _]) [1] rfl)⟩
    subst q0
    by_cases q1 : un = 0
    rotate_left
    · have e1 : (un == 0) = false := beq_eq_false_iff_ne.2 q1
      as_aux_lemma =>
        clear HPV q1
        (try dsimp only); repeat' (first | go_values | go_skip | go_guarded | go_step | go_upon | go_back)
        go_ret
        exact ⟨rfl, (H5.out.pickL (M := [_, _, _]) [1] rfl)⟩
    subst q1
    by_cases q2 : uo = 0
    rotate_left
    · have e2 : (uo == 0) = false := beq_eq_false_iff_ne.2 q2
      as_aux_lemma =>
        clear HPV q2
        (try dsimp only); repeat' (first | go_values | go_skip | go_guarded | go_step | go_upon | go_back)
        go_ret
        exact ⟨rfl, (H5.out.pickL (M := [_, _, _]) [1] rfl)⟩
    subst q2
    by_cases q3 : uk = 0
    rotate_left
    · have e3 : (uk == 0) = false := beq_eq_false_iff_ne.2 q3
      as_aux_lemma =>
        clear HPV q3
        (try dsimp only); repeat' (first | go_values | go_skip | go_guarded | go_step | go_upon | go_back)
        go_ret
        exact ⟨rfl, (H5.out.pickL (M := [_, _, _]) [1] rfl)⟩
    subst q3
    by_cases q4 : ua = 0
    rotate_left
    · have e4 : (ua == 0) = false := beq_eq_false_iff_ne.2 q4
      as_aux_lemma =>
        clear HPV q4
        (try dsimp only); repeat' (first | go_values | go_skip | go_guarded | go_step | go_upon | go_back)
        go_ret
        exact ⟨rfl, (H5.out.pickL (M := [_, _, _]) [1] rfl)⟩
    subst q4
    by_cases q5 : ub = 0
    rotate_left
    · have e5 : (ub == 0) = false := beq_eq_false_iff_ne.2 q5
      as_aux_lemma =>
        clear HPV q5
        (try dsimp only); repeat' (first | go_values | go_skip | go_guarded | go_step | go_upon | go_back)
        go_ret
        exact ⟨rfl, (H5.out.pickL (M := [_, _, _]) [1] rfl)⟩
    subst q5
    exfalso
    have h9 := HPV.out
    unfold precV SW.blank at h9
    simp at h9
  | true =>
    cases hok : clientOk uc un uo uk ua ub with
    | false =>
      as_aux_lemma =>
        clear HPV
        have HMA := Lib.hid (may_any uc un uo uk ua ub H5.out)
        rw [hok] at HMA
        clear H5 hok
        (try dsimp only); repeat' (first | go_values | go_skip | go_guarded | go_step | go_upon | go_back)
        refine HMA.out.mono ?_
        rintro r1 w5 ⟨rfl, h5⟩
        clear HMA v0 v1 v2 v3 v4 v5 v6 x0 x1 x2 x3 x4 x5
        obtain ⟨v0, v1, v2, v3, v4, v5, v6⟩ := cells7z h5
        obtain ⟨x0, x1, x2, x3, x4, x5⟩ := cells6z h5.sw3
        have H5 := Lib.hid h5
        clear h5
        (try dsimp only); repeat' (first | go_values | go_skip | go_guarded | go_step | go_upon | go_back)
        go_ret
        exact ⟨rfl, (H5.out.pickL (M := [_, _, _]) [1] rfl)⟩
    | true =>
      by_cases qc : uc = sc
      rotate_left
      · have ec : (uc == sc) = false := beq_eq_false_iff_ne.2 qc
        as_aux_lemma =>
          clear HPV qc
          have HMA := Lib.hid (may_any uc un uo uk ua ub H5.out)
          rw [hok] at HMA
          clear H5 hok
          (try dsimp only); repeat' (first | go_values | go_skip | go_guarded | go_step | go_upon | go_back)
          refine HMA.out.mono ?_
          rintro r1 w5 ⟨rfl, h5⟩
          clear HMA v0 v1 v2 v3 v4 v5 v6 x0 x1 x2 x3 x4 x5
          obtain ⟨v0, v1, v2, v3, v4, v5, v6⟩ := cells7z h5
          obtain ⟨x0, x1, x2, x3, x4, x5⟩ := cells6z h5.sw3
          have H5 := Lib.hid h5
          clear h5
          (try dsimp only); repeat' (first | go_values | go_skip | go_guarded | go_step | go_upon | go_back)
          go_ret
          exact ⟨rfl, (H5.out.pickL (M := [_, _, _]) [1] rfl)⟩
      have ec : (uc == sc) = true := beq_iff_eq.2 qc
      by_cases qn : un < sn
      rotate_left
      · have en : decide (un < sn) = false := decide_eq_false qn
        as_aux_lemma =>
          clear HPV qc qn
          have HMA := Lib.hid (may_any uc un uo uk ua ub H5.out)
          rw [hok] at HMA
          clear H5 hok
          (try dsimp only); repeat' (first | go_values | go_skip | go_guarded | go_step | go_upon | go_back)
          refine HMA.out.mono ?_
          rintro r1 w5 ⟨rfl, h5⟩
          clear HMA v0 v1 v2 v3 v4 v5 v6 x0 x1 x2 x3 x4 x5
          obtain ⟨v0, v1, v2, v3, v4, v5, v6⟩ := cells7z h5
          obtain ⟨x0, x1, x2, x3, x4, x5⟩ := cells6z h5.sw3
          have H5 := Lib.hid h5
          clear h5
          (try dsimp only); repeat' (first | go_values | go_skip | go_guarded | go_step | go_upon | go_back)
          go_ret
          exact ⟨rfl, (H5.out.pickL (M := [_, _, _]) [1] rfl)⟩
      have en : decide (un < sn) = true := decide_eq_true qn
      exfalso
      have h9 := HPV.out
      unfold precV at h9
      subst qc
      simp [hok, qn] at h9
set_option maxRecDepth 100000 in
set_option maxHeartbeats 0 in
theorem dback_ok {w0 w : World} {g : Nat} {T : List SW} {L : List Thing} (i : Nat) (s : SW) (hsq : T[i]? = some s) (ud : Bool) (uc un uo uk ua ub : Int) (h : Sep w0 (DocT g (seatsOf T) :: L) w) (hI : TabI T) (hs : s.had = true) (hp : precV ⟨ud, uc, un, uo, uk, ua, ub⟩ s = true) :
    Calls Try.prog 13 #[.pointer (some ⟨g, 0, none⟩), .int .i64 i, .agg #[.bool ud, .int .i64 uc, .int .i64 un, .int .i64 uo, .int .i64 uk, .int .i64 ua, .int .i64 ub]] w fun e w' => e = .returned (.int .i64 0) ∧ Sep w0 (DocT g (seatsOf (T.set i ⟨ud, uc, un, uo, uk, ua, ub⟩)) :: L) w' := by
  have h1 := (h.alloc (.cells #[.bool ud, .int .i64 uc, .int .i64 un, .int .i64 uo, .int .i64 uk, .int .i64 ua, .int .i64 ub] 33)).sw2
  obtain ⟨b5, hb5⟩ : ∃ z, z = w.heap.size := ⟨_, rfl⟩
  obtain ⟨w3, hw3⟩ : ∃ z, z = w.alloc (.cells #[.bool ud, .int .i64 uc, .int .i64 un, .int .i64 uo, .int .i64 uk, .int .i64 ua, .int .i64 ub] 33) := ⟨_, rfl⟩
  rw [← hb5, ← hw3] at h1
  have HF := Lib.hid (dfind_any i h1 hI)
  have hi8 : i < 8 := by obtain ⟨h9, -⟩ := List.getElem?_eq_some_iff.1 hsq; rw [hI.len] at h9; exact h9
  have hiT : i < T.length := by rw [hI.len]; exact hi8
  have hsi : T[i] = s := by obtain ⟨_, h9⟩ := List.getElem?_eq_some_iff.1 hsq; exact h9
  have hsc : s.c = i := by rw [← hsi]; exact (hI.ok i hiT (by rw [hsi]; exact hs)).1
  rw [seatAt_get hI.len hi8 hsq] at HF
  obtain ⟨sd, sc, sn, so, sk, sa, sb⟩ := s
  unfold SW.val at HF
  dsimp only at HF hs hsc
  subst hs
  subst hsc
  have HPV := Lib.hid hp
  have HI := Lib.hid (And.intro hI (And.intro hi8 hiT))
  clear hI hp hi8 hiT hsi hsq
  clear h h1
  go_enter Try.func13, Try.ntmps13
  (try dsimp only); repeat' (first | go_values | go_skip | go_guarded | go_step | go_upon | go_back)
  rw [← hw3, ← hb5]
  clear hw3 hb5
  refine HF.out.mono ?_
  rintro r0 w4 ⟨rfl, h4⟩
  clear HF
  have h5 := h4.alloc (.cells #[.int .i64 (i : Int), .int .i64 sn, .int .i64 so, .int .i64 sk, .int .i64 sa, .int .i64 sb] 31)
  have h5q : Sep w0 (Cl b5 #[.bool ud, .int .i64 uc, .int .i64 un, .int .i64 uo, .int .i64 uk, .int .i64 ua, .int .i64 ub] 33 :: DocT g (seatsOf T) :: Cl w4.heap.size #[.int .i64 (i : Int), .int .i64 sn, .int .i64 so, .int .i64 sk, .int .i64 sa, .int .i64 sb] 31 :: L) _ := (h5.pickL (M := [_, _, _]) [2, 1, 0] rfl)
  obtain ⟨v0, v1, v2, v3, v4, v5, v6⟩ := cells7z h5q
  obtain ⟨x0, x1, x2, x3, x4, x5⟩ := cells6z h5
  have H5 := Lib.hid h5q
  clear h4 h5 h5q
  cases ud with
  | false =>
    by_cases q0 : uc = 0
    rotate_left
    · have e0 : (uc == 0) = false := beq_eq_false_iff_ne.2 q0
      exfalso
      have h9 := HPV.out
      unfold precV SW.blank at h9
      simp [q0] at h9
    subst q0
    by_cases q1 : un = 0
    rotate_left
    · have e1 : (un == 0) = false := beq_eq_false_iff_ne.2 q1
      exfalso
      have h9 := HPV.out
      unfold precV SW.blank at h9
      simp [q1] at h9
    subst q1
    by_cases q2 : uo = 0
    rotate_left
    · have e2 : (uo == 0) = false := beq_eq_false_iff_ne.2 q2
      exfalso
      have h9 := HPV.out
      unfold precV SW.blank at h9
      simp [q2] at h9
    subst q2
    by_cases q3 : uk = 0
    rotate_left
    · have e3 : (uk == 0) = false := beq_eq_false_iff_ne.2 q3
      exfalso
      have h9 := HPV.out
      unfold precV SW.blank at h9
      simp [q3] at h9
    subst q3
    by_cases q4 : ua = 0
    rotate_left
    · have e4 : (ua == 0) = false := beq_eq_false_iff_ne.2 q4
      exfalso
      have h9 := HPV.out
      unfold precV SW.blank at h9
      simp [q4] at h9
    subst q4
    by_cases q5 : ub = 0
    rotate_left
    · have e5 : (ub == 0) = false := beq_eq_false_iff_ne.2 q5
      exfalso
      have h9 := HPV.out
      unfold precV SW.blank at h9
      simp [q5] at h9
    subst q5
    as_aux_lemma =>
      clear HPV
      have HWT := Lib.hid (dwithout_any (i : Int) H5.out.sw2 (by have := seats_len8 HI.out.1.len; omega))
      clear H5
      (try dsimp only); repeat' (first | go_values | go_skip | go_guarded | go_step | go_upon | go_back)
      refine HWT.out.mono ?_
      rintro r2 w6 ⟨v, rfl, h6⟩
      obtain ⟨va, vc, rfl, -⟩ := Sep.rnForm (h6 : Sep w0 (Rn 6 31 _ (sans (seatsOf T) i).length (sixes (sans (seatsOf T) i)) :: _) w6)
      obtain ⟨m6, hm6⟩ : ∃ z, z = (sans (seatsOf T) i).length := ⟨_, rfl⟩
      rw [← hm6] at h6 ⊢
      obtain ⟨m7, hm7⟩ : ∃ z, z = (seatsOf T).length := ⟨_, rfl⟩
      obtain ⟨da, dc, h7⟩ := h6.sw2.docOpen
      rw [← hm7] at h7
      have g0 := h7.cell (o := 0) rfl
      have gf := h7.frozen 0
      have h8 : Sep w0 (Cl g #[.slice va m6 vc] 49 :: SsT (.slice va m6 vc) (sans (seatsOf T) i) :: L) _ := ((h7.setCell 0 (.slice va m6 vc)).pickL (M := [_, _, _, _, _]) [0, 2] rfl)
      have h9 := Sep.docClose h8
      rw [sans_seats HI.out.1 i HI.out.2.2] at h9
      have hq : seatsOf (T.set i ⟨false, 0, 0, 0, 0, 0, 0⟩) = seatsOf (T.take i) ++ seatsOf (T.drop (i + 1)) := by rw [seats_set T i HI.out.2.2, seats_no rfl]; rfl
      rw [← hq] at h9
      have H9 := Lib.hid h9
      clear HWT h6 h7 h8 h9 hq hm6 hm7
      (try dsimp only); repeat' (first | go_values | go_skip | go_guarded | go_step | go_upon | go_back)
      go_ret
      exact ⟨rfl, H9.out⟩
  | true =>
    cases hok : clientOk uc un uo uk ua ub with
    | false =>
      exfalso
      have h9 := HPV.out
      unfold precV at h9
      simp [hok] at h9
    | true =>
      by_cases qc : uc = (i : Int)
      rotate_left
      · have ec : (uc == (i : Int)) = false := beq_eq_false_iff_ne.2 qc
        exfalso
        have h9 := HPV.out
        unfold precV at h9
        simp [hok, qc] at h9
      have ec : (uc == (i : Int)) = true := beq_iff_eq.2 qc
      by_cases qn : un < sn
      rotate_left
      · have en : decide (un < sn) = false := decide_eq_false qn
        exfalso
        have h9 := HPV.out
        unfold precV at h9
        simp [hok, qc, qn] at h9
      have en : decide (un < sn) = true := decide_eq_true qn
      as_aux_lemma =>
        clear HPV qn
        subst qc
        have HMA := Lib.hid (may_any (i : Int) un uo uk ua ub H5.out)
        rw [hok] at HMA
        clear H5 hok
        (try dsimp only); repeat' (first | go_values | go_skip | go_guarded | go_step | go_upon | go_back)
        refine HMA.out.mono ?_
        rintro r1 w5 ⟨rfl, h5⟩
        clear HMA v0 v1 v2 v3 v4 v5 v6 x0 x1 x2 x3 x4 x5
        obtain ⟨v0, v1, v2, v3, v4, v5, v6⟩ := cells7z h5
        obtain ⟨x0, x1, x2, x3, x4, x5⟩ := cells6z h5.sw3
        have H5 := Lib.hid h5
        clear h5
        have HLY := Lib.hid (dlay_any i ⟨true, (i : Int), un, uo, uk, ua, ub⟩ (H5.out.sw2) HI.out.1 HI.out.2.1 rfl rfl)
        rw [show (⟨true, (i : Int), un, uo, uk, ua, ub⟩ : SW).c = (i : Int) from rfl] at HLY
        dsimp only at HLY
        clear H5
        (try dsimp only); repeat' (first | go_values | go_skip | go_guarded | go_step | go_upon | go_back)
        refine HLY.out.mono ?_
        rintro r2 w6 ⟨⟨xx, rfl⟩, h6⟩
        have H6 := Lib.hid (h6.pickL (M := [_, _, _]) [0] rfl)
        clear HLY h6
        (try dsimp only); repeat' (first | go_values | go_skip | go_guarded | go_step | go_upon | go_back)
        go_ret
        exact ⟨rfl, H6.out⟩
end Go.Proofs.Ytjjjkfdppleagaa
