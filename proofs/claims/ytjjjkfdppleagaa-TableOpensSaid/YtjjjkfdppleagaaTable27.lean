/- The document's table: may, Judge, Put, Back. -/
import Derived.Test.YtjjjkfdppleagaaTable26
import Derived.Test.YtjjjkfdppleagaaRefRes
namespace Go.Proofs.Ytjjjkfdppleagaa
open Go Go.RowKit
set_option linter.unusedVariables false
set_option linter.unusedSimpArgs false
set_option maxRecDepth 100000 in
set_option maxHeartbeats 0 in
theorem may_any {w0 w : World} {L : List Thing} (c n o k a b : Int) (h : Sep w0 L w) : Calls Try.prog 34 #[.agg #[.int .i64 c, .int .i64 n, .int .i64 o, .int .i64 k, .int .i64 a, .int .i64 b]] w fun e w' => e = .returned (.bool (clientOk c n o k a b)) ∧ Sep w0 L w' := by
  have h1 := h.alloc (.cells #[.int .i64 c, .int .i64 n, .int .i64 o, .int .i64 k, .int .i64 a, .int .i64 b] 31)
  obtain ⟨x0, x1, x2, x3, x4, x5⟩ := cells6z h1
  have H1 := Lib.hid h1.drop
  have HC := Lib.hid (rres_any k a b h1.drop)
  have hR : clientOk c n o k a b = (decide (0 ≤ c) && (decide (c < 8) && (decide (1 ≤ n) && (decide (n ≤ 2147483647) && (decide (1 ≤ o) && (decide (o ≤ 9007199254740991) && resB k a b)))))) := by
    unfold clientOk clientB
    by_cases q0 : 0 ≤ c <;> by_cases q1 : c < 8 <;> simp [q0, q1]
  rw [hR]
  clear h h1 hR
  by_cases q0 : 0 ≤ c
  rotate_left
  · have e0 : decide (0 ≤ c) = false := decide_eq_false q0
    rw [e0, Bool.false_and]
    clear q0 HC
    go_enter Try.func34, Try.ntmps34
    (try dsimp only); repeat' (first | go_values | go_skip | go_guarded | go_step | go_upon | go_back)
    go_ret
    exact ⟨rfl, H1.out⟩
  have e0 : decide (0 ≤ c) = true := decide_eq_true q0
  rw [e0, Bool.true_and]
  clear q0
  by_cases q1 : c < 8
  rotate_left
  · have e1 : decide (c < 8) = false := decide_eq_false q1
    rw [e1, Bool.false_and]
    clear q1 HC
    go_enter Try.func34, Try.ntmps34
    (try dsimp only); repeat' (first | go_values | go_skip | go_guarded | go_step | go_upon | go_back)
    go_ret
    exact ⟨rfl, H1.out⟩
  have e1 : decide (c < 8) = true := decide_eq_true q1
  rw [e1, Bool.true_and]
  clear q1
  by_cases q2 : 1 ≤ n
  rotate_left
  · have e2 : decide (1 ≤ n) = false := decide_eq_false q2
    rw [e2, Bool.false_and]
    clear q2 HC
    go_enter Try.func34, Try.ntmps34
    (try dsimp only); repeat' (first | go_values | go_skip | go_guarded | go_step | go_upon | go_back)
    go_ret
    exact ⟨rfl, H1.out⟩
  have e2 : decide (1 ≤ n) = true := decide_eq_true q2
  rw [e2, Bool.true_and]
  clear q2
  by_cases q3 : n ≤ 2147483647
  rotate_left
  · have e3 : decide (n ≤ 2147483647) = false := decide_eq_false q3
    rw [e3, Bool.false_and]
    clear q3 HC
    go_enter Try.func34, Try.ntmps34
    (try dsimp only); repeat' (first | go_values | go_skip | go_guarded | go_step | go_upon | go_back)
    go_ret
    exact ⟨rfl, H1.out⟩
  have e3 : decide (n ≤ 2147483647) = true := decide_eq_true q3
  rw [e3, Bool.true_and]
  clear q3
  by_cases q4 : 1 ≤ o
  rotate_left
  · have e4 : decide (1 ≤ o) = false := decide_eq_false q4
    rw [e4, Bool.false_and]
    clear q4 HC
    go_enter Try.func34, Try.ntmps34
    (try dsimp only); repeat' (first | go_values | go_skip | go_guarded | go_step | go_upon | go_back)
    go_ret
    exact ⟨rfl, H1.out⟩
  have e4 : decide (1 ≤ o) = true := decide_eq_true q4
  rw [e4, Bool.true_and]
  clear q4
  by_cases q5 : o ≤ 9007199254740991
  rotate_left
  · have e5 : decide (o ≤ 9007199254740991) = false := decide_eq_false q5
    rw [e5, Bool.false_and]
    clear q5 HC
    go_enter Try.func34, Try.ntmps34
    (try dsimp only); repeat' (first | go_values | go_skip | go_guarded | go_step | go_upon | go_back)
    go_ret
    exact ⟨rfl, H1.out⟩
  have e5 : decide (o ≤ 9007199254740991) = true := decide_eq_true q5
  rw [e5, Bool.true_and]
  clear q5
  cases hb : resB k a b with
  | true =>
    rw [hb] at HC
    unfold okE at HC
    clear hb
    go_enter Try.func34, Try.ntmps34
    (try dsimp only); repeat' (first | go_values | go_skip | go_guarded | go_step | go_upon | go_back)
    refine HC.out.mono ?_
    rintro r0 w1 ⟨rfl, h2⟩
    clear HC
    (try dsimp only); repeat' (first | go_values | go_skip | go_guarded | go_step | go_upon | go_back)
    go_ret
    exact ⟨rfl, h2⟩
  | false =>
    rw [hb] at HC
    unfold okE at HC
    clear hb
    go_enter Try.func34, Try.ntmps34
    (try dsimp only); repeat' (first | go_values | go_skip | go_guarded | go_step | go_upon | go_back)
    refine HC.out.mono ?_
    rintro r0 w1 ⟨rfl, h2⟩
    clear HC
    (try dsimp only); repeat' (first | go_values | go_skip | go_guarded | go_step | go_upon | go_back)
    go_ret
    exact ⟨rfl, h2⟩
theorem seatAt_form (T : List SW) (c : Int) : ∃ d x n o k a b, (seatAt T c) = ⟨d, x, n, o, k, a, b⟩ := ⟨_, _, _, _, _, _, _, rfl⟩
set_option maxRecDepth 100000 in
set_option maxHeartbeats 0 in
theorem djudge_any {w0 w : World} {g : Nat} {T : List SW} {L : List Thing} (c n : Int) (h : Sep w0 (DocT g (seatsOf T) :: L) w) (hI : TabI T) :
    Calls Try.prog 17 #[.pointer (some ⟨g, 0, none⟩), .int .i64 c, .int .i64 n] w fun e w' => e = .returned (.int .i64 (judgeV T c n)) ∧ Sep w0 (DocT g (seatsOf T) :: L) w' := by
  have HF := Lib.hid (dfind_any c h hI)
  have h8 := seats_len8 hI.len
  obtain ⟨m, hm⟩ : ∃ z, z = (seatsOf T).length := ⟨_, rfl⟩
  have HM := Lib.hid hm
  have hj : judgeV T c n = if (seatAt T c).had = true then (if (seatAt T c).n < n then 1 else if (seatAt T c).n = n then 2 else 3) else (if 6 ≤ m then 4 else 1) := by rw [hm]; rfl
  rw [hj]
  obtain ⟨sd, sc, sn, so, sk, sa, sb, hs⟩ := seatAt_form T c
  rw [hs] at HF ⊢
  unfold SW.val at HF
  dsimp only at HF ⊢
  have m0 : (0 : Int) ≤ (m : Int) := by omega
  have m8 : (m : Int) ≤ 8 := by omega
  obtain ⟨R, hR⟩ : ∃ R, R = (if sd = true then (if sn < n then (1 : Int) else if sn = n then 2 else 3) else (if 6 ≤ m then 4 else 1)) := ⟨_, rfl⟩
  rw [← hR]
  have HRR := Lib.hid hR
  clear h hI hs hj h8 hm hR
  go_enter Try.func17, Try.ntmps17
  (try dsimp only); repeat' (first | go_values | go_skip | go_guarded | go_step | go_upon | go_back)
  refine HF.out.mono ?_
  rintro r0 w1 ⟨rfl, h1⟩
  have h2 := h1.alloc (.cells #[.int .i64 sc, .int .i64 sn, .int .i64 so, .int .i64 sk, .int .i64 sa, .int .i64 sb] 31)
  have x1 := h2.cell (o := 1) rfl
  obtain ⟨da, dc, h3⟩ := h2.sw2.docOpen
  have y0 := h3.cell (o := 0) rfl
  rw [← HM.out] at y0
  have H2 := Lib.hid h2.drop
  clear HF h1 h2 h3
  cases sd with
  | false =>
    by_cases q : 6 ≤ m
    · have d0 : decide (6 ≤ (m : Int)) = true := decide_eq_true (by omega)
      have hr : R = 4 := by rw [HRR.out, if_neg (by simp), if_pos q]
      have HR4 := Lib.hid hr
      clear hr HRR q
      (try dsimp only); repeat' (first | go_values | go_skip | go_guarded | go_step | go_upon | go_back)
      go_ret
      exact ⟨by rw [HR4.out]; rfl, H2.out⟩
    · have d0 : decide (6 ≤ (m : Int)) = false := decide_eq_false (by omega)
      have hr : R = 1 := by rw [HRR.out, if_neg (by simp), if_neg q]
      have HR4 := Lib.hid hr
      clear hr HRR q
      (try dsimp only); repeat' (first | go_values | go_skip | go_guarded | go_step | go_upon | go_back)
      go_ret
      exact ⟨by rw [HR4.out]; rfl, H2.out⟩
  | true =>
    by_cases q0 : sn < n
    · have d0 : decide (sn < n) = true := decide_eq_true q0
      have q := q0
      clear q0
      have hr : R = 1 := by rw [HRR.out, if_pos rfl, if_pos q]
      have HR4 := Lib.hid hr
      clear hr HRR q
      (try dsimp only); repeat' (first | go_values | go_skip | go_guarded | go_step | go_upon | go_back)
      go_ret
      exact ⟨by rw [HR4.out]; rfl, H2.out⟩
    · have d0 : decide (sn < n) = false := decide_eq_false q0
      have HQ0 := Lib.hid q0
      clear q0
      by_cases q : sn = n
      · have d1 : (sn == n) = true := beq_iff_eq.2 q
        have hr : R = 2 := by rw [HRR.out, if_pos rfl, if_neg HQ0.out, if_pos q]
        have HR4 := Lib.hid hr
        clear hr HRR q
        (try dsimp only); repeat' (first | go_values | go_skip | go_guarded | go_step | go_upon | go_back)
        go_ret
        exact ⟨by rw [HR4.out]; rfl, H2.out⟩
      · have d1 : (sn == n) = false := beq_eq_false_iff_ne.2 q
        have hr : R = 3 := by rw [HRR.out, if_pos rfl, if_neg HQ0.out, if_neg q]
        have HR4 := Lib.hid hr
        clear hr HRR q
        (try dsimp only); repeat' (first | go_values | go_skip | go_guarded | go_step | go_upon | go_back)
        go_ret
        exact ⟨by rw [HR4.out]; rfl, H2.out⟩
set_option maxRecDepth 100000 in
set_option maxHeartbeats 0 in
theorem dput_bad {w0 w : World} {g : Nat} {T : List SW} {L : List Thing} (c n o k a b : Int) (h : Sep w0 (DocT g (seatsOf T) :: L) w) (hI : TabI T) (hok : clientOk c n o k a b = false) :
    Calls Try.prog 19 #[.pointer (some ⟨g, 0, none⟩), .agg #[.int .i64 c, .int .i64 n, .int .i64 o, .int .i64 k, .int .i64 a, .int .i64 b]] w fun e w' => e = .returned (.tuple #[.agg #[.bool false, .int .i64 0, .int .i64 0, .int .i64 0, .int .i64 0, .int .i64 0, .int .i64 0], .int .i64 2]) ∧ Sep w0 (DocT g (seatsOf T) :: L) w' := by
  have h1 := (h.alloc (.cells #[.int .i64 c, .int .i64 n, .int .i64 o, .int .i64 k, .int .i64 a, .int .i64 b] 31)).alloc (.cells #[.bool false, .int .i64 0, .int .i64 0, .int .i64 0, .int .i64 0, .int .i64 0, .int .i64 0] 33)
  rw [World.size_alloc] at h1
  have h2 : Sep w0 (DocT g (seatsOf T) :: Cl w.heap.size #[.int .i64 c, .int .i64 n, .int .i64 o, .int .i64 k, .int .i64 a, .int .i64 b] 31 :: Cl (w.heap.size + 1) #[.bool false, .int .i64 0, .int .i64 0, .int .i64 0, .int .i64 0, .int .i64 0, .int .i64 0] 33 :: L) _ := h1.sw2.sw3
  obtain ⟨x0, x1, x2, x3, x4, x5⟩ := cells6z h2.sw2
  have HMA := Lib.hid (may_any c n o k a b h2)
  rw [hok] at HMA
  obtain ⟨b3, hb3⟩ : ∃ z, z = w.heap.size := ⟨_, rfl⟩
  obtain ⟨w3, hw3⟩ : ∃ z, z = (w.alloc (.cells #[.int .i64 c, .int .i64 n, .int .i64 o, .int .i64 k, .int .i64 a, .int .i64 b] 31)).alloc (.cells #[.bool false, .int .i64 0, .int .i64 0, .int .i64 0, .int .i64 0, .int .i64 0, .int .i64 0] 33) := ⟨_, rfl⟩
  rw [← hb3, ← hw3] at HMA
  have HI := Lib.hid hI
  clear h h1 h2 hI hok
  go_enter Try.func19, Try.ntmps19
  (try dsimp only); repeat' (first | go_values | go_skip | go_guarded | go_step | go_upon | go_back)
  rw [← hw3, ← hb3]
  clear x0 x1 x2 x3 x4 x5 hw3 hb3
  refine HMA.out.mono ?_
  rintro r0 w4 ⟨rfl, h4⟩
  obtain ⟨b4, hb4⟩ : ∃ z, z = b3 + 1 := ⟨_, rfl⟩
  rw [← hb4] at h4 ⊢
  clear HMA hb4
  have h5 := h4.sw3
  clear h4
  obtain ⟨v0, v1, v2, v3, v4, v5, v6⟩ := cells7z h5
  have f0 := h5.frozen 0
  have f1 := h5.frozen 1
  have f2 := h5.frozen 2
  have f3 := h5.frozen 3
  have f4 := h5.frozen 4
  have f5 := h5.frozen 5
  have f6 := h5.frozen 6
  have hz := store7z h5 (.bool false) (.int .i64 0) (.int .i64 0) (.int .i64 0) (.int .i64 0) (.int .i64 0) (.int .i64 0)
  obtain ⟨z0, z1, z2, z3, z4, z5, z6⟩ := cells7z hz
  have HZ := Lib.hid hz
  clear hz h5
  (try dsimp only); repeat' (first | go_values | go_skip | go_guarded | go_step | go_upon | go_back)
  exact bodyPost_ret (v := .tuple #[.agg #[.bool false, .int .i64 0, .int .i64 0, .int .i64 0, .int .i64 0, .int .i64 0, .int .i64 0], .int .i64 2]) (by simp [results, Try.results19, go_sem, z0, z1, z2, z3, z4, z5, z6]) rfl ⟨rfl, (HZ.out.pickL (M := [_, _, _]) [1] rfl)⟩
set_option maxRecDepth 100000 in
set_option maxHeartbeats 0 in
theorem dput_full {w0 w : World} {g : Nat} {T : List SW} {L : List Thing} (c n o k a b : Int) (h : Sep w0 (DocT g (seatsOf T) :: L) w) (hI : TabI T) (hok : clientOk c n o k a b = true) (hj : judgeV T c n = 4) :
    Calls Try.prog 19 #[.pointer (some ⟨g, 0, none⟩), .agg #[.int .i64 c, .int .i64 n, .int .i64 o, .int .i64 k, .int .i64 a, .int .i64 b]] w fun e w' => e = .returned (.tuple #[.agg #[.bool false, .int .i64 0, .int .i64 0, .int .i64 0, .int .i64 0, .int .i64 0, .int .i64 0], .int .i64 5]) ∧ Sep w0 (DocT g (seatsOf T) :: L) w' := by
  have h1 := (h.alloc (.cells #[.int .i64 c, .int .i64 n, .int .i64 o, .int .i64 k, .int .i64 a, .int .i64 b] 31)).alloc (.cells #[.bool false, .int .i64 0, .int .i64 0, .int .i64 0, .int .i64 0, .int .i64 0, .int .i64 0] 33)
  rw [World.size_alloc] at h1
  have h2 : Sep w0 (DocT g (seatsOf T) :: Cl w.heap.size #[.int .i64 c, .int .i64 n, .int .i64 o, .int .i64 k, .int .i64 a, .int .i64 b] 31 :: Cl (w.heap.size + 1) #[.bool false, .int .i64 0, .int .i64 0, .int .i64 0, .int .i64 0, .int .i64 0, .int .i64 0] 33 :: L) _ := h1.sw2.sw3
  obtain ⟨x0, x1, x2, x3, x4, x5⟩ := cells6z h2.sw2
  have HMA := Lib.hid (may_any c n o k a b h2)
  rw [hok] at HMA
  obtain ⟨b3, hb3⟩ : ∃ z, z = w.heap.size := ⟨_, rfl⟩
  obtain ⟨w3, hw3⟩ : ∃ z, z = (w.alloc (.cells #[.int .i64 c, .int .i64 n, .int .i64 o, .int .i64 k, .int .i64 a, .int .i64 b] 31)).alloc (.cells #[.bool false, .int .i64 0, .int .i64 0, .int .i64 0, .int .i64 0, .int .i64 0, .int .i64 0] 33) := ⟨_, rfl⟩
  rw [← hb3, ← hw3] at HMA
  have HI := Lib.hid hI
  clear h h1 h2 hI hok
  go_enter Try.func19, Try.ntmps19
  (try dsimp only); repeat' (first | go_values | go_skip | go_guarded | go_step | go_upon | go_back)
  rw [← hw3, ← hb3]
  clear x0 x1 x2 x3 x4 x5 hw3 hb3
  refine HMA.out.mono ?_
  rintro r0 w4 ⟨rfl, h4⟩
  obtain ⟨b4, hb4⟩ : ∃ z, z = b3 + 1 := ⟨_, rfl⟩
  rw [← hb4] at h4 ⊢
  clear HMA hb4
  obtain ⟨x0, x1, x2, x3, x4, x5⟩ := cells6z h4.sw2
  have HJ := Lib.hid (djudge_any c n h4 HI.out)
  rw [hj] at HJ
  clear h4 hj
  (try dsimp only); repeat' (first | go_values | go_skip | go_guarded | go_step | go_upon | go_back)
  refine HJ.out.mono ?_
  rintro r1 w5 ⟨rfl, h5⟩
  clear HJ x0 x1 x2 x3 x4 x5
  have h6 := h5.sw3
  clear h5
  obtain ⟨v0, v1, v2, v3, v4, v5, v6⟩ := cells7z h6
  have f0 := h6.frozen 0
  have f1 := h6.frozen 1
  have f2 := h6.frozen 2
  have f3 := h6.frozen 3
  have f4 := h6.frozen 4
  have f5 := h6.frozen 5
  have f6 := h6.frozen 6
  have hz := store7z h6 (.bool false) (.int .i64 0) (.int .i64 0) (.int .i64 0) (.int .i64 0) (.int .i64 0) (.int .i64 0)
  obtain ⟨z0, z1, z2, z3, z4, z5, z6⟩ := cells7z hz
  have HZ := Lib.hid hz
  clear hz h6
  (try dsimp only); repeat' (first | go_values | go_skip | go_guarded | go_step | go_upon | go_back)
  exact bodyPost_ret (v := .tuple #[.agg #[.bool false, .int .i64 0, .int .i64 0, .int .i64 0, .int .i64 0, .int .i64 0, .int .i64 0], .int .i64 5]) (by simp [results, Try.results19, go_sem, z0, z1, z2, z3, z4, z5, z6]) rfl ⟨rfl, (HZ.out.pickL (M := [_, _, _]) [1] rfl)⟩
set_option maxRecDepth 100000 in
set_option maxHeartbeats 0 in
theorem dput_same {w0 w : World} {g : Nat} {T : List SW} {L : List Thing} (c n o k a b : Int) (h : Sep w0 (DocT g (seatsOf T) :: L) w) (hI : TabI T) (hok : clientOk c n o k a b = true) (hj : judgeV T c n = 2) :
    Calls Try.prog 19 #[.pointer (some ⟨g, 0, none⟩), .agg #[.int .i64 c, .int .i64 n, .int .i64 o, .int .i64 k, .int .i64 a, .int .i64 b]] w fun e w' => e = .returned (.tuple #[.agg #[.bool false, .int .i64 0, .int .i64 0, .int .i64 0, .int .i64 0, .int .i64 0, .int .i64 0], .int .i64 9]) ∧ Sep w0 (DocT g (seatsOf T) :: L) w' := by
  have h1 := (h.alloc (.cells #[.int .i64 c, .int .i64 n, .int .i64 o, .int .i64 k, .int .i64 a, .int .i64 b] 31)).alloc (.cells #[.bool false, .int .i64 0, .int .i64 0, .int .i64 0, .int .i64 0, .int .i64 0, .int .i64 0] 33)
  rw [World.size_alloc] at h1
  have h2 : Sep w0 (DocT g (seatsOf T) :: Cl w.heap.size #[.int .i64 c, .int .i64 n, .int .i64 o, .int .i64 k, .int .i64 a, .int .i64 b] 31 :: Cl (w.heap.size + 1) #[.bool false, .int .i64 0, .int .i64 0, .int .i64 0, .int .i64 0, .int .i64 0, .int .i64 0] 33 :: L) _ := h1.sw2.sw3
  obtain ⟨x0, x1, x2, x3, x4, x5⟩ := cells6z h2.sw2
  have HMA := Lib.hid (may_any c n o k a b h2)
  rw [hok] at HMA
  obtain ⟨b3, hb3⟩ : ∃ z, z = w.heap.size := ⟨_, rfl⟩
  obtain ⟨w3, hw3⟩ : ∃ z, z = (w.alloc (.cells #[.int .i64 c, .int .i64 n, .int .i64 o, .int .i64 k, .int .i64 a, .int .i64 b] 31)).alloc (.cells #[.bool false, .int .i64 0, .int .i64 0, .int .i64 0, .int .i64 0, .int .i64 0, .int .i64 0] 33) := ⟨_, rfl⟩
  rw [← hb3, ← hw3] at HMA
  have HI := Lib.hid hI
  clear h h1 h2 hI hok
  go_enter Try.func19, Try.ntmps19
  (try dsimp only); repeat' (first | go_values | go_skip | go_guarded | go_step | go_upon | go_back)
  rw [← hw3, ← hb3]
  clear x0 x1 x2 x3 x4 x5 hw3 hb3
  refine HMA.out.mono ?_
  rintro r0 w4 ⟨rfl, h4⟩
  obtain ⟨b4, hb4⟩ : ∃ z, z = b3 + 1 := ⟨_, rfl⟩
  rw [← hb4] at h4 ⊢
  clear HMA hb4
  obtain ⟨x0, x1, x2, x3, x4, x5⟩ := cells6z h4.sw2
  have HJ := Lib.hid (djudge_any c n h4 HI.out)
  rw [hj] at HJ
  clear h4 hj
  (try dsimp only); repeat' (first | go_values | go_skip | go_guarded | go_step | go_upon | go_back)
  refine HJ.out.mono ?_
  rintro r1 w5 ⟨rfl, h5⟩
  clear HJ x0 x1 x2 x3 x4 x5
  have h6 := h5.sw3
  clear h5
  obtain ⟨v0, v1, v2, v3, v4, v5, v6⟩ := cells7z h6
  have f0 := h6.frozen 0
  have f1 := h6.frozen 1
  have f2 := h6.frozen 2
  have f3 := h6.frozen 3
  have f4 := h6.frozen 4
  have f5 := h6.frozen 5
  have f6 := h6.frozen 6
  have hz := store7z h6 (.bool false) (.int .i64 0) (.int .i64 0) (.int .i64 0) (.int .i64 0) (.int .i64 0) (.int .i64 0)
  obtain ⟨z0, z1, z2, z3, z4, z5, z6⟩ := cells7z hz
  have HZ := Lib.hid hz
  clear hz h6
  (try dsimp only); repeat' (first | go_values | go_skip | go_guarded | go_step | go_upon | go_back)
  exact bodyPost_ret (v := .tuple #[.agg #[.bool false, .int .i64 0, .int .i64 0, .int .i64 0, .int .i64 0, .int .i64 0, .int .i64 0], .int .i64 9]) (by simp [results, Try.results19, go_sem, z0, z1, z2, z3, z4, z5, z6]) rfl ⟨rfl, (HZ.out.pickL (M := [_, _, _]) [1] rfl)⟩
set_option maxRecDepth 100000 in
set_option maxHeartbeats 0 in
theorem dput_old {w0 w : World} {g : Nat} {T : List SW} {L : List Thing} (c n o k a b : Int) (h : Sep w0 (DocT g (seatsOf T) :: L) w) (hI : TabI T) (hok : clientOk c n o k a b = true) (hj : judgeV T c n = 3) :
    Calls Try.prog 19 #[.pointer (some ⟨g, 0, none⟩), .agg #[.int .i64 c, .int .i64 n, .int .i64 o, .int .i64 k, .int .i64 a, .int .i64 b]] w fun e w' => e = .returned (.tuple #[.agg #[.bool false, .int .i64 0, .int .i64 0, .int .i64 0, .int .i64 0, .int .i64 0, .int .i64 0], .int .i64 9]) ∧ Sep w0 (DocT g (seatsOf T) :: L) w' := by
  have h1 := (h.alloc (.cells #[.int .i64 c, .int .i64 n, .int .i64 o, .int .i64 k, .int .i64 a, .int .i64 b] 31)).alloc (.cells #[.bool false, .int .i64 0, .int .i64 0, .int .i64 0, .int .i64 0, .int .i64 0, .int .i64 0] 33)
  rw [World.size_alloc] at h1
  have h2 : Sep w0 (DocT g (seatsOf T) :: Cl w.heap.size #[.int .i64 c, .int .i64 n, .int .i64 o, .int .i64 k, .int .i64 a, .int .i64 b] 31 :: Cl (w.heap.size + 1) #[.bool false, .int .i64 0, .int .i64 0, .int .i64 0, .int .i64 0, .int .i64 0, .int .i64 0] 33 :: L) _ := h1.sw2.sw3
  obtain ⟨x0, x1, x2, x3, x4, x5⟩ := cells6z h2.sw2
  have HMA := Lib.hid (may_any c n o k a b h2)
  rw [hok] at HMA
  obtain ⟨b3, hb3⟩ : ∃ z, z = w.heap.size := ⟨_, rfl⟩
  obtain ⟨w3, hw3⟩ : ∃ z, z = (w.alloc (.cells #[.int .i64 c, .int .i64 n, .int .i64 o, .int .i64 k, .int .i64 a, .int .i64 b] 31)).alloc (.cells #[.bool false, .int .i64 0, .int .i64 0, .int .i64 0, .int .i64 0, .int .i64 0, .int .i64 0] 33) := ⟨_, rfl⟩
  rw [← hb3, ← hw3] at HMA
  have HI := Lib.hid hI
  clear h h1 h2 hI hok
  go_enter Try.func19, Try.ntmps19
  (try dsimp only); repeat' (first | go_values | go_skip | go_guarded | go_step | go_upon | go_back)
  rw [← hw3, ← hb3]
  clear x0 x1 x2 x3 x4 x5 hw3 hb3
  refine HMA.out.mono ?_
  rintro r0 w4 ⟨rfl, h4⟩
  obtain ⟨b4, hb4⟩ : ∃ z, z = b3 + 1 := ⟨_, rfl⟩
  rw [← hb4] at h4 ⊢
  clear HMA hb4
  obtain ⟨x0, x1, x2, x3, x4, x5⟩ := cells6z h4.sw2
  have HJ := Lib.hid (djudge_any c n h4 HI.out)
  rw [hj] at HJ
  clear h4 hj
  (try dsimp only); repeat' (first | go_values | go_skip | go_guarded | go_step | go_upon | go_back)
  refine HJ.out.mono ?_
  rintro r1 w5 ⟨rfl, h5⟩
  clear HJ x0 x1 x2 x3 x4 x5
  have h6 := h5.sw3
  clear h5
  obtain ⟨v0, v1, v2, v3, v4, v5, v6⟩ := cells7z h6
  have f0 := h6.frozen 0
  have f1 := h6.frozen 1
  have f2 := h6.frozen 2
  have f3 := h6.frozen 3
  have f4 := h6.frozen 4
  have f5 := h6.frozen 5
  have f6 := h6.frozen 6
  have hz := store7z h6 (.bool false) (.int .i64 0) (.int .i64 0) (.int .i64 0) (.int .i64 0) (.int .i64 0) (.int .i64 0)
  obtain ⟨z0, z1, z2, z3, z4, z5, z6⟩ := cells7z hz
  have HZ := Lib.hid hz
  clear hz h6
  (try dsimp only); repeat' (first | go_values | go_skip | go_guarded | go_step | go_upon | go_back)
  exact bodyPost_ret (v := .tuple #[.agg #[.bool false, .int .i64 0, .int .i64 0, .int .i64 0, .int .i64 0, .int .i64 0, .int .i64 0], .int .i64 9]) (by simp [results, Try.results19, go_sem, z0, z1, z2, z3, z4, z5, z6]) rfl ⟨rfl, (HZ.out.pickL (M := [_, _, _]) [1] rfl)⟩
theorem built7g (d : Bool) (c n o k a b : Int) : Try.prog.built 33 [(0, .bool d), (1, .agg #[.int .i64 c, .int .i64 n, .int .i64 o, .int .i64 k, .int .i64 a, .int .i64 b])] = some #[.bool d, .int .i64 c, .int .i64 n, .int .i64 o, .int .i64 k, .int .i64 a, .int .i64 b] := by cases d <;> kernel_rfl
set_option maxRecDepth 100000 in
set_option maxHeartbeats 0 in
theorem dput_new {w0 w : World} {g : Nat} {T : List SW} {L : List Thing} (i : Nat) (n o k a b : Int) (h : Sep w0 (DocT g (seatsOf T) :: L) w) (hI : TabI T) (s : SW) (hs : T[i]? = some s) (hok : clientOk i n o k a b = true) (hj : judgeV T i n = 1) :
    Calls Try.prog 19 #[.pointer (some ⟨g, 0, none⟩), .agg #[.int .i64 (i : Int), .int .i64 n, .int .i64 o, .int .i64 k, .int .i64 a, .int .i64 b]] w fun e w' => e = .returned (.tuple #[.agg #[.bool s.had, .int .i64 s.c, .int .i64 s.n, .int .i64 s.o, .int .i64 s.k, .int .i64 s.a, .int .i64 s.b], .int .i64 0]) ∧ Sep w0 (DocT g (seatsOf (T.set i ⟨true, i, n, o, k, a, b⟩)) :: L) w' := by
  have h1 := (h.alloc (.cells #[.int .i64 (i : Int), .int .i64 n, .int .i64 o, .int .i64 k, .int .i64 a, .int .i64 b] 31)).alloc (.cells #[.bool false, .int .i64 0, .int .i64 0, .int .i64 0, .int .i64 0, .int .i64 0, .int .i64 0] 33)
  rw [World.size_alloc] at h1
  have h2 : Sep w0 (DocT g (seatsOf T) :: Cl w.heap.size #[.int .i64 (i : Int), .int .i64 n, .int .i64 o, .int .i64 k, .int .i64 a, .int .i64 b] 31 :: Cl (w.heap.size + 1) #[.bool false, .int .i64 0, .int .i64 0, .int .i64 0, .int .i64 0, .int .i64 0, .int .i64 0] 33 :: L) _ := h1.sw2.sw3
  obtain ⟨x0, x1, x2, x3, x4, x5⟩ := cells6z h2.sw2
  have HMA := Lib.hid (may_any i n o k a b h2)
  rw [hok] at HMA
  obtain ⟨b3, hb3⟩ : ∃ z, z = w.heap.size := ⟨_, rfl⟩
  obtain ⟨w3, hw3⟩ : ∃ z, z = (w.alloc (.cells #[.int .i64 (i : Int), .int .i64 n, .int .i64 o, .int .i64 k, .int .i64 a, .int .i64 b] 31)).alloc (.cells #[.bool false, .int .i64 0, .int .i64 0, .int .i64 0, .int .i64 0, .int .i64 0, .int .i64 0] 33) := ⟨_, rfl⟩
  rw [← hb3, ← hw3] at HMA
  have HI := Lib.hid hI
  have HSE := Lib.hid hs
  have HI8 : Hid (i < 8) := Lib.hid (by obtain ⟨h9, -⟩ := List.getElem?_eq_some_iff.1 hs; rw [hI.len] at h9; exact h9)
  clear h h1 h2 hI hok hs
  go_enter Try.func19, Try.ntmps19
  (try dsimp only); repeat' (first | go_values | go_skip | go_guarded | go_step | go_upon | go_back)
  rw [← hw3, ← hb3]
  clear x0 x1 x2 x3 x4 x5 hw3 hb3
  refine HMA.out.mono ?_
  rintro r0 w4 ⟨rfl, h4⟩
  obtain ⟨b4, hb4⟩ : ∃ z, z = b3 + 1 := ⟨_, rfl⟩
  rw [← hb4] at h4 ⊢
  clear HMA hb4
  obtain ⟨x0, x1, x2, x3, x4, x5⟩ := cells6z h4.sw2
  have HJ := Lib.hid (djudge_any (i : Int) n h4 HI.out)
  rw [hj] at HJ
  clear h4 hj
  (try dsimp only); repeat' (first | go_values | go_skip | go_guarded | go_step | go_upon | go_back)
  refine HJ.out.mono ?_
  rintro r1 w5 ⟨rfl, h5⟩
  clear HJ x0 x1 x2 x3 x4 x5
  obtain ⟨x0, x1, x2, x3, x4, x5⟩ := cells6z h5.sw2
  have HF := Lib.hid (dfind_any (i : Int) h5 HI.out)
  rw [seatAt_get HI.out.len HI8.out HSE.out] at HF
  unfold SW.val at HF
  clear h5
  (try dsimp only); repeat' (first | go_values | go_skip | go_guarded | go_step | go_upon | go_back)
  refine HF.out.mono ?_
  rintro r2 w6 ⟨rfl, h6⟩
  clear HF x0 x1 x2 x3 x4 x5
  have h7 := (h6.alloc (.cells #[.int .i64 s.c, .int .i64 s.n, .int .i64 s.o, .int .i64 s.k, .int .i64 s.a, .int .i64 s.b] 31)).sw2
  obtain ⟨b6, hb6⟩ : ∃ z, z = w6.heap.size := ⟨_, rfl⟩
  obtain ⟨w7, hw7⟩ : ∃ z, z = w6.alloc (.cells #[.int .i64 s.c, .int .i64 s.n, .int .i64 s.o, .int .i64 s.k, .int .i64 s.a, .int .i64 s.b] 31) := ⟨_, rfl⟩
  obtain ⟨x0, x1, x2, x3, x4, x5⟩ := cells6z (h7.pickL (M := [_, _, _]) [2, 0, 1] rfl)
  have HLY := Lib.hid (dlay_any i ⟨true, i, n, o, k, a, b⟩ h7 HI.out HI8.out rfl rfl)
  rw [← hb6, ← hw7] at HLY
  clear h6 h7
  (try dsimp only); repeat' (first | go_values | go_skip | go_guarded | go_step | go_upon | go_back)
  rw [← hw7, ← hb6]
  clear hw7 hb6 x0 x1 x2 x3 x4 x5
  refine HLY.out.mono ?_
  rintro r3 w8 ⟨⟨xx, rfl⟩, h8⟩
  clear HLY
  obtain ⟨x0, x1, x2, x3, x4, x5⟩ := cells6z h8.sw2
  have h9 := h8.sw4
  clear h8
  obtain ⟨v0, v1, v2, v3, v4, v5, v6⟩ := cells7z h9
  have f0 := h9.frozen 0
  have f1 := h9.frozen 1
  have f2 := h9.frozen 2
  have f3 := h9.frozen 3
  have f4 := h9.frozen 4
  have f5 := h9.frozen 5
  have f6 := h9.frozen 6
  have hz := store7z h9 (.bool s.had) (.int .i64 s.c) (.int .i64 s.n) (.int .i64 s.o) (.int .i64 s.k) (.int .i64 s.a) (.int .i64 s.b)
  obtain ⟨z0, z1, z2, z3, z4, z5, z6⟩ := cells7z hz
  have HZ := Lib.hid hz
  clear hz h9
  (try dsimp only); repeat' (first | (refine wpList_build_run rfl 33 #[(0, .tmp 35), (1, .tmp 36)] rfl _ (by rw [Array.toList_map]; exact built7g s.had s.c s.n s.o s.k s.a s.b) ?_) | go_values | go_skip | go_guarded | go_step | go_upon | go_back)
  exact bodyPost_ret (v := .tuple #[.agg #[.bool s.had, .int .i64 s.c, .int .i64 s.n, .int .i64 s.o, .int .i64 s.k, .int .i64 s.a, .int .i64 s.b], .int .i64 0]) (by simp [results, Try.results19, go_sem, z0, z1, z2, z3, z4, z5, z6]) rfl ⟨rfl, (HZ.out.pickL (M := [_, _, _, _]) [1] rfl)⟩
end Go.Proofs.Ytjjjkfdppleagaa
