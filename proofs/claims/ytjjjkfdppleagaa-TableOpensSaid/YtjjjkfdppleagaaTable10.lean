/- A seat is put back. -/
import Derived.Test.YtjjjkfdppleagaaTable9
import Derived.Test.YtjjjkfdppleagaaTable4
namespace Go.Proofs.Ytjjjkfdppleagaa
open Go Go.RowKit
set_option linter.unusedVariables false
set_option linter.unusedSimpArgs false
def precV (s t : SW) : Bool := if s.had = true then clientOk s.c s.n s.o s.k s.a s.b && decide (s.c = t.c ∧ s.n < t.n) else s.blank
theorem built0 : Try.prog.built 31 [] = some #[.int .i64 0, .int .i64 0, .int .i64 0, .int .i64 0, .int .i64 0, .int .i64 0] := by kernel_rfl
set_option maxHeartbeats 8000000 in
theorem prec_not (s t : SW) (w : World) (hh : s.had = false) :
    Calls Try.prog 33 #[s.whole, t.val] w fun e w' => e = .returned (.bool s.blank) ∧ Below w.heap.size w w' := by
  have hb : Below w.heap.size w ((w.alloc (.cells #[.bool false, .int .i64 s.c, .int .i64 s.n, .int .i64 s.o, .int .i64 s.k, .int .i64 s.a, .int .i64 s.b] 33)).alloc (.cells #[.int .i64 t.c, .int .i64 t.n, .int .i64 t.o, .int .i64 t.k, .int .i64 t.a, .int .i64 t.b] 31)) := ((Below.refl _ _).alloc (Nat.le_refl _) _).alloc (by simp) _
  have HB := Lib.hid hb
  obtain ⟨r, hr⟩ : ∃ z, z = s.blank := ⟨_, rfl⟩
  unfold SW.whole SW.val
  rw [hh, ← hr]
  unfold SW.blank at hr
  clear hb hh
  obtain ⟨d, c, n, o, k, a, b⟩ := s
  dsimp only at hr HB ⊢
  by_cases h0 : c = 0
  rotate_left
  · have e0 : (c == 0) = false := beq_eq_false_iff_ne.2 h0
    rw [decide_eq_false (fun h => h0 h.1)] at hr
    subst hr
    clear h0
    go_enter Try.func33, Try.ntmps33
    (try dsimp only); repeat' (first | go_values | go_skip | go_guarded | go_step | go_upon | go_back)
    go_ret
    exact ⟨rfl, HB.out⟩
  subst h0
  by_cases h1 : n = 0
  rotate_left
  · have e1 : (n == 0) = false := beq_eq_false_iff_ne.2 h1
    rw [decide_eq_false (fun h => h1 h.2.1)] at hr
    subst hr
    clear h1
    go_enter Try.func33, Try.ntmps33
    (try dsimp only); repeat' (first | go_values | go_skip | go_guarded | go_step | go_upon | go_back)
    go_ret
    exact ⟨rfl, HB.out⟩
  subst h1
  by_cases h2 : o = 0
  rotate_left
  · have e2 : (o == 0) = false := beq_eq_false_iff_ne.2 h2
    rw [decide_eq_false (fun h => h2 h.2.2.1)] at hr
    subst hr
    clear h2
    go_enter Try.func33, Try.ntmps33
    (try dsimp only); repeat' (first | go_values | go_skip | go_guarded | go_step | go_upon | go_back)
    go_ret
    exact ⟨rfl, HB.out⟩
  subst h2
  by_cases h3 : k = 0
  rotate_left
  · have e3 : (k == 0) = false := beq_eq_false_iff_ne.2 h3
    rw [decide_eq_false (fun h => h3 h.2.2.2.1)] at hr
    subst hr
    clear h3
    go_enter Try.func33, Try.ntmps33
    (try dsimp only); repeat' (first | go_values | go_skip | go_guarded | go_step | go_upon | go_back)
    go_ret
    exact ⟨rfl, HB.out⟩
  subst h3
  by_cases h4 : a = 0
  rotate_left
  · have e4 : (a == 0) = false := beq_eq_false_iff_ne.2 h4
    rw [decide_eq_false (fun h => h4 h.2.2.2.2.1)] at hr
    subst hr
    clear h4
    go_enter Try.func33, Try.ntmps33
    (try dsimp only); repeat' (first | go_values | go_skip | go_guarded | go_step | go_upon | go_back)
    go_ret
    exact ⟨rfl, HB.out⟩
  subst h4
  by_cases h5 : b = 0
  rotate_left
  · have e5 : (b == 0) = false := beq_eq_false_iff_ne.2 h5
    rw [decide_eq_false (fun h => h5 h.2.2.2.2.2)] at hr
    subst hr
    clear h5
    go_enter Try.func33, Try.ntmps33
    (try dsimp only); repeat' (first | go_values | go_skip | go_guarded | go_step | go_upon | go_back)
    go_ret
    exact ⟨rfl, HB.out⟩
  subst h5
  rw [decide_eq_true ⟨rfl, rfl, rfl, rfl, rfl, rfl⟩] at hr
  subst hr
  go_enter Try.func33, Try.ntmps33
  (try dsimp only); repeat' (first | go_values | go_skip | go_guarded | go_step | go_upon | go_back)
  go_ret
  exact ⟨rfl, HB.out⟩
theorem prec_any (s t : SW) (w : World) : Calls Try.prog 33 #[s.whole, t.val] w fun e w' => e = .returned (.bool (precV s t)) ∧ Below w.heap.size w w' := by
  unfold precV
  cases hh : s.had with
  | false => rw [if_neg (by simp)]; exact prec_not s t w hh
  | true =>
    rw [if_pos rfl]
    cases hc : clientOk s.c s.n s.o s.k s.a s.b with
    | false => rw [Bool.false_and]; exact prec_bad s t w hh hc
    | true => rw [Bool.true_and]; exact prec_had s t w hh hc
set_option maxRecDepth 100000 in
set_option maxHeartbeats 16000000 in
theorem back_none {w0 w : World} {g : Nat} {T : List SW} {L : List Thing} (c : Int) (hs : (seatAt T c).had = false) (u : SW) (h : Sep w0 (TabT g T :: L) w) (hT : T.length = 8) : Calls Try.prog 12 #[.pointer (some ⟨g, 0, none⟩), .int .i64 c, .agg #[.bool u.had, .int .i64 u.c, .int .i64 u.n, .int .i64 u.o, .int .i64 u.k, .int .i64 u.a, .int .i64 u.b]] w fun e w' => e = .returned (.int .i64 90) ∧ Sep w0 (TabT g T :: L) w' := by
  have h1 := h.alloc (.cells #[.bool u.had, .int .i64 u.c, .int .i64 u.n, .int .i64 u.o, .int .i64 u.k, .int .i64 u.a, .int .i64 u.b] 33)
  obtain ⟨b5, hb5⟩ : ∃ z, z = w.heap.size := ⟨_, rfl⟩
  obtain ⟨w3, hw3⟩ : ∃ z, z = w.alloc (.cells #[.bool u.had, .int .i64 u.c, .int .i64 u.n, .int .i64 u.o, .int .i64 u.k, .int .i64 u.a, .int .i64 u.b] 33) := ⟨_, rfl⟩
  rw [← hb5, ← hw3] at h1
  have HN := Lib.hid (tnone_c (h1.sw2.made))
  have hf := find_any c h1.sw2 hT
  generalize seatAt T c = s at hf hs
  unfold SW.val at hf
  rw [hs] at hf
  clear hs
  have HF := Lib.hid hf
  clear h h1 hT hf
  go_enter Try.func12, Try.ntmps12
  (try dsimp only); repeat' (first | go_values | go_skip | go_guarded | go_step | go_upon | go_back)
  rw [← hw3]
  refine HN.out.mono ?_
  rintro r0 w4 ⟨rfl, rfl⟩
  rw [← hb5]
  clear HN hw3 hb5
  (try dsimp only); repeat' (first | go_values | go_skip | go_guarded | go_step | go_upon | go_back)
  refine HF.out.mono ?_
  rintro r1 w4 ⟨rfl, h4⟩
  have h5 := h4.alloc (.cells #[.int .i64 s.c, .int .i64 s.n, .int .i64 s.o, .int .i64 s.k, .int .i64 s.a, .int .i64 s.b] 31)
  clear HF h4
  have H5 := Lib.hid ((h5.pickL (M := [_, _, _]) [1] rfl))
  clear h5
  (try dsimp only); repeat' (first | go_values | go_skip | go_guarded | go_step | go_upon | go_back)
  go_ret
  exact ⟨rfl, H5.out⟩
set_option maxRecDepth 100000 in
set_option maxHeartbeats 16000000 in
theorem back_bad {w0 w : World} {g : Nat} {T : List SW} {L : List Thing} (c : Int) (hs : (seatAt T c).had = true) (u : SW) (h : Sep w0 (TabT g T :: L) w) (hT : T.length = 8) (hp9 : precV u (seatAt T c) = false) : Calls Try.prog 12 #[.pointer (some ⟨g, 0, none⟩), .int .i64 c, .agg #[.bool u.had, .int .i64 u.c, .int .i64 u.n, .int .i64 u.o, .int .i64 u.k, .int .i64 u.a, .int .i64 u.b]] w fun e w' => e = .returned (.int .i64 90) ∧ Sep w0 (TabT g T :: L) w' := by
  have h1 := h.alloc (.cells #[.bool u.had, .int .i64 u.c, .int .i64 u.n, .int .i64 u.o, .int .i64 u.k, .int .i64 u.a, .int .i64 u.b] 33)
  obtain ⟨b5, hb5⟩ : ∃ z, z = w.heap.size := ⟨_, rfl⟩
  obtain ⟨w3, hw3⟩ : ∃ z, z = w.alloc (.cells #[.bool u.had, .int .i64 u.c, .int .i64 u.n, .int .i64 u.o, .int .i64 u.k, .int .i64 u.a, .int .i64 u.b] 33) := ⟨_, rfl⟩
  rw [← hb5, ← hw3] at h1
  have HN := Lib.hid (tnone_c (h1.sw2.made))
  have hf := find_any c h1.sw2 hT
  obtain ⟨s, hsq⟩ : ∃ z, z = seatAt T c := ⟨_, rfl⟩
  rw [← hsq] at hf hs hp9
  unfold SW.val at hf
  rw [hs] at hf
  have HPV := Lib.hid hp9
  clear hs hp9 hsq
  have HF := Lib.hid hf
  clear h h1 hT hf
  go_enter Try.func12, Try.ntmps12
  (try dsimp only); repeat' (first | go_values | go_skip | go_guarded | go_step | go_upon | go_back)
  rw [← hw3]
  refine HN.out.mono ?_
  rintro r0 w4 ⟨rfl, rfl⟩
  rw [← hb5]
  clear HN hw3 hb5
  (try dsimp only); repeat' (first | go_values | go_skip | go_guarded | go_step | go_upon | go_back)
  refine HF.out.mono ?_
  rintro r1 w4 ⟨rfl, h4⟩
  have h5 := h4.alloc (.cells #[.int .i64 s.c, .int .i64 s.n, .int .i64 s.o, .int .i64 s.k, .int .i64 s.a, .int .i64 s.b] 31)
  clear HF h4
  obtain ⟨c0, c1, c2, c3, c4, c5, c6⟩ := cells7z (h5.pickL (M := [_, _, _]) [2, 0, 1] rfl)
  have hp := prec_any u s (w4.alloc (.cells #[.int .i64 s.c, .int .i64 s.n, .int .i64 s.o, .int .i64 s.k, .int .i64 s.a, .int .i64 s.b] 31))
  rw [HPV.out] at hp
  unfold SW.whole SW.val at hp
  have HP := Lib.hid hp
  have H5 := Lib.hid h5
  clear h5 hp
  (try dsimp only); repeat' (first | go_values | go_skip | go_guarded | go_step | go_upon | go_back)
  refine HP.out.mono ?_
  rintro r2 w5 ⟨rfl, hb⟩
  have h6 := H5.out.below hb
  clear HP H5 hb c0 c1 c2 c3 c4 c5 c6
  have H6 := Lib.hid (h6.pickL (M := [_, _, _]) [1] rfl)
  clear h6
  (try dsimp only); repeat' (first | go_values | go_skip | go_guarded | go_step | go_upon | go_back)
  go_ret
  exact ⟨rfl, H6.out⟩
set_option maxRecDepth 100000 in
set_option maxHeartbeats 16000000 in
theorem back_ok {w0 w : World} {g : Nat} {T : List SW} {L : List Thing} (i : Nat) (s : SW) (hs9 : T[i]? = some s) (hs : s.had = true) (u : SW) (h : Sep w0 (TabT g T :: L) w) (hT : T.length = 8) (hp9 : precV u s = true) : Calls Try.prog 12 #[.pointer (some ⟨g, 0, none⟩), .int .i64 i, .agg #[.bool u.had, .int .i64 u.c, .int .i64 u.n, .int .i64 u.o, .int .i64 u.k, .int .i64 u.a, .int .i64 u.b]] w fun e w' => e = .returned (.int .i64 0) ∧ Sep w0 (TabT g (T.set i u) :: L) w' := by
  have h1 := h.alloc (.cells #[.bool u.had, .int .i64 u.c, .int .i64 u.n, .int .i64 u.o, .int .i64 u.k, .int .i64 u.a, .int .i64 u.b] 33)
  obtain ⟨b5, hb5⟩ : ∃ z, z = w.heap.size := ⟨_, rfl⟩
  obtain ⟨w3, hw3⟩ : ∃ z, z = w.alloc (.cells #[.bool u.had, .int .i64 u.c, .int .i64 u.n, .int .i64 u.o, .int .i64 u.k, .int .i64 u.a, .int .i64 u.b] 33) := ⟨_, rfl⟩
  rw [← hb5, ← hw3] at h1
  have HN := Lib.hid (tnone_c (h1.sw2.made))
  have hf := find_any i h1.sw2 hT
  have hi : i < T.length := (List.getElem?_eq_some_iff.1 hs9).1
  have hsa : seatAt T i = s := by
    unfold seatAt
    rw [if_pos (show clientB (i : Int) = true from decide_eq_true ⟨by omega, by omega⟩)]
    simp [hs9]
  rw [hsa] at hf
  unfold SW.val at hf
  rw [hs] at hf
  have i8 : (i : Int) < 8 := by omega
  have i0 : (0 : Int) ≤ (i : Int) := by omega
  have HI8 := Lib.hid hi
  have HPV := Lib.hid hp9
  clear hs hs9 hsa hp9 hi
  have HF := Lib.hid hf
  clear h h1 hT hf
  go_enter Try.func12, Try.ntmps12
  (try dsimp only); repeat' (first | go_values | go_skip | go_guarded | go_step | go_upon | go_back)
  rw [← hw3]
  refine HN.out.mono ?_
  rintro r0 w4 ⟨rfl, rfl⟩
  rw [← hb5]
  clear HN hw3 hb5
  (try dsimp only); repeat' (first | go_values | go_skip | go_guarded | go_step | go_upon | go_back)
  refine HF.out.mono ?_
  rintro r1 w4 ⟨rfl, h4⟩
  have h5 := h4.alloc (.cells #[.int .i64 s.c, .int .i64 s.n, .int .i64 s.o, .int .i64 s.k, .int .i64 s.a, .int .i64 s.b] 31)
  clear HF h4
  obtain ⟨c0, c1, c2, c3, c4, c5, c6⟩ := cells7z (h5.pickL (M := [_, _, _]) [2, 0, 1] rfl)
  have hp := prec_any u s (w4.alloc (.cells #[.int .i64 s.c, .int .i64 s.n, .int .i64 s.o, .int .i64 s.k, .int .i64 s.a, .int .i64 s.b] 31))
  rw [HPV.out] at hp
  unfold SW.whole SW.val at hp
  have HP := Lib.hid hp
  have H5 := Lib.hid h5
  clear h5 hp
  (try dsimp only); repeat' (first | go_values | go_skip | go_guarded | go_step | go_upon | go_back)
  refine HP.out.mono ?_
  rintro r2 w5 ⟨rfl, hb⟩
  have h6 := H5.out.below hb
  clear HP H5 hb c0 c1 c2 c3 c4 c5 c6
  obtain ⟨c0, c1, c2, c3, c4, c5, c6⟩ := cells7z (h6.pickL (M := [_, _, _]) [2, 0, 1] rfl)
  have h7 := h6.pickL (M := [_, _, _]) [1, 2] rfl
  have HTT := Lib.hid (h7.drew.seatThere i HI8.out)
  have h8 := h7.drew.setSeat i u HI8.out
  have H8 := Lib.hid h8.sw2.drop
  unfold SW.cells at H8
  clear h6 h7 h8
  (try dsimp only); repeat' (first | go_values | go_skip | go_guarded | go_step | go_upon | go_back)
  refine wp_region_G (fun w' => w'.cell? ⟨b5, 0, none⟩ = some (.bool u.had) ∧ w'.cell? ⟨b5, 1, none⟩ = some (.int .i64 u.c) ∧ w'.cell? ⟨b5, 2, none⟩ = some (.int .i64 u.n) ∧ w'.cell? ⟨b5, 3, none⟩ = some (.int .i64 u.o) ∧ w'.cell? ⟨b5, 4, none⟩ = some (.int .i64 u.k) ∧ w'.cell? ⟨b5, 5, none⟩ = some (.int .i64 u.a) ∧ w'.cell? ⟨b5, 6, none⟩ = some (.int .i64 u.b)) [6] (by kernel_rfl) ⟨c0, c1, c2, c3, c4, c5, c6⟩ (fun hS => ?_)
  try dsimp only at hS
  refine wpAnyG_take' (i := 0) (v := ?v0_1bk) rfl (by kernel_rfl) (by kernel_rfl) (by kernel_rfl) (by kernel_rfl) (fun _ _ _ h => h) (Or.inl ⟨by rfl, ?hy0_1bk⟩) hS ?rest0_1bk
  case hy0_1bk => intro w hSw; (try dsimp only at hSw); go_simp; (try with_reducible rfl)
  case rest0_1bk =>
  try simp only [List.getElem_toArray, List.getElem_cons_succ, List.getElem_cons_zero, Act.put, List.setIfInBounds_toArray, List.set_cons_zero, List.set_cons_succ]
  refine wpAnyG_take' (i := 1) (v := ?v1_2bk) rfl (by kernel_rfl) (by kernel_rfl) (by kernel_rfl) (by kernel_rfl) (fun _ _ _ h => h) (Or.inl ⟨by rfl, ?hy1_2bk⟩) hS ?rest1_2bk
  case hy1_2bk => intro w hSw; (try dsimp only at hSw); go_simp; (try with_reducible rfl)
  case rest1_2bk =>
  try simp only [List.getElem_toArray, List.getElem_cons_succ, List.getElem_cons_zero, Act.put, List.setIfInBounds_toArray, List.set_cons_zero, List.set_cons_succ]
  refine wpAnyG_take' (i := 2) (v := ?v2_3bk) rfl (by kernel_rfl) (by kernel_rfl) (by kernel_rfl) (by kernel_rfl) (fun _ _ _ h => h) (Or.inl ⟨by rfl, ?hy2_3bk⟩) hS ?rest2_3bk
  case hy2_3bk => intro w hSw; (try dsimp only at hSw); go_simp; (try with_reducible rfl)
  case rest2_3bk =>
  try simp only [List.getElem_toArray, List.getElem_cons_succ, List.getElem_cons_zero, Act.put, List.setIfInBounds_toArray, List.set_cons_zero, List.set_cons_succ]
  refine wpAnyG_take' (i := 3) (v := ?v3_4bk) rfl (by kernel_rfl) (by kernel_rfl) (by kernel_rfl) (by kernel_rfl) (fun _ _ _ h => h) (Or.inl ⟨by rfl, ?hy3_4bk⟩) hS ?rest3_4bk
  case hy3_4bk => intro w hSw; (try dsimp only at hSw); go_simp; (try with_reducible rfl)
  case rest3_4bk =>
  try simp only [List.getElem_toArray, List.getElem_cons_succ, List.getElem_cons_zero, Act.put, List.setIfInBounds_toArray, List.set_cons_zero, List.set_cons_succ]
  refine wpAnyG_take' (i := 4) (v := ?v4_5bk) rfl (by kernel_rfl) (by kernel_rfl) (by kernel_rfl) (by kernel_rfl) (fun _ _ _ h => h) (Or.inl ⟨by rfl, ?hy4_5bk⟩) hS ?rest4_5bk
  case hy4_5bk => intro w hSw; (try dsimp only at hSw); go_simp; (try with_reducible rfl)
  case rest4_5bk =>
  try simp only [List.getElem_toArray, List.getElem_cons_succ, List.getElem_cons_zero, Act.put, List.setIfInBounds_toArray, List.set_cons_zero, List.set_cons_succ]
  refine wpAnyG_take' (i := 5) (v := ?v5_6bk) rfl (by kernel_rfl) (by kernel_rfl) (by kernel_rfl) (by kernel_rfl) (fun _ _ _ h => h) (Or.inl ⟨by rfl, ?hy5_6bk⟩) hS ?rest5_6bk
  case hy5_6bk => intro w hSw; (try dsimp only at hSw); go_simp; (try with_reducible rfl)
  case rest5_6bk =>
  try simp only [List.getElem_toArray, List.getElem_cons_succ, List.getElem_cons_zero, Act.put, List.setIfInBounds_toArray, List.set_cons_zero, List.set_cons_succ]
  refine wpAnyG_one (i := 6) (by kernel_rfl) rfl (fun K hK => ?_)
  refine wp_store_mid 33 (.tmp 30) (.tmp 27) rfl g (1 + i * 7) #[.bool u.had, .int .i64 u.c, .int .i64 u.n, .int .i64 u.o, .int .i64 u.k, .int .i64 u.a, .int .i64 u.b] rfl rfl HTT.out (by kernel_rfl) (by kernel_rfl) ?_
  refine hK.out _ _ (fun hno => by cases hno) ?_
  clear K hK
  try simp only [List.getElem_toArray, List.getElem_cons_succ, List.getElem_cons_zero, Act.put, List.setIfInBounds_toArray, List.set_cons_zero, List.set_cons_succ]
  refine wpAnyG_done (by kernel_rfl) ?_ _
  try simp only [List.getElem_toArray, List.getElem_cons_succ, List.getElem_cons_zero, Act.put, List.setIfInBounds_toArray, List.set_cons_zero, List.set_cons_succ]
  clear c0 c1 c2 c3 c4 c5 c6 HTT hS
  obtain ⟨w6, hw6⟩ : ∃ z, z = w5.drew.setCells g (1 + i * 7) [.bool u.had, .int .i64 u.c, .int .i64 u.n, .int .i64 u.o, .int .i64 u.k, .int .i64 u.a, .int .i64 u.b] := ⟨_, rfl⟩
  have h9 := H8.out
  rw [← hw6] at h9 ⊢
  have H9 := Lib.hid h9
  clear h9 H8 hw6
  (try dsimp only); repeat' (first | go_values | go_skip | go_guarded | go_step | go_upon | go_back)
  go_ret
  exact ⟨rfl, H9.out⟩
end Go.Proofs.Ytjjjkfdppleagaa
