/- A seat is put. -/
import Derived.Test.YtjjjkfdppleagaaTable7
import Derived.Test.YtjjjkfdppleagaaBkF
import Derived.Deep.MidRow
namespace Go.Proofs.Ytjjjkfdppleagaa
open Go Go.RowKit
set_option linter.unusedVariables false
set_option linter.unusedSimpArgs false
/-- Several cells in a row, written. -/
def writeAt (xs : Array Value) : Nat → List Value → Array Value
  | _, [] => xs
  | o, v :: r => writeAt (xs.setIfInBounds o v) (o + 1) r
theorem writeAt_get : ∀ (vs : List Value) (xs : Array Value) (o j : Nat), (writeAt xs o vs)[j]? = if o ≤ j ∧ j < o + vs.length ∧ j < xs.size then vs[j - o]? else xs[j]?
  | [], xs, o, j => by simp only [writeAt, List.length_nil]; rw [if_neg (by omega)]
  | v :: r, xs, o, j => by
    rw [writeAt, writeAt_get r, Array.size_setIfInBounds, Array.getElem?_setIfInBounds, List.length_cons]
    by_cases h1 : o = j
    · subst h1
      rw [if_neg (by omega), if_pos rfl]
      by_cases h2 : o < xs.size
      · rw [if_pos h2, if_pos ⟨Nat.le_refl _, by omega, h2⟩]; simp
      · rw [if_neg h2, if_neg (by omega), Array.getElem?_eq_none (by omega)]
    · rw [if_neg h1]
      by_cases h3 : o + 1 ≤ j ∧ j < o + 1 + r.length ∧ j < xs.size
      · rw [if_pos h3, if_pos (by omega), show j - o = (j - (o + 1)) + 1 by omega, List.getElem?_cons_succ]
      · rw [if_neg h3, if_neg (by omega)]
theorem Sep.setCells {w0 : World} {g : Nat} {t : TypeId} {L : List Thing} : ∀ (vs : List Value) (xs : Array Value) (o : Nat) (w : World), Sep w0 (Cl g xs t :: L) w → Sep w0 (Cl g (writeAt xs o vs) t :: L) (w.setCells g o vs)
  | [], _, _, _, h => h
  | v :: r, xs, o, w, h => Sep.setCells r _ (o + 1) _ (h.setCell o v)
theorem tab_get (T : List SW) (j : Nat) : (tabCells T)[j + 1]? = (seatCells T)[j]? := by unfold tabCells; rw [List.getElem?_toArray, List.getElem?_cons_succ]
theorem tab_size (T : List SW) : (tabCells T).size = T.length * 7 + 1 := by unfold tabCells; rw [List.size_toArray, List.length_cons, seatCells_len]
theorem tab_write (T : List SW) (i : Nat) (s : SW) (hi : i < T.length) : writeAt (tabCells T) (1 + i * 7) s.cells = tabCells (T.set i s) := by
  apply Array.ext_getElem?
  intro j
  rw [writeAt_get, tab_size, show s.cells.length = 7 from rfl]
  cases j with
  | zero => rw [if_neg (by omega)]; rfl
  | succ j =>
    rw [tab_get, tab_get]
    by_cases hj : j < T.length * 7
    · obtain ⟨p, q, rfl, hq⟩ : ∃ p q, j = p * 7 + q ∧ q < 7 := ⟨j / 7, j % 7, by omega, by omega⟩
      have hp : p < T.length := by omega
      rw [seatCells_get (T.set i s) p q (by rw [List.length_set]; exact hp) hq]
      by_cases hpi : p = i
      · subst hpi
        rw [if_pos (by omega), List.getElem_set_self, show p * 7 + q + 1 - (1 + p * 7) = q by omega]
      · rw [if_neg (by omega), seatCells_get T p q hp hq, List.getElem_set_ne (by omega)]
    · rw [if_neg (by omega), List.getElem?_eq_none (by rw [seatCells_len]; omega), List.getElem?_eq_none (by rw [seatCells_len, List.length_set]; omega)]
theorem write7 (v0 v1 v2 v3 v4 v5 v6 u0 u1 u2 u3 u4 u5 u6 : Value) : writeAt #[v0, v1, v2, v3, v4, v5, v6] 0 [u0, u1, u2, u3, u4, u5, u6] = #[u0, u1, u2, u3, u4, u5, u6] := by simp [writeAt]
theorem Sep.setSeat {w0 w : World} {g : Nat} {T : List SW} {L : List Thing} (h : Sep w0 (TabT g T :: L) w) (i : Nat) (s : SW) (hi : i < T.length) : Sep w0 (TabT g (T.set i s) :: L) (w.setCells g (1 + i * 7) s.cells) := by
  have h1 := Sep.setCells s.cells _ (1 + i * 7) w h
  rw [tab_write T i s hi] at h1
  exact h1
theorem Sep.seatThere {w0 w : World} {g : Nat} {T : List SW} {L : List Thing} (h : Sep w0 (TabT g T :: L) w) (i : Nat) (hi : i < T.length) : w.there g (1 + i * 7) 7 := fun j hj => by
  have hc : j < (T[i]).cells.length := hj
  have e := h.seat i hi j hj _ (List.getElem?_eq_getElem hc)
  rw [← Nat.add_assoc] at e
  exact ⟨by rw [e]; rfl, h.frozen _⟩
theorem sw_cells (d : Bool) (c n o k a b : Int) : SW.cells ⟨d, c, n, o, k, a, b⟩ = [.bool d, .int .i64 c, .int .i64 n, .int .i64 o, .int .i64 k, .int .i64 a, .int .i64 b] := rfl
theorem built7 (c n o k a b : Int) : Try.prog.built 33 [(0, .bool true), (1, .agg #[.int .i64 c, .int .i64 n, .int .i64 o, .int .i64 k, .int .i64 a, .int .i64 b])] = some #[.bool true, .int .i64 c, .int .i64 n, .int .i64 o, .int .i64 k, .int .i64 a, .int .i64 b] := by kernel_rfl
theorem exec_build {P : Program} {o : Oper} {a : Act} {w : World} (t : TypeId) (parts : Array (Nat × Operand)) (ho : o.op = .build t parts) (cells : Array Value)
    (hc : P.built t (parts.map fun (i, x) => (i, a.eval x)).toList = some cells) : (execOp a.eval o).run P w = Result.ok (Next.value (.agg cells)) w := by
  unfold execOp
  simp only [ho, Sem.run_bind, run_build w t _ cells hc, Result.andThen_ok]
  rfl
theorem cells7z {w0 w : World} {g : Nat} {v0 v1 v2 v3 v4 v5 v6 : Value} {t : TypeId} {L : List Thing} (h : Sep w0 (Cl g #[v0, v1, v2, v3, v4, v5, v6] t :: L) w) :
    w.cell? ⟨g, 0, none⟩ = some v0 ∧ w.cell? ⟨g, 1, none⟩ = some v1 ∧ w.cell? ⟨g, 2, none⟩ = some v2 ∧ w.cell? ⟨g, 3, none⟩ = some v3 ∧ w.cell? ⟨g, 4, none⟩ = some v4 ∧ w.cell? ⟨g, 5, none⟩ = some v5 ∧ w.cell? ⟨g, 6, none⟩ = some v6 :=
  ⟨h.cell rfl, h.cell rfl, h.cell rfl, h.cell rfl, h.cell rfl, h.cell rfl, h.cell rfl⟩
theorem store7z {w0 w : World} {g : Nat} {v0 v1 v2 v3 v4 v5 v6 : Value} {t : TypeId} {L : List Thing} (h : Sep w0 (Cl g #[v0, v1, v2, v3, v4, v5, v6] t :: L) w) (u0 u1 u2 u3 u4 u5 u6 : Value) :
    Sep w0 (Cl g #[u0, u1, u2, u3, u4, u5, u6] t :: L) (((((((w.setCell ⟨g, 0, none⟩ u0).setCell ⟨g, 1, none⟩ u1).setCell ⟨g, 2, none⟩ u2).setCell ⟨g, 3, none⟩ u3).setCell ⟨g, 4, none⟩ u4).setCell ⟨g, 5, none⟩ u5).setCell ⟨g, 6, none⟩ u6) := by
  have h7 := (((((((h.setCell 0 u0).setCell 1 u1).setCell 2 u2).setCell 3 u3).setCell 4 u4).setCell 5 u5).setCell 6 u6)
  simp only [List.setIfInBounds_toArray, List.set_cons_zero, List.set_cons_succ] at h7
  exact h7
theorem cells6z {w0 w : World} {g : Nat} {v0 v1 v2 v3 v4 v5 : Value} {t : TypeId} {L : List Thing} (h : Sep w0 (Cl g #[v0, v1, v2, v3, v4, v5] t :: L) w) :
    w.cell? ⟨g, 0, none⟩ = some v0 ∧ w.cell? ⟨g, 1, none⟩ = some v1 ∧ w.cell? ⟨g, 2, none⟩ = some v2 ∧ w.cell? ⟨g, 3, none⟩ = some v3 ∧ w.cell? ⟨g, 4, none⟩ = some v4 ∧ w.cell? ⟨g, 5, none⟩ = some v5 :=
  ⟨h.cell rfl, h.cell rfl, h.cell rfl, h.cell rfl, h.cell rfl, h.cell rfl⟩
set_option maxRecDepth 100000 in
set_option maxHeartbeats 16000000 in
theorem put_bad {w0 w : World} {g : Nat} {T : List SW} {L : List Thing} (c n o k a b : Int) (h : Sep w0 (TabT g T :: L) w) (hT : T.length = 8) (hok : clientOk c n o k a b = false) :
    Calls Try.prog 18 #[.pointer (some ⟨g, 0, none⟩), .agg #[.int .i64 c, .int .i64 n, .int .i64 o, .int .i64 k, .int .i64 a, .int .i64 b]] w fun e w' => e = .returned (.tuple #[.agg #[.bool false, .int .i64 0, .int .i64 0, .int .i64 0, .int .i64 0, .int .i64 0, .int .i64 0], .int .i64 2]) ∧ Sep w0 (TabT g T :: L) w' := by
  have h1 := (h.alloc (.cells #[.int .i64 c, .int .i64 n, .int .i64 o, .int .i64 k, .int .i64 a, .int .i64 b] 31)).alloc (.cells #[.bool false, .int .i64 0, .int .i64 0, .int .i64 0, .int .i64 0, .int .i64 0, .int .i64 0] 33)
  rw [World.size_alloc] at h1
  obtain ⟨bs, hbs⟩ : ∃ z, z = w.heap.size := ⟨_, rfl⟩
  obtain ⟨bz, hbz⟩ : ∃ z, z = w.heap.size + 1 := ⟨_, rfl⟩
  obtain ⟨w3, hw3⟩ : ∃ z, z = (w.alloc (.cells #[.int .i64 c, .int .i64 n, .int .i64 o, .int .i64 k, .int .i64 a, .int .i64 b] 31)).alloc (.cells #[.bool false, .int .i64 0, .int .i64 0, .int .i64 0, .int .i64 0, .int .i64 0, .int .i64 0] 33) := ⟨_, rfl⟩
  rw [← hbz, ← hbs, ← hw3] at h1
  have HN := Lib.hid (tnone_c (h1.sw3.made))
  have HT := Lib.hid hT
  have his := isSeat_any c n o k a b w3
  rw [hok] at his
  have HI := Lib.hid his
  have H1 := Lib.hid h1
  clear h h1 hT his
  go_enter Try.func18, Try.ntmps18
  (try dsimp only); repeat' (first | go_values | go_skip | go_guarded | go_step | go_upon | go_back)
  rw [← hw3]
  refine HN.out.mono ?_
  rintro r0 w4 ⟨rfl, rfl⟩
  rw [← hbz, ← hbs]
  clear HN hw3 hbs hbz
  obtain ⟨s0, s1, s2, s3, s4, s5⟩ := cells6z H1.out.sw2
  (try dsimp only); repeat' (first | go_values | go_skip | go_guarded | go_step | go_upon | go_back)
  refine HI.out.mono ?_
  rintro r1 w4 ⟨rfl, hb4⟩
  have h4 := H1.out.below hb4
  clear HI H1 hb4 s0 s1 s2 s3 s4 s5
  obtain ⟨z0, z1, z2, z3, z4, z5, z6⟩ := cells7z h4
  have f0 := h4.frozen 0
  have f1 := h4.frozen 1
  have f2 := h4.frozen 2
  have f3 := h4.frozen 3
  have f4 := h4.frozen 4
  have f5 := h4.frozen 5
  have f6 := h4.frozen 6
  have HF9 := Lib.hid h4
  clear h4
  (try dsimp only); repeat' (first | go_values | go_skip | go_guarded | go_step | go_upon | go_back)
  have hz := store7z HF9.out (.bool false) (.int .i64 0) (.int .i64 0) (.int .i64 0) (.int .i64 0) (.int .i64 0) (.int .i64 0)
  obtain ⟨y0, y1, y2, y3, y4, y5, y6⟩ := cells7z hz
  have H5 := Lib.hid hz.drop.drop
  exact bodyPost_ret (v := .tuple #[.agg #[.bool false, .int .i64 0, .int .i64 0, .int .i64 0, .int .i64 0, .int .i64 0, .int .i64 0], .int .i64 2]) (by simp [results, Try.results18, go_sem, y0, y1, y2, y3, y4, y5, y6]) rfl ⟨rfl, H5.out⟩
set_option maxRecDepth 100000 in
set_option maxHeartbeats 16000000 in
theorem put_full {w0 w : World} {g : Nat} {T : List SW} {L : List Thing} (c n o k a b : Int) (h : Sep w0 (TabT g T :: L) w) (hT : T.length = 8) (hok : clientOk c n o k a b = true) (hj : judgeV T c n = 4) :
    Calls Try.prog 18 #[.pointer (some ⟨g, 0, none⟩), .agg #[.int .i64 c, .int .i64 n, .int .i64 o, .int .i64 k, .int .i64 a, .int .i64 b]] w fun e w' => e = .returned (.tuple #[.agg #[.bool false, .int .i64 0, .int .i64 0, .int .i64 0, .int .i64 0, .int .i64 0, .int .i64 0], .int .i64 5]) ∧ Sep w0 (TabT g T :: L) w' := by
  have h1 := (h.alloc (.cells #[.int .i64 c, .int .i64 n, .int .i64 o, .int .i64 k, .int .i64 a, .int .i64 b] 31)).alloc (.cells #[.bool false, .int .i64 0, .int .i64 0, .int .i64 0, .int .i64 0, .int .i64 0, .int .i64 0] 33)
  rw [World.size_alloc] at h1
  obtain ⟨bs, hbs⟩ : ∃ z, z = w.heap.size := ⟨_, rfl⟩
  obtain ⟨bz, hbz⟩ : ∃ z, z = w.heap.size + 1 := ⟨_, rfl⟩
  obtain ⟨w3, hw3⟩ : ∃ z, z = (w.alloc (.cells #[.int .i64 c, .int .i64 n, .int .i64 o, .int .i64 k, .int .i64 a, .int .i64 b] 31)).alloc (.cells #[.bool false, .int .i64 0, .int .i64 0, .int .i64 0, .int .i64 0, .int .i64 0, .int .i64 0] 33) := ⟨_, rfl⟩
  rw [← hbz, ← hbs, ← hw3] at h1
  have HN := Lib.hid (tnone_c (h1.sw3.made))
  have HT := Lib.hid hT
  have his := isSeat_any c n o k a b w3
  rw [hok] at his
  have HJV := Lib.hid hj
  clear hj
  have HI := Lib.hid his
  have H1 := Lib.hid h1
  clear h h1 hT his
  go_enter Try.func18, Try.ntmps18
  (try dsimp only); repeat' (first | go_values | go_skip | go_guarded | go_step | go_upon | go_back)
  rw [← hw3]
  refine HN.out.mono ?_
  rintro r0 w4 ⟨rfl, rfl⟩
  rw [← hbz, ← hbs]
  clear HN hw3 hbs hbz
  obtain ⟨s0, s1, s2, s3, s4, s5⟩ := cells6z H1.out.sw2
  (try dsimp only); repeat' (first | go_values | go_skip | go_guarded | go_step | go_upon | go_back)
  refine HI.out.mono ?_
  rintro r1 w4 ⟨rfl, hb4⟩
  have h4 := H1.out.below hb4
  clear HI H1 hb4 s0 s1 s2 s3 s4 s5
  obtain ⟨s0, s1, s2, s3, s4, s5⟩ := cells6z h4.sw2
  have HJ := Lib.hid (judge_any c n h4.sw3 HT.out)
  rw [HJV.out] at HJ
  clear h4
  (try dsimp only); repeat' (first | go_values | go_skip | go_guarded | go_step | go_upon | go_back)
  refine HJ.out.mono ?_
  rintro r2 w5 ⟨rfl, h5⟩
  have h6 := h5.to3
  clear HJ h5 s0 s1 s2 s3 s4 s5
  obtain ⟨z0, z1, z2, z3, z4, z5, z6⟩ := cells7z h6
  have f0 := h6.frozen 0
  have f1 := h6.frozen 1
  have f2 := h6.frozen 2
  have f3 := h6.frozen 3
  have f4 := h6.frozen 4
  have f5 := h6.frozen 5
  have f6 := h6.frozen 6
  have HF9 := Lib.hid h6
  clear h6
  (try dsimp only); repeat' (first | go_values | go_skip | go_guarded | go_step | go_upon | go_back)
  have hz := store7z HF9.out (.bool false) (.int .i64 0) (.int .i64 0) (.int .i64 0) (.int .i64 0) (.int .i64 0) (.int .i64 0)
  obtain ⟨y0, y1, y2, y3, y4, y5, y6⟩ := cells7z hz
  have H5 := Lib.hid hz.drop.drop
  exact bodyPost_ret (v := .tuple #[.agg #[.bool false, .int .i64 0, .int .i64 0, .int .i64 0, .int .i64 0, .int .i64 0, .int .i64 0], .int .i64 5]) (by simp [results, Try.results18, go_sem, y0, y1, y2, y3, y4, y5, y6]) rfl ⟨rfl, H5.out⟩
set_option maxRecDepth 100000 in
set_option maxHeartbeats 16000000 in
theorem put_same {w0 w : World} {g : Nat} {T : List SW} {L : List Thing} (c n o k a b : Int) (h : Sep w0 (TabT g T :: L) w) (hT : T.length = 8) (hok : clientOk c n o k a b = true) (hj : judgeV T c n = 2) :
    Calls Try.prog 18 #[.pointer (some ⟨g, 0, none⟩), .agg #[.int .i64 c, .int .i64 n, .int .i64 o, .int .i64 k, .int .i64 a, .int .i64 b]] w fun e w' => e = .returned (.tuple #[.agg #[.bool false, .int .i64 0, .int .i64 0, .int .i64 0, .int .i64 0, .int .i64 0, .int .i64 0], .int .i64 9]) ∧ Sep w0 (TabT g T :: L) w' := by
  have h1 := (h.alloc (.cells #[.int .i64 c, .int .i64 n, .int .i64 o, .int .i64 k, .int .i64 a, .int .i64 b] 31)).alloc (.cells #[.bool false, .int .i64 0, .int .i64 0, .int .i64 0, .int .i64 0, .int .i64 0, .int .i64 0] 33)
  rw [World.size_alloc] at h1
  obtain ⟨bs, hbs⟩ : ∃ z, z = w.heap.size := ⟨_, rfl⟩
  obtain ⟨bz, hbz⟩ : ∃ z, z = w.heap.size + 1 := ⟨_, rfl⟩
  obtain ⟨w3, hw3⟩ : ∃ z, z = (w.alloc (.cells #[.int .i64 c, .int .i64 n, .int .i64 o, .int .i64 k, .int .i64 a, .int .i64 b] 31)).alloc (.cells #[.bool false, .int .i64 0, .int .i64 0, .int .i64 0, .int .i64 0, .int .i64 0, .int .i64 0] 33) := ⟨_, rfl⟩
  rw [← hbz, ← hbs, ← hw3] at h1
  have HN := Lib.hid (tnone_c (h1.sw3.made))
  have HT := Lib.hid hT
  have his := isSeat_any c n o k a b w3
  rw [hok] at his
  have HJV := Lib.hid hj
  clear hj
  have HI := Lib.hid his
  have H1 := Lib.hid h1
  clear h h1 hT his
  go_enter Try.func18, Try.ntmps18
  (try dsimp only); repeat' (first | go_values | go_skip | go_guarded | go_step | go_upon | go_back)
  rw [← hw3]
  refine HN.out.mono ?_
  rintro r0 w4 ⟨rfl, rfl⟩
  rw [← hbz, ← hbs]
  clear HN hw3 hbs hbz
  obtain ⟨s0, s1, s2, s3, s4, s5⟩ := cells6z H1.out.sw2
  (try dsimp only); repeat' (first | go_values | go_skip | go_guarded | go_step | go_upon | go_back)
  refine HI.out.mono ?_
  rintro r1 w4 ⟨rfl, hb4⟩
  have h4 := H1.out.below hb4
  clear HI H1 hb4 s0 s1 s2 s3 s4 s5
  obtain ⟨s0, s1, s2, s3, s4, s5⟩ := cells6z h4.sw2
  have HJ := Lib.hid (judge_any c n h4.sw3 HT.out)
  rw [HJV.out] at HJ
  clear h4
  (try dsimp only); repeat' (first | go_values | go_skip | go_guarded | go_step | go_upon | go_back)
  refine HJ.out.mono ?_
  rintro r2 w5 ⟨rfl, h5⟩
  have h6 := h5.to3
  clear HJ h5 s0 s1 s2 s3 s4 s5
  obtain ⟨z0, z1, z2, z3, z4, z5, z6⟩ := cells7z h6
  have f0 := h6.frozen 0
  have f1 := h6.frozen 1
  have f2 := h6.frozen 2
  have f3 := h6.frozen 3
  have f4 := h6.frozen 4
  have f5 := h6.frozen 5
  have f6 := h6.frozen 6
  have HF9 := Lib.hid h6
  clear h6
  (try dsimp only); repeat' (first | go_values | go_skip | go_guarded | go_step | go_upon | go_back)
  have hz := store7z HF9.out (.bool false) (.int .i64 0) (.int .i64 0) (.int .i64 0) (.int .i64 0) (.int .i64 0) (.int .i64 0)
  obtain ⟨y0, y1, y2, y3, y4, y5, y6⟩ := cells7z hz
  have H5 := Lib.hid hz.drop.drop
  exact bodyPost_ret (v := .tuple #[.agg #[.bool false, .int .i64 0, .int .i64 0, .int .i64 0, .int .i64 0, .int .i64 0, .int .i64 0], .int .i64 9]) (by simp [results, Try.results18, go_sem, y0, y1, y2, y3, y4, y5, y6]) rfl ⟨rfl, H5.out⟩
set_option maxRecDepth 100000 in
set_option maxHeartbeats 16000000 in
theorem put_old {w0 w : World} {g : Nat} {T : List SW} {L : List Thing} (c n o k a b : Int) (h : Sep w0 (TabT g T :: L) w) (hT : T.length = 8) (hok : clientOk c n o k a b = true) (hj : judgeV T c n = 3) :
    Calls Try.prog 18 #[.pointer (some ⟨g, 0, none⟩), .agg #[.int .i64 c, .int .i64 n, .int .i64 o, .int .i64 k, .int .i64 a, .int .i64 b]] w fun e w' => e = .returned (.tuple #[.agg #[.bool false, .int .i64 0, .int .i64 0, .int .i64 0, .int .i64 0, .int .i64 0, .int .i64 0], .int .i64 9]) ∧ Sep w0 (TabT g T :: L) w' := by
  have h1 := (h.alloc (.cells #[.int .i64 c, .int .i64 n, .int .i64 o, .int .i64 k, .int .i64 a, .int .i64 b] 31)).alloc (.cells #[.bool false, .int .i64 0, .int .i64 0, .int .i64 0, .int .i64 0, .int .i64 0, .int .i64 0] 33)
  rw [World.size_alloc] at h1
  obtain ⟨bs, hbs⟩ : ∃ z, z = w.heap.size := ⟨_, rfl⟩
  obtain ⟨bz, hbz⟩ : ∃ z, z = w.heap.size + 1 := ⟨_, rfl⟩
  obtain ⟨w3, hw3⟩ : ∃ z, z = (w.alloc (.cells #[.int .i64 c, .int .i64 n, .int .i64 o, .int .i64 k, .int .i64 a, .int .i64 b] 31)).alloc (.cells #[.bool false, .int .i64 0, .int .i64 0, .int .i64 0, .int .i64 0, .int .i64 0, .int .i64 0] 33) := ⟨_, rfl⟩
  rw [← hbz, ← hbs, ← hw3] at h1
  have HN := Lib.hid (tnone_c (h1.sw3.made))
  have HT := Lib.hid hT
  have his := isSeat_any c n o k a b w3
  rw [hok] at his
  have HJV := Lib.hid hj
  clear hj
  have HI := Lib.hid his
  have H1 := Lib.hid h1
  clear h h1 hT his
  go_enter Try.func18, Try.ntmps18
  (try dsimp only); repeat' (first | go_values | go_skip | go_guarded | go_step | go_upon | go_back)
  rw [← hw3]
  refine HN.out.mono ?_
  rintro r0 w4 ⟨rfl, rfl⟩
  rw [← hbz, ← hbs]
  clear HN hw3 hbs hbz
  obtain ⟨s0, s1, s2, s3, s4, s5⟩ := cells6z H1.out.sw2
  (try dsimp only); repeat' (first | go_values | go_skip | go_guarded | go_step | go_upon | go_back)
  refine HI.out.mono ?_
  rintro r1 w4 ⟨rfl, hb4⟩
  have h4 := H1.out.below hb4
  clear HI H1 hb4 s0 s1 s2 s3 s4 s5
  obtain ⟨s0, s1, s2, s3, s4, s5⟩ := cells6z h4.sw2
  have HJ := Lib.hid (judge_any c n h4.sw3 HT.out)
  rw [HJV.out] at HJ
  clear h4
  (try dsimp only); repeat' (first | go_values | go_skip | go_guarded | go_step | go_upon | go_back)
  refine HJ.out.mono ?_
  rintro r2 w5 ⟨rfl, h5⟩
  have h6 := h5.to3
  clear HJ h5 s0 s1 s2 s3 s4 s5
  obtain ⟨z0, z1, z2, z3, z4, z5, z6⟩ := cells7z h6
  have f0 := h6.frozen 0
  have f1 := h6.frozen 1
  have f2 := h6.frozen 2
  have f3 := h6.frozen 3
  have f4 := h6.frozen 4
  have f5 := h6.frozen 5
  have f6 := h6.frozen 6
  have HF9 := Lib.hid h6
  clear h6
  (try dsimp only); repeat' (first | go_values | go_skip | go_guarded | go_step | go_upon | go_back)
  have hz := store7z HF9.out (.bool false) (.int .i64 0) (.int .i64 0) (.int .i64 0) (.int .i64 0) (.int .i64 0) (.int .i64 0)
  obtain ⟨y0, y1, y2, y3, y4, y5, y6⟩ := cells7z hz
  have H5 := Lib.hid hz.drop.drop
  exact bodyPost_ret (v := .tuple #[.agg #[.bool false, .int .i64 0, .int .i64 0, .int .i64 0, .int .i64 0, .int .i64 0, .int .i64 0], .int .i64 9]) (by simp [results, Try.results18, go_sem, y0, y1, y2, y3, y4, y5, y6]) rfl ⟨rfl, H5.out⟩
set_option maxRecDepth 100000 in
set_option maxHeartbeats 16000000 in
theorem put_new {w0 w : World} {g : Nat} {T : List SW} {L : List Thing} (i : Nat) (n o k a b : Int) (h : Sep w0 (TabT g T :: L) w) (hT : T.length = 8) (s : SW) (hs : T[i]? = some s) (hok : clientOk i n o k a b = true) (hj : judgeV T i n = 1) :
    Calls Try.prog 18 #[.pointer (some ⟨g, 0, none⟩), .agg #[.int .i64 (i : Int), .int .i64 n, .int .i64 o, .int .i64 k, .int .i64 a, .int .i64 b]] w fun e w' => e = .returned (.tuple #[.agg #[.bool s.had, .int .i64 s.c, .int .i64 s.n, .int .i64 s.o, .int .i64 s.k, .int .i64 s.a, .int .i64 s.b], .int .i64 0]) ∧ Sep w0 (TabT g (T.set i ⟨true, i, n, o, k, a, b⟩) :: L) w' := by
  have h1 := (h.alloc (.cells #[.int .i64 (i : Int), .int .i64 n, .int .i64 o, .int .i64 k, .int .i64 a, .int .i64 b] 31)).alloc (.cells #[.bool false, .int .i64 0, .int .i64 0, .int .i64 0, .int .i64 0, .int .i64 0, .int .i64 0] 33)
  rw [World.size_alloc] at h1
  obtain ⟨bs, hbs⟩ : ∃ z, z = w.heap.size := ⟨_, rfl⟩
  obtain ⟨bz, hbz⟩ : ∃ z, z = w.heap.size + 1 := ⟨_, rfl⟩
  obtain ⟨w3, hw3⟩ : ∃ z, z = (w.alloc (.cells #[.int .i64 (i : Int), .int .i64 n, .int .i64 o, .int .i64 k, .int .i64 a, .int .i64 b] 31)).alloc (.cells #[.bool false, .int .i64 0, .int .i64 0, .int .i64 0, .int .i64 0, .int .i64 0, .int .i64 0] 33) := ⟨_, rfl⟩
  rw [← hbz, ← hbs, ← hw3] at h1
  have HN := Lib.hid (tnone_c (h1.sw3.made))
  have HT := Lib.hid hT
  have his := isSeat_any i n o k a b w3
  rw [hok] at his
  have HJV := Lib.hid hj
  have hi : i < T.length := (List.getElem?_eq_some_iff.1 hs).1
  have i8 : (i : Int) < 8 := by omega
  have i0 : (0 : Int) ≤ (i : Int) := by omega
  have HI8 := Lib.hid hi
  have HSE := Lib.hid hs
  clear hj hs hi
  have HI := Lib.hid his
  have H1 := Lib.hid h1
  clear h h1 hT his
  go_enter Try.func18, Try.ntmps18
  (try dsimp only); repeat' (first | go_values | go_skip | go_guarded | go_step | go_upon | go_back)
  rw [← hw3]
  refine HN.out.mono ?_
  rintro r0 w4 ⟨rfl, rfl⟩
  rw [← hbz, ← hbs]
  clear HN hw3 hbs hbz
  obtain ⟨s0, s1, s2, s3, s4, s5⟩ := cells6z H1.out.sw2
  (try dsimp only); repeat' (first | go_values | go_skip | go_guarded | go_step | go_upon | go_back)
  refine HI.out.mono ?_
  rintro r1 w4 ⟨rfl, hb4⟩
  have h4 := H1.out.below hb4
  clear HI H1 hb4 s0 s1 s2 s3 s4 s5
  obtain ⟨s0, s1, s2, s3, s4, s5⟩ := cells6z h4.sw2
  have HJ := Lib.hid (judge_any (i : Int) n h4.sw3 HT.out)
  rw [HJV.out] at HJ
  clear h4
  (try dsimp only); repeat' (first | go_values | go_skip | go_guarded | go_step | go_upon | go_back)
  refine HJ.out.mono ?_
  rintro r2 w5 ⟨rfl, h5⟩
  have h6 := h5.to3
  clear HJ h5 s0 s1 s2 s3 s4 s5
  have c0 := h6.sw2.cell (o := 0) rfl
  obtain ⟨q0, q1, q2, q3, q4, q5, q6⟩ := h6.sw3.seat7 i s HSE.out
  have HT7 : Hid (World.there w5.drew bz 0 7) := Lib.hid (fun j hj => by
    rcases (show j = 0 ∨ j = 1 ∨ j = 2 ∨ j = 3 ∨ j = 4 ∨ j = 5 ∨ j = 6 by omega) with rfl | rfl | rfl | rfl | rfl | rfl | rfl <;> exact ⟨by rw [h6.drew.cell rfl]; rfl, h6.drew.frozen _⟩)
  have h7 := Sep.setCells [.bool s.had, .int .i64 s.c, .int .i64 s.n, .int .i64 s.o, .int .i64 s.k, .int .i64 s.a, .int .i64 s.b] _ 0 _ h6.drew
  rw [write7] at h7
  have H7 := Lib.hid h7
  clear h6 h7
  (try dsimp only); repeat' (first | go_values | go_skip | go_guarded | go_step | go_upon | go_back)
  refine wp_region_G (fun w' => w'.cell? ⟨bs, 0, none⟩ = some (.int .i64 (i : Int)) ∧ w'.cell? ⟨g, 1 + i * 7, none⟩ = some (.bool s.had) ∧ w'.cell? ⟨g, 1 + i * 7 + 1, none⟩ = some (.int .i64 s.c) ∧ w'.cell? ⟨g, 1 + i * 7 + 2, none⟩ = some (.int .i64 s.n) ∧ w'.cell? ⟨g, 1 + i * 7 + 3, none⟩ = some (.int .i64 s.o) ∧ w'.cell? ⟨g, 1 + i * 7 + 4, none⟩ = some (.int .i64 s.k) ∧ w'.cell? ⟨g, 1 + i * 7 + 5, none⟩ = some (.int .i64 s.a) ∧ w'.cell? ⟨g, 1 + i * 7 + 6, none⟩ = some (.int .i64 s.b)) [7] (by kernel_rfl) ⟨c0, q0, q1, q2, q3, q4, q5, q6⟩ (fun hS => ?_)
  try dsimp only at hS
  refine wpAnyG_take' (i := 0) (v := ?v0_1p7) rfl (by kernel_rfl) (by kernel_rfl) (by kernel_rfl) (by kernel_rfl) (fun _ _ _ h => h) (Or.inl ⟨by rfl, ?hy0_1p7⟩) hS ?rest0_1p7
  case hy0_1p7 => intro w hSw; (try dsimp only at hSw); go_simp; (try with_reducible rfl)
  case rest0_1p7 =>
  try simp only [List.getElem_toArray, List.getElem_cons_succ, List.getElem_cons_zero, Act.put, List.setIfInBounds_toArray, List.set_cons_zero, List.set_cons_succ]
  refine wpAnyG_take' (i := 1) (v := ?v1_2p7) rfl (by kernel_rfl) (by kernel_rfl) (by kernel_rfl) (by kernel_rfl) (fun _ _ _ h => h) (Or.inl ⟨by rfl, ?hy1_2p7⟩) hS ?rest1_2p7
  case hy1_2p7 => intro w hSw; (try dsimp only at hSw); go_simp; (try with_reducible rfl)
  case rest1_2p7 =>
  try simp only [List.getElem_toArray, List.getElem_cons_succ, List.getElem_cons_zero, Act.put, List.setIfInBounds_toArray, List.set_cons_zero, List.set_cons_succ]
  refine wpAnyG_take' (i := 2) (v := ?v2_3p7) rfl (by kernel_rfl) (by kernel_rfl) (by kernel_rfl) (by kernel_rfl) (fun _ _ _ h => h) (Or.inl ⟨by rfl, ?hy2_3p7⟩) hS ?rest2_3p7
  case hy2_3p7 => intro w hSw; (try dsimp only at hSw); go_simp; (try with_reducible rfl)
  case rest2_3p7 =>
  try simp only [List.getElem_toArray, List.getElem_cons_succ, List.getElem_cons_zero, Act.put, List.setIfInBounds_toArray, List.set_cons_zero, List.set_cons_succ]
  refine wpAnyG_take' (i := 3) (v := ?v3_4p7) rfl (by kernel_rfl) (by kernel_rfl) (by kernel_rfl) (by kernel_rfl) (fun _ _ _ h => h) (Or.inl ⟨by rfl, ?hy3_4p7⟩) hS ?rest3_4p7
  case hy3_4p7 => intro w hSw; (try dsimp only at hSw); go_simp; (try with_reducible rfl)
  case rest3_4p7 =>
  try simp only [List.getElem_toArray, List.getElem_cons_succ, List.getElem_cons_zero, Act.put, List.setIfInBounds_toArray, List.set_cons_zero, List.set_cons_succ]
  refine wpAnyG_take' (i := 4) (v := ?v4_5p7) rfl (by kernel_rfl) (by kernel_rfl) (by kernel_rfl) (by kernel_rfl) (fun _ _ _ h => h) (Or.inl ⟨by rfl, ?hy4_5p7⟩) hS ?rest4_5p7
  case hy4_5p7 => intro w hSw; (try dsimp only at hSw); go_simp; (try with_reducible rfl)
  case rest4_5p7 =>
  try simp only [List.getElem_toArray, List.getElem_cons_succ, List.getElem_cons_zero, Act.put, List.setIfInBounds_toArray, List.set_cons_zero, List.set_cons_succ]
  refine wpAnyG_take' (i := 5) (v := ?v5_6p7) rfl (by kernel_rfl) (by kernel_rfl) (by kernel_rfl) (by kernel_rfl) (fun _ _ _ h => h) (Or.inl ⟨by rfl, ?hy5_6p7⟩) hS ?rest5_6p7
  case hy5_6p7 => intro w hSw; (try dsimp only at hSw); go_simp; (try with_reducible rfl)
  case rest5_6p7 =>
  try simp only [List.getElem_toArray, List.getElem_cons_succ, List.getElem_cons_zero, Act.put, List.setIfInBounds_toArray, List.set_cons_zero, List.set_cons_succ]
  refine wpAnyG_take' (i := 6) (v := ?v6_7p7) rfl (by kernel_rfl) (by kernel_rfl) (by kernel_rfl) (by kernel_rfl) (fun _ _ _ h => h) (Or.inl ⟨by rfl, ?hy6_7p7⟩) hS ?rest6_7p7
  case hy6_7p7 => intro w hSw; (try dsimp only at hSw); go_simp; (try with_reducible rfl)
  case rest6_7p7 =>
  try simp only [List.getElem_toArray, List.getElem_cons_succ, List.getElem_cons_zero, Act.put, List.setIfInBounds_toArray, List.set_cons_zero, List.set_cons_succ]
  refine wpAnyG_one (i := 7) (by kernel_rfl) rfl (fun K hK => ?_)
  refine wp_store_mid 33 (.tmp 4) (.tmp 27) rfl bz 0 #[.bool s.had, .int .i64 s.c, .int .i64 s.n, .int .i64 s.o, .int .i64 s.k, .int .i64 s.a, .int .i64 s.b] rfl rfl HT7.out (by kernel_rfl) (by kernel_rfl) ?_
  refine hK.out _ _ (fun hno => by cases hno) ?_
  clear K hK
  try simp only [List.getElem_toArray, List.getElem_cons_succ, List.getElem_cons_zero, Act.put, List.setIfInBounds_toArray, List.set_cons_zero, List.set_cons_succ]
  refine wpAnyG_done (by kernel_rfl) ?_ _
  try simp only [List.getElem_toArray, List.getElem_cons_succ, List.getElem_cons_zero, Act.put, List.setIfInBounds_toArray, List.set_cons_zero, List.set_cons_succ]
  clear c0 q0 q1 q2 q3 q4 q5 q6 HT7 hS
  obtain ⟨w6, hw6⟩ : ∃ z, z = w5.drew.setCells bz 0 [.bool s.had, .int .i64 s.c, .int .i64 s.n, .int .i64 s.o, .int .i64 s.k, .int .i64 s.a, .int .i64 s.b] := ⟨_, rfl⟩
  have h8 := H7.out
  rw [← hw6] at h8 ⊢
  clear hw6 H7
  obtain ⟨c0, c1, c2, c3, c4, c5⟩ := cells6z h8.sw2
  have HTT := Lib.hid (h8.drew.sw3.seatThere i HI8.out)
  have h9 := (h8.drew.sw3).setSeat i ⟨true, i, n, o, k, a, b⟩ HI8.out
  rw [sw_cells] at h9
  have h10 := h9.to3
  have H9 := Lib.hid h10
  clear h8 h9 h10
  (try dsimp only); repeat' (first | go_values | go_skip | go_guarded | go_step | go_upon | go_back)
  refine wp_region_G (fun w' => w'.cell? ⟨bs, 0, none⟩ = some (.int .i64 (i : Int)) ∧ w'.cell? ⟨bs, 1, none⟩ = some (.int .i64 n) ∧ w'.cell? ⟨bs, 2, none⟩ = some (.int .i64 o) ∧ w'.cell? ⟨bs, 3, none⟩ = some (.int .i64 k) ∧ w'.cell? ⟨bs, 4, none⟩ = some (.int .i64 a) ∧ w'.cell? ⟨bs, 5, none⟩ = some (.int .i64 b)) [8] (by kernel_rfl) ⟨c0, c1, c2, c3, c4, c5⟩ (fun hS => ?_)
  try dsimp only at hS
  refine wpAnyG_take' (i := 0) (v := ?v0_1p8) rfl (by kernel_rfl) (by kernel_rfl) (by kernel_rfl) (by kernel_rfl) (fun _ _ _ h => h) (Or.inl ⟨by rfl, ?hy0_1p8⟩) hS ?rest0_1p8
  case hy0_1p8 => intro w hSw; (try dsimp only at hSw); go_simp; (try with_reducible rfl)
  case rest0_1p8 =>
  try simp only [List.getElem_toArray, List.getElem_cons_succ, List.getElem_cons_zero, Act.put, List.setIfInBounds_toArray, List.set_cons_zero, List.set_cons_succ]
  refine wpAnyG_take' (i := 1) (v := ?v1_2p8) rfl (by kernel_rfl) (by kernel_rfl) (by kernel_rfl) (by kernel_rfl) (fun _ _ _ h => h) (Or.inl ⟨by rfl, ?hy1_2p8⟩) hS ?rest1_2p8
  case hy1_2p8 => intro w hSw; (try dsimp only at hSw); go_simp; (try with_reducible rfl)
  case rest1_2p8 =>
  try simp only [List.getElem_toArray, List.getElem_cons_succ, List.getElem_cons_zero, Act.put, List.setIfInBounds_toArray, List.set_cons_zero, List.set_cons_succ]
  refine wpAnyG_take' (i := 2) (v := ?v2_3p8) rfl (by kernel_rfl) (by kernel_rfl) (by kernel_rfl) (by kernel_rfl) (fun _ _ _ h => h) (Or.inl ⟨by rfl, ?hy2_3p8⟩) hS ?rest2_3p8
  case hy2_3p8 => intro w hSw; (try dsimp only at hSw); go_simp; (try with_reducible rfl)
  case rest2_3p8 =>
  try simp only [List.getElem_toArray, List.getElem_cons_succ, List.getElem_cons_zero, Act.put, List.setIfInBounds_toArray, List.set_cons_zero, List.set_cons_succ]
  refine wpAnyG_take' (i := 3) (v := ?v3_4p8) rfl (by kernel_rfl) (by kernel_rfl) (by kernel_rfl) (by kernel_rfl) (fun _ _ _ h => h) (Or.inl ⟨by rfl, ?hy3_4p8⟩) hS ?rest3_4p8
  case hy3_4p8 => intro w hSw; (try dsimp only at hSw); go_simp; (try with_reducible rfl)
  case rest3_4p8 =>
  try simp only [List.getElem_toArray, List.getElem_cons_succ, List.getElem_cons_zero, Act.put, List.setIfInBounds_toArray, List.set_cons_zero, List.set_cons_succ]
  refine wpAnyG_take' (i := 4) (v := .agg #[.bool true, .int .i64 (i : Int), .int .i64 n, .int .i64 o, .int .i64 k, .int .i64 a, .int .i64 b]) rfl (by kernel_rfl) (by kernel_rfl) (by kernel_rfl) (by kernel_rfl) (fun _ _ _ h => h) (Or.inl ⟨by rfl, ?hy4_5p8⟩) hS ?rest4_5p8
  case hy4_5p8 => intro w hSw; exact exec_build 33 #[(0, .const (.bool true)), (1, .tmp 31)] rfl _ (by rw [Array.toList_map]; exact built7 i n o k a b)
  case rest4_5p8 =>
  try simp only [List.getElem_toArray, List.getElem_cons_succ, List.getElem_cons_zero, Act.put, List.setIfInBounds_toArray, List.set_cons_zero, List.set_cons_succ]
  refine wpAnyG_take' (i := 5) (v := ?v5_6p8) rfl (by kernel_rfl) (by kernel_rfl) (by kernel_rfl) (by kernel_rfl) (fun _ _ _ h => h) (Or.inl ⟨by rfl, ?hy5_6p8⟩) hS ?rest5_6p8
  case hy5_6p8 => intro w hSw; (try dsimp only at hSw); go_simp; (try with_reducible rfl)
  case rest5_6p8 =>
  try simp only [List.getElem_toArray, List.getElem_cons_succ, List.getElem_cons_zero, Act.put, List.setIfInBounds_toArray, List.set_cons_zero, List.set_cons_succ]
  refine wpAnyG_take' (i := 6) (v := ?v6_7p8) rfl (by kernel_rfl) (by kernel_rfl) (by kernel_rfl) (by kernel_rfl) (fun _ _ _ h => h) (Or.inl ⟨by rfl, ?hy6_7p8⟩) hS ?rest6_7p8
  case hy6_7p8 => intro w hSw; (try dsimp only at hSw); go_simp; (try with_reducible rfl)
  case rest6_7p8 =>
  try simp only [List.getElem_toArray, List.getElem_cons_succ, List.getElem_cons_zero, Act.put, List.setIfInBounds_toArray, List.set_cons_zero, List.set_cons_succ]
  refine wpAnyG_take' (i := 7) (v := ?v7_8p8) rfl (by kernel_rfl) (by kernel_rfl) (by kernel_rfl) (by kernel_rfl) (fun _ _ _ h => h) (Or.inl ⟨by rfl, ?hy7_8p8⟩) hS ?rest7_8p8
  case hy7_8p8 => intro w hSw; (try dsimp only at hSw); go_simp; (try with_reducible rfl)
  case rest7_8p8 =>
  try simp only [List.getElem_toArray, List.getElem_cons_succ, List.getElem_cons_zero, Act.put, List.setIfInBounds_toArray, List.set_cons_zero, List.set_cons_succ]
  refine wpAnyG_one (i := 8) (by kernel_rfl) rfl (fun K hK => ?_)
  refine wp_store_mid 33 (.tmp 35) (.tmp 32) rfl g (1 + i * 7) #[.bool true, .int .i64 (i : Int), .int .i64 n, .int .i64 o, .int .i64 k, .int .i64 a, .int .i64 b] rfl rfl HTT.out (by kernel_rfl) (by kernel_rfl) ?_
  refine hK.out _ _ (fun hno => by cases hno) ?_
  clear K hK
  try simp only [List.getElem_toArray, List.getElem_cons_succ, List.getElem_cons_zero, Act.put, List.setIfInBounds_toArray, List.set_cons_zero, List.set_cons_succ]
  refine wpAnyG_done (by kernel_rfl) ?_ _
  try simp only [List.getElem_toArray, List.getElem_cons_succ, List.getElem_cons_zero, Act.put, List.setIfInBounds_toArray, List.set_cons_zero, List.set_cons_succ]
  clear c0 c1 c2 c3 c4 c5 HTT hS
  obtain ⟨w7, hw7⟩ : ∃ z, z = w6.drew.setCells g (1 + i * 7) [.bool true, .int .i64 (i : Int), .int .i64 n, .int .i64 o, .int .i64 k, .int .i64 a, .int .i64 b] := ⟨_, rfl⟩
  have h11 : Sep w0 (Cl bz #[.bool s.had, .int .i64 s.c, .int .i64 s.n, .int .i64 s.o, .int .i64 s.k, .int .i64 s.a, .int .i64 s.b] 33 :: Cl bs #[.int .i64 (i : Int), .int .i64 n, .int .i64 o, .int .i64 k, .int .i64 a, .int .i64 b] 31 :: TabT g (T.set i ⟨true, i, n, o, k, a, b⟩) :: L) w7 := by rw [hw7]; exact H9.out
  rw [← hw7]
  clear hw7 H9
  obtain ⟨z0, z1, z2, z3, z4, z5, z6⟩ := cells7z h11
  have f0 := h11.frozen 0
  have f1 := h11.frozen 1
  have f2 := h11.frozen 2
  have f3 := h11.frozen 3
  have f4 := h11.frozen 4
  have f5 := h11.frozen 5
  have f6 := h11.frozen 6
  have HF9 := Lib.hid h11
  clear h11
  (try dsimp only); repeat' (first | go_values | go_skip | go_guarded | go_step | go_upon | go_back)
  have hz := store7z HF9.out (.bool s.had) (.int .i64 s.c) (.int .i64 s.n) (.int .i64 s.o) (.int .i64 s.k) (.int .i64 s.a) (.int .i64 s.b)
  obtain ⟨y0, y1, y2, y3, y4, y5, y6⟩ := cells7z hz
  have H5 := Lib.hid hz.drop.drop
  exact bodyPost_ret (v := .tuple #[.agg #[.bool s.had, .int .i64 s.c, .int .i64 s.n, .int .i64 s.o, .int .i64 s.k, .int .i64 s.a, .int .i64 s.b], .int .i64 0]) (by simp [results, Try.results18, go_sem, y0, y1, y2, y3, y4, y5, y6]) rfl ⟨rfl, H5.out⟩
end Go.Proofs.Ytjjjkfdppleagaa
