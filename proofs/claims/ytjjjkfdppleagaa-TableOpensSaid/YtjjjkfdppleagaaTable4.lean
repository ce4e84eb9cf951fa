/- May now have been put where was stood? -/
import Derived.Test.YtjjjkfdppleagaaTable3
namespace Go.Proofs.Ytjjjkfdppleagaa
open Go.RowKit
set_option linter.unusedVariables false
set_option linter.unusedSimpArgs false
def SW.blank (s : SW) : Bool := decide (s.c = 0 ∧ s.n = 0 ∧ s.o = 0 ∧ s.k = 0 ∧ s.a = 0 ∧ s.b = 0)
def SW.whole (s : SW) : Value := .agg #[.bool s.had, .int .i64 s.c, .int .i64 s.n, .int .i64 s.o, .int .i64 s.k, .int .i64 s.a, .int .i64 s.b]
theorem prec_had (s t : SW) (w : World) (hh : s.had = true) (hc : clientOk s.c s.n s.o s.k s.a s.b = true) :
    Calls Try.prog 33 #[s.whole, t.val] w fun e w' => e = .returned (.bool (decide (s.c = t.c ∧ s.n < t.n))) ∧ Below w.heap.size w w' := by
  unfold SW.whole SW.val
  rw [hh]
  have hb : Below w.heap.size w ((w.alloc (.cells #[.bool true, .int .i64 s.c, .int .i64 s.n, .int .i64 s.o, .int .i64 s.k, .int .i64 s.a, .int .i64 s.b] 33)).alloc (.cells #[.int .i64 t.c, .int .i64 t.n, .int .i64 t.o, .int .i64 t.k, .int .i64 t.a, .int .i64 t.b] 31)) := ((Below.refl _ _).alloc (Nat.le_refl _) _).alloc (by simp) _
  have hi := isSeat_any s.c s.n s.o s.k s.a s.b ((w.alloc (.cells #[.bool true, .int .i64 s.c, .int .i64 s.n, .int .i64 s.o, .int .i64 s.k, .int .i64 s.a, .int .i64 s.b] 33)).alloc (.cells #[.int .i64 t.c, .int .i64 t.n, .int .i64 t.o, .int .i64 t.k, .int .i64 t.a, .int .i64 t.b] 31))
  rw [hc] at hi
  have HI := Lib.hid hi
  have HB := Lib.hid hb
  clear hi hb hc hh
  by_cases h1 : s.c = t.c
  · have e1 : (s.c == t.c) = true := by simpa using h1
    by_cases h2 : s.n < t.n
    · rw [decide_eq_true (show s.c = t.c ∧ s.n < t.n from ⟨h1, h2⟩)]
      clear h1
      go_enter Try.func33, Try.ntmps33
      go_wp2_with fail
      refine HI.out.mono ?_
      rintro r0 w1 ⟨rfl, hw⟩
      obtain ⟨hc1, hf1⟩ : (∀ b o, b < w.heap.size + 2 → w1.cell? ⟨b, o, none⟩ = ((w.alloc (.cells #[.bool true, .int .i64 s.c, .int .i64 s.n, .int .i64 s.o, .int .i64 s.k, .int .i64 s.a, .int .i64 s.b] 33)).alloc (.cells #[.int .i64 t.c, .int .i64 t.n, .int .i64 t.o, .int .i64 t.k, .int .i64 t.a, .int .i64 t.b] 31)).cell? ⟨b, o, none⟩) ∧ True := ⟨fun b o h => hw.cell (p := ⟨b, o, none⟩) (by simp; omega), trivial⟩
      have HW := Lib.hid (below_step HB.out hw)
      clear hw HI HB
      go_wp2_with fail
      go_ret
      exact ⟨rfl, HW.out⟩
    · rw [decide_eq_false (show ¬ (s.c = t.c ∧ s.n < t.n) from fun h => h2 h.2)]
      have e2 : decide (s.n < t.n) = false := decide_eq_false h2
      clear h1 h2
      go_enter Try.func33, Try.ntmps33
      go_wp2_with fail
      refine HI.out.mono ?_
      rintro r0 w1 ⟨rfl, hw⟩
      obtain ⟨hc1, hf1⟩ : (∀ b o, b < w.heap.size + 2 → w1.cell? ⟨b, o, none⟩ = ((w.alloc (.cells #[.bool true, .int .i64 s.c, .int .i64 s.n, .int .i64 s.o, .int .i64 s.k, .int .i64 s.a, .int .i64 s.b] 33)).alloc (.cells #[.int .i64 t.c, .int .i64 t.n, .int .i64 t.o, .int .i64 t.k, .int .i64 t.a, .int .i64 t.b] 31)).cell? ⟨b, o, none⟩) ∧ True := ⟨fun b o h => hw.cell (p := ⟨b, o, none⟩) (by simp; omega), trivial⟩
      have HW := Lib.hid (below_step HB.out hw)
      clear hw HI HB
      go_wp2_with fail
      go_ret
      exact ⟨rfl, HW.out⟩
  · rw [decide_eq_false (show ¬ (s.c = t.c ∧ s.n < t.n) from fun h => h1 h.1)]
    have e1 : (s.c == t.c) = false := by simpa using h1
    clear h1
    go_enter Try.func33, Try.ntmps33
    go_wp2_with fail
    refine HI.out.mono ?_
    rintro r0 w1 ⟨rfl, hw⟩
    obtain ⟨hc1, hf1⟩ : (∀ b o, b < w.heap.size + 2 → w1.cell? ⟨b, o, none⟩ = ((w.alloc (.cells #[.bool true, .int .i64 s.c, .int .i64 s.n, .int .i64 s.o, .int .i64 s.k, .int .i64 s.a, .int .i64 s.b] 33)).alloc (.cells #[.int .i64 t.c, .int .i64 t.n, .int .i64 t.o, .int .i64 t.k, .int .i64 t.a, .int .i64 t.b] 31)).cell? ⟨b, o, none⟩) ∧ True := ⟨fun b o h => hw.cell (p := ⟨b, o, none⟩) (by simp; omega), trivial⟩
    have HW := Lib.hid (below_step HB.out hw)
    clear hw HI HB
    go_wp2_with fail
    go_ret
    exact ⟨rfl, HW.out⟩
theorem prec_bad (s t : SW) (w : World) (hh : s.had = true) (hc : clientOk s.c s.n s.o s.k s.a s.b = false) :
    Calls Try.prog 33 #[s.whole, t.val] w fun e w' => e = .returned (.bool false) ∧ Below w.heap.size w w' := by
  unfold SW.whole SW.val
  rw [hh]
  have hb : Below w.heap.size w ((w.alloc (.cells #[.bool true, .int .i64 s.c, .int .i64 s.n, .int .i64 s.o, .int .i64 s.k, .int .i64 s.a, .int .i64 s.b] 33)).alloc (.cells #[.int .i64 t.c, .int .i64 t.n, .int .i64 t.o, .int .i64 t.k, .int .i64 t.a, .int .i64 t.b] 31)) := ((Below.refl _ _).alloc (Nat.le_refl _) _).alloc (by simp) _
  have hi := isSeat_any s.c s.n s.o s.k s.a s.b ((w.alloc (.cells #[.bool true, .int .i64 s.c, .int .i64 s.n, .int .i64 s.o, .int .i64 s.k, .int .i64 s.a, .int .i64 s.b] 33)).alloc (.cells #[.int .i64 t.c, .int .i64 t.n, .int .i64 t.o, .int .i64 t.k, .int .i64 t.a, .int .i64 t.b] 31))
  rw [hc] at hi
  have HI := Lib.hid hi
  have HB := Lib.hid hb
  clear hi hb hc hh
  go_enter Try.func33, Try.ntmps33
  go_wp2_with fail
  refine HI.out.mono ?_
  rintro r0 w1 ⟨rfl, hw⟩
  have HW := Lib.hid (below_step HB.out hw)
  clear hw HI HB
  go_wp2_with fail
  go_ret
  exact ⟨rfl, HW.out⟩
end Go.Proofs.Ytjjjkfdppleagaa
