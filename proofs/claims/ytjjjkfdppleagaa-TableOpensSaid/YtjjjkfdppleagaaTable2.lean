/- Which seats may be. -/
import Derived.Test.YtjjjkfdppleagaaTable
import Derived.Test.YtjjjkfdppleagaaBkB
namespace Go.Proofs.Ytjjjkfdppleagaa
open Go.RowKit
set_option linter.unusedVariables false
set_option linter.unusedSimpArgs false
def clientOk (c n o k a b : Int) : Bool := clientB c && (decide (1 ≤ n) && (decide (n ≤ 2147483647) && (decide (1 ≤ o) && (decide (o ≤ 9007199254740991) && resB k a b))))
theorem bool_split {x : Bool} {P : Prop} (ht : x = true → P) (hf : x = false → P) : P := by cases x; exact hf rfl; exact ht rfl
set_option maxHeartbeats 1000000 in
theorem isSeat_any (c n o k a b : Int) (w : World) : Calls Try.prog 39 #[.agg #[.int .i64 c, .int .i64 n, .int .i64 o, .int .i64 k, .int .i64 a, .int .i64 b]] w fun e w' => e = .returned (.bool (clientOk c n o k a b)) ∧ Below w.heap.size w w' := by
  have HB : ∀ o : Obj, Hid (Below w.heap.size w (w.alloc o)) := fun o => Lib.hid ((Below.refl _ _).alloc (Nat.le_refl _) o)
  have HB2 : ∀ o o' : Obj, Hid (Below w.heap.size w ((w.alloc o).alloc o')) := fun o o' => Lib.hid (((Below.refl _ _).alloc (Nat.le_refl _) o).alloc (by simp) o')
  have HC := Lib.hid (client_any c (w.alloc (.cells #[.int .i64 c, .int .i64 n, .int .i64 o, .int .i64 k, .int .i64 a, .int .i64 b] 31)))
  have HR := Lib.hid (res_any k a b (w.alloc (.cells #[.int .i64 c, .int .i64 n, .int .i64 o, .int .i64 k, .int .i64 a, .int .i64 b] 31)))
  unfold clientOk
  generalize clientB c = x at *
  generalize resB k a b = y at *
  cases x
  · rw [Bool.false_and]
    go_enter Try.func39, Try.ntmps39
    go_wp2_with fail
    refine HC.out.mono ?_
    rintro r0 w1 ⟨rfl, rfl⟩
    go_wp2_with fail
    go_ret
    exact ⟨rfl, (HB _).out⟩
  · rw [Bool.true_and]
    by_cases h0 : 1 ≤ n
    rotate_left
    · have e0 : decide (1 ≤ n) = false := decide_eq_false h0
      rw [e0, Bool.false_and]
      clear e0
      go_enter Try.func39, Try.ntmps39
      go_wp2_with fail
      refine HC.out.mono ?_
      rintro r0 w1 ⟨rfl, rfl⟩
      go_wp2_with fail
      go_ret
      exact ⟨rfl, (HB _).out⟩
    have e0 : decide (1 ≤ n) = true := decide_eq_true h0
    rw [e0, Bool.true_and]
    clear e0
    by_cases h1 : n ≤ 2147483647
    rotate_left
    · have e1 : decide (n ≤ 2147483647) = false := decide_eq_false h1
      rw [e1, Bool.false_and]
      clear e1
      go_enter Try.func39, Try.ntmps39
      go_wp2_with fail
      refine HC.out.mono ?_
      rintro r0 w1 ⟨rfl, rfl⟩
      go_wp2_with fail
      go_ret
      exact ⟨rfl, (HB _).out⟩
    have e1 : decide (n ≤ 2147483647) = true := decide_eq_true h1
    rw [e1, Bool.true_and]
    clear e1
    by_cases h2 : 1 ≤ o
    rotate_left
    · have e2 : decide (1 ≤ o) = false := decide_eq_false h2
      rw [e2, Bool.false_and]
      clear e2
      go_enter Try.func39, Try.ntmps39
      go_wp2_with fail
      refine HC.out.mono ?_
      rintro r0 w1 ⟨rfl, rfl⟩
      go_wp2_with fail
      go_ret
      exact ⟨rfl, (HB _).out⟩
    have e2 : decide (1 ≤ o) = true := decide_eq_true h2
    rw [e2, Bool.true_and]
    clear e2
    by_cases h3 : o ≤ 9007199254740991
    rotate_left
    · have e3 : decide (o ≤ 9007199254740991) = false := decide_eq_false h3
      rw [e3, Bool.false_and]
      clear e3
      go_enter Try.func39, Try.ntmps39
      go_wp2_with fail
      refine HC.out.mono ?_
      rintro r0 w1 ⟨rfl, rfl⟩
      go_wp2_with fail
      go_ret
      exact ⟨rfl, (HB _).out⟩
    have e3 : decide (o ≤ 9007199254740991) = true := decide_eq_true h3
    rw [e3, Bool.true_and]
    clear e3
    cases y
    all_goals
      go_enter Try.func39, Try.ntmps39
      go_wp2_with fail
      refine HC.out.mono ?_
      rintro r0 w1 ⟨rfl, rfl⟩
      go_wp2_with fail
      refine HR.out.mono ?_
      rintro r0 w2 ⟨rfl, rfl⟩
      go_wp2_with fail
      go_ret
      exact ⟨rfl, (HB2 _ _).out⟩
end Go.Proofs.Ytjjjkfdppleagaa
