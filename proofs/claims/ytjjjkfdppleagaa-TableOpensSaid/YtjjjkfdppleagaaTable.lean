/- A table: what it is; the calls that only look. -/
import Derived.Test.YtjjjkfdppleagaaBkB
import Derived.IntWalk
namespace Go.Proofs.Ytjjjkfdppleagaa
open Go.RowKit
set_option linter.unusedVariables false
set_option linter.unusedSimpArgs false
theorem Sep.frozen {w0 w : World} {g : Nat} {xs : Array Value} {t : TypeId} {L : List Thing} (h : Sep w0 (Cl g xs t :: L) w) (o : Nat) : w.frozen? ⟨g, o, none⟩ = false := by
  unfold World.frozen?; rw [h.blk]; simp
/-- How a client's seat stands. -/
structure SW where
  had : Bool
  c : Int
  n : Int
  o : Int
  k : Int
  a : Int
  b : Int
def SW.cells (s : SW) : List Value := [.bool s.had, .int .i64 s.c, .int .i64 s.n, .int .i64 s.o, .int .i64 s.k, .int .i64 s.a, .int .i64 s.b]
def seatCells (T : List SW) : List Value := T.flatMap SW.cells
def tabCells (T : List SW) : Array Value := (Value.bool true :: seatCells T).toArray
theorem seatCells_len (T : List SW) : (seatCells T).length = T.length * 7 := by
  induction T with
  | nil => rfl
  | cons s T ih => unfold seatCells at *; rw [List.flatMap_cons, List.length_append, ih, List.length_cons]; simp [SW.cells]; omega
theorem seatCells_get (T : List SW) (i j : Nat) (hi : i < T.length) (hj : j < 7) : (seatCells T)[i * 7 + j]? = (T[i]).cells[j]? := by
  induction T generalizing i with
  | nil => simp at hi
  | cons s T ih =>
    unfold seatCells at *
    rw [List.flatMap_cons]
    cases i with
    | zero => rw [List.getElem?_append_left (by simp [SW.cells]; omega)]; simp
    | succ i =>
      rw [List.getElem?_append_right (by simp [SW.cells]; omega), show (i + 1) * 7 + j - s.cells.length = i * 7 + j by simp [SW.cells]; omega, ih i (by simpa using hi)]
      simp
abbrev TabT (g : Nat) (T : List SW) : Thing := Cl g (tabCells T) 73
theorem Sep.made {w0 w : World} {g : Nat} {T : List SW} {L : List Thing} (h : Sep w0 (TabT g T :: L) w) : w.cell? ⟨g, 0, none⟩ = some (.bool true) := h.cell (by simp [tabCells])
theorem Sep.seat {w0 w : World} {g : Nat} {T : List SW} {L : List Thing} (h : Sep w0 (TabT g T :: L) w) (i : Nat) (hi : i < T.length) (j : Nat) (hj : j < 7) (v : Value) (hv : (T[i]).cells[j]? = some v) : w.cell? ⟨g, 1 + (i * 7 + j), none⟩ = some v := by
  refine h.cell ?_
  have := seatCells_get T i j hi hj
  rw [hv] at this
  unfold tabCells
  rw [List.getElem?_toArray, show 1 + (i * 7 + j) = (i * 7 + j) + 1 by omega, List.getElem?_cons_succ]
  exact this
theorem tnone_any {w0 w : World} {g : Nat} {T : List SW} {L : List Thing} (h : Sep w0 (TabT g T :: L) w) :
    Calls Try.prog 32 #[.pointer (some ⟨g, 0, none⟩)] w fun e w' => e = .returned (.bool false) ∧ w = w' := by
  have c0 := h.made
  clear h
  go_enter Try.func32, Try.ntmps32
  go_wp2
  go_ret
  exact ⟨rfl, rfl⟩
def clientB (c : Int) : Bool := decide (0 ≤ c ∧ c < 8)
theorem client_any (c : Int) (w : World) : Calls Try.prog 37 #[.int .i64 c] w fun e w' => e = .returned (.bool (clientB c)) ∧ w = w' := by
  by_cases h0 : 0 ≤ c
  · by_cases h1 : c < 8
    · have hb : clientB c = true := decide_eq_true ⟨h0, h1⟩
      rw [hb]
      clear hb
      go_enter Try.func37, Try.ntmps37
      go_wp2
      go_ret
      exact ⟨rfl, rfl⟩
    · have hb : clientB c = false := decide_eq_false fun h => h1 h.2
      rw [hb]
      clear hb
      go_enter Try.func37, Try.ntmps37
      go_wp2
      go_ret
      exact ⟨rfl, rfl⟩
  · have hb : clientB c = false := decide_eq_false fun h => h0 h.1
    have h0' : c < 0 := by omega
    rw [hb]
    clear hb
    go_enter Try.func37, Try.ntmps37
    go_wp2
    go_ret
    exact ⟨rfl, rfl⟩
end Go.Proofs.Ytjjjkfdppleagaa
