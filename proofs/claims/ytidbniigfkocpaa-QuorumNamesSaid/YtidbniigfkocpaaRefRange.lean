/- The document's tally: Add of a number out of range. -/
import Derived.Test.YtidbniigfkocpaaRefTal
namespace Go.Proofs.Ytidbniigfkocpaa
open Go.RowKit
set_option linter.unusedVariables false
set_option linter.unusedSimpArgs false
set_option maxRecDepth 100000 in
theorem radd_range {w0 w : World} {g n : Nat} {v : Value} {L : List Thing} (x : Bal) (who : Int) (h : Sep w0 (RTalC g n v :: L) w) (hw : who < 0 ∨ (n : Int) ≤ who) :
    Calls Try.prog 13 #[.pointer (some ⟨g, 0, none⟩), balV x, .int .i64 who] w fun e w' => e = .returned (.tuple #[.int .i64 0, .int .i64 9]) ∧ Sep w0 (RTalC g n v :: L) w' := by
  have h1 : Sep w0 (Cl w.heap.size (cellsB x) 34 :: RTalC g n v :: L) (w.alloc (.cells #[.int .i64 x.1.1, .int .i64 x.1.2.1, .int .i64 x.1.2.2.1, .int .i64 x.1.2.2.2.1, .int .i64 x.1.2.2.2.2] 34)) := h.alloc (.cells (cellsB x) 34)
  have z0 := h1.sw2.cell (o := 0) (x := .int .i64 n) rfl
  have H1 := Lib.hid h1.drop
  clear h h1
  unfold balV
  by_cases h1 : who < 0
  · clear hw
    go_enter Try.func13, Try.ntmps13
    go_wp2_with fail
    go_ret2
    exact ⟨rfl, H1.out⟩
  · have h2 : (n : Int) ≤ who := by omega
    clear hw
    go_enter Try.func13, Try.ntmps13
    go_wp2_with fail
    go_ret2
    exact ⟨rfl, H1.out⟩
end Go.Proofs.Ytidbniigfkocpaa
