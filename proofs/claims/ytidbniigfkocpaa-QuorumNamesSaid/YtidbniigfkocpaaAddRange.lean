/- A tally: Add of a number out of range. -/
import Derived.Test.YtidbniigfkocpaaTally
namespace Go.Proofs.Ytidbniigfkocpaa
open Go.RowKit
set_option linter.unusedVariables false
set_option linter.unusedSimpArgs false
set_option maxRecDepth 100000 in
theorem add_range {w0 w : World} {g b n : Nat} {L : List Thing} (x : Bal) (who : Int) (h : Sep w0 (TalC g b n :: L) w) (hw : who < 0 ∨ (n : Int) ≤ who) :
    Calls Try.prog 12 #[.pointer (some ⟨g, 0, none⟩), balV x, .int .i64 who] w fun e w' => e = .returned (.tuple #[.int .i64 0, .int .i64 9]) ∧ Sep w0 (TalC g b n :: L) w' := by
  obtain ⟨bx, hbx⟩ : ∃ k, k = w.heap.size := ⟨_, rfl⟩
  obtain ⟨wa, hwa⟩ : ∃ k, k = w.alloc (.cells #[.int .i64 x.1.1, .int .i64 x.1.2.1, .int .i64 x.1.2.2.1, .int .i64 x.1.2.2.2.1, .int .i64 x.1.2.2.2.2] 34) := ⟨_, rfl⟩
  have h1 := h.alloc (.cells #[.int .i64 x.1.1, .int .i64 x.1.2.1, .int .i64 x.1.2.2.1, .int .i64 x.1.2.2.2.1, .int .i64 x.1.2.2.2.2] 34)
  rw [← hbx, ← hwa] at h1
  have HN := Lib.hid (tnone_any h1.sw2)
  have q0 := h1.sw2.cell (o := 0) (x := .int .i64 n) rfl
  have H1 := Lib.hid h1.drop
  clear h h1
  unfold balV
  by_cases h1 : who < 0
  · clear hw
    go_enter Try.func12, Try.ntmps12
    go_wp2_with fail
    rw [← hwa, ← hbx]
    clear hwa hbx
    refine HN.out.mono ?_
    rintro r0 w1 ⟨rfl, rfl⟩
    go_wp2_with fail
    go_ret2
    exact ⟨rfl, H1.out⟩
  · have h2 : (n : Int) ≤ who := by omega
    have h3 : ¬ who < (n : Int) := by omega
    clear hw
    go_enter Try.func12, Try.ntmps12
    go_wp2_with fail
    rw [← hwa, ← hbx]
    clear hwa hbx
    refine HN.out.mono ?_
    rintro r0 w1 ⟨rfl, rfl⟩
    go_wp2_with fail
    go_ret2
    exact ⟨rfl, H1.out⟩
end Go.Proofs.Ytidbniigfkocpaa
