/- The statement's own: made (all kinds but reserve). -/
import Derived.Test.YtcicclghgbdgnaaDoorBkG
import Derived.Test.YtcicclghgbdgnaaDoorItem9
import Derived.Test.YtcicclghgbdgnaaDoorBkJ
import Derived.IntWalk
namespace Go.Proofs.YtcicclghgbdgnaaDoor
open Go.RowKit
set_option linter.unusedVariables false
set_option linter.unusedSimpArgs false
theorem I64q {n : Int} (h : 0 ≤ n ∧ n ≤ 2147483646) : IntKind.i64.wrap (1 + n) = 1 + n := IntWalk.i64_in _ (by omega)
/-- What made answers. -/
def MadeP (w0 : World) (L : List Thing) (e : Ending) (w' : World) : Prop := ∃ (p : OpM) (u : Value), e = .returned (.agg #[.int .i64 p.k, .string p.s.1, .int .i64 p.o, .int .i64 p.n, u]) ∧ p.ok = true ∧ Sep w0 (LnR u p.ls :: L) w'
theorem qtyB_1 {n : Int} (h : 0 ≤ n ∧ n ≤ 2147483646) : qtyB (1 + n) = true := by simp [qtyB]; omega
theorem chgB_1 {n : Int} (h : 0 ≤ n ∧ n ≤ 2147483646) : chgB (1 + n) = true := by simp [chgB]; omega
theorem chgB_m {n : Int} (h : 0 ≤ n ∧ n ≤ 2147483646) : chgB (-(1 + n)) = true := by simp [chgB]; omega
theorem ok_5 {s : KS} {n : Int} (hs : nameB s.1 = true) (h : qtyB n = true) : okB 1 s 0 n [] = true := by
  unfold okB; rw [show fieldsOf 1 = 5 by decide]; unfold skuB ordB cntB linB; simp [hs, h]
theorem ok_9 {s : KS} {n : Int} (hs : nameB s.1 = true) (h : chgB n = true) : okB 2 s 0 n [] = true := by
  unfold okB; rw [show fieldsOf 2 = 9 by decide]; unfold skuB ordB cntB linB; simp [hs, h]
theorem sZ_empty : sZ.1.toList.isEmpty = true := by kernel_rfl
theorem ok_4 {n : Int} (h : qtyB n = true) : okB 7 sZ 0 n [] = true := by
  unfold okB; rw [show fieldsOf 7 = 4 by decide]; unfold skuB ordB cntB linB; simp [sZ_empty, h]
theorem ok_2 {k o : Int} (hk : fieldsOf k = 2) (h : qtyB o = true) : okB k sZ o 0 [] = true := by
  unfold okB; rw [hk]; unfold skuB ordB cntB linB; simp [sZ_empty, h]
theorem ok_1 {s : KS} (hs : nameB s.1 = true) : okB 8 s 0 0 [] = true := by
  unfold okB; rw [show fieldsOf 8 = 1 by decide]; unfold skuB ordB cntB linB; simp [hs]
end Go.Proofs.YtcicclghgbdgnaaDoor
