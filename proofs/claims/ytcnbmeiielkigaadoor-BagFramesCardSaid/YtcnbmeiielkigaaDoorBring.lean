/- Contract of Bring: a number, brought to be from 0 to below n. -/
import Derived.Test.YtcnbmeiielkigaaDoorKit
import Derived.Test.YtcnbmeiielkigaaDoorBitsMath
namespace Go.Proofs.YtcnbmeiielkigaaDoor
open Go.RowKit
set_option linter.unusedVariables false
theorem tmod_neg (i n : Int) (hn : 0 < n) (h : i.tmod n < 0) : i.tmod n + n = i % n := by
  have h1 := Int.tmod_add_mul_tdiv i n
  have h2 := Int.tmod_lt_of_pos i hn
  have h3 := Int.lt_tmod_of_pos i hn
  have h4 := Int.emod_add_mul_ediv i n
  have h5 := Int.emod_nonneg i (show n ≠ 0 by omega)
  have h6 := Int.emod_lt_of_pos i hn
  have e : i.tmod n + n - i % n = n * (i / n - i.tdiv n + 1) := by rw [Int.mul_add, Int.mul_sub]; omega
  have hz : i / n - i.tdiv n + 1 = 0 := by
    have a1 : n * (i / n - i.tdiv n + 1) < n * 1 := by omega
    have a2 : n * (-1) < n * (i / n - i.tdiv n + 1) := by omega
    have := Int.lt_of_mul_lt_mul_left a1 (by omega)
    have := Int.lt_of_mul_lt_mul_left a2 (by omega)
    omega
  rw [hz, Int.mul_zero] at e; omega
theorem tmod_pos (i n : Int) (hn : 0 < n) (h : ¬ i.tmod n < 0) : i.tmod n = i % n := by
  have h1 := Int.tmod_add_mul_tdiv i n
  have h2 := Int.tmod_lt_of_pos i hn
  have h4 := Int.emod_add_mul_ediv i n
  have h5 := Int.emod_nonneg i (show n ≠ 0 by omega)
  have h6 := Int.emod_lt_of_pos i hn
  have e : i.tmod n - i % n = n * (i / n - i.tdiv n) := by rw [Int.mul_sub]; omega
  have hz : i / n - i.tdiv n = 0 := by
    have a1 : n * (i / n - i.tdiv n) < n * 1 := by omega
    have a2 : n * (-1) < n * (i / n - i.tdiv n) := by omega
    have := Int.lt_of_mul_lt_mul_left a1 (by omega)
    have := Int.lt_of_mul_lt_mul_left a2 (by omega)
    omega
  rw [hz, Int.mul_zero] at e; omega
def Sm (n : Int) : Prop := 0 < n ∧ n ≤ 4611686018427387904
theorem bring_any (i n : Int) (w : World) (hn : Sm n) :
    Calls Tryd.prog 9 #[.int .i64 i, .int .i64 n] w fun e w' => e = .returned (.int .i64 (i % n)) ∧ w = w' := by
  have h0 : ¬ n = 0 := by unfold Sm at hn; omega
  have hlt : i.tmod n < n ∧ -n < i.tmod n := ⟨Int.tmod_lt_of_pos i hn.1, Int.lt_tmod_of_pos i hn.1⟩
  have hw : wrap64 (i.tmod n) = i.tmod n := by unfold Sm at hn; unfold wrap64; omega
  have hw2 : i.tmod n < 0 → wrap64 (i.tmod n + n) = i.tmod n + n := by unfold Sm at hn; intro h; unfold wrap64; omega
  by_cases hneg : i.tmod n < 0
  · have hr := tmod_neg i n hn.1 hneg
    have H := Lib.hid (show wrap64 (i.tmod n + n) = i % n by rw [hw2 hneg, hr])
    clear hr hw2 hn hlt hw
    go_enter Tryd.func9, Tryd.ntmps9
    go_wp2
    go_ret
    exact ⟨by rw [← H.out]; rfl, rfl⟩
  · have H := Lib.hid (tmod_pos i n hn.1 hneg)
    clear hw2 hn hlt hw
    go_enter Tryd.func9, Tryd.ntmps9
    go_wp2
    go_ret
    exact ⟨by rw [← H.out]; rfl, rfl⟩
end Go.Proofs.YtcnbmeiielkigaaDoor
