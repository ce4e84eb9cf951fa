/- Package item: which answers may be. -/
import Derived.Test.YtcnbmeiielkigaaDoorSep
namespace Go.Proofs.YtcnbmeiielkigaaDoor
open Go.RowKit
set_option linter.unusedVariables false
set_option linter.unusedSimpArgs false
def resB (k a b : Int) : Bool := decide (0 ≤ k ∧ k ≤ 6 ∧ 0 ≤ a ∧ 0 ≤ b ∧ a ≤ 2147483647 ∧ b ≤ 2147483647)
def okE (x : Bool) : Int := if x then 0 else 2
theorem res_any (k a b : Int) (w : World) : Calls Tryd.prog 45 #[.agg #[.int .i64 k, .int .i64 a, .int .i64 b]] w fun e w' => e = .returned (.int .i64 (okE (resB k a b))) ∧ w' = w.alloc (.cells #[.int .i64 k, .int .i64 a, .int .i64 b] 37) := by
  by_cases h0 : k < 0
  · have hb : resB k a b = false := decide_eq_false fun h => by omega
    rw [hb]
    clear hb
    go_enter Tryd.func45, Tryd.ntmps45
    go_wp2
    go_ret
    exact ⟨rfl, rfl⟩
  · by_cases h1 : 6 < k
    · have hb : resB k a b = false := decide_eq_false fun h => by omega
      rw [hb]
      clear hb
      go_enter Tryd.func45, Tryd.ntmps45
      go_wp2
      go_ret
      exact ⟨rfl, rfl⟩
    · have k0 : 0 ≤ k := by omega
      have k1 : k ≤ 6 := by omega
      rcases Int.lt_trichotomy a b with hab | rfl | hab
      · by_cases h2 : a < 0
        · have hb : resB k a b = false := decide_eq_false fun h => by omega
          rw [hb]
          clear hb
          go_enter Tryd.func45, Tryd.ntmps45
          go_wp2
          go_ret
          exact ⟨rfl, rfl⟩
        · have h2' : 0 ≤ a := by omega
          by_cases h3 : 2147483647 < b
          · have hb : resB k a b = false := decide_eq_false fun h => by omega
            rw [hb]
            clear hb
            go_enter Tryd.func45, Tryd.ntmps45
            go_wp2
            go_ret
            exact ⟨rfl, rfl⟩
          · have h3' : b ≤ 2147483647 := by omega
            have hb : resB k a b = true := decide_eq_true (by omega)
            rw [hb]
            clear hb
            go_enter Tryd.func45, Tryd.ntmps45
            go_wp2
            go_ret
            exact ⟨rfl, rfl⟩
      · by_cases h2 : a < 0
        · have hb : resB k a a = false := decide_eq_false fun h => by omega
          rw [hb]
          clear hb
          go_enter Tryd.func45, Tryd.ntmps45
          go_wp2
          go_ret
          exact ⟨rfl, rfl⟩
        · have h2' : 0 ≤ a := by omega
          by_cases h3 : 2147483647 < a
          · have hb : resB k a a = false := decide_eq_false fun h => by omega
            rw [hb]
            clear hb
            go_enter Tryd.func45, Tryd.ntmps45
            go_wp2
            go_ret
            exact ⟨rfl, rfl⟩
          · have h3' : a ≤ 2147483647 := by omega
            have hb : resB k a a = true := decide_eq_true (by omega)
            rw [hb]
            clear hb
            go_enter Tryd.func45, Tryd.ntmps45
            go_wp2
            go_ret
            exact ⟨rfl, rfl⟩
      · by_cases h2 : b < 0
        · have hb : resB k a b = false := decide_eq_false fun h => by omega
          rw [hb]
          clear hb
          go_enter Tryd.func45, Tryd.ntmps45
          go_wp2
          go_ret
          exact ⟨rfl, rfl⟩
        · have h2' : 0 ≤ b := by omega
          by_cases h3 : 2147483647 < a
          · have hb : resB k a b = false := decide_eq_false fun h => by omega
            rw [hb]
            clear hb
            go_enter Tryd.func45, Tryd.ntmps45
            go_wp2
            go_ret
            exact ⟨rfl, rfl⟩
          · have h3' : a ≤ 2147483647 := by omega
            have hb : resB k a b = true := decide_eq_true (by omega)
            rw [hb]
            clear hb
            go_enter Tryd.func45, Tryd.ntmps45
            go_wp2
            go_ret
            exact ⟨rfl, rfl⟩
end Go.Proofs.YtcnbmeiielkigaaDoor
