/- Ballots, how many are enough, tallies: what they are; the calls that only look. -/
import Derived.Test.YthgndegjiodopaaDoorSepPick
import Derived.Test.YthgndegjiodopaaDoorMap
import Derived.DeepKeys4
import Derived.IntWalk
namespace Go.Proofs.YthgndegjiodopaaDoor
open Go.RowKit
set_option linter.unusedVariables false
set_option linter.unusedSimpArgs false
theorem Sep.frozen {w0 w : World} {g : Nat} {xs : Array Value} {t : TypeId} {L : List Thing} (h : Sep w0 (Cl g xs t :: L) w) (o : Nat) : w.frozen? ⟨g, o, none⟩ = false := by
  unfold World.frozen?; rw [h.blk]; simp
abbrev IQ (n : Int) : Prop := -9223372036854775808 ≤ n ∧ n ≤ 9223372036854775807
/-- A ballot: view, op, code, a, b. -/
abbrev Bal := { x : Int × Int × Int × Int × Int // IQ x.1 ∧ IQ x.2.1 ∧ IQ x.2.2.1 ∧ IQ x.2.2.2.1 ∧ IQ x.2.2.2.2 }
def balV (x : Bal) : Value := .agg #[.int .i64 x.1.1, .int .i64 x.1.2.1, .int .i64 x.1.2.2.1, .int .i64 x.1.2.2.2.1, .int .i64 x.1.2.2.2.2]
def setV (s : Nat) : Value := .int .u64 s
theorem wf_of {n : Int} (h : IQ n) : (Lit.int .i64 n).wf = true := by
  obtain ⟨h1, h2⟩ := h
  simp [Lit.wf, IntKind.min, IntKind.max, IntKind.signed, IntKind.bits]
  omega
theorem leafInt (d : Nat) (n : Int) (h : (Lit.int .i64 n).wf = true) : Tryd.prog.keyLits (d + 1) 3 [.int .i64 n] = some [.int .i64 n] := by
  unfold Program.keyLits
  rw [Tryd.underlying3]
  simp [h]
theorem balLaid : laidOutB Tryd.prog = true := by kernel_rfl
theorem intCells : Tryd.prog.cellsOf 3 = 1 := by kernel_rfl
def enough (n : Int) : Int := if 3 ≤ n ∧ n ≤ 15 ∧ n % 2 = 1 then (n + 1) / 2 else 0
theorem enough_any (n : Int) (w : World) (hn : IQ n) : Calls Tryd.prog 10 #[.int .i64 n] w fun e w' => e = .returned (.int .i64 (enough n)) ∧ w = w' := by
  obtain ⟨hn1, hn2⟩ := hn
  by_cases h1 : n ≤ 0
  · have he : enough n = 0 := if_neg (by omega)
    rw [he]
    by_cases hm : n = -9223372036854775808
    · subst hm
      have e1 : wrap64 (-9223372036854775809) = 9223372036854775807 := by kernel_rfl
      have e2 : (9223372036854775807 : Int).tdiv 2 = 4611686018427387903 := by decide
      have e3 : wrap64 4611686018427387903 = 4611686018427387903 := by kernel_rfl
      go_enter Tryd.func10, Tryd.ntmps10
      go_wp2
      go_ret
      exact ⟨rfl, rfl⟩
    · have hw : IntKind.i64.wrap (n - 1) = n - 1 := IntWalk.i64_in _ (by omega)
      have hq : (n - 1).tdiv 2 < 1 := by
        have : (n - 1).tdiv 2 = -((1 - n) / 2) := by
          rw [show n - 1 = -(1 - n) by omega, Int.neg_tdiv, Int.tdiv_eq_ediv_of_nonneg (by omega)]
        omega
      go_enter Tryd.func10, Tryd.ntmps10
      go_wp2
      go_ret
      exact ⟨rfl, rfl⟩
  · by_cases h2 : n ≤ 16
    · obtain ⟨k, rfl⟩ : ∃ k : Nat, n = k := ⟨n.toNat, by omega⟩
      have hk1 : 1 ≤ k := by omega
      have hk2 : k ≤ 16 := by omega
      clear h1 h2 hn1 hn2
      have hall : k = 1 ∨ k = 2 ∨ k = 3 ∨ k = 4 ∨ k = 5 ∨ k = 6 ∨ k = 7 ∨ k = 8 ∨ k = 9 ∨ k = 10 ∨ k = 11 ∨ k = 12 ∨ k = 13 ∨ k = 14 ∨ k = 15 ∨ k = 16 := by omega
      rcases hall with rfl | rfl | rfl | rfl | rfl | rfl | rfl | rfl | rfl | rfl | rfl | rfl | rfl | rfl | rfl | rfl
      all_goals
        clear hk1 hk2
        unfold enough
        go_enter Tryd.func10, Tryd.ntmps10
        go_wp2
        go_ret
        exact ⟨rfl, rfl⟩
    · have he : enough n = 0 := if_neg (by omega)
      rw [he]
      have h3 : 0 ≤ n - 1 := by omega
      have h4 : ¬ (n - 1) / 2 < 1 := by omega
      have h5 : 7 < (n - 1) / 2 := by omega
      go_enter Tryd.func10, Tryd.ntmps10
      go_wp2
      go_ret
      exact ⟨rfl, rfl⟩
abbrev BalM (b : Nat) (S : List (Bal × Nat)) : Thing := MapT balV setV b S
end Go.Proofs.YthgndegjiodopaaDoor
