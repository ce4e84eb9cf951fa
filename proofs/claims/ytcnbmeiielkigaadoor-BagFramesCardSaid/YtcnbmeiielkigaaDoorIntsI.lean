/- Slices of ints of the call's own, by themselves (without sorting). -/
import Derived.Test.YtcnbmeiielkigaaDoorSep
import Derived.Test.YtcnbmeiielkigaaDoorInts
namespace Go.Proofs.YtcnbmeiielkigaaDoor
open Go.RowKit
set_option linter.unusedVariables false
theorem infoI : (Tryd.prog.info? 3).map (fun i => (i.zero, i.size, i.bytes)) = some (some (.int .i64 0), 1, 8) := by kernel_rfl
theorem iv_one (k : IntKind) (l : List Int) : ∀ u ∈ iv k l, u.oneCell' = true := by
  intro u hu
  obtain ⟨n, _, rfl⟩ := List.mem_map.1 hu
  rfl
abbrev Is (v : Value) (l : List Int) : Thing := Rw 3 v (iv .i64 l)
theorem appI {w0 w : World} {L : List Thing} {ty : TypeId} {v x : Value} {xs ys : List Int} (h : Sep w0 (Is v xs :: L) w) (hx : Sl w x (iv .i64 ys)) (hlen : xs.length + ys.length ≤ 2199023255552) :
    ∃ v' w', (Builtin.append_ #[26, 26] ty #[v, x]).run Tryd.prog w = .ok v' w' ∧ Sep w0 (Is v' (xs ++ ys) :: L) w' ∧ (v' = .slice none 0 0 → v = .slice none 0 0) := by
  obtain ⟨i0, hi, hz0, hz1, hz2⟩ := info_parts infoI
  unfold Is
  rw [show iv .i64 (xs ++ ys) = iv .i64 xs ++ iv .i64 ys by simp [iv]]
  exact append_sep (P := Tryd.prog) Tryd.underlying26 hi hz0 hz1 (by omega) rfl h hx (iv_one _ ys) (by rw [iv_length, iv_length]; exact hlen)
end Go.Proofs.YtcnbmeiielkigaaDoor
