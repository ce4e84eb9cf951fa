/- Contracts of the small functions on bytes, for things that lie beside each other. -/
import Derived.Test.YtcnbmeiielkigaaDoorSep
import Derived.Test.YtcnbmeiielkigaaDoorSlices
namespace Go.Proofs.YtcnbmeiielkigaaDoor
open Go.RowKit
set_option linter.unusedVariables false
abbrev By (v : Value) (l : List UInt8) : Thing := Rw 5 v (bv l)
theorem clone_sep {w0 : World} {L : List Thing} (v : Value) (l : List UInt8) (w : World) (h : Sep w0 L w) (hv : Sl w v (bv l)) (hlen : l.length ≤ 2199023255552) :
    Calls Tryd.prog 50 #[v] w fun e w' => ∃ v', e = .returned v' ∧ Sep w0 (By v' l :: L) w' :=
  (clone_any v l w hv hlen).mono fun e w' ⟨⟨v', he, ho⟩, hb⟩ => ⟨v', he, h.row hb ho⟩
theorem app8 {w0 w : World} {L : List Thing} {ty : TypeId} {v x : Value} {xs ys : List UInt8} (h : Sep w0 (By v xs :: L) w) (hx : Sl w x (bv ys)) (hlen : xs.length + ys.length ≤ 2199023255552) :
    ∃ v' w', (Builtin.append_ #[38, 38] ty #[v, x]).run Tryd.prog w = .ok v' w' ∧ Sep w0 (By v' (xs ++ ys) :: L) w' ∧ (v' = .slice none 0 0 → v = .slice none 0 0) := by
  obtain ⟨i0, hi, hz0, hz1, hz2⟩ := info_parts info8
  unfold By
  rw [bv_append]
  exact append_sep (P := Tryd.prog) Tryd.underlying38 hi hz0 hz1 (by omega) rfl h hx (bv_one ys) (by rw [bv_length, bv_length]; exact hlen)
end Go.Proofs.YtcnbmeiielkigaaDoor
