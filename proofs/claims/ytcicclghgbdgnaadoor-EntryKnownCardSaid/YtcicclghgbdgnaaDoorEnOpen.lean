/- Entries that came in; EntryWrites for them. -/
import Derived.Test.YtcicclghgbdgnaaDoorEn6
import Derived.Test.YtcicclghgbdgnaaDoorEnOf
import Derived.Test.YtcicclghgbdgnaaDoorItem25
namespace Go.Proofs.YtcicclghgbdgnaaDoor
open Go.RowKit
set_option linter.unusedVariables false
theorem writes04_in (c m k : Int) (s : KS) (o n : Int) (u : Value) (ls : List Ln) (c' m' k' : Int) (s' : KS) (o' n' : Int) (u' : Value) (ls' : List Ln) (w : World) (hv : LnS w u ls) (hv' : LnS w u' ls') (hk : KindsAt w) :
    Calls Tryd.prog 3 #[.agg #[.int .i64 c, .int .i64 m, .int .i64 k, .string s.1, .int .i64 o, .int .i64 n, u], .agg #[.int .i64 c', .int .i64 m', .int .i64 k', .string s'.1, .int .i64 o', .int .i64 n', u']] w fun e w' => e = .returned (.bool true) ∧ Below w.heap.size w w' := by
  obtain ⟨a, q, rfl⟩ := hv.len
  obtain ⟨a', q', rfl⟩ := hv'.len
  obtain ⟨x, hx1, hx2, hx3, hx4⟩ := min_len ls.length 8
  obtain ⟨y, hy1, hy2, hy3, hy4⟩ := min_len ls'.length 8
  have h1 := (lns_cap hv).2
  have h2 := (lns_cap hv').2
  exact writes04 ⟨c, m, ⟨k, s, o, n, ls.take x⟩⟩ ⟨c', m', ⟨k', s', o', n', ls'.take y⟩⟩ a a' ls.length ls'.length q q' x y w (lns_take hv x hx1) (lns_take hv' y hy1) (by rw [List.length_take]; omega) (by rw [List.length_take]; omega) hx2 hx3 hy3 (by omega) (by omega) hk
end Go.Proofs.YtcicclghgbdgnaaDoor
