/- Contract of slices.Grow at bytes. -/
import Derived.Test.YtfjodadmcfdlpaaDoorSlices
import Derived.Lib.AppendZeros
namespace Go.Proofs.YtfjodadmcfdlpaaDoor
open Go.RowKit
set_option linter.unusedVariables false
theorem grow_zero (w : World) :
    Calls Tryd.prog 81 #[.slice none 0 0, .int .i64 0] w fun e w' => (∃ v', e = .returned v' ∧ Own w' w.heap.size 5 v' (bv [])) ∧ Below w.heap.size w w' := by
  go_enter Tryd.func81, Tryd.ntmps81
  go_wp2
  go_ret
  exact ⟨⟨_, rfl, own_nil w _⟩, Below.refl _ _⟩

theorem own_grown (w : World) (n : Nat) (hn : n ≤ 2199023255552) :
    Own (w.drew.alloc (.cells (Builtin.zeroCells (Value.int .u8 0).cells n ++ Builtin.zeroCells (Value.int .u8 0).cells (grownCap w n 0 5 - n)) 5)) w.heap.size 5
      (.slice (some ⟨w.heap.size, 0, none⟩) 0 (grownCap w n 0 5)) (bv []) := by
  have hge := grownCap_ge w n 0 5
  have hcm := grownCap_le_maxLen w n 0 5 (by unfold maxLen; omega)
  refine World.ownsRow_made w.drew _ _ (Nat.le_refl _) hcm ?_
  simp only [Array.size_append, size_zeroCells]
  show n * 1 + _ * 1 = _
  omega

set_option maxRecDepth 100000 in
theorem grow_pos (n : Nat) (h0 : 0 < n) (hn : n ≤ 2199023255552) (w : World) :
    Calls Tryd.prog 81 #[.slice none 0 0, .int .i64 n] w fun e w' => (∃ v', e = .returned v' ∧ Own w' w.heap.size 5 v' (bv [])) ∧ Below w.heap.size w w' := by
  obtain ⟨i0, hi, hz0, hz1, hz2⟩ := info_parts info8
  have hr := Lib.run_append_nil_zeros (P := Tryd.prog) w 28 3 28 5 i0 _ .i64 .i64 Tryd.underlying28 Tryd.underlying3 hi hz0 n h0 (by omega) (by omega) (by rw [hz2]; omega)
  have ho := own_grown w n hn
  have hb : Below w.heap.size w (w.drew.alloc (.cells (Builtin.zeroCells (Value.int .u8 0).cells n ++ Builtin.zeroCells (Value.int .u8 0).cells (grownCap w n 0 5 - n)) 5)) := ((Below.refl _ w).drew).alloc (Nat.le_refl _) _
  generalize (w.drew.alloc (.cells (Builtin.zeroCells (Value.int .u8 0).cells n ++ Builtin.zeroCells (Value.int .u8 0).cells (grownCap w n 0 5 - n)) 5)) = w1 at *
  have hge := grownCap_ge w n 0 5
  generalize grownCap w n 0 5 = cap at *
  have H := Lib.hid hr
  clear hi hz0 hz1 hz2 hr
  go_enter Tryd.func81, Tryd.ntmps81
  go_wp2_with (at_builtin; refine wpList_append_run rfl _ _ _ _ rfl rfl rfl H.out ?_)
  go_ret
  exact ⟨⟨_, rfl, ho⟩, hb⟩

theorem grow_any (n : Nat) (hn : n ≤ 2199023255552) (w : World) :
    Calls Tryd.prog 81 #[.slice none 0 0, .int .i64 n] w fun e w' => (∃ v', e = .returned v' ∧ Own w' w.heap.size 5 v' (bv [])) ∧ Below w.heap.size w w' := by
  by_cases h : n = 0
  · subst h; exact grow_zero w
  · exact grow_pos n (by omega) hn w
end Go.Proofs.YtfjodadmcfdlpaaDoor
