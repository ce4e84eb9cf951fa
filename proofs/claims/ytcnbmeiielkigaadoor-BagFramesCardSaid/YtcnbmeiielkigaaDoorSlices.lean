/- Contracts of the small functions on bytes: EqBytes, CopyBytes, slices.Grow, slices.Concat, slices.Clone. -/
import Derived.Test.YtcnbmeiielkigaaDoorKit
namespace Go.Proofs.YtcnbmeiielkigaaDoor
open Go.RowKit
set_option linter.unusedVariables false

theorem info8 : (Tryd.prog.info? 5).map (fun i => (i.zero, i.size, i.bytes)) = some (some (.int .u8 0), 1, 1) := by kernel_rfl

/-- One append of what reads as bytes. -/
theorem append8 {w : World} {ty : TypeId} {base : Nat} {v x : Value} {xs ys : List UInt8} (hown : Own w base 5 v (bv xs)) (hx : Sl w x (bv ys)) (hlen : xs.length + ys.length ≤ 2199023255552) (hbase : base ≤ w.heap.size) :
    ∃ v' w', (Builtin.append_ #[38, 38] ty #[v, x]).run Tryd.prog w = .ok v' w' ∧ Own w' base 5 v' (bv (xs ++ ys)) ∧ w.grownBy w' v.ownBlock ∧ (v' = .slice none 0 0 → v = .slice none 0 0) := by
  obtain ⟨i0, hi, hz0, hz1, hz2⟩ := info_parts info8
  rw [bv_append]
  exact run_append_sl (P := Tryd.prog) Tryd.underlying38 hi hz0 hz1 (by omega) rfl hown hx (bv_one ys) (by rw [bv_length, bv_length]; exact hlen) hbase

theorem own_nil (w : World) (base : Nat) : Own w base 5 (.slice none 0 0) (bv []) := World.ownsRow_nil w base 5 1

theorem clone_any (v : Value) (l : List UInt8) (w : World) (h : Sl w v (bv l)) (hlen : l.length ≤ 2199023255552) :
    Calls Tryd.prog 50 #[v] w fun e w' => (∃ v', e = .returned v' ∧ Own w' w.heap.size 5 v' (bv l)) ∧ Below w.heap.size w w' := by
  have h' := Lib.hid h
  have hL := h.len
  rw [bv_length] at hL
  obtain ⟨a, c, rfl⟩ := hL
  cases a with
  | none =>
    have hx : l = [] ∧ c = 0 := by
      rcases h with (⟨hv, hx⟩ | ⟨b, off, cap, hv, _⟩) | ⟨x, c, hv, hx⟩
      · simp only [Value.slice.injEq] at hv
        exact ⟨(bv_nil_iff l).1 hx, hv.2.2⟩
      · simp at hv
      · simp at hv
    obtain ⟨rfl, rfl⟩ := hx
    rw [List.length_nil]
    have e1 := fun w => Lib.run_eql_slice_nil (P := Tryd.prog) w 38 5 none 0 0 0 0 Tryd.underlying38
    go_enter Tryd.func50, Tryd.ntmps50
    go_wp2
    go_ret
    exact ⟨⟨_, rfl, own_nil w _⟩, Below.refl _ _⟩
  | some x =>
    have e1 := fun w => Lib.run_eql_slice_nil (P := Tryd.prog) w 38 5 (some x) l.length c 0 0 Tryd.underlying38
    clear h
    have h0 : Own (w.alloc (.cells #[] 5)) w.heap.size 5 (.slice (some ⟨w.heap.size, 0, none⟩) 0 0) (bv []) := World.ownsRow_lit w #[] 0 (Nat.le_refl _) (by simp) rfl
    obtain ⟨v', w', hr, ho, hg, _⟩ := append8 (ty := 38) h0 (h'.out.below ((Below.refl w.heap.size w).alloc (Nat.le_refl _) _)) (by simpa using hlen) (by simp)
    have hb : Below w.heap.size w w' := ((Below.refl w.heap.size w).alloc (Nat.le_refl _) _).trans (below_grown hg (by simp) (by intro k hk; simp [Value.ownBlock] at hk; omega))
    rw [List.nil_append] at ho
    have H1 := Lib.hid hr
    clear hr hg h' h0
    go_enter Tryd.func50, Tryd.ntmps50
    go_wp2_with (at_builtin; refine wpList_append_run rfl _ _ _ _ rfl rfl rfl H1.out ?_)
    go_ret
    exact ⟨⟨v', rfl, ho⟩, hb⟩

end Go.Proofs.YtcnbmeiielkigaaDoor
