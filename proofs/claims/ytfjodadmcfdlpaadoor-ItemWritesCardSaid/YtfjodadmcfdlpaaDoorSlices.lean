/- Contracts of the small functions on bytes: EqBytes, CopyBytes, slices.Grow, slices.Concat, slices.Clone. -/
import Derived.Test.YtfjodadmcfdlpaaDoorKit
namespace Go.Proofs.YtfjodadmcfdlpaaDoor
open Go.RowKit
set_option linter.unusedVariables false

theorem info8 : (Tryd.prog.info? 5).map (fun i => (i.zero, i.size, i.bytes)) = some (some (.int .u8 0), 1, 1) := by kernel_rfl

theorem eqBytes_any (a b : Value) (la lb : List UInt8) (w : World) (ha : Sl w a (bv la)) (hb : Sl w b (bv lb)) :
    Calls Tryd.prog 16 #[a, b] w fun e w' => e = .returned (.bool (la == lb)) ∧ w = w' := by
  have ca := conv_bytes (P := Tryd.prog) Tryd.underlying28 Tryd.underlying5 Tryd.underlying9 ha
  have cb := conv_bytes (P := Tryd.prog) Tryd.underlying28 Tryd.underlying5 Tryd.underlying9 hb
  clear ha hb
  go_enter Tryd.func16, Tryd.ntmps16
  go_wp2
  go_ret
  exact ⟨rfl, rfl⟩

/-- One append of what reads as bytes. -/
theorem append8 {w : World} {ty : TypeId} {base : Nat} {v x : Value} {xs ys : List UInt8} (hown : Own w base 5 v (bv xs)) (hx : Sl w x (bv ys)) (hlen : xs.length + ys.length ≤ 2199023255552) (hbase : base ≤ w.heap.size) :
    ∃ v' w', (Builtin.append_ #[28, 28] ty #[v, x]).run Tryd.prog w = .ok v' w' ∧ Own w' base 5 v' (bv (xs ++ ys)) ∧ w.grownBy w' v.ownBlock ∧ (v' = .slice none 0 0 → v = .slice none 0 0) := by
  obtain ⟨i0, hi, hz0, hz1, hz2⟩ := info_parts info8
  rw [bv_append]
  exact run_append_sl (P := Tryd.prog) Tryd.underlying28 hi hz0 hz1 (by omega) rfl hown hx (bv_one ys) (by rw [bv_length, bv_length]; exact hlen) hbase

theorem own_nil (w : World) (base : Nat) : Own w base 5 (.slice none 0 0) (bv []) := World.ownsRow_nil w base 5 1

theorem copyBytes_any (v : Value) (l : List UInt8) (w : World) (h : Sl w v (bv l)) (hlen : l.length ≤ 2199023255552) :
    Calls Tryd.prog 68 #[v] w fun e w' => (∃ v', e = .returned v' ∧ Own w' w.heap.size 5 v' (bv l)) ∧ Below w.heap.size w w' := by
  obtain ⟨v', w', hr, ho, hg, _⟩ := append8 (ty := 28) (own_nil w w.heap.size) h (by simpa using hlen) (Nat.le_refl _)
  have hb := below_grown hg (Nat.le_refl _) (by intro k hk; cases hk)
  rw [List.nil_append] at ho
  have Hr := Lib.hid hr
  clear h hg hr
  go_enter Tryd.func68, Tryd.ntmps68
  go_wp2_with (at_builtin; refine wpList_append_run rfl _ _ _ _ rfl rfl rfl Hr.out ?_)
  go_ret
  exact ⟨⟨v', rfl, ho⟩, hb⟩

theorem clone_any (v : Value) (l : List UInt8) (w : World) (h : Sl w v (bv l)) (hlen : l.length ≤ 2199023255552) :
    Calls Tryd.prog 71 #[v] w fun e w' => (∃ v', e = .returned v' ∧ Own w' w.heap.size 5 v' (bv l)) ∧ Below w.heap.size w w' := by
  have h' := Lib.hid h
  have hL := h.len
  rw [bv_length] at hL
  obtain ⟨a, c, rfl⟩ := hL
  cases a with
  | none =>
    have hx : l = [] ∧ c = 0 := by
      rcases h with (⟨hv, hx⟩ | ⟨b, off, cap, hv, _⟩) | ⟨x, c, hv, hx⟩
      · simp only [Value.slice.injEq] at hv
        exact ⟨(bv_nil_iff l).1 hx, hv.2.2⟩
      · simp at hv
      · simp at hv
    obtain ⟨rfl, rfl⟩ := hx
    rw [List.length_nil]
    have e1 := fun w => Lib.run_eql_slice_nil (P := Tryd.prog) w 28 5 none 0 0 0 0 Tryd.underlying28
    go_enter Tryd.func71, Tryd.ntmps71
    go_wp2
    go_ret
    exact ⟨⟨_, rfl, own_nil w _⟩, Below.refl _ _⟩
  | some x =>
    have e1 := fun w => Lib.run_eql_slice_nil (P := Tryd.prog) w 28 5 (some x) l.length c 0 0 Tryd.underlying28
    clear h
    have h0 : Own (w.alloc (.cells #[] 5)) w.heap.size 5 (.slice (some ⟨w.heap.size, 0, none⟩) 0 0) (bv []) := World.ownsRow_lit w #[] 0 (Nat.le_refl _) (by simp) rfl
    obtain ⟨v', w', hr, ho, hg, _⟩ := append8 (ty := 28) h0 (h'.out.below ((Below.refl w.heap.size w).alloc (Nat.le_refl _) _)) (by simpa using hlen) (by simp)
    have hb : Below w.heap.size w w' := ((Below.refl w.heap.size w).alloc (Nat.le_refl _) _).trans (below_grown hg (by simp) (by intro k hk; simp [Value.ownBlock] at hk; omega))
    rw [List.nil_append] at ho
    have H1 := Lib.hid hr
    clear hr hg h' h0
    go_enter Tryd.func71, Tryd.ntmps71
    go_wp2_with (at_builtin; refine wpList_append_run rfl _ _ _ _ rfl rfl rfl H1.out ?_)
    go_ret
    exact ⟨⟨v', rfl, ho⟩, hb⟩

end Go.Proofs.YtfjodadmcfdlpaaDoor
