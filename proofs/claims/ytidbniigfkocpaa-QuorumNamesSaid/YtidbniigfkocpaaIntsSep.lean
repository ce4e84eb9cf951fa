/- Slices of ints of the call's own: cloned, sorted. -/
import Derived.Test.YtidbniigfkocpaaSep
import Derived.Test.YtidbniigfkocpaaInts
import Derived.Sort.OwnSortedInts
import Derived.Shelf.Sort.Plain
import Derived.Shelf.Lay
import Derived.Ground.NamesProg
import Derived.Test.YtidbniigfkocpaaProg
namespace Go.Proofs
open Go.Shelf
shelf_lay Lays.n189 Nm 189 at Try as Try.laysSort
end Go.Proofs
namespace Go.Proofs.Ytidbniigfkocpaa
open Go.RowKit Go.Shelf Go.Sort
set_option linter.unusedVariables false
theorem infoI : (Try.prog.info? 3).map (fun i => (i.zero, i.size, i.bytes)) = some (some (.int .i64 0), 1, 8) := by kernel_rfl
theorem iv_one (k : IntKind) (l : List Int) : ∀ u ∈ iv k l, u.oneCell' = true := by
  intro u hu
  obtain ⟨n, _, rfl⟩ := List.mem_map.1 hu
  rfl
abbrev Is (v : Value) (l : List Int) : Thing := Rw 3 v (iv .i64 l)
theorem appI {w0 w : World} {L : List Thing} {ty : TypeId} {v x : Value} {xs ys : List Int} (h : Sep w0 (Is v xs :: L) w) (hx : Sl w x (iv .i64 ys)) (hlen : xs.length + ys.length ≤ 2199023255552) :
    ∃ v' w', (Builtin.append_ #[41, 41] ty #[v, x]).run Try.prog w = .ok v' w' ∧ Sep w0 (Is v' (xs ++ ys) :: L) w' ∧ (v' = .slice none 0 0 → v = .slice none 0 0) := by
  obtain ⟨i0, hi, hz0, hz1, hz2⟩ := info_parts infoI
  unfold Is
  rw [show iv .i64 (xs ++ ys) = iv .i64 xs ++ iv .i64 ys by simp [iv]]
  exact append_sep (P := Try.prog) Try.underlying41 hi hz0 hz1 (by omega) rfl h hx (iv_one _ ys) (by rw [iv_length, iv_length]; exact hlen)
set_option maxRecDepth 100000 in
theorem cloneI_sep {w0 w : World} {L : List Thing} (x : Addr) (n c : Nat) (l : List Int) (hs : Sep w0 L w) (h : Sl w (.slice (some x) n c) (iv .i64 l)) (hn : l.length = n) (hlen : n ≤ 1000000) :
    Calls Try.prog 36 #[.slice (some x) n c] w fun e w' => ∃ g cap, e = .returned (.slice (some ⟨g, 0, none⟩) n cap) ∧ Sep w0 (Is (.slice (some ⟨g, 0, none⟩) n cap) l :: L) w' := by
  subst hn
  have e1 := fun w => Lib.run_eql_slice_nil (P := Try.prog) w 41 3 (some x) l.length c 0 0 Try.underlying41
  have h1 := (hs.alloc (.cells #[] 3)).asRow 0 rfl (by unfold maxLen; omega)
  obtain ⟨v', w', hr, h2, hnil⟩ := appI (ty := 41) (xs := []) (ys := l) h1 (h.below ((Below.refl w.heap.size w).alloc (Nat.le_refl _) _)) (by simp; omega)
  rw [List.nil_append] at h2
  have hf : ∃ g cap, v' = .slice (some ⟨g, 0, none⟩) l.length cap := by
    rcases h2.rw_.2 with ⟨h0, _⟩ | ⟨g, cap, cur, hv, _⟩
    · have := hnil h0; cases this
    · exact ⟨g, cap, by rw [hv, iv_length]⟩
  obtain ⟨g, cap, rfl⟩ := hf
  have H1 := Lib.hid hr
  have H2 := Lib.hid h2
  clear h hs h1 h2 hr hnil
  go_enter Try.func36, Try.ntmps36
  go_wp2_with (at_builtin; refine wpList_append_run rfl _ _ _ _ rfl rfl rfl H1.out ?_)
  go_ret
  exact ⟨_, _, rfl, H2.out⟩
def sorted (l : List Int) : List Int := l.mergeSort fun x y => decide (x ≤ y)
theorem sorted_len (l : List Int) : (sorted l).length = l.length := by simp [sorted]
theorem sortI_sep {w0 w : World} {L : List Thing} {g n cap : Nat} {l : List Int} (h : Sep w0 (Is (.slice (some ⟨g, 0, none⟩) n cap) l :: L) w) (hn : l.length = n) (hlen : n ≤ 1000000) :
    Calls Try.prog 37 #[.slice (some ⟨g, 0, none⟩) n cap] w fun e w' => e = .returned (.tuple #[]) ∧ Sep w0 (Is (.slice (some ⟨g, 0, none⟩) n cap) (sorted l) :: L) w' := by
  subst hn
  have ho := h.rw_
  rcases ho.2 with ⟨h0, _⟩ | ⟨g', cap', cur, hv, hg, hb, h1, h2, h3, h4⟩
  · cases h0
  · simp only [Value.slice.injEq, Option.some.injEq, Addr.mk.injEq, and_true] at hv
    obtain ⟨rfl, _, rfl⟩ := hv
    rw [iv_length] at h1 h4
    have hH := holds_of_blockI (ss := l) hb (by rw [Nat.mul_one] at h4; exact h4)
    have hlt := (Array.getElem?_eq_some_iff.1 hb).1
    refine (Any.slices_Sort_int Try.laysSort g 0 cap l w hH hlt (by omega)).mono ?_
    rintro e w' ⟨rfl, n, os, rfl⟩
    refine ⟨rfl, h.grown (grownBy_sortedI _) ?_ (.inl rfl)⟩
    have := ownsRow_sortedI (base := w0.heap.size) (w := w) (n := n) (os := os) (ss := l) (ts := sorted l) (by rw [sorted_len]) hg hb h1 h2 h3
    show World.ownsRow _ _ _ _ _ (iv .i64 (sorted l)).length _
    rw [iv_length, sorted_len]
    exact this
end Go.Proofs.Ytidbniigfkocpaa
