/- Contracts of package clock, and of the document's answer for it. -/
import Derived.Test.YtdemconpdjgimaaDoorKit
import Derived.Deep.QuietTactic
import Derived.BigQuiet
import Derived.Defers
import Derived.Recover
import Derived.Laws.EntriesVeiled
import Derived.RegionTactic
import Derived.ChangeAlike
namespace Go.Proofs.YtdemconpdjgimaaDoor
open Go.RowKit
set_option linter.unusedVariables false

/-- Block g is a clock: its limit, and how many ticks have passed. -/
def Ck (w : World) (g : Nat) (lim pas : Int) : Prop := w.heap[g]? = some (.cells #[.int .i64 lim, .int .i64 pas] 84 (0, 0))
theorem Ck.cells {w : World} {g : Nat} {l p : Int} (h : Ck w g l p) :
    w.cell? ⟨g, 0, none⟩ = some (.int .i64 l) ∧ w.cell? ⟨g, 1, none⟩ = some (.int .i64 p) ∧ w.frozen? ⟨g, 1, none⟩ = false := by
  unfold Ck at h
  refine ⟨?_, ?_, ?_⟩
  · unfold World.cell?; rw [h]; rfl
  · unfold World.cell?; rw [h]; rfl
  · unfold World.frozen?; rw [h]; rfl
theorem Ck.lt {w : World} {g : Nat} {l p : Int} (h : Ck w g l p) : g < w.heap.size := (Array.getElem?_eq_some_iff.1 h).1
theorem Ck.set {w : World} {g : Nat} {l p : Int} (h : Ck w g l p) (q : Int) : Ck (w.setCell ⟨g, 1, none⟩ (.int .i64 q)) g l q := heap_setCell_at h _
theorem Ck.upd {w w' : World} {g k : Nat} {l p : Int} (h : Ck w g l p) (hu : Upd k w w') (hne : g ≠ k) : Ck w' g l p := by
  unfold Ck; rw [hu.block g h.lt hne]; exact h
theorem Ck.below {w w' : World} {g : Nat} {l p : Int} (h : Ck w g l p) (hb : Below w.heap.size w w') : Ck w' g l p := by
  unfold Ck; rw [hb.block g h.lt]; exact h

def Lim (n : Int) : Prop := 1 ≤ n ∧ n ≤ 1000

theorem cnew_ok (n : Int) (w : World) (h1 : 1 ≤ n) (h2 : n ≤ 1000) : Calls Tryd.prog 27 #[.int .i64 n] w fun e w' => (∃ g, e = .returned (.tuple #[.pointer (some ⟨g, 0, none⟩), .int .i64 0]) ∧ w.heap.size ≤ g ∧ Ck w' g n 0) ∧ Below w.heap.size w w' := by
  go_enter Tryd.func27, Tryd.ntmps27
  go_wp2
  go_ret2
  exact ⟨⟨w.heap.size, rfl, Nat.le_refl _, heap_alloc_new w _⟩, (Below.refl _ w).alloc (Nat.le_refl _) _⟩
theorem cnew_no (n : Int) (w : World) (h : n < 1 ∨ 1000 < n) : Calls Tryd.prog 27 #[.int .i64 n] w fun e w' => e = .returned (.tuple #[.pointer none, .int .i64 2]) ∧ w = w' := by
  rcases h with h | h
  · go_enter Tryd.func27, Tryd.ntmps27
    go_wp2
    go_ret2
    exact ⟨rfl, rfl⟩
  · have h1 : ¬ n < 1 := by omega
    go_enter Tryd.func27, Tryd.ntmps27
    go_wp2
    go_ret2
    exact ⟨rfl, rfl⟩

theorem isNone_no (g : Nat) (l p : Int) (w : World) (h : Ck w g l p) (hl : 1 ≤ l) : Calls Tryd.prog 38 #[.pointer (some ⟨g, 0, none⟩)] w fun e w' => e = .returned (.bool false) ∧ w' = w := by
  obtain ⟨c0, c1, _⟩ := h.cells
  have hb : (l == 0) = false := by rw [beq_eq_false_iff_ne]; omega
  clear h
  go_enter Tryd.func38, Tryd.ntmps38
  go_wp2
  go_ret
  exact ⟨rfl, rfl⟩

theorem left_ok (g : Nat) (l p : Int) (w : World) (h : Ck w g l p) (hl : 1 ≤ l) (hl2 : l ≤ 1000) (hp : 0 ≤ p) (hp2 : p ≤ l) : Calls Tryd.prog 52 #[.pointer (some ⟨g, 0, none⟩)] w fun e w' => e = .returned (.int .i64 (l - p)) ∧ ∃ n, w' = w.drewN n := by
  obtain ⟨c0, c1, _⟩ := h.cells
  have H := Lib.hid h
  have hw : IntKind.i64.wrap (l - p) = l - p := IntWalk.i64_in _ (by omega)
  clear h
  go_enter Tryd.func52, Tryd.ntmps52
  go_wp2_with (go_at_call 38; refine (isNone_no _ _ _ _ H.out hl).mono ?_; rintro r0 w1 ⟨rfl, rfl⟩)
  go_quiet (fail)
  go_wp2
  go_ret
  exact ⟨rfl, nq, rfl⟩
theorem creset_ok (g : Nat) (l p : Int) (w : World) (h : Ck w g l p) (hl : 1 ≤ l) : Calls Tryd.prog 25 #[.pointer (some ⟨g, 0, none⟩)] w fun e w' => (∃ x, e = .returned x) ∧ Ck w' g l 0 ∧ Upd g w w' := by
  obtain ⟨c0, c1, f1⟩ := h.cells
  have H := Lib.hid h
  clear h
  go_enter Tryd.func25, Tryd.ntmps25
  go_wp2_with (go_at_call 38; refine (isNone_no _ _ _ _ H.out hl).mono ?_; rintro r0 w1 ⟨rfl, rfl⟩)
  go_end0
  exact ⟨⟨_, rfl⟩, H.out.set 0, (Upd.refl g _).setCell 1 _⟩

theorem late_d (g b1 b2 : Nat) (l p : Int) (v : Bool) (w : World) (h : Ck w g l p) (hl : 1 ≤ l) (hl2 : l ≤ 1000) (hp : 0 ≤ p) (hp2 : p ≤ l) (h1 : w.cell? ⟨b1, 0, none⟩ = some (.pointer (some ⟨g, 0, none⟩)))
    (h2 : w.cell? ⟨b2, 0, none⟩ = some (.bool v)) (f2 : w.frozen? ⟨b2, 0, none⟩ = false) (u : FrameMode) :
    CallsD Tryd.prog 51 #[.pointer (some ⟨b1, 0, none⟩), .pointer (some ⟨b2, 0, none⟩)] u w fun e u' w' => u' = u ∧ (e = .returned (.tuple #[]) ∧ ∃ n, w' = (w.drewN n).setCell ⟨b2, 0, none⟩ (.bool (l - p == 0))) := by
  have H := Lib.hid h
  clear h
  go_enter_d Tryd.func51, Tryd.ntmps51
  go_wp2_with (go_at_call 52; refine (left_ok g l p _ H.out hl hl2 hp hp2).mono ?_; rintro r0 w1 ⟨rfl, nq, rfl⟩)
  go_end0
  exact ⟨rfl, nq, rfl⟩

theorem count_ok (g : Nat) (l p : Int) (w : World) (h : Ck w g l p) (hl : 1 ≤ l) (hl2 : l ≤ 1000) (hp : 0 ≤ p) (hp2 : p < l) :
    Calls Tryd.prog 39 #[.pointer (some ⟨g, 0, none⟩)] w fun e w' => e = .returned (.bool (l - (p + 1) == 0)) ∧ Ck w' g l (p + 1) ∧ Upd g w w' := by
  have hg := h.lt
  have hmf : ∀ (fn : Fn) (first cap : Array Value) (w : World), (Instr.makeFunc fn first cap).run Tryd.prog w = .ok (.func fn first cap) w := fun _ _ _ _ => rfl
  have hb1 : Below w.heap.size w (w.alloc (.cells #[.pointer (some ⟨g, 0, none⟩)] 65)) := (Below.refl _ w).alloc (Nat.le_refl _) _
  have hb2 : Below w.heap.size w ((w.alloc (.cells #[.pointer (some ⟨g, 0, none⟩)] 65)).alloc (.cells #[.bool false] 4)) := hb1.alloc hb1.size _
  have hz1 := heap_alloc_old (w.alloc (.cells #[.pointer (some ⟨g, 0, none⟩)] 65)) (.cells #[.bool false] 4) (show w.heap.size < _ by simp)
  rw [heap_alloc_new] at hz1
  have hz2 := heap_alloc_new (w.alloc (.cells #[.pointer (some ⟨g, 0, none⟩)] 65)) (.cells #[.bool false] 4)
  rw [show (w.alloc (.cells #[.pointer (some ⟨g, 0, none⟩)] 65)).heap.size = w.heap.size + 1 by simp] at hz2
  have hck := h.below hb2
  have H := Lib.hid h
  clear h hb1
  go_enter_defers Tryd.func39, Tryd.ntmps39
  go_wp2
  generalize (w.alloc (.cells #[.pointer (some ⟨g, 0, none⟩)] 65)).alloc (.cells #[.bool false] 4) = W2 at *
  have k1 : W2.cell? ⟨w.heap.size, 0, none⟩ = some (.pointer (some ⟨g, 0, none⟩)) := by rw [cell_of_row _ _ _ _ _ _ hz1]; rfl
  have k2 : W2.cell? ⟨w.heap.size + 1, 0, none⟩ = some (.bool false) := by rw [cell_of_row _ _ _ _ _ _ hz2]; rfl
  have z2 : W2.frozen? ⟨w.heap.size + 1, 0, none⟩ = false := by unfold World.frozen?; rw [hz2]; rfl
  obtain ⟨c0, c1, f1⟩ := hck.cells
  have hw : IntKind.i64.wrap (p + 1) = p + 1 := IntWalk.i64_in _ (by omega)
  have hmin : p + 1 ≤ l := by omega
  have Hck := Lib.hid hck
  have Hb := Lib.hid hb2
  have Hz1 := Lib.hid hz1
  have Hz2 := Lib.hid hz2
  clear hck hb2 hz1 hz2 H
  go_region
  have hu3 : Upd g W2 (W2.setCell ⟨g, 1, none⟩ (.int .i64 (p + 1))).drew := ((Upd.refl g W2).setCell 1 _).drew
  have hck3 : Ck (W2.setCell ⟨g, 1, none⟩ (.int .i64 (p + 1))).drew g l (p + 1) := Hck.out.set (p + 1)
  generalize (W2.setCell ⟨g, 1, none⟩ (.int .i64 (p + 1))).drew = W3 at *
  have hz1 := (hu3.block _ (Array.getElem?_eq_some_iff.1 Hz1.out).1 (by omega)).trans Hz1.out
  have hz2 := (hu3.block _ (Array.getElem?_eq_some_iff.1 Hz2.out).1 (by omega)).trans Hz2.out
  have hu : Upd g w W3 := (below_upd Hb.out g).trans hu3
  clear k1 k2 z2 c0 c1 f1 Hz1 Hz2 Hck Hb hw
  have k1 : W3.cell? ⟨w.heap.size, 0, none⟩ = some (.pointer (some ⟨g, 0, none⟩)) := by rw [cell_of_row _ _ _ _ _ _ hz1]; rfl
  have k2 : W3.cell? ⟨w.heap.size + 1, 0, none⟩ = some (.bool false) := by rw [cell_of_row _ _ _ _ _ _ hz2]; rfl
  have z2 : W3.frozen? ⟨w.heap.size + 1, 0, none⟩ = false := by unfold World.frozen?; rw [hz2]; rfl
  have Hz1 := Lib.hid hz1
  have Hz2 := Lib.hid hz2
  have Hck := Lib.hid hck3
  clear hz1 hz2 hck3 hu3
  go_wp2
  have hu4 : Upd g w (W3.setCell ⟨w.heap.size + 1, 0, none⟩ (.bool false)) := hu.setNew (by omega) 0 _
  have hne : g ≠ w.heap.size + 1 := by omega
  have hz4 : (W3.setCell ⟨w.heap.size + 1, 0, none⟩ (.bool false)).heap[w.heap.size + 1]? = some (.cells #[.bool false] 4 (0, 0)) := heap_setCell_at Hz2.out _
  have hz5 : (W3.setCell ⟨w.heap.size + 1, 0, none⟩ (.bool false)).heap[w.heap.size]? = some (.cells #[.pointer (some ⟨g, 0, none⟩)] 65 (0, 0)) := by rw [Below.heap_setCell _ _ _ _ (by simp)]; exact Hz1.out
  have hck4 : Ck (W3.setCell ⟨w.heap.size + 1, 0, none⟩ (.bool false)) g l (p + 1) := by unfold Ck; rw [Below.heap_setCell _ _ _ _ hne]; exact Hck.out
  generalize W3.setCell ⟨w.heap.size + 1, 0, none⟩ (.bool false) = W4 at *
  clear k1 k2 z2 Hz1 Hz2 Hck hu hmf
  refine leaves_cons (f := 51) (args := #[.pointer (some ⟨w.heap.size, 0, none⟩), .pointer (some ⟨w.heap.size + 1, 0, none⟩)]) (by simp) (by simp [go_sem]) ?_
  refine (late_d g w.heap.size (w.heap.size + 1) l (p + 1) false W4 hck4 hl hl2 (by omega) (by omega) (by rw [cell_of_row _ _ _ _ _ _ hz5]; rfl) (by rw [cell_of_row _ _ _ _ _ _ hz4]; rfl) (by unfold World.frozen?; rw [hz4]; rfl) .returning).mono ?_
  rintro e u' w'' ⟨rfl, rfl, n, rfl⟩
  have hres : ((W4.drewN n).setCell ⟨w.heap.size + 1, 0, none⟩ (.bool (l - (p + 1) == 0))).cell? ⟨w.heap.size + 1, 0, none⟩ = some (.bool (l - (p + 1) == 0)) := by
    rw [cell_of_row _ _ _ _ _ _ (heap_setCell_at (w := W4.drewN n) hz4 _)]; rfl
  have hu5 : Upd g w ((W4.drewN n).setCell ⟨w.heap.size + 1, 0, none⟩ (.bool (l - (p + 1) == 0))) := (hu4.drewN n).setNew (by omega) 0 _
  have hck5 : Ck ((W4.drewN n).setCell ⟨w.heap.size + 1, 0, none⟩ (.bool (l - (p + 1) == 0))) g l (p + 1) := by unfold Ck; rw [Below.heap_setCell _ _ _ _ hne]; exact hck4
  generalize (W4.drewN n).setCell ⟨w.heap.size + 1, 0, none⟩ (.bool (l - (p + 1) == 0)) = W5 at *
  simp [Leaves, settle, results, Tryd.results39, go_sem, hres]
  exact ⟨hck5, hu5⟩
theorem count_full (g : Nat) (l : Int) (w : World) (h : Ck w g l l) (hl : 1 ≤ l) (hl2 : l ≤ 1000) :
    Calls Tryd.prog 39 #[.pointer (some ⟨g, 0, none⟩)] w fun e w' => e = .returned (.bool (l - l == 0)) ∧ Ck w' g l l ∧ Upd g w w' := by
  have hg := h.lt
  have hmf : ∀ (fn : Fn) (first cap : Array Value) (w : World), (Instr.makeFunc fn first cap).run Tryd.prog w = .ok (.func fn first cap) w := fun _ _ _ _ => rfl
  have hb1 : Below w.heap.size w (w.alloc (.cells #[.pointer (some ⟨g, 0, none⟩)] 65)) := (Below.refl _ w).alloc (Nat.le_refl _) _
  have hb2 : Below w.heap.size w ((w.alloc (.cells #[.pointer (some ⟨g, 0, none⟩)] 65)).alloc (.cells #[.bool false] 4)) := hb1.alloc hb1.size _
  have hz1 := heap_alloc_old (w.alloc (.cells #[.pointer (some ⟨g, 0, none⟩)] 65)) (.cells #[.bool false] 4) (show w.heap.size < _ by simp)
  rw [heap_alloc_new] at hz1
  have hz2 := heap_alloc_new (w.alloc (.cells #[.pointer (some ⟨g, 0, none⟩)] 65)) (.cells #[.bool false] 4)
  rw [show (w.alloc (.cells #[.pointer (some ⟨g, 0, none⟩)] 65)).heap.size = w.heap.size + 1 by simp] at hz2
  have hck := h.below hb2
  have H := Lib.hid h
  clear h hb1
  go_enter_defers Tryd.func39, Tryd.ntmps39
  go_wp2
  generalize (w.alloc (.cells #[.pointer (some ⟨g, 0, none⟩)] 65)).alloc (.cells #[.bool false] 4) = W2 at *
  have k1 : W2.cell? ⟨w.heap.size, 0, none⟩ = some (.pointer (some ⟨g, 0, none⟩)) := by rw [cell_of_row _ _ _ _ _ _ hz1]; rfl
  have k2 : W2.cell? ⟨w.heap.size + 1, 0, none⟩ = some (.bool false) := by rw [cell_of_row _ _ _ _ _ _ hz2]; rfl
  have z2 : W2.frozen? ⟨w.heap.size + 1, 0, none⟩ = false := by unfold World.frozen?; rw [hz2]; rfl
  obtain ⟨c0, c1, f1⟩ := hck.cells
  have hw : IntKind.i64.wrap (l + 1) = l + 1 := IntWalk.i64_in _ (by omega)
  have hmin : ¬ l + 1 ≤ l := by omega
  have Hck := Lib.hid hck
  have Hb := Lib.hid hb2
  have Hz1 := Lib.hid hz1
  have Hz2 := Lib.hid hz2
  clear hck hb2 hz1 hz2 H
  go_region
  have hu3 : Upd g W2 (W2.setCell ⟨g, 1, none⟩ (.int .i64 l)).drew := ((Upd.refl g W2).setCell 1 _).drew
  have hck3 : Ck (W2.setCell ⟨g, 1, none⟩ (.int .i64 l)).drew g l l := Hck.out.set l
  generalize (W2.setCell ⟨g, 1, none⟩ (.int .i64 l)).drew = W3 at *
  have hz1 := (hu3.block _ (Array.getElem?_eq_some_iff.1 Hz1.out).1 (by omega)).trans Hz1.out
  have hz2 := (hu3.block _ (Array.getElem?_eq_some_iff.1 Hz2.out).1 (by omega)).trans Hz2.out
  have hu : Upd g w W3 := (below_upd Hb.out g).trans hu3
  clear k1 k2 z2 c0 c1 f1 Hz1 Hz2 Hck Hb hw
  have k1 : W3.cell? ⟨w.heap.size, 0, none⟩ = some (.pointer (some ⟨g, 0, none⟩)) := by rw [cell_of_row _ _ _ _ _ _ hz1]; rfl
  have k2 : W3.cell? ⟨w.heap.size + 1, 0, none⟩ = some (.bool false) := by rw [cell_of_row _ _ _ _ _ _ hz2]; rfl
  have z2 : W3.frozen? ⟨w.heap.size + 1, 0, none⟩ = false := by unfold World.frozen?; rw [hz2]; rfl
  have Hz1 := Lib.hid hz1
  have Hz2 := Lib.hid hz2
  have Hck := Lib.hid hck3
  clear hz1 hz2 hck3 hu3
  go_wp2
  have hu4 : Upd g w (W3.setCell ⟨w.heap.size + 1, 0, none⟩ (.bool false)) := hu.setNew (by omega) 0 _
  have hne : g ≠ w.heap.size + 1 := by omega
  have hz4 : (W3.setCell ⟨w.heap.size + 1, 0, none⟩ (.bool false)).heap[w.heap.size + 1]? = some (.cells #[.bool false] 4 (0, 0)) := heap_setCell_at Hz2.out _
  have hz5 : (W3.setCell ⟨w.heap.size + 1, 0, none⟩ (.bool false)).heap[w.heap.size]? = some (.cells #[.pointer (some ⟨g, 0, none⟩)] 65 (0, 0)) := by rw [Below.heap_setCell _ _ _ _ (by simp)]; exact Hz1.out
  have hck4 : Ck (W3.setCell ⟨w.heap.size + 1, 0, none⟩ (.bool false)) g l l := by unfold Ck; rw [Below.heap_setCell _ _ _ _ hne]; exact Hck.out
  generalize W3.setCell ⟨w.heap.size + 1, 0, none⟩ (.bool false) = W4 at *
  clear k1 k2 z2 Hz1 Hz2 Hck hu hmf
  refine leaves_cons (f := 51) (args := #[.pointer (some ⟨w.heap.size, 0, none⟩), .pointer (some ⟨w.heap.size + 1, 0, none⟩)]) (by simp) (by simp [go_sem]) ?_
  refine (late_d g w.heap.size (w.heap.size + 1) l l false W4 hck4 hl hl2 (by omega) (by omega) (by rw [cell_of_row _ _ _ _ _ _ hz5]; rfl) (by rw [cell_of_row _ _ _ _ _ _ hz4]; rfl) (by unfold World.frozen?; rw [hz4]; rfl) .returning).mono ?_
  rintro e u' w'' ⟨rfl, rfl, n, rfl⟩
  have hres : ((W4.drewN n).setCell ⟨w.heap.size + 1, 0, none⟩ (.bool (l - l == 0))).cell? ⟨w.heap.size + 1, 0, none⟩ = some (.bool (l - l == 0)) := by
    rw [cell_of_row _ _ _ _ _ _ (heap_setCell_at (w := W4.drewN n) hz4 _)]; rfl
  have hu5 : Upd g w ((W4.drewN n).setCell ⟨w.heap.size + 1, 0, none⟩ (.bool (l - l == 0))) := (hu4.drewN n).setNew (by omega) 0 _
  have hck5 : Ck ((W4.drewN n).setCell ⟨w.heap.size + 1, 0, none⟩ (.bool (l - l == 0))) g l l := by unfold Ck; rw [Below.heap_setCell _ _ _ _ hne]; exact hck4
  generalize (W4.drewN n).setCell ⟨w.heap.size + 1, 0, none⟩ (.bool (l - l == 0)) = W5 at *
  simp [Leaves, settle, results, Tryd.results39, go_sem, hres]
  exact ⟨hck5, hu5⟩

/-- Tick: whether it is late. -/
theorem ctick_ok (g : Nat) (l p : Int) (w : World) (h : Ck w g l p) (hl : 1 ≤ l) (hl2 : l ≤ 1000) (hp : 0 ≤ p) (hp2 : p ≤ l) :
    Calls Tryd.prog 24 #[.pointer (some ⟨g, 0, none⟩)] w fun e w' => e = .returned (.bool (decide (l ≤ p + 1))) ∧ Ck w' g l (min (p + 1) l) ∧ Upd g w w' := by
  have H := Lib.hid h
  by_cases hlt : p < l
  · have hc := count_ok g l p w h hl hl2 hp hlt
    rw [show (l - (p + 1) == 0) = decide (l ≤ p + 1) by rw [Bool.eq_iff_iff]; simp; omega, show p + 1 = min (p + 1) l by omega] at hc
    rw [show decide (l ≤ p + 1) = decide (l ≤ min (p + 1) l) by rw [Bool.eq_iff_iff]; simp; omega]
    have HC := Lib.hid hc
    clear hc h
    go_enter Tryd.func24, Tryd.ntmps24
    go_wp2_with (first | (go_at_call 38; refine (isNone_no _ _ _ _ H.out hl).mono ?_; rintro r0 w1 ⟨rfl, rfl⟩) | (go_at_call 39; refine HC.out.mono ?_; rintro r0 w1 ⟨rfl, hk1, hu1⟩))
    go_ret
    exact ⟨rfl, hk1, hu1⟩
  · obtain rfl : p = l := by omega
    have hc := count_full g p w h hl hl2
    rw [show (p - p == 0) = true by simp] at hc
    rw [show decide (p ≤ p + 1) = true by simp; omega, show min (p + 1) p = p by omega]
    have HC := Lib.hid hc
    clear hc h
    go_enter Tryd.func24, Tryd.ntmps24
    go_wp2_with (first | (go_at_call 38; refine (isNone_no _ _ _ _ H.out hl).mono ?_; rintro r0 w1 ⟨rfl, rfl⟩) | (go_at_call 39; refine HC.out.mono ?_; rintro r0 w1 ⟨rfl, hk1, hu1⟩))
    go_ret
    exact ⟨rfl, hk1, hu1⟩
end Go.Proofs.YtdemconpdjgimaaDoor
