/- Contracts of the document's answer for the clock. -/
import Derived.Test.YtbiohldgcdfafaaClock
namespace Go.Proofs.Ytbiohldgcdfafaa
open Go.RowKit
set_option linter.unusedVariables false
/-- Block g is a clock of the document's answer. -/
def Rk (w : World) (g : Nat) (lim pas : Int) : Prop := w.heap[g]? = some (.cells #[.int .i64 lim, .int .i64 pas] 43 (0, 0))
theorem Rk.cells {w : World} {g : Nat} {l p : Int} (h : Rk w g l p) :
    w.cell? ⟨g, 0, none⟩ = some (.int .i64 l) ∧ w.cell? ⟨g, 1, none⟩ = some (.int .i64 p) ∧ w.frozen? ⟨g, 1, none⟩ = false := by
  unfold Rk at h
  refine ⟨?_, ?_, ?_⟩
  · unfold World.cell?; rw [h]; rfl
  · unfold World.cell?; rw [h]; rfl
  · unfold World.frozen?; rw [h]; rfl
theorem Rk.lt {w : World} {g : Nat} {l p : Int} (h : Rk w g l p) : g < w.heap.size := (Array.getElem?_eq_some_iff.1 h).1
theorem Rk.set {w : World} {g : Nat} {l p : Int} (h : Rk w g l p) (q : Int) : Rk (w.setCell ⟨g, 1, none⟩ (.int .i64 q)) g l q := heap_setCell_at h _
theorem Rk.upd {w w' : World} {g k : Nat} {l p : Int} (h : Rk w g l p) (hu : Upd k w w') (hne : g ≠ k) : Rk w' g l p := by
  unfold Rk; rw [hu.block g h.lt hne]; exact h
theorem Rk.below {w w' : World} {g : Nat} {l p : Int} (h : Rk w g l p) (hb : Below w.heap.size w w') : Rk w' g l p := by
  unfold Rk; rw [hb.block g h.lt]; exact h
theorem rnew_ok (n : Int) (w : World) (h1 : 1 ≤ n) (h2 : n ≤ 1000) : Calls Try.prog 9 #[.int .i64 n] w fun e w' => (∃ g, e = .returned (.tuple #[.pointer (some ⟨g, 0, none⟩), .int .i64 0]) ∧ w.heap.size ≤ g ∧ Rk w' g n 0) ∧ Below w.heap.size w w' := by
  have h3 : ¬ n < 1 := by omega
  go_enter Try.func9, Try.ntmps9
  go_wp2
  go_ret2
  exact ⟨⟨w.heap.size, rfl, Nat.le_refl _, heap_alloc_new w _⟩, (Below.refl _ w).alloc (Nat.le_refl _) _⟩
theorem rnew_no (n : Int) (w : World) (h : n < 1 ∨ 1000 < n) : Calls Try.prog 9 #[.int .i64 n] w fun e w' => e = .returned (.tuple #[.pointer none, .int .i64 2]) ∧ w = w' := by
  rcases h with h | h
  · go_enter Try.func9, Try.ntmps9
    go_wp2
    go_ret2
    exact ⟨rfl, rfl⟩
  · have h1 : ¬ n < 1 := by omega
    go_enter Try.func9, Try.ntmps9
    go_wp2
    go_ret2
    exact ⟨rfl, rfl⟩
theorem rlimit_ok (g : Nat) (l p : Int) (w : World) (h : Rk w g l p) : Calls Try.prog 17 #[.pointer (some ⟨g, 0, none⟩)] w fun e w' => e = .returned (.int .i64 l) ∧ w' = w := by
  obtain ⟨c0, c1, _⟩ := h.cells
  clear h
  go_enter Try.func17, Try.ntmps17
  go_wp2
  go_ret
  exact ⟨rfl, rfl⟩
theorem rreset_ok (g : Nat) (l p : Int) (w : World) (h : Rk w g l p) : Calls Try.prog 13 #[.pointer (some ⟨g, 0, none⟩)] w fun e w' => (∃ x, e = .returned x) ∧ Rk w' g l 0 ∧ Upd g w w' := by
  obtain ⟨c0, c1, f1⟩ := h.cells
  have H := Lib.hid h
  clear h
  go_enter Try.func13, Try.ntmps13
  go_wp2
  go_end0
  exact ⟨⟨_, rfl⟩, H.out.set 0, (Upd.refl g _).setCell 1 _⟩
theorem rleft_ok (g : Nat) (l p : Int) (w : World) (h : Rk w g l p) (hl : 1 ≤ l) (hl2 : l ≤ 1000) (hp : 0 ≤ p) (hp2 : p ≤ l) : Calls Try.prog 15 #[.pointer (some ⟨g, 0, none⟩)] w fun e w' => e = .returned (.int .i64 (l - p)) ∧ Rk w' g l p ∧ Upd g w w' := by
  obtain ⟨c0, c1, _⟩ := h.cells
  have H := Lib.hid h
  have hw : IntKind.i64.wrap (l - p) = l - p := IntWalk.i64_in _ (by omega)
  clear h
  go_enter Try.func15, Try.ntmps15
  go_wp2_with fail
  go_quiet (fail)
  go_wp2
  go_ret
  exact ⟨rfl, H.out, (Upd.refl g w).drewN nq⟩
theorem rtick_lt (g : Nat) (l p : Int) (w : World) (h : Rk w g l p) (hl : 1 ≤ l) (hl2 : l ≤ 1000) (hp : 0 ≤ p) (hlt : p < l) :
    Calls Try.prog 11 #[.pointer (some ⟨g, 0, none⟩)] w fun e w' => e = .returned (.bool (p + 1 == l)) ∧ Rk w' g l (p + 1) ∧ Upd g w w' := by
  obtain ⟨c0, c1, f1⟩ := h.cells
  have H := Lib.hid h
  have hw : IntKind.i64.wrap (p + 1) = p + 1 := IntWalk.i64_in _ (by omega)
  have hmin : p + 1 ≤ l := by omega
  clear h
  go_enter Try.func11, Try.ntmps11
  go_wp2_with fail
  go_region
  have hu3 : Upd g w (w.setCell ⟨g, 1, none⟩ (.int .i64 (p + 1))).drew := ((Upd.refl g w).setCell 1 _).drew
  have hk3 : Rk (w.setCell ⟨g, 1, none⟩ (.int .i64 (p + 1))).drew g l (p + 1) := H.out.set (p + 1)
  generalize (w.setCell ⟨g, 1, none⟩ (.int .i64 (p + 1))).drew = W3 at *
  clear c0 c1 f1 hw H hmin
  obtain ⟨c0, c1, f1⟩ := hk3.cells
  have H := Lib.hid hk3
  clear hk3
  go_wp2_with fail
  go_quiet (fail)
  go_wp2
  go_ret
  exact ⟨rfl, H.out, hu3.drewN nq⟩
theorem rtick_full (g : Nat) (l p : Int) (w : World) (h : Rk w g l p) (hl : 1 ≤ l) (hl2 : l ≤ 1000) (hp : 0 ≤ p) (hlt : p = l) :
    Calls Try.prog 11 #[.pointer (some ⟨g, 0, none⟩)] w fun e w' => e = .returned (.bool true) ∧ Rk w' g l (l) ∧ Upd g w w' := by
  obtain ⟨c0, c1, f1⟩ := h.cells
  have H := Lib.hid h
  have hw : IntKind.i64.wrap (p + 1) = p + 1 := IntWalk.i64_in _ (by omega)
  have hmin : ¬ p + 1 ≤ l := by omega
  clear hlt
  clear h
  go_enter Try.func11, Try.ntmps11
  go_wp2_with fail
  go_region
  have hu3 : Upd g w (w.setCell ⟨g, 1, none⟩ (.int .i64 (l))).drew := ((Upd.refl g w).setCell 1 _).drew
  have hk3 : Rk (w.setCell ⟨g, 1, none⟩ (.int .i64 (l))).drew g l (l) := H.out.set (l)
  generalize (w.setCell ⟨g, 1, none⟩ (.int .i64 (l))).drew = W3 at *
  clear c0 c1 f1 hw H hmin
  obtain ⟨c0, c1, f1⟩ := hk3.cells
  have H := Lib.hid hk3
  clear hk3
  go_wp2_with fail
  go_quiet (fail)
  go_wp2
  go_ret
  exact ⟨rfl, H.out, hu3.drewN nq⟩
theorem rtick_at (g : Nat) (l p q : Int) (b : Bool) (w : World) (h : Rk w g l p) (hl : 1 ≤ l) (hl2 : l ≤ 1000) (hp : 0 ≤ p) (hp2 : p ≤ l) (hb : (q == l) = b) (hq : min (p + 1) l = q) :
    Calls Try.prog 11 #[.pointer (some ⟨g, 0, none⟩)] w fun e w' => e = .returned (.bool b) ∧ Rk w' g l q ∧ Upd g w w' := by
  subst hb
  by_cases hlt : p < l
  · have := rtick_lt g l p w h hl hl2 hp hlt
    obtain rfl : q = p + 1 := by omega
    exact this
  · have := rtick_full g l p w h hl hl2 hp (by omega)
    obtain rfl : q = l := by omega
    rw [show (q == q) = true from beq_self_eq_true q]
    exact this
end Go.Proofs.Ytbiohldgcdfafaa
