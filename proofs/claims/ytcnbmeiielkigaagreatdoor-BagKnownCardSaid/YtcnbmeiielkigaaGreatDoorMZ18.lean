/- The statement's own: works. -/
import Derived.Test.YtcnbmeiielkigaaGreatDoorMZ16
import Derived.Test.YtcnbmeiielkigaaGreatDoorMRefI6
import Derived.Test.YtcnbmeiielkigaaGreatDoorMItem9
import Derived.Test.YtcnbmeiielkigaaGreatDoorMZ15
import Derived.Test.YtcnbmeiielkigaaGreatDoorMZ03
namespace Go.Proofs.YtcnbmeiielkigaaGreatDoor
open Go.RowKit
set_option linter.unusedVariables false
set_option linter.unusedSimpArgs false
end Go.Proofs.YtcnbmeiielkigaaGreatDoor
/- cutOp; the encodings, whether an op may be or not. -/
namespace Go.Proofs.YtcnbmeiielkigaaGreatDoor
open Go.RowKit
set_option linter.unusedVariables false
set_option linter.unusedSimpArgs false
def eB (b : Bool) : Int := if b then 0 else 2
end Go.Proofs.YtcnbmeiielkigaaGreatDoor
/- Package entry, and the document's own: Check, Same, Copy. -/
namespace Go.Proofs.YtcnbmeiielkigaaGreatDoor
open Go.RowKit
set_option linter.unusedVariables false
set_option linter.unusedSimpArgs false
/-- An entry. -/
structure EnM where
 c : Int
 m : Int
 p : OpM
def enV (x : EnM) (v : Value) : Value := .agg #[.int .i64 x.c, .int .i64 x.m, .int .i64 x.p.k, .string x.p.s.1, .int .i64 x.p.o, .int .i64 x.p.n, v]
def enC (x : EnM) (v : Value) : Array Value := #[.int .i64 x.c, .int .i64 x.m, .int .i64 x.p.k, .string x.p.s.1, .int .i64 x.p.o, .int .i64 x.p.n, v]
def EnM.hd (x : EnM) : Bool := decide (0 ≤ x.c ∧ x.c < 8 ∧ 1 ≤ x.m ∧ x.m ≤ 2147483647)
def EnM.ok (x : EnM) : Bool := x.hd && x.p.ok
def enSame (x y : EnM) : Bool := decide (x.c = y.c) && decide (x.m = y.m) && sameB x.p.k x.p.s x.p.o x.p.n x.p.ls y.p.k y.p.s y.p.o y.p.n y.p.ls
theorem cells7 {w0 w : World} {b : Nat} {v0 v1 v2 v3 v4 v5 v6 : Value} {t : TypeId} {L : List Thing} (h : Sep w0 (Cl b #[v0, v1, v2, v3, v4, v5, v6] t :: L) w) :
  (w.cell? ⟨b, 0, none⟩ = some v0 ∧ w.cell? ⟨b, 1, none⟩ = some v1 ∧ w.cell? ⟨b, 2, none⟩ = some v2 ∧ w.cell? ⟨b, 3, none⟩ = some v3 ∧ w.cell? ⟨b, 4, none⟩ = some v4 ∧ w.cell? ⟨b, 5, none⟩ = some v5 ∧ w.cell? ⟨b, 6, none⟩ = some v6) :=
 ⟨h.cell rfl, h.cell rfl, h.cell rfl, h.cell rfl, h.cell rfl, h.cell rfl, h.cell rfl⟩
theorem frz7 {w0 w : World} {b : Nat} {xs : Array Value} {t : TypeId} {L : List Thing} (h : Sep w0 (Cl b xs t :: L) w) :
  (w.frozen? ⟨b, 0, none⟩ = false ∧ w.frozen? ⟨b, 1, none⟩ = false ∧ w.frozen? ⟨b, 2, none⟩ = false ∧ w.frozen? ⟨b, 3, none⟩ = false ∧ w.frozen? ⟨b, 4, none⟩ = false ∧ w.frozen? ⟨b, 5, none⟩ = false ∧ w.frozen? ⟨b, 6, none⟩ = false) := by
 have k : ∀ o, w.frozen? ⟨b, o, none⟩ = false := fun o => by unfold World.frozen?; rw [h.blk]; simp
 exact ⟨k 0, k 1, k 2, k 3, k 4, k 5, k 6⟩
theorem Sep.set7 {w0 w : World} {b o : Nat} {xs ys : Array Value} {u : Value} {t : TypeId} {L : List Thing} (h : Sep w0 (Cl b xs t :: L) w) (hy : xs.setIfInBounds o u = ys) : Sep w0 (Cl b ys t :: L) (w.setCell ⟨b, o, none⟩ u) := by subst hy; exact h.setCell o u
theorem store7 {w0 w : World} {b : Nat} {v0 v1 v2 v3 v4 v5 v6 u0 u1 u2 u3 u4 u5 u6 : Value} {t : TypeId} {L : List Thing} (h : Sep w0 (Cl b #[v0, v1, v2, v3, v4, v5, v6] t :: L) w) :
  Sep w0 (Cl b #[u0, u1, u2, u3, u4, u5, u6] t :: L) (((((((w.setCell ⟨b, 0, none⟩ u0).setCell ⟨b, 1, none⟩ u1).setCell ⟨b, 2, none⟩ u2).setCell ⟨b, 3, none⟩ u3).setCell ⟨b, 4, none⟩ u4).setCell ⟨b, 5, none⟩ u5).setCell ⟨b, 6, none⟩ u6) := by
 have h0 := h.set7 (o := 0) (u := u0) (ys := #[u0, v1, v2, v3, v4, v5, v6]) rfl
 have h1 := h0.set7 (o := 1) (u := u1) (ys := #[u0, u1, v2, v3, v4, v5, v6]) rfl
 have h2 := h1.set7 (o := 2) (u := u2) (ys := #[u0, u1, u2, v3, v4, v5, v6]) rfl
 have h3 := h2.set7 (o := 3) (u := u3) (ys := #[u0, u1, u2, u3, v4, v5, v6]) rfl
 have h4 := h3.set7 (o := 4) (u := u4) (ys := #[u0, u1, u2, u3, u4, v5, v6]) rfl
 have h5 := h4.set7 (o := 5) (u := u5) (ys := #[u0, u1, u2, u3, u4, u5, v6]) rfl
 exact h5.set7 (o := 6) (u := u6) (ys := #[u0, u1, u2, u3, u4, u5, u6]) rfl
theorem store75 {w0 w : World} {b : Nat} {v0 v1 v2 v3 v4 v5 v6 u2 u3 u4 u5 u6 : Value} {t : TypeId} {L : List Thing} (h : Sep w0 (Cl b #[v0, v1, v2, v3, v4, v5, v6] t :: L) w) :
  Sep w0 (Cl b #[v0, v1, u2, u3, u4, u5, u6] t :: L) (((((w.setCell ⟨b, 2, none⟩ u2).setCell ⟨b, 3, none⟩ u3).setCell ⟨b, 4, none⟩ u4).setCell ⟨b, 5, none⟩ u5).setCell ⟨b, 6, none⟩ u6) := by
 have h2 := h.set7 (o := 2) (u := u2) (ys := #[v0, v1, u2, v3, v4, v5, v6]) rfl
 have h3 := h2.set7 (o := 3) (u := u3) (ys := #[v0, v1, u2, u3, v4, v5, v6]) rfl
 have h4 := h3.set7 (o := 4) (u := u4) (ys := #[v0, v1, u2, u3, u4, v5, v6]) rfl
 have h5 := h4.set7 (o := 5) (u := u5) (ys := #[v0, v1, u2, u3, u4, u5, v6]) rfl
 exact h5.set7 (o := 6) (u := u6) (ys := #[v0, v1, u2, u3, u4, u5, u6]) rfl
theorem lns_maxl {w : World} {v : Value} {ls : List Ln} (h : LnS w v ls) : ls.length ≤ 9223372036854775807 := by
 rcases h with ⟨a', c', he, h1, rfl⟩ | ⟨b, off, c', he, h1, h2, h3, h4⟩
 ·simp
 ·unfold maxLen at h2; omega
theorem hd_cases (x : EnM) : (x.hd = false ∧ (x.c < 0 ∨ (0 ≤ x.c ∧ 8 ≤ x.c) ∨ (0 ≤ x.c ∧ x.c < 8 ∧ x.m < 1) ∨ (0 ≤ x.c ∧ x.c < 8 ∧ 1 ≤ x.m ∧ 2147483647 < x.m))) ∨ (x.hd = true ∧ 0 ≤ x.c ∧ x.c < 8 ∧ 1 ≤ x.m ∧ x.m ≤ 2147483647) := by
 unfold EnM.hd
 generalize x.c = c
 generalize x.m = m
 by_cases h : 0 ≤ c ∧ c < 8 ∧ 1 ≤ m ∧ m ≤ 2147483647
 ·exact .inr ⟨by simp only [decide_eq_true_eq]; exact h, h⟩
 ·refine .inl ⟨by simp only [decide_eq_false_iff_not]; exact h, ?_⟩
  by_cases a : c < 0
  ·exact .inl a
  ·by_cases b : 8 ≤ c
   ·exact .inr (.inl ⟨by omega, b⟩)
   ·by_cases d : m < 1
    ·exact .inr (.inr (.inl ⟨by omega, by omega, d⟩))
    ·refine .inr (.inr (.inr ⟨by omega, by omega, by omega, ?_⟩))
     apply Classical.byContradiction
     intro e
     exact h ⟨by omega, by omega, by omega, by omega⟩
set_option maxRecDepth 100000 in
set_option maxHeartbeats 4000000 in
theorem echeck_any {w0 w : World} {L : List Thing} (x : EnM) (v : Value) (h : Sep w0 L w) (hv : LnS w v x.p.ls) (hk : KindsAt w) :
  Calls Tryz.prog 82 #[enV x v] w fun e w' => e = .returned (.int .i64 (eB x.ok)) ∧ Sep w0 L w' := by
 have h1 := h.alloc (.cells (enC x v) 32)
 have hlow : Below w.heap.size w (w.alloc (.cells (enC x v) 32)) := (Below.refl _ w).alloc (Nat.le_refl _) _
 have HC := Lib.hid (check_any x.p.k x.p.s x.p.o x.p.n v x.p.ls h1 (hv.below hlow) (hk.below hlow))
 have H1 := Lib.hid h1.drop
 obtain ⟨c0, c1, c2, c3, c4, c5, c6⟩ := cells7 h1
 unfold enV EnM.ok OpM.ok
 unfold enC at *
 clear h h1 hv hk hlow
 rcases hd_cases x with ⟨e, hx⟩ | ⟨e, x0, x1, x2, x3⟩
 ·rw [e, Bool.false_and]
  clear e
  rcases hx with x0 | ⟨x0, x1⟩ | ⟨x0, x1, x2⟩ | ⟨x0, x1, x2, x3⟩
  all_goals
   go_enter Tryz.func82, Tryz.ntmps82
   go_wp2_with fail
   go_ret
   exact ⟨rfl, H1.out⟩
 ·rw [e, Bool.true_and]
  have d0 : decide (x.c < 0) = false := decide_eq_false (by omega)
  have d1 : decide (8 ≤ x.c) = false := decide_eq_false (by omega)
  have d2 : decide (x.m < 1) = false := decide_eq_false (by omega)
  have d3 : decide (2147483647 < x.m) = false := decide_eq_false (by omega)
  clear e
  unfold eB
  generalize (if okB x.p.k x.p.s x.p.o x.p.n x.p.ls = true then (0 : Int) else 2) = ec at *
  go_enter Tryz.func82, Tryz.ntmps82
  go_wp2_with fail
  refine HC.out.mono ?_
  rintro r0 w1 ⟨rfl, h2⟩
  go_wp2_with fail
  go_ret
  exact ⟨rfl, h2.drop⟩
set_option maxRecDepth 100000 in
set_option maxHeartbeats 4000000 in
theorem recheck_any {w0 w : World} {L : List Thing} (x : EnM) (v : Value) (h : Sep w0 L w) (hv : LnS w v x.p.ls) (hl : x.p.ls.length ≤ 9223372036854775807) :
  Calls Tryz.prog 90 #[enV x v] w fun e w' => e = .returned (.int .i64 (eB x.ok)) ∧ Sep w0 L w' := by
 have h1 := h.alloc (.cells (enC x v) 32)
 have hlow : Below w.heap.size w (w.alloc (.cells (enC x v) 32)) := (Below.refl _ w).alloc (Nat.le_refl _) _
 have HC := Lib.hid (rcheck_any x.p.k x.p.s x.p.o x.p.n v x.p.ls h1 (hv.below hlow) (by omega))
 have H1 := Lib.hid h1.drop
 obtain ⟨c0, c1, c2, c3, c4, c5, c6⟩ := cells7 h1
 unfold enV EnM.ok OpM.ok
 unfold enC at *
 clear h h1 hv hl hlow
 rcases hd_cases x with ⟨e, hx⟩ | ⟨e, x0, x1, x2, x3⟩
 ·rw [e, Bool.false_and]
  clear e
  rcases hx with x0 | ⟨x0, x1⟩ | ⟨x0, x1, x2⟩ | ⟨x0, x1, x2, x3⟩
  all_goals
   go_enter Tryz.func90, Tryz.ntmps90
   go_wp2_with fail
   go_ret
   exact ⟨rfl, H1.out⟩
 ·rw [e, Bool.true_and]
  have d0 : decide (x.c < 0) = false := decide_eq_false (by omega)
  have d1 : decide (8 ≤ x.c) = false := decide_eq_false (by omega)
  have d2 : decide (x.m < 1) = false := decide_eq_false (by omega)
  have d3 : decide (2147483647 < x.m) = false := decide_eq_false (by omega)
  clear e
  unfold eB
  cases hb : okB x.p.k x.p.s x.p.o x.p.n x.p.ls with
  | true =>
   rw [hb] at HC
   go_enter Tryz.func90, Tryz.ntmps90
   go_wp2_with fail
   refine HC.out.mono ?_
   rintro r0 w1 ⟨rfl, h2⟩
   go_wp2_with fail
   go_ret
   exact ⟨rfl, h2.drop⟩
  | false =>
   rw [hb] at HC
   go_enter Tryz.func90, Tryz.ntmps90
   go_wp2_with fail
   refine HC.out.mono ?_
   rintro r0 w1 ⟨rfl, h2⟩
   go_wp2_with fail
   go_ret
   exact ⟨rfl, h2.drop⟩
theorem enSame_cases (x y : EnM) : (enSame x y = false ∧ (x.c ≠ y.c ∨ (x.c = y.c ∧ x.m ≠ y.m))) ∨ (x.c = y.c ∧ x.m = y.m ∧ enSame x y = sameB x.p.k x.p.s x.p.o x.p.n x.p.ls y.p.k y.p.s y.p.o y.p.n y.p.ls) := by
 unfold enSame
 by_cases h1 : x.c = y.c
 ·by_cases h2 : x.m = y.m
  ·exact .inr ⟨h1, h2, by simp [h1, h2]⟩
  ·exact .inl ⟨by simp [h2], .inr ⟨h1, h2⟩⟩
 ·exact .inl ⟨by simp [h1], .inl h1⟩
set_option maxRecDepth 100000 in
set_option maxHeartbeats 4000000 in
theorem esame_any {w0 w : World} {L : List Thing} (x y : EnM) (v u : Value) (h : Sep w0 L w) (hv : LnS w v x.p.ls) (hu : LnS w u y.p.ls) (hl : x.p.ls.length ≤ 9223372036854775807) :
  Calls Tryz.prog 42 #[enV x v, enV y u] w fun e w' => e = .returned (.bool (enSame x y)) ∧ Sep w0 L w' := by
 have h1 := (h.alloc (.cells (enC x v) 32)).alloc (.cells (enC y u) 32)
 have hlow : Below w.heap.size w ((w.alloc (.cells (enC x v) 32)).alloc (.cells (enC y u) 32)) := ((Below.refl _ w).alloc (Nat.le_refl _) _).alloc (by simp) _
 rw [show (w.alloc (.cells (enC x v) 32)).heap.size = w.heap.size + 1 by simp] at h1
 have HC := Lib.hid (same_any x.p.k x.p.s x.p.o x.p.n v x.p.ls y.p.k y.p.s y.p.o y.p.n u y.p.ls h1 (hv.below hlow) (hu.below hlow) (by omega))
 have H1 := Lib.hid h1.drop.drop
 obtain ⟨d0, d1, d2, d3, d4, d5, d6⟩ := cells7 h1
 obtain ⟨c0, c1, c2, c3, c4, c5, c6⟩ := cells7 h1.sw2
 unfold enV
 unfold enC at *
 clear h h1 hv hu hl hlow
 rcases enSame_cases x y with ⟨e, hx⟩ | ⟨x0, x1, e⟩
 ·rw [e]
  clear e
  rcases hx with x0 | ⟨x0, x1⟩
  ·have y0 : (x.c == y.c) = false := beq_eq_false_iff_ne.2 x0
   clear x0
   go_enter Tryz.func42, Tryz.ntmps42
   go_wp2_with fail
   go_ret
   exact ⟨rfl, H1.out⟩
  ·have y0 : (x.c == y.c) = true := beq_iff_eq.2 x0
   have y1 : (x.m == y.m) = false := beq_eq_false_iff_ne.2 x1
   clear x0 x1
   go_enter Tryz.func42, Tryz.ntmps42
   go_wp2_with fail
   go_ret
   exact ⟨rfl, H1.out⟩
 ·rw [e]
  have y0 : (x.c == y.c) = true := beq_iff_eq.2 x0
  have y1 : (x.m == y.m) = true := beq_iff_eq.2 x1
  clear e x0 x1
  generalize sameB x.p.k x.p.s x.p.o x.p.n x.p.ls y.p.k y.p.s y.p.o y.p.n y.p.ls = z at *
  go_enter Tryz.func42, Tryz.ntmps42
  go_wp2_with fail
  refine HC.out.mono ?_
  rintro r0 w1 ⟨rfl, h2⟩
  go_wp2_with fail
  go_ret
  exact ⟨rfl, h2.drop.drop⟩
set_option maxRecDepth 100000 in
set_option maxHeartbeats 4000000 in
theorem resame_any {w0 w : World} {L : List Thing} (x y : EnM) (v u : Value) (h : Sep w0 L w) (hv : LnS w v x.p.ls) (hu : LnS w u y.p.ls) (hl : x.p.ls.length ≤ 9223372036854775807) :
  Calls Tryz.prog 44 #[enV x v, enV y u] w fun e w' => e = .returned (.bool (enSame x y)) ∧ Sep w0 L w' := by
 have h1 := (h.alloc (.cells (enC x v) 32)).alloc (.cells (enC y u) 32)
 have hlow : Below w.heap.size w ((w.alloc (.cells (enC x v) 32)).alloc (.cells (enC y u) 32)) := ((Below.refl _ w).alloc (Nat.le_refl _) _).alloc (by simp) _
 rw [show (w.alloc (.cells (enC x v) 32)).heap.size = w.heap.size + 1 by simp] at h1
 have HC := Lib.hid (rsame_any x.p.k x.p.s x.p.o x.p.n v x.p.ls y.p.k y.p.s y.p.o y.p.n u y.p.ls h1 (hv.below hlow) (hu.below hlow) (by omega))
 have H1 := Lib.hid h1.drop.drop
 obtain ⟨d0, d1, d2, d3, d4, d5, d6⟩ := cells7 h1
 obtain ⟨c0, c1, c2, c3, c4, c5, c6⟩ := cells7 h1.sw2
 unfold enV
 unfold enC at *
 clear h h1 hv hu hl hlow
 rcases enSame_cases x y with ⟨e, hx⟩ | ⟨x0, x1, e⟩
 ·rw [e]
  clear e
  rcases hx with x0 | ⟨x0, x1⟩
  ·have y0 : (x.c == y.c) = false := beq_eq_false_iff_ne.2 x0
   clear x0
   go_enter Tryz.func44, Tryz.ntmps44
   go_wp2_with fail
   go_ret
   exact ⟨rfl, H1.out⟩
  ·have y0 : (x.c == y.c) = true := beq_iff_eq.2 x0
   have y1 : (x.m == y.m) = false := beq_eq_false_iff_ne.2 x1
   clear x0 x1
   go_enter Tryz.func44, Tryz.ntmps44
   go_wp2_with fail
   go_ret
   exact ⟨rfl, H1.out⟩
 ·rw [e]
  have y0 : (x.c == y.c) = true := beq_iff_eq.2 x0
  have y1 : (x.m == y.m) = true := beq_iff_eq.2 x1
  clear e x0 x1
  generalize sameB x.p.k x.p.s x.p.o x.p.n x.p.ls y.p.k y.p.s y.p.o y.p.n y.p.ls = z at *
  go_enter Tryz.func44, Tryz.ntmps44
  go_wp2_with fail
  refine HC.out.mono ?_
  rintro r0 w1 ⟨rfl, h2⟩
  go_wp2_with fail
  go_ret
  exact ⟨rfl, h2.drop.drop⟩
set_option maxRecDepth 100000 in
set_option maxHeartbeats 4000000 in
theorem ecopy_any {w0 w : World} {L : List Thing} (x : EnM) (v : Value) (h : Sep w0 L w) (hv : LnS w v x.p.ls) (hl : x.p.ls.length ≤ 1000) :
  Calls Tryz.prog 49 #[enV x v] w fun e w' => ∃ u, e = .returned (enV x u) ∧ Sep w0 (LnR u x.p.ls :: L) w' := by
 have h1 := (h.alloc (.cells (enC x v) 32)).alloc (.cells #[.int .i64 0, .int .i64 0, .int .i64 0, .string ⟨#[]⟩, .int .i64 0, .int .i64 0, .slice none 0 0] 32)
 have hlow : Below w.heap.size w ((w.alloc (.cells (enC x v) 32)).alloc (.cells #[.int .i64 0, .int .i64 0, .int .i64 0, .string ⟨#[]⟩, .int .i64 0, .int .i64 0, .slice none 0 0] 32)) := ((Below.refl _ w).alloc (Nat.le_refl _) _).alloc (by simp) _
 rw [show (w.alloc (.cells (enC x v) 32)).heap.size = w.heap.size + 1 by simp] at h1
 have HC := Lib.hid (copy_any x.p.k x.p.s x.p.o x.p.n v x.p.ls h1 (hv.below hlow) hl)
 obtain ⟨c0, c1, c2, c3, c4, c5, c6⟩ := cells7 h1.sw2
 obtain ⟨b1, hb1⟩ : ∃ z, z = w.heap.size := ⟨_, rfl⟩
 obtain ⟨b2, hb2⟩ : ∃ z, z = w.heap.size + 1 := ⟨_, rfl⟩
 rw [← hb2, ← hb1] at HC
 unfold enV
 unfold enC at *
 clear h h1 hv hl hlow
 go_enter Tryz.func49, Tryz.ntmps49
 go_wp2_with fail
 rw [← hb2, ← hb1]
 refine HC.out.mono ?_
 rintro r0 w1 ⟨u, rfl, h2⟩
 clear c0 c1 c2 c3 c4 c5 c6 hb1 hb2 HC
 obtain ⟨au, cu, rfl, -⟩ := h2.rnForm
 obtain ⟨c0, c1, c2, c3, c4, c5, c6⟩ := cells7 h2.sw3
 obtain ⟨f0, f1, f2, f3, f4, f5, f6⟩ := frz7 h2.sw3
 have h3 : Sep w0 (Cl b1 (enC x (.slice au x.p.ls.length cu)) 32 :: LnR (.slice au x.p.ls.length cu) x.p.ls :: Cl b2 #[.int .i64 0, .int .i64 0, .int .i64 0, .string ⟨#[]⟩, .int .i64 0, .int .i64 0, .slice none 0 0] 32 :: L) (((((w1.setCell ⟨b1, 2, none⟩ (.int .i64 x.p.k)).setCell ⟨b1, 3, none⟩ (.string x.p.s.1)).setCell ⟨b1, 4, none⟩ (.int .i64 x.p.o)).setCell ⟨b1, 5, none⟩ (.int .i64 x.p.n)).setCell ⟨b1, 6, none⟩ (.slice au x.p.ls.length cu)) :=
  store75 h2.sw3
 obtain ⟨d0, d1, d2, d3, d4, d5, d6⟩ := cells7 h3
 obtain ⟨e0, e1, e2, e3, e4, e5, e6⟩ := cells7 h3.sw3
 obtain ⟨g0, g1, g2, g3, g4, g5, g6⟩ := frz7 h3.sw3
 have h4 := store7 (u0 := .int .i64 x.c) (u1 := .int .i64 x.m) (u2 := .int .i64 x.p.k) (u3 := .string x.p.s.1) (u4 := .int .i64 x.p.o) (u5 := .int .i64 x.p.n) (u6 := .slice au x.p.ls.length cu) h3.sw3
 obtain ⟨y0, y1, y2, y3, y4, y5, y6⟩ := cells7 h4
 have H4 := Lib.hid h4.drop.drop
 unfold enC at *
 clear h2 h3 h4
 go_wp2_with fail
 exact bodyPost_ret (v := .agg #[.int .i64 x.c, .int .i64 x.m, .int .i64 x.p.k, .string x.p.s.1, .int .i64 x.p.o, .int .i64 x.p.n, .slice au x.p.ls.length cu]) (by simp [results, Tryz.results49, go_sem, y0, y1, y2, y3, y4, y5, y6]) rfl ⟨_, rfl, H4.out⟩
end Go.Proofs.YtcnbmeiielkigaaGreatDoor
/- Package entry, and the document's own: Bytes. -/
namespace Go.Proofs.YtcnbmeiielkigaaGreatDoor
open Go.RowKit
set_option linter.unusedVariables false
set_option linter.unusedSimpArgs false
end Go.Proofs.YtcnbmeiielkigaaGreatDoor
