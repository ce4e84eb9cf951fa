/- The statement's own: works. -/
import Derived.Test.YtafkbodmiblbnaaGreatDoorMZ14
import Derived.Test.YtafkbodmiblbnaaGreatDoorMRefI6
import Derived.Test.YtafkbodmiblbnaaGreatDoorMItem9
import Derived.Test.YtafkbodmiblbnaaGreatDoorMZ12
import Derived.Test.YtafkbodmiblbnaaGreatDoorMZ09
namespace Go.Proofs.YtafkbodmiblbnaaGreatDoor
open Go.RowKit
set_option linter.unusedVariables false
set_option linter.unusedSimpArgs false
end Go.Proofs.YtafkbodmiblbnaaGreatDoor
/- cutOp; the encodings, whether an op may be or not. -/
namespace Go.Proofs.YtafkbodmiblbnaaGreatDoor
open Go.RowKit
set_option linter.unusedVariables false
set_option linter.unusedSimpArgs false
theorem lns_take {w : World} {a : Option Addr} {n c : Nat} {ls : List Ln} (h : LnS w (.slice a n c) ls) (m : Nat) (hm : m ≤ n) : LnS w (.slice a m c) (ls.take m) := by
  rcases h with ⟨a', c', he, h1, rfl⟩ | ⟨b, off, c', he, h1, h2, h3, h4⟩
  · simp only [Value.slice.injEq] at he
    obtain ⟨rfl, rfl, rfl⟩ := he
    obtain rfl : m = 0 := by omega
    exact .inl ⟨_, _, rfl, h1, rfl⟩
  · simp only [Value.slice.injEq] at he
    obtain ⟨rfl, rfl, rfl⟩ := he
    have hl : (ls.take m).length = m := by rw [List.length_take]; omega
    refine .inr ⟨b, off, c, by rw [hl], by rw [hl]; omega, h2, h3, fun i hi => ?_⟩
    have := h4 i (by omega)
    rw [List.getElem_take]
    exact this
theorem lns_cap {w : World} {a : Option Addr} {n c : Nat} {ls : List Ln} (h : LnS w (.slice a n c) ls) : n = ls.length ∧ n ≤ c := by
  rcases h with ⟨a', c', he, h1, rfl⟩ | ⟨b, off, c', he, h1, h2, h3, h4⟩
  · simp only [Value.slice.injEq] at he
    obtain ⟨rfl, rfl, rfl⟩ := he
    exact ⟨rfl, Nat.zero_le _⟩
  · simp only [Value.slice.injEq] at he
    obtain ⟨rfl, rfl, rfl⟩ := he
    exact ⟨rfl, h1⟩
def eB (b : Bool) : Int := if b then 0 else 2
def BysE (w0 : World) (L : List Thing) (b : Bool) (r : List UInt8) (e : Ending) (w' : World) : Prop := ∃ u, e = .returned (.tuple #[u, .int .i64 (eB b)]) ∧ Sep w0 (By u (if b then r else []) :: L) w'
end Go.Proofs.YtafkbodmiblbnaaGreatDoor
/- Package entry, and the document's own: Check, Same, Copy. -/
namespace Go.Proofs.YtafkbodmiblbnaaGreatDoor
open Go.RowKit
set_option linter.unusedVariables false
set_option linter.unusedSimpArgs false
/-- An entry. -/
structure EnM where
  c : Int
  m : Int
  p : OpM
def enV (x : EnM) (v : Value) : Value := .agg #[.int .i64 x.c, .int .i64 x.m, .int .i64 x.p.k, .string x.p.s.1, .int .i64 x.p.o, .int .i64 x.p.n, v]
def enC (x : EnM) (v : Value) : Array Value := #[.int .i64 x.c, .int .i64 x.m, .int .i64 x.p.k, .string x.p.s.1, .int .i64 x.p.o, .int .i64 x.p.n, v]
def EnM.hd (x : EnM) : Bool := decide (0 ≤ x.c ∧ x.c < 8 ∧ 1 ≤ x.m ∧ x.m ≤ 2147483647)
def EnM.ok (x : EnM) : Bool := x.hd && x.p.ok
def enSame (x y : EnM) : Bool := decide (x.c = y.c) && decide (x.m = y.m) && sameB x.p.k x.p.s x.p.o x.p.n x.p.ls y.p.k y.p.s y.p.o y.p.n y.p.ls
theorem enSame_self (x : EnM) : enSame x x = true := by unfold enSame; rw [same_self]; simp
theorem cells7 {w0 w : World} {b : Nat} {v0 v1 v2 v3 v4 v5 v6 : Value} {t : TypeId} {L : List Thing} (h : Sep w0 (Cl b #[v0, v1, v2, v3, v4, v5, v6] t :: L) w) :
    (w.cell? ⟨b, 0, none⟩ = some v0 ∧ w.cell? ⟨b, 1, none⟩ = some v1 ∧ w.cell? ⟨b, 2, none⟩ = some v2 ∧ w.cell? ⟨b, 3, none⟩ = some v3 ∧ w.cell? ⟨b, 4, none⟩ = some v4 ∧ w.cell? ⟨b, 5, none⟩ = some v5 ∧ w.cell? ⟨b, 6, none⟩ = some v6) :=
  ⟨h.cell rfl, h.cell rfl, h.cell rfl, h.cell rfl, h.cell rfl, h.cell rfl, h.cell rfl⟩
theorem frz7 {w0 w : World} {b : Nat} {xs : Array Value} {t : TypeId} {L : List Thing} (h : Sep w0 (Cl b xs t :: L) w) :
    (w.frozen? ⟨b, 0, none⟩ = false ∧ w.frozen? ⟨b, 1, none⟩ = false ∧ w.frozen? ⟨b, 2, none⟩ = false ∧ w.frozen? ⟨b, 3, none⟩ = false ∧ w.frozen? ⟨b, 4, none⟩ = false ∧ w.frozen? ⟨b, 5, none⟩ = false ∧ w.frozen? ⟨b, 6, none⟩ = false) := by
  have k : ∀ o, w.frozen? ⟨b, o, none⟩ = false := fun o => by unfold World.frozen?; rw [h.blk]; simp
  exact ⟨k 0, k 1, k 2, k 3, k 4, k 5, k 6⟩
theorem Sep.set7 {w0 w : World} {b o : Nat} {xs ys : Array Value} {u : Value} {t : TypeId} {L : List Thing} (h : Sep w0 (Cl b xs t :: L) w) (hy : xs.setIfInBounds o u = ys) : Sep w0 (Cl b ys t :: L) (w.setCell ⟨b, o, none⟩ u) := by subst hy; exact h.setCell o u
theorem store7 {w0 w : World} {b : Nat} {v0 v1 v2 v3 v4 v5 v6 u0 u1 u2 u3 u4 u5 u6 : Value} {t : TypeId} {L : List Thing} (h : Sep w0 (Cl b #[v0, v1, v2, v3, v4, v5, v6] t :: L) w) :
    Sep w0 (Cl b #[u0, u1, u2, u3, u4, u5, u6] t :: L) (((((((w.setCell ⟨b, 0, none⟩ u0).setCell ⟨b, 1, none⟩ u1).setCell ⟨b, 2, none⟩ u2).setCell ⟨b, 3, none⟩ u3).setCell ⟨b, 4, none⟩ u4).setCell ⟨b, 5, none⟩ u5).setCell ⟨b, 6, none⟩ u6) := by
  have h0 := h.set7 (o := 0) (u := u0) (ys := #[u0, v1, v2, v3, v4, v5, v6]) rfl
  have h1 := h0.set7 (o := 1) (u := u1) (ys := #[u0, u1, v2, v3, v4, v5, v6]) rfl
  have h2 := h1.set7 (o := 2) (u := u2) (ys := #[u0, u1, u2, v3, v4, v5, v6]) rfl
  have h3 := h2.set7 (o := 3) (u := u3) (ys := #[u0, u1, u2, u3, v4, v5, v6]) rfl
  have h4 := h3.set7 (o := 4) (u := u4) (ys := #[u0, u1, u2, u3, u4, v5, v6]) rfl
  have h5 := h4.set7 (o := 5) (u := u5) (ys := #[u0, u1, u2, u3, u4, u5, v6]) rfl
  exact h5.set7 (o := 6) (u := u6) (ys := #[u0, u1, u2, u3, u4, u5, u6]) rfl
theorem store75 {w0 w : World} {b : Nat} {v0 v1 v2 v3 v4 v5 v6 u2 u3 u4 u5 u6 : Value} {t : TypeId} {L : List Thing} (h : Sep w0 (Cl b #[v0, v1, v2, v3, v4, v5, v6] t :: L) w) :
    Sep w0 (Cl b #[v0, v1, u2, u3, u4, u5, u6] t :: L) (((((w.setCell ⟨b, 2, none⟩ u2).setCell ⟨b, 3, none⟩ u3).setCell ⟨b, 4, none⟩ u4).setCell ⟨b, 5, none⟩ u5).setCell ⟨b, 6, none⟩ u6) := by
  have h2 := h.set7 (o := 2) (u := u2) (ys := #[v0, v1, u2, v3, v4, v5, v6]) rfl
  have h3 := h2.set7 (o := 3) (u := u3) (ys := #[v0, v1, u2, u3, v4, v5, v6]) rfl
  have h4 := h3.set7 (o := 4) (u := u4) (ys := #[v0, v1, u2, u3, u4, v5, v6]) rfl
  have h5 := h4.set7 (o := 5) (u := u5) (ys := #[v0, v1, u2, u3, u4, u5, v6]) rfl
  exact h5.set7 (o := 6) (u := u6) (ys := #[v0, v1, u2, u3, u4, u5, u6]) rfl
theorem lns_maxl {w : World} {v : Value} {ls : List Ln} (h : LnS w v ls) : ls.length ≤ 9223372036854775807 := by
  rcases h with ⟨a', c', he, h1, rfl⟩ | ⟨b, off, c', he, h1, h2, h3, h4⟩
  · simp
  · unfold maxLen at h2; omega
theorem hd_cases (x : EnM) : (x.hd = false ∧ (x.c < 0 ∨ (0 ≤ x.c ∧ 8 ≤ x.c) ∨ (0 ≤ x.c ∧ x.c < 8 ∧ x.m < 1) ∨ (0 ≤ x.c ∧ x.c < 8 ∧ 1 ≤ x.m ∧ 2147483647 < x.m))) ∨ (x.hd = true ∧ 0 ≤ x.c ∧ x.c < 8 ∧ 1 ≤ x.m ∧ x.m ≤ 2147483647) := by
  unfold EnM.hd
  generalize x.c = c
  generalize x.m = m
  by_cases h : 0 ≤ c ∧ c < 8 ∧ 1 ≤ m ∧ m ≤ 2147483647
  · exact .inr ⟨by simp only [decide_eq_true_eq]; exact h, h⟩
  · refine .inl ⟨by simp only [decide_eq_false_iff_not]; exact h, ?_⟩
    by_cases a : c < 0
    · exact .inl a
    · by_cases b : 8 ≤ c
      · exact .inr (.inl ⟨by omega, b⟩)
      · by_cases d : m < 1
        · exact .inr (.inr (.inl ⟨by omega, by omega, d⟩))
        · refine .inr (.inr (.inr ⟨by omega, by omega, by omega, ?_⟩))
          apply Classical.byContradiction
          intro e
          exact h ⟨by omega, by omega, by omega, by omega⟩
set_option maxRecDepth 100000 in
set_option maxHeartbeats 4000000 in
theorem echeck_any {w0 w : World} {L : List Thing} (x : EnM) (v : Value) (h : Sep w0 L w) (hv : LnS w v x.p.ls) (hk : KindsAt w) :
    Calls Tryz.prog 60 #[enV x v] w fun e w' => e = .returned (.int .i64 (eB x.ok)) ∧ Sep w0 L w' := by
  have h1 := h.alloc (.cells (enC x v) 26)
  have hlow : Below w.heap.size w (w.alloc (.cells (enC x v) 26)) := (Below.refl _ w).alloc (Nat.le_refl _) _
  have HC := Lib.hid (check_any x.p.k x.p.s x.p.o x.p.n v x.p.ls h1 (hv.below hlow) (hk.below hlow))
  have H1 := Lib.hid h1.drop
  obtain ⟨c0, c1, c2, c3, c4, c5, c6⟩ := cells7 h1
  unfold enV EnM.ok OpM.ok
  unfold enC at *
  clear h h1 hv hk hlow
  rcases hd_cases x with ⟨e, hx⟩ | ⟨e, x0, x1, x2, x3⟩
  · rw [e, Bool.false_and]
    clear e
    rcases hx with x0 | ⟨x0, x1⟩ | ⟨x0, x1, x2⟩ | ⟨x0, x1, x2, x3⟩
    all_goals
      go_enter Tryz.func60, Tryz.ntmps60
      go_wp2_with fail
      go_ret
      exact ⟨rfl, H1.out⟩
  · rw [e, Bool.true_and]
    have d0 : decide (x.c < 0) = false := decide_eq_false (by omega)
    have d1 : decide (8 ≤ x.c) = false := decide_eq_false (by omega)
    have d2 : decide (x.m < 1) = false := decide_eq_false (by omega)
    have d3 : decide (2147483647 < x.m) = false := decide_eq_false (by omega)
    clear e
    unfold eB
    generalize (if okB x.p.k x.p.s x.p.o x.p.n x.p.ls = true then (0 : Int) else 2) = ec at *
    go_enter Tryz.func60, Tryz.ntmps60
    go_wp2_with fail
    refine HC.out.mono ?_
    rintro r0 w1 ⟨rfl, h2⟩
    go_wp2_with fail
    go_ret
    exact ⟨rfl, h2.drop⟩
set_option maxRecDepth 100000 in
set_option maxHeartbeats 4000000 in
theorem recheck_any {w0 w : World} {L : List Thing} (x : EnM) (v : Value) (h : Sep w0 L w) (hv : LnS w v x.p.ls) (hl : x.p.ls.length ≤ 9223372036854775807) :
    Calls Tryz.prog 62 #[enV x v] w fun e w' => e = .returned (.int .i64 (eB x.ok)) ∧ Sep w0 L w' := by
  have h1 := h.alloc (.cells (enC x v) 26)
  have hlow : Below w.heap.size w (w.alloc (.cells (enC x v) 26)) := (Below.refl _ w).alloc (Nat.le_refl _) _
  have HC := Lib.hid (rcheck_any x.p.k x.p.s x.p.o x.p.n v x.p.ls h1 (hv.below hlow) (by omega))
  have H1 := Lib.hid h1.drop
  obtain ⟨c0, c1, c2, c3, c4, c5, c6⟩ := cells7 h1
  unfold enV EnM.ok OpM.ok
  unfold enC at *
  clear h h1 hv hl hlow
  rcases hd_cases x with ⟨e, hx⟩ | ⟨e, x0, x1, x2, x3⟩
  · rw [e, Bool.false_and]
    clear e
    rcases hx with x0 | ⟨x0, x1⟩ | ⟨x0, x1, x2⟩ | ⟨x0, x1, x2, x3⟩
    all_goals
      go_enter Tryz.func62, Tryz.ntmps62
      go_wp2_with fail
      go_ret
      exact ⟨rfl, H1.out⟩
  · rw [e, Bool.true_and]
    have d0 : decide (x.c < 0) = false := decide_eq_false (by omega)
    have d1 : decide (8 ≤ x.c) = false := decide_eq_false (by omega)
    have d2 : decide (x.m < 1) = false := decide_eq_false (by omega)
    have d3 : decide (2147483647 < x.m) = false := decide_eq_false (by omega)
    clear e
    unfold eB
    cases hb : okB x.p.k x.p.s x.p.o x.p.n x.p.ls with
    | true =>
      rw [hb] at HC
      go_enter Tryz.func62, Tryz.ntmps62
      go_wp2_with fail
      refine HC.out.mono ?_
      rintro r0 w1 ⟨rfl, h2⟩
      go_wp2_with fail
      go_ret
      exact ⟨rfl, h2.drop⟩
    | false =>
      rw [hb] at HC
      go_enter Tryz.func62, Tryz.ntmps62
      go_wp2_with fail
      refine HC.out.mono ?_
      rintro r0 w1 ⟨rfl, h2⟩
      go_wp2_with fail
      go_ret
      exact ⟨rfl, h2.drop⟩
theorem enSame_cases (x y : EnM) : (enSame x y = false ∧ (x.c ≠ y.c ∨ (x.c = y.c ∧ x.m ≠ y.m))) ∨ (x.c = y.c ∧ x.m = y.m ∧ enSame x y = sameB x.p.k x.p.s x.p.o x.p.n x.p.ls y.p.k y.p.s y.p.o y.p.n y.p.ls) := by
  unfold enSame
  by_cases h1 : x.c = y.c
  · by_cases h2 : x.m = y.m
    · exact .inr ⟨h1, h2, by simp [h1, h2]⟩
    · exact .inl ⟨by simp [h2], .inr ⟨h1, h2⟩⟩
  · exact .inl ⟨by simp [h1], .inl h1⟩
set_option maxRecDepth 100000 in
set_option maxHeartbeats 4000000 in
theorem esame_any {w0 w : World} {L : List Thing} (x y : EnM) (v u : Value) (h : Sep w0 L w) (hv : LnS w v x.p.ls) (hu : LnS w u y.p.ls) (hl : x.p.ls.length ≤ 9223372036854775807) :
    Calls Tryz.prog 66 #[enV x v, enV y u] w fun e w' => e = .returned (.bool (enSame x y)) ∧ Sep w0 L w' := by
  have h1 := (h.alloc (.cells (enC x v) 26)).alloc (.cells (enC y u) 26)
  have hlow : Below w.heap.size w ((w.alloc (.cells (enC x v) 26)).alloc (.cells (enC y u) 26)) := ((Below.refl _ w).alloc (Nat.le_refl _) _).alloc (by simp) _
  rw [show (w.alloc (.cells (enC x v) 26)).heap.size = w.heap.size + 1 by simp] at h1
  have HC := Lib.hid (same_any x.p.k x.p.s x.p.o x.p.n v x.p.ls y.p.k y.p.s y.p.o y.p.n u y.p.ls h1 (hv.below hlow) (hu.below hlow) (by omega))
  have H1 := Lib.hid h1.drop.drop
  obtain ⟨d0, d1, d2, d3, d4, d5, d6⟩ := cells7 h1
  obtain ⟨c0, c1, c2, c3, c4, c5, c6⟩ := cells7 h1.sw2
  unfold enV
  unfold enC at *
  clear h h1 hv hu hl hlow
  rcases enSame_cases x y with ⟨e, hx⟩ | ⟨x0, x1, e⟩
  · rw [e]
    clear e
    rcases hx with x0 | ⟨x0, x1⟩
    · have y0 : (x.c == y.c) = false := beq_eq_false_iff_ne.2 x0
      clear x0
      go_enter Tryz.func66, Tryz.ntmps66
      go_wp2_with fail
      go_ret
      exact ⟨rfl, H1.out⟩
    · have y0 : (x.c == y.c) = true := beq_iff_eq.2 x0
      have y1 : (x.m == y.m) = false := beq_eq_false_iff_ne.2 x1
      clear x0 x1
      go_enter Tryz.func66, Tryz.ntmps66
      go_wp2_with fail
      go_ret
      exact ⟨rfl, H1.out⟩
  · rw [e]
    have y0 : (x.c == y.c) = true := beq_iff_eq.2 x0
    have y1 : (x.m == y.m) = true := beq_iff_eq.2 x1
    clear e x0 x1
    generalize sameB x.p.k x.p.s x.p.o x.p.n x.p.ls y.p.k y.p.s y.p.o y.p.n y.p.ls = z at *
    go_enter Tryz.func66, Tryz.ntmps66
    go_wp2_with fail
    refine HC.out.mono ?_
    rintro r0 w1 ⟨rfl, h2⟩
    go_wp2_with fail
    go_ret
    exact ⟨rfl, h2.drop.drop⟩
set_option maxRecDepth 100000 in
set_option maxHeartbeats 4000000 in
theorem resame_any {w0 w : World} {L : List Thing} (x y : EnM) (v u : Value) (h : Sep w0 L w) (hv : LnS w v x.p.ls) (hu : LnS w u y.p.ls) (hl : x.p.ls.length ≤ 9223372036854775807) :
    Calls Tryz.prog 67 #[enV x v, enV y u] w fun e w' => e = .returned (.bool (enSame x y)) ∧ Sep w0 L w' := by
  have h1 := (h.alloc (.cells (enC x v) 26)).alloc (.cells (enC y u) 26)
  have hlow : Below w.heap.size w ((w.alloc (.cells (enC x v) 26)).alloc (.cells (enC y u) 26)) := ((Below.refl _ w).alloc (Nat.le_refl _) _).alloc (by simp) _
  rw [show (w.alloc (.cells (enC x v) 26)).heap.size = w.heap.size + 1 by simp] at h1
  have HC := Lib.hid (rsame_any x.p.k x.p.s x.p.o x.p.n v x.p.ls y.p.k y.p.s y.p.o y.p.n u y.p.ls h1 (hv.below hlow) (hu.below hlow) (by omega))
  have H1 := Lib.hid h1.drop.drop
  obtain ⟨d0, d1, d2, d3, d4, d5, d6⟩ := cells7 h1
  obtain ⟨c0, c1, c2, c3, c4, c5, c6⟩ := cells7 h1.sw2
  unfold enV
  unfold enC at *
  clear h h1 hv hu hl hlow
  rcases enSame_cases x y with ⟨e, hx⟩ | ⟨x0, x1, e⟩
  · rw [e]
    clear e
    rcases hx with x0 | ⟨x0, x1⟩
    · have y0 : (x.c == y.c) = false := beq_eq_false_iff_ne.2 x0
      clear x0
      go_enter Tryz.func67, Tryz.ntmps67
      go_wp2_with fail
      go_ret
      exact ⟨rfl, H1.out⟩
    · have y0 : (x.c == y.c) = true := beq_iff_eq.2 x0
      have y1 : (x.m == y.m) = false := beq_eq_false_iff_ne.2 x1
      clear x0 x1
      go_enter Tryz.func67, Tryz.ntmps67
      go_wp2_with fail
      go_ret
      exact ⟨rfl, H1.out⟩
  · rw [e]
    have y0 : (x.c == y.c) = true := beq_iff_eq.2 x0
    have y1 : (x.m == y.m) = true := beq_iff_eq.2 x1
    clear e x0 x1
    generalize sameB x.p.k x.p.s x.p.o x.p.n x.p.ls y.p.k y.p.s y.p.o y.p.n y.p.ls = z at *
    go_enter Tryz.func67, Tryz.ntmps67
    go_wp2_with fail
    refine HC.out.mono ?_
    rintro r0 w1 ⟨rfl, h2⟩
    go_wp2_with fail
    go_ret
    exact ⟨rfl, h2.drop.drop⟩
end Go.Proofs.YtafkbodmiblbnaaGreatDoor
/- Package entry, and the document's own: Bytes. -/
namespace Go.Proofs.YtafkbodmiblbnaaGreatDoor
open Go.RowKit
set_option linter.unusedVariables false
set_option linter.unusedSimpArgs false
def entBs (x : EnM) : List UInt8 := [UInt8.ofNat x.c.toNat] ++ vint x.m.toNat ++ opBs x.p.k x.p.s x.p.o x.p.n x.p.ls
theorem EnM.parts {x : EnM} (h : x.ok = true) : (0 ≤ x.c ∧ x.c < 8 ∧ 1 ≤ x.m ∧ x.m ≤ 2147483647) ∧ x.p.ok = true := by
  unfold EnM.ok at h
  obtain ⟨h1, h2⟩ := Bool.and_eq_true_iff.1 h
  rcases hd_cases x with ⟨e, _⟩ | ⟨_, h3⟩
  · rw [e] at h1; cases h1
  · exact ⟨h3, h2⟩
theorem byte_row {w0 w : World} {c : Int} {g : Nat} {L : List Thing} (h : Sep w0 (Cl g #[.int .u8 c] 5 :: L) w) (h0 : 0 ≤ c) (h9 : c ≤ 9) : Sep w0 (By (.slice (some ⟨g, 0, none⟩) 1 1) [UInt8.ofNat c.toNat] :: L) w := by
  have := h.asRow 1 rfl (by unfold maxLen; omega)
  rwa [byte1 h0 h9] at this
theorem entBs_len {x : EnM} (h : x.ok = true) : (entBs x).length ≤ 300 := by
  have h1 := opBs_len (x.parts h).2
  have h2 := vint_len x.m.toNat
  unfold entBs
  rw [List.length_append, List.length_append]
  simp only [List.length_cons, List.length_nil]
  omega
set_option maxRecDepth 100000 in
set_option maxHeartbeats 4000000 in
theorem ebytes_bad {w0 w : World} {L : List Thing} (x : EnM) (v : Value) (h : Sep w0 L w) (hv : LnS w v x.p.ls) (hk : KindsAt w) (hb : x.ok = false) :
    Calls Tryz.prog 30 #[enV x v] w fun e w' => e = .returned (.tuple #[.slice none 0 0, .int .i64 2]) ∧ Sep w0 L w' := by
  have h1 := h.alloc (.cells (enC x v) 26)
  have hlow : Below w.heap.size w (w.alloc (.cells (enC x v) 26)) := (Below.refl _ w).alloc (Nat.le_refl _) _
  have hc := echeck_any x v h1 (hv.below hlow) (hk.below hlow)
  rw [hb] at hc
  have HC := Lib.hid hc
  obtain ⟨c0, c1, c2, c3, c4, c5, c6⟩ := cells7 h1
  unfold enV at *
  unfold enC eB at *
  clear h h1 hv hk hb hlow hc
  go_enter Tryz.func30, Tryz.ntmps30
  go_wp2_with fail
  refine HC.out.mono ?_
  rintro r0 w1 ⟨rfl, h2⟩
  have H2 := Lib.hid h2.drop
  clear h2 c0 c1 c2 c3 c4 c5 c6
  go_wp2_with fail
  go_ret2
  exact ⟨rfl, H2.out⟩
set_option maxRecDepth 100000 in
set_option maxHeartbeats 4000000 in
theorem rebytes_bad {w0 w : World} {L : List Thing} (x : EnM) (v : Value) (h : Sep w0 L w) (hv : LnS w v x.p.ls) (hl : x.p.ls.length ≤ 9223372036854775807) (hb : x.ok = false) :
    Calls Tryz.prog 41 #[enV x v] w fun e w' => e = .returned (.tuple #[.slice none 0 0, .int .i64 2]) ∧ Sep w0 L w' := by
  have h1 := h.alloc (.cells (enC x v) 26)
  have hlow : Below w.heap.size w (w.alloc (.cells (enC x v) 26)) := (Below.refl _ w).alloc (Nat.le_refl _) _
  have hc := recheck_any x v h1 (hv.below hlow) hl
  rw [hb] at hc
  have HC := Lib.hid hc
  obtain ⟨c0, c1, c2, c3, c4, c5, c6⟩ := cells7 h1
  unfold enV at *
  unfold enC eB at *
  clear h h1 hv hl hb hlow hc
  go_enter Tryz.func41, Tryz.ntmps41
  go_wp2_with fail
  refine HC.out.mono ?_
  rintro r0 w1 ⟨rfl, h2⟩
  have H2 := Lib.hid h2.drop
  clear h2 c0 c1 c2 c3 c4 c5 c6
  go_wp2_with fail
  go_ret2
  exact ⟨rfl, H2.out⟩
set_option maxRecDepth 100000 in
set_option maxHeartbeats 8000000 in
theorem ebytes_ok {w : World} (x : EnM) (v : Value) (hv : LnS w v x.p.ls) (hk : KindsAt w) (hb : x.ok = true) :
    Calls Tryz.prog 30 #[enV x v] w fun e w' => ∃ u, e = .returned (.tuple #[u, .int .i64 0]) ∧ Sep w [By u (entBs x)] w' := by
  obtain ⟨⟨x0, x1, x2, x3⟩, hp⟩ := x.parts hb
  have h1 := (Sep.start w).alloc (.cells (enC x v) 26)
  have hc := echeck_any x v h1 (hv.below h1.low) (hk.below h1.low)
  rw [hb] at hc
  have HC := Lib.hid hc
  obtain ⟨c0, c1, c2, c3, c4, c5, c6⟩ := cells7 h1
  have HV := Lib.hid hv
  have HK := Lib.hid hk
  have HP := Lib.hid hp
  unfold enV at *
  unfold enC eB at *
  clear h1 hv hk hb hc hp
  go_enter Tryz.func30, Tryz.ntmps30
  go_wp2_with fail
  refine HC.out.mono ?_
  rintro r0 w1 ⟨rfl, h2⟩
  clear c0 c1 c2 c3 c4 c5 c6 HC
  obtain ⟨c0, c1, c2, c3, c4, c5, c6⟩ := cells7 h2
  have HB := Lib.hid (bytes_ok x.p.k x.p.s x.p.o x.p.n v x.p.ls h2 (HV.out.below h2.low) (HK.out.below h2.low) HP.out)
  clear h2
  go_wp2_with fail
  refine HB.out.mono ?_
  rintro r0 w2 ⟨u, rfl, h3⟩
  obtain ⟨a1, k1, rfl⟩ := h3.sl.len
  clear c0 c1 c2 c3 c4 c5 c6 HB
  obtain ⟨c0, c1, c2, c3, c4, c5, c6⟩ := cells7 h3.sw2
  have h4 := h3.alloc (.cells #[.int .u8 x.c] 5)
  have h5 := byte_row h4 x0 (by omega)
  obtain ⟨d0, d1, d2, d3, d4, d5, d6⟩ := cells7 h4.sw3
  have HT := Lib.hid (vint_conv _ _ x.m h5 (by omega) (by omega) (by simp))
  clear h3 h4 h5
  go_wp2_with fail
  refine HT.out.mono ?_
  rintro r0 w3 ⟨u2, rfl, h6⟩
  obtain ⟨a2, k2, rfl⟩ := h6.sl.len
  have hbl := opBs_len HP.out
  have hvl := vint_len x.m.toNat
  have HQ := Lib.hid (concat_lit2 _ _ _ _ w3 h6.sl h6.sw2.sl (by simp only [List.length_append, List.length_cons, List.length_nil]; omega) 29)
  have H6 := Lib.hid h6
  clear h6 HT hbl hvl c0 c1 c2 c3 c4 c5 c6 d0 d1 d2 d3 d4 d5 d6
  go_wp2_with fail
  refine HQ.out.mono ?_
  rintro r0 w4 ⟨⟨u3, rfl, ho⟩, hb⟩
  have H7 : Hid (Sep w [By u3 (entBs x)] w4) := Lib.hid ((H6.out.row hb ho).pick [0] rfl)
  clear HQ H6 ho hb
  go_wp2_with fail
  go_ret2
  exact ⟨_, rfl, H7.out⟩
set_option maxRecDepth 100000 in
set_option maxHeartbeats 8000000 in
theorem rebytes_ok {w : World} (x : EnM) (v : Value) (hv : LnS w v x.p.ls) (hb : x.ok = true) :
    Calls Tryz.prog 41 #[enV x v] w fun e w' => ∃ u, e = .returned (.tuple #[u, .int .i64 0]) ∧ Sep w [By u (entBs x)] w' := by
  obtain ⟨⟨x0, x1, x2, x3⟩, hp⟩ := x.parts hb
  have h1 := (Sep.start w).alloc (.cells (enC x v) 26)
  have hc := recheck_any x v h1 (hv.below h1.low) (by have := ok_len hp; omega)
  rw [hb] at hc
  have HC := Lib.hid hc
  obtain ⟨c0, c1, c2, c3, c4, c5, c6⟩ := cells7 h1
  have HV := Lib.hid hv
  have HP := Lib.hid hp
  unfold enV at *
  unfold enC eB at *
  clear h1 hv hb hc hp
  go_enter Tryz.func41, Tryz.ntmps41
  go_wp2_with fail
  refine HC.out.mono ?_
  rintro r0 w1 ⟨rfl, h2⟩
  clear c0 c1 c2 c3 c4 c5 c6 HC
  obtain ⟨c0, c1, c2, c3, c4, c5, c6⟩ := cells7 h2
  have HB := Lib.hid (rbytes_ok x.p.k x.p.s x.p.o x.p.n v x.p.ls h2 (HV.out.below h2.low) HP.out)
  clear h2
  go_wp2_with fail
  refine HB.out.mono ?_
  rintro r0 w2 ⟨u, rfl, h3⟩
  obtain ⟨a1, k1, rfl⟩ := h3.sl.len
  clear c0 c1 c2 c3 c4 c5 c6 HB
  obtain ⟨c0, c1, c2, c3, c4, c5, c6⟩ := cells7 h3.sw2
  have h4 := h3.alloc (.cells #[.int .u8 x.c] 5)
  have h5 := byte_row h4 x0 (by omega)
  obtain ⟨d0, d1, d2, d3, d4, d5, d6⟩ := cells7 h4.sw3
  have HT := Lib.hid (rvint_conv _ _ x.m h5 (by omega) (by omega) (by simp))
  clear h3 h4 h5
  go_wp2_with fail
  refine HT.out.mono ?_
  rintro r0 w3 ⟨u2, rfl, h6⟩
  have hbl := opBs_len HP.out
  have hvl := vint_len x.m.toNat
  obtain ⟨u3, w4, hr, h7, -⟩ := app8 (ty := 29) h6 h6.sw2.sl (by simp only [List.length_append, List.length_cons, List.length_nil]; omega)
  obtain ⟨a2, k2, rfl⟩ := h6.sl.len
  obtain ⟨a3, k3, rfl⟩ := h7.sl.len
  have HR := Lib.hid hr
  have H7 : Hid (Sep w [By _ (entBs x)] w4) := Lib.hid (h7.pick [0] rfl)
  clear h6 h7 hr HT hbl hvl c0 c1 c2 c3 c4 c5 c6 d0 d1 d2 d3 d4 d5 d6
  go_wp2_with (at_builtin; refine wpList_append_run rfl _ _ _ _ rfl rfl rfl HR.out ?_)
  go_ret2
  exact ⟨_, rfl, H7.out⟩
theorem ebytes_u {w0 w : World} {L : List Thing} (x : EnM) (v : Value) (h : Sep w0 L w) (hv : LnS w v x.p.ls) (hk : KindsAt w) :
    Calls Tryz.prog 30 #[enV x v] w (BysE w0 L x.ok (entBs x)) := by
  cases hb : x.ok with
  | true => exact (ebytes_ok x v hv hk hb).mono fun e w' ⟨u, h1, h2⟩ => ⟨u, h1, h.row h2.low (Sep.rw_ h2)⟩
  | false => exact (ebytes_bad x v h hv hk hb).mono fun e w' ⟨h1, h2⟩ => ⟨_, h1, h2.rnil _⟩
theorem rebytes_u {w0 w : World} {L : List Thing} (x : EnM) (v : Value) (h : Sep w0 L w) (hv : LnS w v x.p.ls) (hl : x.p.ls.length ≤ 9223372036854775807) :
    Calls Tryz.prog 41 #[enV x v] w (BysE w0 L x.ok (entBs x)) := by
  cases hb : x.ok with
  | true => exact (rebytes_ok x v hv hb).mono fun e w' ⟨u, h1, h2⟩ => ⟨u, h1, h.row h2.low (Sep.rw_ h2)⟩
  | false => exact (rebytes_bad x v h hv hl hb).mono fun e w' ⟨h1, h2⟩ => ⟨_, h1, h2.rnil _⟩
end Go.Proofs.YtafkbodmiblbnaaGreatDoor
