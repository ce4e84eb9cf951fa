/- Entries (Check, Same, Copy; rows of them; list.Copy), picked out of XEn1, XEn4, XEn11, XPipe2: without their bytes. -/
import Derived.Test.YtcnbmeiielkigaaDoorItem4
import Derived.Test.YtcnbmeiielkigaaDoorItem7
import Derived.Test.YtcnbmeiielkigaaDoorSepPick
import Derived.Test.YtcnbmeiielkigaaDoorHeldTill
namespace Go.Proofs.YtcnbmeiielkigaaDoor
open Go.RowKit
set_option linter.unusedVariables false
set_option linter.unusedSimpArgs false
def sZ : KS := ⟨⟨#[]⟩, Nat.zero_le _⟩
/-- An op. -/
structure OpM where
  k : Int
  s : KS
  o : Int
  n : Int
  ls : List Ln
def OpM.zero : OpM := ⟨0, sZ, 0, 0, []⟩
def OpM.ok (p : OpM) : Bool := okB p.k p.s p.o p.n p.ls
theorem Sep.onto1 {w0 w w' : World} {A : Thing} {L : List Thing} (h : Sep w0 L w) (h' : Sep w [A] w') : Sep w0 (A :: L) w' := by
  obtain ⟨F, hF, h2⟩ := h'.head
  exact h.new (h'.loc _ (List.mem_cons_self ..)) h'.low hF h2
theorem below_gr0 {w w' : World} (h : w.grownBy w' none) : Below w.heap.size w w' := ⟨h.os, h.tape, h.output, h.size, fun k hk => h.block k hk (by simp)⟩
def eB (b : Bool) : Int := if b then 0 else 2
/-- An entry. -/
structure EnM where
  c : Int
  m : Int
  p : OpM
def enV (x : EnM) (v : Value) : Value := .agg #[.int .i64 x.c, .int .i64 x.m, .int .i64 x.p.k, .string x.p.s.1, .int .i64 x.p.o, .int .i64 x.p.n, v]
def enC (x : EnM) (v : Value) : Array Value := #[.int .i64 x.c, .int .i64 x.m, .int .i64 x.p.k, .string x.p.s.1, .int .i64 x.p.o, .int .i64 x.p.n, v]
def EnM.hd (x : EnM) : Bool := decide (0 ≤ x.c ∧ x.c < 8 ∧ 1 ≤ x.m ∧ x.m ≤ 2147483647)
def EnM.ok (x : EnM) : Bool := x.hd && x.p.ok
def enSame (x y : EnM) : Bool := decide (x.c = y.c) && decide (x.m = y.m) && sameB x.p.k x.p.s x.p.o x.p.n x.p.ls y.p.k y.p.s y.p.o y.p.n y.p.ls
theorem cells7 {w0 w : World} {b : Nat} {v0 v1 v2 v3 v4 v5 v6 : Value} {t : TypeId} {L : List Thing} (h : Sep w0 (Cl b #[v0, v1, v2, v3, v4, v5, v6] t :: L) w) :
    (w.cell? ⟨b, 0, none⟩ = some v0 ∧ w.cell? ⟨b, 1, none⟩ = some v1 ∧ w.cell? ⟨b, 2, none⟩ = some v2 ∧ w.cell? ⟨b, 3, none⟩ = some v3 ∧ w.cell? ⟨b, 4, none⟩ = some v4 ∧ w.cell? ⟨b, 5, none⟩ = some v5 ∧ w.cell? ⟨b, 6, none⟩ = some v6) :=
  ⟨h.cell rfl, h.cell rfl, h.cell rfl, h.cell rfl, h.cell rfl, h.cell rfl, h.cell rfl⟩
theorem frz7 {w0 w : World} {b : Nat} {xs : Array Value} {t : TypeId} {L : List Thing} (h : Sep w0 (Cl b xs t :: L) w) :
    (w.frozen? ⟨b, 0, none⟩ = false ∧ w.frozen? ⟨b, 1, none⟩ = false ∧ w.frozen? ⟨b, 2, none⟩ = false ∧ w.frozen? ⟨b, 3, none⟩ = false ∧ w.frozen? ⟨b, 4, none⟩ = false ∧ w.frozen? ⟨b, 5, none⟩ = false ∧ w.frozen? ⟨b, 6, none⟩ = false) := by
  have k : ∀ o, w.frozen? ⟨b, o, none⟩ = false := fun o => by unfold World.frozen?; rw [h.blk]; simp
  exact ⟨k 0, k 1, k 2, k 3, k 4, k 5, k 6⟩
theorem Sep.set7 {w0 w : World} {b o : Nat} {xs ys : Array Value} {u : Value} {t : TypeId} {L : List Thing} (h : Sep w0 (Cl b xs t :: L) w) (hy : xs.setIfInBounds o u = ys) : Sep w0 (Cl b ys t :: L) (w.setCell ⟨b, o, none⟩ u) := by subst hy; exact h.setCell o u
theorem store7 {w0 w : World} {b : Nat} {v0 v1 v2 v3 v4 v5 v6 u0 u1 u2 u3 u4 u5 u6 : Value} {t : TypeId} {L : List Thing} (h : Sep w0 (Cl b #[v0, v1, v2, v3, v4, v5, v6] t :: L) w) :
    Sep w0 (Cl b #[u0, u1, u2, u3, u4, u5, u6] t :: L) (((((((w.setCell ⟨b, 0, none⟩ u0).setCell ⟨b, 1, none⟩ u1).setCell ⟨b, 2, none⟩ u2).setCell ⟨b, 3, none⟩ u3).setCell ⟨b, 4, none⟩ u4).setCell ⟨b, 5, none⟩ u5).setCell ⟨b, 6, none⟩ u6) := by
  have h0 := h.set7 (o := 0) (u := u0) (ys := #[u0, v1, v2, v3, v4, v5, v6]) rfl
  have h1 := h0.set7 (o := 1) (u := u1) (ys := #[u0, u1, v2, v3, v4, v5, v6]) rfl
  have h2 := h1.set7 (o := 2) (u := u2) (ys := #[u0, u1, u2, v3, v4, v5, v6]) rfl
  have h3 := h2.set7 (o := 3) (u := u3) (ys := #[u0, u1, u2, u3, v4, v5, v6]) rfl
  have h4 := h3.set7 (o := 4) (u := u4) (ys := #[u0, u1, u2, u3, u4, v5, v6]) rfl
  have h5 := h4.set7 (o := 5) (u := u5) (ys := #[u0, u1, u2, u3, u4, u5, v6]) rfl
  exact h5.set7 (o := 6) (u := u6) (ys := #[u0, u1, u2, u3, u4, u5, u6]) rfl
theorem store75 {w0 w : World} {b : Nat} {v0 v1 v2 v3 v4 v5 v6 u2 u3 u4 u5 u6 : Value} {t : TypeId} {L : List Thing} (h : Sep w0 (Cl b #[v0, v1, v2, v3, v4, v5, v6] t :: L) w) :
    Sep w0 (Cl b #[v0, v1, u2, u3, u4, u5, u6] t :: L) (((((w.setCell ⟨b, 2, none⟩ u2).setCell ⟨b, 3, none⟩ u3).setCell ⟨b, 4, none⟩ u4).setCell ⟨b, 5, none⟩ u5).setCell ⟨b, 6, none⟩ u6) := by
  have h2 := h.set7 (o := 2) (u := u2) (ys := #[v0, v1, u2, v3, v4, v5, v6]) rfl
  have h3 := h2.set7 (o := 3) (u := u3) (ys := #[v0, v1, u2, u3, v4, v5, v6]) rfl
  have h4 := h3.set7 (o := 4) (u := u4) (ys := #[v0, v1, u2, u3, u4, v5, v6]) rfl
  have h5 := h4.set7 (o := 5) (u := u5) (ys := #[v0, v1, u2, u3, u4, u5, v6]) rfl
  exact h5.set7 (o := 6) (u := u6) (ys := #[v0, v1, u2, u3, u4, u5, u6]) rfl
theorem lns_maxl {w : World} {v : Value} {ls : List Ln} (h : LnS w v ls) : ls.length ≤ 9223372036854775807 := by
  rcases h with ⟨a', c', he, h1, rfl⟩ | ⟨b, off, c', he, h1, h2, h3, h4⟩
  · simp
  · unfold maxLen at h2; omega
theorem hd_cases (x : EnM) : (x.hd = false ∧ (x.c < 0 ∨ (0 ≤ x.c ∧ 8 ≤ x.c) ∨ (0 ≤ x.c ∧ x.c < 8 ∧ x.m < 1) ∨ (0 ≤ x.c ∧ x.c < 8 ∧ 1 ≤ x.m ∧ 2147483647 < x.m))) ∨ (x.hd = true ∧ 0 ≤ x.c ∧ x.c < 8 ∧ 1 ≤ x.m ∧ x.m ≤ 2147483647) := by
  unfold EnM.hd
  generalize x.c = c
  generalize x.m = m
  by_cases h : 0 ≤ c ∧ c < 8 ∧ 1 ≤ m ∧ m ≤ 2147483647
  · exact .inr ⟨by simp only [decide_eq_true_eq]; exact h, h⟩
  · refine .inl ⟨by simp only [decide_eq_false_iff_not]; exact h, ?_⟩
    by_cases a : c < 0
    · exact .inl a
    · by_cases b : 8 ≤ c
      · exact .inr (.inl ⟨by omega, b⟩)
      · by_cases d : m < 1
        · exact .inr (.inr (.inl ⟨by omega, by omega, d⟩))
        · refine .inr (.inr (.inr ⟨by omega, by omega, by omega, ?_⟩))
          apply Classical.byContradiction
          intro e
          exact h ⟨by omega, by omega, by omega, by omega⟩
set_option maxRecDepth 100000 in
set_option maxHeartbeats 4000000 in
theorem echeck_any {w0 w : World} {L : List Thing} (x : EnM) (v : Value) (h : Sep w0 L w) (hv : LnS w v x.p.ls) (hk : KindsAt w) :
    Calls Tryd.prog 43 #[enV x v] w fun e w' => e = .returned (.int .i64 (eB x.ok)) ∧ Sep w0 L w' := by
  have h1 := h.alloc (.cells (enC x v) 35)
  have hlow : Below w.heap.size w (w.alloc (.cells (enC x v) 35)) := (Below.refl _ w).alloc (Nat.le_refl _) _
  have HC := Lib.hid (check_any x.p.k x.p.s x.p.o x.p.n v x.p.ls h1 (hv.below hlow) (hk.below hlow))
  have H1 := Lib.hid h1.drop
  obtain ⟨c0, c1, c2, c3, c4, c5, c6⟩ := cells7 h1
  unfold enV EnM.ok OpM.ok
  unfold enC at *
  clear h h1 hv hk hlow
  rcases hd_cases x with ⟨e, hx⟩ | ⟨e, x0, x1, x2, x3⟩
  · rw [e, Bool.false_and]
    clear e
    rcases hx with x0 | ⟨x0, x1⟩ | ⟨x0, x1, x2⟩ | ⟨x0, x1, x2, x3⟩
    all_goals
      go_enter Tryd.func43, Tryd.ntmps43
      go_wp2_with fail
      go_ret
      exact ⟨rfl, H1.out⟩
  · rw [e, Bool.true_and]
    have d0 : decide (x.c < 0) = false := decide_eq_false (by omega)
    have d1 : decide (8 ≤ x.c) = false := decide_eq_false (by omega)
    have d2 : decide (x.m < 1) = false := decide_eq_false (by omega)
    have d3 : decide (2147483647 < x.m) = false := decide_eq_false (by omega)
    clear e
    unfold eB
    generalize (if okB x.p.k x.p.s x.p.o x.p.n x.p.ls = true then (0 : Int) else 2) = ec at *
    go_enter Tryd.func43, Tryd.ntmps43
    go_wp2_with fail
    refine HC.out.mono ?_
    rintro r0 w1 ⟨rfl, h2⟩
    go_wp2_with fail
    go_ret
    exact ⟨rfl, h2.drop⟩
theorem enSame_cases (x y : EnM) : (enSame x y = false ∧ (x.c ≠ y.c ∨ (x.c = y.c ∧ x.m ≠ y.m))) ∨ (x.c = y.c ∧ x.m = y.m ∧ enSame x y = sameB x.p.k x.p.s x.p.o x.p.n x.p.ls y.p.k y.p.s y.p.o y.p.n y.p.ls) := by
  unfold enSame
  by_cases h1 : x.c = y.c
  · by_cases h2 : x.m = y.m
    · exact .inr ⟨h1, h2, by simp [h1, h2]⟩
    · exact .inl ⟨by simp [h2], .inr ⟨h1, h2⟩⟩
  · exact .inl ⟨by simp [h1], .inl h1⟩
set_option maxRecDepth 100000 in
set_option maxHeartbeats 4000000 in
theorem esame_any {w0 w : World} {L : List Thing} (x y : EnM) (v u : Value) (h : Sep w0 L w) (hv : LnS w v x.p.ls) (hu : LnS w u y.p.ls) (hl : x.p.ls.length ≤ 9223372036854775807) :
    Calls Tryd.prog 36 #[enV x v, enV y u] w fun e w' => e = .returned (.bool (enSame x y)) ∧ Sep w0 L w' := by
  have h1 := (h.alloc (.cells (enC x v) 35)).alloc (.cells (enC y u) 35)
  have hlow : Below w.heap.size w ((w.alloc (.cells (enC x v) 35)).alloc (.cells (enC y u) 35)) := ((Below.refl _ w).alloc (Nat.le_refl _) _).alloc (by simp) _
  rw [show (w.alloc (.cells (enC x v) 35)).heap.size = w.heap.size + 1 by simp] at h1
  have HC := Lib.hid (same_any x.p.k x.p.s x.p.o x.p.n v x.p.ls y.p.k y.p.s y.p.o y.p.n u y.p.ls h1 (hv.below hlow) (hu.below hlow) (by omega))
  have H1 := Lib.hid h1.drop.drop
  obtain ⟨d0, d1, d2, d3, d4, d5, d6⟩ := cells7 h1
  obtain ⟨c0, c1, c2, c3, c4, c5, c6⟩ := cells7 h1.sw2
  unfold enV
  unfold enC at *
  clear h h1 hv hu hl hlow
  rcases enSame_cases x y with ⟨e, hx⟩ | ⟨x0, x1, e⟩
  · rw [e]
    clear e
    rcases hx with x0 | ⟨x0, x1⟩
    · have y0 : (x.c == y.c) = false := beq_eq_false_iff_ne.2 x0
      clear x0
      go_enter Tryd.func36, Tryd.ntmps36
      go_wp2_with fail
      go_ret
      exact ⟨rfl, H1.out⟩
    · have y0 : (x.c == y.c) = true := beq_iff_eq.2 x0
      have y1 : (x.m == y.m) = false := beq_eq_false_iff_ne.2 x1
      clear x0 x1
      go_enter Tryd.func36, Tryd.ntmps36
      go_wp2_with fail
      go_ret
      exact ⟨rfl, H1.out⟩
  · rw [e]
    have y0 : (x.c == y.c) = true := beq_iff_eq.2 x0
    have y1 : (x.m == y.m) = true := beq_iff_eq.2 x1
    clear e x0 x1
    generalize sameB x.p.k x.p.s x.p.o x.p.n x.p.ls y.p.k y.p.s y.p.o y.p.n y.p.ls = z at *
    go_enter Tryd.func36, Tryd.ntmps36
    go_wp2_with fail
    refine HC.out.mono ?_
    rintro r0 w1 ⟨rfl, h2⟩
    go_wp2_with fail
    go_ret
    exact ⟨rfl, h2.drop.drop⟩
set_option maxRecDepth 100000 in
set_option maxHeartbeats 4000000 in
theorem ecopy_any {w0 w : World} {L : List Thing} (x : EnM) (v : Value) (h : Sep w0 L w) (hv : LnS w v x.p.ls) (hl : x.p.ls.length ≤ 1000) :
    Calls Tryd.prog 39 #[enV x v] w fun e w' => ∃ u, e = .returned (enV x u) ∧ Sep w0 (LnR u x.p.ls :: L) w' := by
  have h1 := (h.alloc (.cells (enC x v) 35)).alloc (.cells #[.int .i64 0, .int .i64 0, .int .i64 0, .string ⟨#[]⟩, .int .i64 0, .int .i64 0, .slice none 0 0] 35)
  have hlow : Below w.heap.size w ((w.alloc (.cells (enC x v) 35)).alloc (.cells #[.int .i64 0, .int .i64 0, .int .i64 0, .string ⟨#[]⟩, .int .i64 0, .int .i64 0, .slice none 0 0] 35)) := ((Below.refl _ w).alloc (Nat.le_refl _) _).alloc (by simp) _
  rw [show (w.alloc (.cells (enC x v) 35)).heap.size = w.heap.size + 1 by simp] at h1
  have HC := Lib.hid (copy_any x.p.k x.p.s x.p.o x.p.n v x.p.ls h1 (hv.below hlow) hl)
  obtain ⟨c0, c1, c2, c3, c4, c5, c6⟩ := cells7 h1.sw2
  obtain ⟨b1, hb1⟩ : ∃ z, z = w.heap.size := ⟨_, rfl⟩
  obtain ⟨b2, hb2⟩ : ∃ z, z = w.heap.size + 1 := ⟨_, rfl⟩
  rw [← hb2, ← hb1] at HC
  unfold enV
  unfold enC at *
  clear h h1 hv hl hlow
  go_enter Tryd.func39, Tryd.ntmps39
  go_wp2_with fail
  rw [← hb2, ← hb1]
  refine HC.out.mono ?_
  rintro r0 w1 ⟨u, rfl, h2⟩
  clear c0 c1 c2 c3 c4 c5 c6 hb1 hb2 HC
  obtain ⟨au, cu, rfl, -⟩ := h2.rnForm
  obtain ⟨c0, c1, c2, c3, c4, c5, c6⟩ := cells7 h2.sw3
  obtain ⟨f0, f1, f2, f3, f4, f5, f6⟩ := frz7 h2.sw3
  have h3 : Sep w0 (Cl b1 (enC x (.slice au x.p.ls.length cu)) 35 :: LnR (.slice au x.p.ls.length cu) x.p.ls :: Cl b2 #[.int .i64 0, .int .i64 0, .int .i64 0, .string ⟨#[]⟩, .int .i64 0, .int .i64 0, .slice none 0 0] 35 :: L) (((((w1.setCell ⟨b1, 2, none⟩ (.int .i64 x.p.k)).setCell ⟨b1, 3, none⟩ (.string x.p.s.1)).setCell ⟨b1, 4, none⟩ (.int .i64 x.p.o)).setCell ⟨b1, 5, none⟩ (.int .i64 x.p.n)).setCell ⟨b1, 6, none⟩ (.slice au x.p.ls.length cu)) :=
    store75 h2.sw3
  obtain ⟨d0, d1, d2, d3, d4, d5, d6⟩ := cells7 h3
  obtain ⟨e0, e1, e2, e3, e4, e5, e6⟩ := cells7 h3.sw3
  obtain ⟨g0, g1, g2, g3, g4, g5, g6⟩ := frz7 h3.sw3
  have h4 := store7 (u0 := .int .i64 x.c) (u1 := .int .i64 x.m) (u2 := .int .i64 x.p.k) (u3 := .string x.p.s.1) (u4 := .int .i64 x.p.o) (u5 := .int .i64 x.p.n) (u6 := .slice au x.p.ls.length cu) h3.sw3
  obtain ⟨y0, y1, y2, y3, y4, y5, y6⟩ := cells7 h4
  have H4 := Lib.hid h4.drop.drop
  unfold enC at *
  clear h2 h3 h4
  go_wp2_with fail
  exact bodyPost_ret (v := .agg #[.int .i64 x.c, .int .i64 x.m, .int .i64 x.p.k, .string x.p.s.1, .int .i64 x.p.o, .int .i64 x.p.n, .slice au x.p.ls.length cu]) (by simp [results, Tryd.results39, go_sem, y0, y1, y2, y3, y4, y5, y6]) rfl ⟨_, rfl, H4.out⟩
/-- One entry, as it lies in a row. -/
def En7 (w : World) (b i : Nat) (x : EnM) (v : Value) : Prop := w.cell? ⟨b, i, none⟩ = some (.int .i64 x.c) ∧ w.cell? ⟨b, i + 1, none⟩ = some (.int .i64 x.m) ∧ w.cell? ⟨b, i + 2, none⟩ = some (.int .i64 x.p.k) ∧ w.cell? ⟨b, i + 3, none⟩ = some (.string x.p.s.1) ∧ w.cell? ⟨b, i + 4, none⟩ = some (.int .i64 x.p.o) ∧ w.cell? ⟨b, i + 5, none⟩ = some (.int .i64 x.p.n) ∧ w.cell? ⟨b, i + 6, none⟩ = some v
/-- A slice of entries, read. -/
def EnS (w : World) (v : Value) (xs : List (EnM × Value)) : Prop :=
  (∃ a c, v = .slice a 0 c ∧ xs = []) ∨ ∃ b off c, v = .slice (some ⟨b, off, none⟩) xs.length c ∧ xs.length ≤ c ∧ c ≤ maxLen ∧ b < w.heap.size ∧ ∀ i (hi : i < xs.length), En7 w b (off + i * 7) xs[i].1 xs[i].2 ∧ LnS w xs[i].2 xs[i].1.p.ls
theorem EnS.below {w w' : World} {v : Value} {xs : List (EnM × Value)} (h : EnS w v xs) (hb : Below w.heap.size w w') : EnS w' v xs := by
  rcases h with h | ⟨b, off, c, h1, h2, h3, h4, h5⟩
  · exact .inl h
  · refine .inr ⟨b, off, c, h1, h2, h3, Nat.lt_of_lt_of_le h4 hb.size, fun i hi => ?_⟩
    obtain ⟨⟨a0, a1, a2, a3, a4, a5, a6⟩, h6⟩ := h5 i hi
    have k : ∀ o, w'.cell? ⟨b, o, none⟩ = w.cell? ⟨b, o, none⟩ := fun o => hb.cell (p := ⟨b, o, none⟩) h4
    exact ⟨⟨(k _).trans a0, (k _).trans a1, (k _).trans a2, (k _).trans a3, (k _).trans a4, (k _).trans a5, (k _).trans a6⟩, h6.below hb⟩
theorem EnS.len {w : World} {v : Value} {xs : List (EnM × Value)} (h : EnS w v xs) : ∃ a c, v = .slice a xs.length c := by
  rcases h with ⟨a, c, rfl, rfl⟩ | ⟨b, off, c, h1, _⟩
  · exact ⟨a, c, rfl⟩
  · exact ⟨_, c, h1⟩
theorem EnS.at {w : World} {a : Option Addr} {n c : Nat} {xs : List (EnM × Value)} (h : EnS w (.slice a n c) xs) {i : Nat} (hi : i < xs.length) :
    ∃ b off, a = some ⟨b, off, none⟩ ∧ n = xs.length ∧ n ≤ c ∧ c ≤ maxLen ∧ En7 w b (off + i * 7) xs[i].1 xs[i].2 ∧ LnS w xs[i].2 xs[i].1.p.ls := by
  rcases h with ⟨a, c, h1, rfl⟩ | ⟨b, off, c', h1, h2, h3, h4, h5⟩
  · simp at hi
  · simp only [Value.slice.injEq] at h1
    obtain ⟨rfl, rfl, rfl⟩ := h1
    exact ⟨b, off, rfl, rfl, h2, h3, h5 i hi⟩
theorem Sep.memb {w0 w : World} {A : Thing} {L : List Thing} (h : Sep w0 L w) (hm : A ∈ L) : ∃ M, Sep w0 (A :: M) w := by
  induction L with
  | nil => cases hm
  | cons B L ih =>
    rcases List.mem_cons.1 hm with rfl | hm
    · exact ⟨L, h⟩
    · exact ih h.drop hm
abbrev lnP (q : EnM × Value) : Thing := LnR q.2 q.1.p.ls
def enCs (ps : List (EnM × Value)) : List Value := ps.flatMap fun q => (enC q.1 q.2).toList
theorem enCs_len : ∀ ps : List (EnM × Value), (enCs ps).length = ps.length * 7
  | [] => rfl
  | q :: ps => by
    have := enCs_len ps
    unfold enCs at this ⊢
    rw [List.flatMap_cons, List.length_append, this, List.length_cons]
    simp [enC]
    omega
theorem enCs_at : ∀ (ps : List (EnM × Value)) (i : Nat) (hi : i < ps.length) (j : Nat), j < 7 → (enCs ps)[i * 7 + j]? = (enC ps[i].1 ps[i].2).toList[j]?
  | q :: ps, 0, _, j, hj => by
    unfold enCs
    rw [List.flatMap_cons, Nat.zero_mul, Nat.zero_add, List.getElem?_append_left (by simpa [enC] using hj)]
    rfl
  | q :: ps, i + 1, hi, j, hj => by
    have := enCs_at ps i (by simpa using hi) j hj
    unfold enCs at this ⊢
    rw [List.flatMap_cons, List.getElem?_append_right (by simp [enC]; omega)]
    rw [show (i + 1) * 7 + j - (enC q.1 q.2).toList.length = i * 7 + j by simp [enC]; omega, this]
    rfl
theorem enCs_app (a b : List (EnM × Value)) : enCs (a ++ b) = enCs a ++ enCs b := by simp [enCs]
theorem enCs_one (q : EnM × Value) : enCs [q] = (enC q.1 q.2).toList := by simp [enCs]
abbrev EnR (v : Value) (ps : List (EnM × Value)) : Thing := Rn 7 35 v ps.length (enCs ps)
/-- Entries of one's own. -/
def EnT (v : Value) (ps : List (EnM × Value)) : Thing := Grp (EnR v ps :: ps.map lnP)
theorem loc_enR (v : Value) (ps : List (EnM × Value)) : ∀ A ∈ EnR v ps :: ps.map lnP, Loc A := by
  intro A hA
  rcases List.mem_cons.1 hA with rfl | hA
  · exact loc_rn _ _ _ _ _
  · obtain ⟨q, _, rfl⟩ := List.mem_map.1 hA; exact loc_rn _ _ _ _ _
theorem loc_enT (v : Value) (ps : List (EnM × Value)) : Loc (EnT v ps) := loc_grp (loc_enR v ps)
theorem Sep.enOpen {w0 w : World} {v : Value} {ps : List (EnM × Value)} {L : List Thing} (h : Sep w0 (EnT v ps :: L) w) : Sep w0 (EnR v ps :: (ps.map lnP ++ L)) w := h.open_ (loc_enR v ps)
theorem Sep.enClose {w0 w : World} {v : Value} {ps : List (EnM × Value)} {L : List Thing} (h : Sep w0 (EnR v ps :: (ps.map lnP ++ L)) w) : Sep w0 (EnT v ps :: L) w := Sep.close (M := EnR v ps :: ps.map lnP) h
theorem Sep.enNil {w0 w : World} {L : List Thing} (h : Sep w0 L w) : Sep w0 (EnT (.slice none 0 0) [] :: L) w := Sep.enClose (ps := []) (h.rnNil 7 35)
theorem Sep.enForm {w0 w : World} {v : Value} {ps : List (EnM × Value)} {L : List Thing} (h : Sep w0 (EnT v ps :: L) w) : ∃ a c, v = .slice a ps.length c ∧ ps.length ≤ c ∧ c ≤ maxLen := by
  obtain ⟨a, c, h1, h2, h3, -⟩ := h.enOpen.rnForm
  exact ⟨a, c, h1, h2, h3⟩
theorem Sep.memT {w0 w : World} {A : Thing} {L : List Thing} (h : Sep w0 L w) (hm : A ∈ L) : ∃ M, Sep w0 (A :: M) w := Sep.memb h hm
theorem Sep.enS {w0 w : World} {v : Value} {ps : List (EnM × Value)} {L : List Thing} (h : Sep w0 (EnT v ps :: L) w) : EnS w v ps := by
  have h1 := h.enOpen
  obtain ⟨a, c, rfl, h2, h3, h4, h5⟩ := h1.rnForm
  by_cases h0 : 0 < ps.length
  · obtain ⟨b, rfl, hb, hc⟩ := h5 h0
    refine .inr ⟨b, 0, c, rfl, h2, h3, hb, fun i hi => ?_⟩
    have k : ∀ j u, j < 7 → (enC ps[i].1 ps[i].2).toList[j]? = some u → w.cell? ⟨b, 0 + i * 7 + j, none⟩ = some u := fun j u hj hu => by
      have h6 := enCs_at ps i hi j hj
      rw [hu] at h6
      obtain ⟨h7, h8⟩ := List.getElem?_eq_some_iff.1 h6
      rw [Nat.zero_add, hc _ h7, h8]
    refine ⟨⟨k 0 _ (by omega) rfl, k 1 _ (by omega) rfl, k 2 _ (by omega) rfl, k 3 _ (by omega) rfl, k 4 _ (by omega) rfl, k 5 _ (by omega) rfl, k 6 _ (by omega) rfl⟩, ?_⟩
    obtain ⟨M, hM⟩ := h1.memT (A := lnP ps[i]) (List.mem_cons_of_mem _ (List.mem_append_left _ (List.mem_map_of_mem (List.getElem_mem hi))))
    exact Sep.lnS hM
  · exact .inl ⟨a, c, by rw [show ps.length = 0 by omega], List.eq_nil_of_length_eq_zero (by omega)⟩
theorem infoEn : (Tryd.prog.info? 35).map (fun i => (i.size, decide (i.bytes ≤ 256), i.zero.map (fun z => z.cells.size))) = some (7, true, some 7) := by kernel_rfl
/-- 'append' of one entry, that lies in a block of its own, onto them. -/
theorem append_en {w0 w : World} {v : Value} {ps : List (EnM × Value)} {x : EnM} {u : Value} {b : Nat} {L : List Thing} (ty : TypeId) (h : Sep w0 (Cl b (enC x u) 35 :: EnT v ps :: LnR u x.p.ls :: L) w) (hu : u.oneCell' = true) (hl : ps.length ≤ 10000000) :
    ∃ a c w', (Builtin.append_ #[39, 39] ty #[v, .slice (some ⟨b, 0, none⟩) 1 1]).run Tryd.prog w = .ok (.slice a (ps.length + 1) c) w' ∧ Sep w0 (EnT (.slice a (ps.length + 1) c) (ps ++ [(x, u)]) :: L) w' := by
  obtain ⟨i, hi, he⟩ := Option.map_eq_some_iff.1 infoEn
  simp only [Prod.mk.injEq, decide_eq_true_eq] at he
  obtain ⟨z, hz, hz2⟩ := Option.map_eq_some_iff.1 he.2.2
  have h1 := h.sw2.enOpen
  have hc : ∀ j u', (enC x u).toList[j]? = some u' → w.cell? ⟨b, 0 + j, none⟩ = some u' := fun j u' hj => by
    rw [Nat.zero_add]
    exact h.cell (by simpa using hj)
  obtain ⟨v', w', hr, h2⟩ := append_rn (P := Tryd.prog) (ty := ty) (m := 1) (c := 1) Tryd.underlying39 hi hz he.1 he.2.1 hz2 (by decide) h1 (news := (enC x u).toList) (by simp [enC]) hc (by
    intro y hy
    simp only [enC, List.mem_cons, List.not_mem_nil, or_false] at hy
    rcases hy with rfl | rfl | rfl | rfl | rfl | rfl | rfl <;> first | rfl | exact hu) (by omega)
  obtain ⟨a, c, rfl, -⟩ := h2.rnForm
  refine ⟨a, c, w', hr, ?_⟩
  have e : enCs ps ++ (enC x u).toList = enCs (ps ++ [(x, u)]) := by rw [enCs_app, enCs_one]
  rw [e] at h2
  have h3 : Sep w0 ((EnR (.slice a (ps.length + 1) c) (ps ++ [(x, u)]) :: ps.map lnP) ++ (Cl b (enC x u) 35 :: LnR u x.p.ls :: L)) w' := by
    show Sep w0 (Rn 7 35 (.slice a (ps.length + 1) c) (ps ++ [(x, u)]).length (enCs (ps ++ [(x, u)])) :: _) w'
    rw [List.length_append, List.length_singleton]
    exact h2
  have h4 : Sep w0 ((EnR (.slice a (ps.length + 1) c) (ps ++ [(x, u)]) :: ps.map lnP) ++ (LnR u x.p.ls :: L)) w' := by
    have hp : ((EnR (.slice a (ps.length + 1) c) (ps ++ [(x, u)]) :: ps.map lnP) ++ (Cl b (enC x u) 35 :: LnR u x.p.ls :: L)).Perm (Cl b (enC x u) 35 :: ((EnR (.slice a (ps.length + 1) c) (ps ++ [(x, u)]) :: ps.map lnP) ++ (LnR u x.p.ls :: L))) := List.perm_middle
    exact (h3.perm hp).drop
  refine Sep.enClose ?_
  rw [List.map_append, List.append_assoc]
  exact h4
theorem en_slices {v : Value} {a : Option Addr} {n c : Nat} (h : v = .slice a n c) : v.oneCell' = true := by subst h; rfl
set_option maxRecDepth 100000 in
set_option maxHeartbeats 8000000 in
theorem lcopy_w {w : World} (a : Option Addr) (c : Nat) (xs : List (EnM × Value)) (hv : EnS w (.slice a xs.length c) xs) (hl : xs.length ≤ 1000000) (hls : ∀ x ∈ xs, x.1.p.ls.length ≤ 1000) :
    Calls Tryd.prog 51 #[.slice a xs.length c, .func (.func 39) #[] #[]] w fun e w' => ∃ (u : Value) (ps : List (EnM × Value)), e = .returned u ∧ ps.map (·.1) = xs.map (·.1) ∧ Sep w [EnT u ps] w' := by
  obtain ⟨i, hi, he⟩ := Option.map_eq_some_iff.1 infoEn
  simp only [Prod.mk.injEq, decide_eq_true_eq] at he
  obtain ⟨z, hz, hz2⟩ := Option.map_eq_some_iff.1 he.2.2
  obtain ⟨w1, hmk, hown, hgr⟩ := run_make_own (P := Tryd.prog) w w.heap.size 39 35 i z 7 Tryd.underlying39 hi hz he.1 .i64 .i64 xs.length (by
    calc i.bytes * xs.length ≤ 256 * 1000000 := Nat.mul_le_mul he.2.1 hl
      _ ≤ 281474976710656 := by omega) (by unfold maxLen; omega) (Nat.le_refl _)
  have h1 : Sep w [EnT (.slice (some ⟨w.heap.size, 0, none⟩) 0 xs.length) []] w1 := Sep.enClose (ps := []) ((Sep.start w).new (loc_rn _ _ _ _ _) (below_gr0 hgr) (F := fun k => (Value.slice (some ⟨w.heap.size, 0, none⟩) 0 xs.length).ownBlock = some k) ⟨⟨_, hown⟩, fun _ => Iff.rfl⟩ (ownsRow_lt hown))
  have HM := Lib.hid hmk
  have H1 := Lib.hid h1
  have HX := Lib.hid hv
  have HLS := Lib.hid hls
  have n0 : (0 : Int) ≤ (xs.length : Int) := by omega
  have n1 : (xs.length : Int) ≤ 1000000 := by omega
  clear hi he hz hz2 hown hgr h1 hmk hv hls hl
  obtain ⟨n, hn⟩ : ∃ n, n = xs.length := ⟨_, rfl⟩
  rw [← hn] at HM H1 HX n0 n1 ⊢
  have HN := Lib.hid hn
  clear hn
  go_enter Tryd.func51, Tryd.ntmps51
  go_wp2_with fail
  rw [HM.out]
  clear HM
  go_wp2_with fail
  go_loopw [5, 13] (fun pv i wr => ∃ (k : Nat) (ps : List (EnM × Value)) (av : Option Addr) (cv : Nat), k ≤ n ∧ pv = .slice av k cv ∧ i = .int .i64 k ∧ ps.length = k ∧ ps.map (·.1) = (xs.take k).map (·.1) ∧ Sep w [EnT (.slice av k cv) ps] wr) (fun _ i _ => n - (intOf i).toNat)
  case atStart => exact ⟨0, [], _, _, Nat.zero_le _, rfl, rfl, rfl, rfl, H1.out⟩
  case round =>
    obtain ⟨k, ps, av, cv, hk, rfl, rfl, hpl, hps, hs⟩ := hrel
    clear H1
    have k0 : (0 : Int) ≤ (k : Int) := by omega
    by_cases hkn : k < n
    · have hkx : k < xs.length := by have := HN.out; omega
      have hd : decide (k < n) = true := decide_eq_true hkn
      have k1 : (k : Int) < (n : Int) := by omega
      obtain ⟨bx, off, rfl, -, hnc, -, ⟨e0, e1, e2, e3, e4, e5, e6⟩, hln⟩ := (HX.out.below hs.low).at hkx
      have hxl := HLS.out _ (List.getElem_mem hkx)
      obtain ⟨⟨x, v⟩, hxv⟩ : ∃ z, z = xs[k] := ⟨_, rfl⟩
      rw [← hxv] at e0 e1 e2 e3 e4 e5 e6 hln hxl
      dsimp only at e0 e1 e2 e3 e4 e5 e6 hln hxl
      obtain ⟨av', kv, rfl⟩ := hln.len
      have h4 := hs.alloc (.cells (enC x (.slice av' x.p.ls.length kv)) 35)
      have hlow : Below wr.heap.size wr (wr.alloc (.cells (enC x (.slice av' x.p.ls.length kv)) 35)) := (Below.refl _ wr).alloc (Nat.le_refl _) _
      have HB := Lib.hid (ecopy_any x (.slice av' x.p.ls.length kv) h4 (hln.below hlow) hxl)
      unfold enV enC at HB
      unfold enC at h4
      obtain ⟨d0, d1, d2, d3, d4, d5, d6⟩ := cells7 h4
      have HXV := Lib.hid (And.intro hxv (And.intro hkx hkn))
      have HPS := Lib.hid (And.intro hpl hps)
      clear hs h4 hlow hln hxv hpl hps hk hkn hxl
      go_wp2_with fail
      refine HB.out.mono ?_
      rintro r0 w5 ⟨u, rfl, h5⟩
      obtain ⟨au, ku, rfl, -⟩ := h5.rnForm
      have h6 := h5.alloc (.cells (enC x (.slice au x.p.ls.length ku)) 35)
      obtain ⟨a2, c2, w8, hr, h8⟩ := append_en (ty := 39) (h6.pick [0, 3, 1] rfl : Sep w [Cl w5.heap.size (enC x (.slice au x.p.ls.length ku)) 35, EnT (.slice av k cv) ps, LnR (.slice au x.p.ls.length ku) x.p.ls] _) rfl (by rw [HPS.out.1]; omega)
      rw [HPS.out.1] at hr h8
      unfold enC at hr
      have HAP := Lib.hid hr
      have H8 := Lib.hid h8
      clear HB h5 h6 hr h8 d0 d1 d2 d3 d4 d5 d6 e0 e1 e2 e3 e4 e5 e6
      go_wp2_with (at_builtin; refine wpList_append_run rfl _ _ _ _ rfl rfl rfl HAP.out ?_)
      go_roundw
      case rel =>
        refine ⟨k + 1, ps ++ [(x, .slice au x.p.ls.length ku)], a2, c2, HXV.out.2.2, rfl, by go_num, by rw [List.length_append, HPS.out.1, List.length_singleton], ?_, H8.out⟩
        rw [List.map_append, HPS.out.2, List.take_succ_eq_append_getElem HXV.out.2.1, ← HXV.out.1]; simp
      case measure => have := HXV.out.2.2; simp [intOf]; omega
    · have hd : decide (k < n) = false := decide_eq_false hkn
      have hn := HN.out
      have hkx : xs.take k = xs := List.take_of_length_le (by omega)
      rw [hkx] at hps
      have HF := Lib.hid (And.intro hps hs)
      clear hps hs hpl hk hkn hn hkx
      go_wp2_with fail
      go_ret
      exact ⟨_, rfl, ps, HF.out.1, HF.out.2⟩
theorem lcopy_any {w0 w : World} {L : List Thing} (a : Option Addr) (c n : Nat) (xs : List (EnM × Value)) (h : Sep w0 L w) (hv : EnS w (.slice a n c) xs) (hn : xs.length = n) (hl : n ≤ 1000000) (hls : ∀ x ∈ xs, x.1.p.ls.length ≤ 1000) :
    Calls Tryd.prog 51 #[.slice a n c, .func (.func 39) #[] #[]] w fun e w' => ∃ (u : Value) (ps : List (EnM × Value)), e = .returned u ∧ ps.map (·.1) = xs.map (·.1) ∧ Sep w0 (EnT u ps :: L) w' := by
  subst hn
  exact (lcopy_w a c xs hv hl hls).mono fun e w' ⟨u, ps, h1, h2, h3⟩ => ⟨u, ps, h1, h2, h.onto1 h3⟩
end Go.Proofs.YtcnbmeiielkigaaDoor
