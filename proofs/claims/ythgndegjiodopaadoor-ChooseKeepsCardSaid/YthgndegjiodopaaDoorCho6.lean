/- Package choose: against, best's closure. -/
import Derived.Test.YthgndegjiodopaaDoorCho5
namespace Go.Proofs.YthgndegjiodopaaDoor
open Go.RowKit
set_option linter.unusedVariables false
set_option linter.unusedSimpArgs false
def against (a b c : Int) : Int := if a = 0 then (if b = 0 then c else b) else a
/-- How x stands to y: below 0 if it is the better one. -/
def cmpO (x y : OvM) : Int := against (cmpI y.la x.la) (cmpI y.top x.top) (cmpI x.fr y.fr)
set_option maxRecDepth 100000 in
set_option maxHeartbeats 8000000 in
theorem against_any {w0 w : World} {L : List Thing} (x y : OvM) (g : Nat) (h : Sep w0 (Cl g #[.func (.func 36) #[ovV x] #[], .func (.func 37) #[ovV x] #[], .func (.func 38) #[ovV x] #[]] 80 :: L) w) (hx : VsO x) (hy : VsO y) (bx : BdO x) (bd : BdO y) :
    Calls Tryd.prog 35 #[ovV y, .slice (some ⟨g, 0, none⟩) 3 3] w fun e w' => e = .returned (.int .i64 (cmpO x y)) ∧ Sep w0 (Cl g #[.func (.func 36) #[ovV x] #[], .func (.func 37) #[ovV x] #[], .func (.func 38) #[ovV x] #[]] 80 :: L) w' := by
  unfold cmpO
  have HA0 : ∀ w (M : List Thing), Sep w0 M w → Calls Tryd.prog 36 #[ovV x, ovV y] w fun e w' => e = .returned (.int .i64 (cmpI y.la x.la)) ∧ Sep w0 M w' := fun w M h => byLast_any x y h hx hy
  have HB0 : ∀ w (M : List Thing), Sep w0 M w → Calls Tryd.prog 37 #[ovV x, ovV y] w fun e w' => e = .returned (.int .i64 (cmpI y.top x.top)) ∧ Sep w0 M w' := fun w M h => byTop_any x y h hx hy bx bd
  have HC0 : ∀ w (M : List Thing), Sep w0 M w → Calls Tryd.prog 38 #[ovV x, ovV y] w fun e w' => e = .returned (.int .i64 (cmpI x.fr y.fr)) ∧ Sep w0 M w' := fun w M h => byFrom_any x y h hx hy
  generalize cmpI y.la x.la = c0 at *
  generalize cmpI y.top x.top = c1 at *
  generalize cmpI x.fr y.fr = c2 at *
  obtain ⟨yf, yl, yb, yc, yv, yp⟩ := y
  obtain ⟨ya, yk, hy⟩ := hy
  dsimp only at hy
  subst hy
  generalize hX : ovV x = X at *
  have h1 := h.alloc (.cells #[.int .i64 yf, .int .i64 yl, .int .i64 yb, .slice none 0 0, .slice ya yp.length yk, .int .i64 yc] 68)
  obtain ⟨b1, hb1⟩ : ∃ q, q = w.heap.size := ⟨_, rfl⟩
  obtain ⟨v1, hw1⟩ : ∃ q, q = w.alloc (.cells #[.int .i64 yf, .int .i64 yl, .int .i64 yb, .slice none 0 0, .slice ya yp.length yk, .int .i64 yc] 68) := ⟨_, rfl⟩
  rw [← hw1, ← hb1] at h1
  have HA : Hid (∀ w, Sep w0 (Cl b1 #[.int .i64 yf, .int .i64 yl, .int .i64 yb, .slice none 0 0, .slice ya yp.length yk, .int .i64 yc] 68 :: Cl g #[.func (.func 36) #[X] #[], .func (.func 37) #[X] #[], .func (.func 38) #[X] #[]] 80 :: L) w → _) := Lib.hid fun w h => HA0 w _ h
  have HB : Hid (∀ w, Sep w0 (Cl b1 #[.int .i64 yf, .int .i64 yl, .int .i64 yb, .slice none 0 0, .slice ya yp.length yk, .int .i64 yc] 68 :: Cl g #[.func (.func 36) #[X] #[], .func (.func 37) #[X] #[], .func (.func 38) #[X] #[]] 80 :: L) w → _) := Lib.hid fun w h => HB0 w _ h
  have HC : Hid (∀ w, Sep w0 (Cl b1 #[.int .i64 yf, .int .i64 yl, .int .i64 yb, .slice none 0 0, .slice ya yp.length yk, .int .i64 yc] 68 :: Cl g #[.func (.func 36) #[X] #[], .func (.func 37) #[X] #[], .func (.func 38) #[X] #[]] 80 :: L) w → _) := Lib.hid fun w h => HC0 w _ h
  have H1 := Lib.hid h1
  unfold ovV ovC at HA HB HC
  dsimp only at HA HB HC
  unfold ovV ovC
  dsimp only
  clear HA0 HB0 HC0 h h1 bx bd hx hX
  go_enter Tryd.func35, Tryd.ntmps35
  (try dsimp only); repeat' (first | go_values | go_skip | go_guarded | go_step | go_upon | go_back)
  rw [← hw1, ← hb1]
  clear hw1 hb1
  (try dsimp only); repeat' (first | go_values | go_skip | go_guarded | go_step | go_upon | go_back)
  go_loopw [10] (fun i wr => ∃ k : Nat, k ≤ 3 ∧ i = .int .i64 k ∧ (1 ≤ k → c0 = 0) ∧ (2 ≤ k → c1 = 0) ∧ (3 ≤ k → c2 = 0) ∧ Sep w0 (Cl b1 #[.int .i64 yf, .int .i64 yl, .int .i64 yb, .slice none 0 0, .slice ya yp.length yk, .int .i64 yc] 68 :: Cl g #[.func (.func 36) #[X] #[], .func (.func 37) #[X] #[], .func (.func 38) #[X] #[]] 80 :: L) wr) (fun i _ => 3 - (intOf i).toNat)
  case atStart => exact ⟨0, by omega, rfl, fun h => absurd h (by omega), fun h => absurd h (by omega), fun h => absurd h (by omega), H1.out⟩
  case round =>
    obtain ⟨k, hk, rfl, hz0, hz1, hz2, hs⟩ := hrel
    clear H1
    obtain ⟨d0, d1, d2, d3, d4, d5⟩ := cells6 hs
    have q0 := hs.sw2.cell (o := 0) rfl
    have q1 := hs.sw2.cell (o := 1) rfl
    have q2 := hs.sw2.cell (o := 2) rfl
    have HS := Lib.hid hs
    by_cases hk3 : k < 3
    · rcases (show k = 0 ∨ k = 1 ∨ k = 2 by omega) with rfl | rfl | rfl
      · by_cases e : c0 = 0
        · have d : (c0 == 0) = true := beq_iff_eq.2 e
          have HZ := Lib.hid (And.intro hz0 (And.intro hz1 hz2))
          have HE := Lib.hid e
          clear hz0 hz1 hz2 hs e
          (try dsimp only); repeat' (first | go_values | go_skip | go_guarded | go_step | go_upon | go_back)
          refine (HA.out _ HS.out).mono ?_
          rintro r0 w2 ⟨rfl, h2⟩
          have H2 := Lib.hid h2
          clear d0 d1 d2 d3 d4 d5 q0 q1 q2 HS h2
          (try dsimp only); repeat' (first | go_values | go_skip | go_guarded | go_step | go_upon | go_back)
          go_roundw
          case rel => exact ⟨1, by omega, rfl, fun _ => HE.out, fun h => absurd h (by omega), fun h => absurd h (by omega), H2.out⟩
          case measure => simp [intOf]
        · have d : (c0 == 0) = false := beq_false_of_ne e
          have hr : against c0 c1 c2 = c0 := by unfold against; rw [if_neg e]
          have HR := Lib.hid hr
          clear hz0 hz1 hz2 hs e hr
          (try dsimp only); repeat' (first | go_values | go_skip | go_guarded | go_step | go_upon | go_back)
          refine (HA.out _ HS.out).mono ?_
          rintro r0 w2 ⟨rfl, h2⟩
          have H2 := Lib.hid h2.drop
          clear d0 d1 d2 d3 d4 d5 q0 q1 q2 HS h2
          (try dsimp only); repeat' (first | go_values | go_skip | go_guarded | go_step | go_upon | go_back)
          go_ret
          exact ⟨by rw [HR.out]; rfl, H2.out⟩
      · by_cases e : c1 = 0
        · have d : (c1 == 0) = true := beq_iff_eq.2 e
          have HZ := Lib.hid (And.intro hz0 (And.intro hz1 hz2))
          have HE := Lib.hid e
          clear hz0 hz1 hz2 hs e
          (try dsimp only); repeat' (first | go_values | go_skip | go_guarded | go_step | go_upon | go_back)
          refine (HB.out _ HS.out).mono ?_
          rintro r0 w2 ⟨rfl, h2⟩
          have H2 := Lib.hid h2
          clear d0 d1 d2 d3 d4 d5 q0 q1 q2 HS h2
          (try dsimp only); repeat' (first | go_values | go_skip | go_guarded | go_step | go_upon | go_back)
          go_roundw
          case rel => exact ⟨2, by omega, rfl, fun _ => HZ.out.1 (by omega), fun _ => HE.out, fun h => absurd h (by omega), H2.out⟩
          case measure => simp [intOf]
        · have d : (c1 == 0) = false := beq_false_of_ne e
          have hr : against c0 c1 c2 = c1 := by unfold against; rw [if_pos (hz0 (by omega)), if_neg e]
          have HR := Lib.hid hr
          clear hz0 hz1 hz2 hs e hr
          (try dsimp only); repeat' (first | go_values | go_skip | go_guarded | go_step | go_upon | go_back)
          refine (HB.out _ HS.out).mono ?_
          rintro r0 w2 ⟨rfl, h2⟩
          have H2 := Lib.hid h2.drop
          clear d0 d1 d2 d3 d4 d5 q0 q1 q2 HS h2
          (try dsimp only); repeat' (first | go_values | go_skip | go_guarded | go_step | go_upon | go_back)
          go_ret
          exact ⟨by rw [HR.out]; rfl, H2.out⟩
      · by_cases e : c2 = 0
        · have d : (c2 == 0) = true := beq_iff_eq.2 e
          have HZ := Lib.hid (And.intro hz0 (And.intro hz1 hz2))
          have HE := Lib.hid e
          clear hz0 hz1 hz2 hs e
          (try dsimp only); repeat' (first | go_values | go_skip | go_guarded | go_step | go_upon | go_back)
          refine (HC.out _ HS.out).mono ?_
          rintro r0 w2 ⟨rfl, h2⟩
          have H2 := Lib.hid h2
          clear d0 d1 d2 d3 d4 d5 q0 q1 q2 HS h2
          (try dsimp only); repeat' (first | go_values | go_skip | go_guarded | go_step | go_upon | go_back)
          go_roundw
          case rel => exact ⟨3, by omega, rfl, fun _ => HZ.out.1 (by omega), fun _ => HZ.out.2.1 (by omega), fun _ => HE.out, H2.out⟩
          case measure => simp [intOf]
        · have d : (c2 == 0) = false := beq_false_of_ne e
          have hr : against c0 c1 c2 = c2 := by unfold against; rw [if_pos (hz0 (by omega)), if_pos (hz1 (by omega))]
          have HR := Lib.hid hr
          clear hz0 hz1 hz2 hs e hr
          (try dsimp only); repeat' (first | go_values | go_skip | go_guarded | go_step | go_upon | go_back)
          refine (HC.out _ HS.out).mono ?_
          rintro r0 w2 ⟨rfl, h2⟩
          have H2 := Lib.hid h2.drop
          clear d0 d1 d2 d3 d4 d5 q0 q1 q2 HS h2
          (try dsimp only); repeat' (first | go_values | go_skip | go_guarded | go_step | go_upon | go_back)
          go_ret
          exact ⟨by rw [HR.out]; rfl, H2.out⟩
    · obtain rfl : k = 3 := by omega
      have hr : against c0 c1 c2 = 0 := by unfold against; rw [if_pos (hz0 (by omega)), if_pos (hz1 (by omega))]; exact hz2 (by omega)
      have HR := Lib.hid hr
      have HF := Lib.hid hs.drop
      clear hs HS hz0 hz1 hz2 hr d0 d1 d2 d3 d4 d5 q0 q1 q2 hk hk3
      rw [show ((3 : Nat) : Int) = 3 from rfl]
      (try dsimp only); repeat' (first | go_values | go_skip | go_guarded | go_step | go_upon | go_back)
      go_ret
      exact ⟨by rw [HR.out]; rfl, HF.out⟩
set_option maxRecDepth 100000 in
set_option maxHeartbeats 8000000 in
theorem best1_any {w0 w : World} {L : List Thing} (x y : OvM) (h : Sep w0 L w) (hx : VsO x) (hy : VsO y) (bx : BdO x) (bd : BdO y) :
    Calls Tryd.prog 34 #[ovV x, ovV y] w fun e w' => e = .returned (.int .i64 (cmpO x y)) ∧ Sep w0 L w' := by
  have HG : ∀ (g : Nat) (w : World) (M : List Thing), Sep w0 (Cl g #[.func (.func 36) #[ovV x] #[], .func (.func 37) #[ovV x] #[], .func (.func 38) #[ovV x] #[]] 80 :: M) w → Calls Tryd.prog 35 #[ovV y, .slice (some ⟨g, 0, none⟩) 3 3] w fun e w' => e = .returned (.int .i64 (cmpO x y)) ∧ Sep w0 (Cl g #[.func (.func 36) #[ovV x] #[], .func (.func 37) #[ovV x] #[], .func (.func 38) #[ovV x] #[]] 80 :: M) w' := fun g w M h => against_any x y g h hx hy bx bd
  generalize cmpO x y = C at *
  obtain ⟨xf, xl, xb, xc, xv, xp⟩ := x
  obtain ⟨xa, xk, hx⟩ := hx
  obtain ⟨yf, yl, yb, yc, yv, yp⟩ := y
  obtain ⟨ya, yk, hy⟩ := hy
  dsimp only at hx hy
  subst hx hy
  have h1 := ((h.alloc (.cells #[.int .i64 xf, .int .i64 xl, .int .i64 xb, .slice none 0 0, .slice xa xp.length xk, .int .i64 xc] 68)).alloc (.cells #[.int .i64 yf, .int .i64 yl, .int .i64 yb, .slice none 0 0, .slice ya yp.length yk, .int .i64 yc] 68))
  rw [show (w.alloc (.cells #[.int .i64 xf, .int .i64 xl, .int .i64 xb, .slice none 0 0, .slice xa xp.length xk, .int .i64 xc] 68)).heap.size = w.heap.size + 1 by simp] at h1
  obtain ⟨d0, d1, d2, d3, d4, d5⟩ := cells6 h1
  obtain ⟨e0, e1, e2, e3, e4, e5⟩ := cells6 h1.sw2
  have h2 := h1.alloc (.cells #[.func (.func 36) #[.agg #[.int .i64 xf, .int .i64 xl, .int .i64 xb, .slice none 0 0, .slice xa xp.length xk, .int .i64 xc]] #[], .func (.func 37) #[.agg #[.int .i64 xf, .int .i64 xl, .int .i64 xb, .slice none 0 0, .slice xa xp.length xk, .int .i64 xc]] #[], .func (.func 38) #[.agg #[.int .i64 xf, .int .i64 xl, .int .i64 xb, .slice none 0 0, .slice xa xp.length xk, .int .i64 xc]] #[]] 80)
  rw [show ((w.alloc (.cells #[.int .i64 xf, .int .i64 xl, .int .i64 xb, .slice none 0 0, .slice xa xp.length xk, .int .i64 xc] 68)).alloc (.cells #[.int .i64 yf, .int .i64 yl, .int .i64 yb, .slice none 0 0, .slice ya yp.length yk, .int .i64 yc] 68)).heap.size = w.heap.size + 2 by simp] at h2
  unfold ovV ovC at HG
  dsimp only at HG
  have HA := Lib.hid (HG _ _ _ h2)
  clear HG h h1 h2 bx bd
  unfold ovV ovC
  dsimp only
  go_enter Tryd.func34, Tryd.ntmps34
  (try dsimp only); repeat' (first | go_values | go_skip | go_guarded | go_step | go_upon | go_back)
  trace_state
  refine HA.out.mono ?_
  rintro r0 w2 ⟨rfl, h2⟩
  have HF := Lib.hid h2.drop.drop.drop
  clear h2 HA d0 d1 d2 d3 d4 d5 e0 e1 e2 e3 e4 e5
  (try dsimp only); repeat' (first | go_values | go_skip | go_guarded | go_step | go_upon | go_back)
  go_ret
  exact ⟨rfl, HF.out⟩
end Go.Proofs.YthgndegjiodopaaDoor
