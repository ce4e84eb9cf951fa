/- Package choose: which of two offers is better. -/
import Derived.Test.YthgndegjiodopaaDoorCho4
namespace Go.Proofs.YthgndegjiodopaaDoor
open Go.RowKit
set_option linter.unusedVariables false
set_option linter.unusedSimpArgs false
def cmpI (a b : Int) : Int := if a < b then -1 else if b < a then 1 else 0
theorem nan_any (a : Int) (w : World) : Calls Tryd.prog 49 #[.int .i64 a] w fun e w' => e = .returned (.bool false) ∧ w = w' := by
  have h : (a != a) = false := by simp
  go_enter Tryd.func49, Tryd.ntmps49
  go_wp2
  go_ret
  exact ⟨rfl, rfl⟩
set_option maxRecDepth 100000 in
theorem cmp_any (a b : Int) (w : World) : Calls Tryd.prog 42 #[.int .i64 a, .int .i64 b] w fun e w' => e = .returned (.int .i64 (cmpI a b)) ∧ w' = w := by
  rcases Int.lt_trichotomy a b with h | h | h
  · have hc : cmpI a b = -1 := if_pos h
    rw [hc]
    clear hc
    go_enter Tryd.func42, Tryd.ntmps42
    go_wp2_with (go_at_call 49; refine (nan_any _ _).mono ?_; rintro e w' ⟨rfl, rfl⟩)
    go_ret
    exact ⟨rfl, rfl⟩
  · subst h
    have hc : cmpI a a = 0 := by unfold cmpI; rw [if_neg (by omega), if_neg (by omega)]
    rw [hc]
    clear hc
    go_enter Tryd.func42, Tryd.ntmps42
    go_wp2_with (go_at_call 49; refine (nan_any _ _).mono ?_; rintro e w' ⟨rfl, rfl⟩)
    go_ret
    exact ⟨rfl, rfl⟩
  · have hc : cmpI a b = 1 := by unfold cmpI; rw [if_neg (by omega), if_pos h]
    rw [hc]
    clear hc
    have h' : ¬ a < b := by omega
    go_enter Tryd.func42, Tryd.ntmps42
    go_wp2_with (go_at_call 49; refine (nan_any _ _).mono ?_; rintro e w' ⟨rfl, rfl⟩)
    go_ret
    exact ⟨rfl, rfl⟩
def VsO (x : OvM) : Prop := ∃ a c, x.v = .slice a x.ps.length c
theorem cells6 {w0 w : World} {b : Nat} {v0 v1 v2 v3 v4 v5 : Value} {t : TypeId} {L : List Thing} (h : Sep w0 (Cl b #[v0, v1, v2, v3, v4, v5] t :: L) w) :
    w.cell? ⟨b, 0, none⟩ = some v0 ∧ w.cell? ⟨b, 1, none⟩ = some v1 ∧ w.cell? ⟨b, 2, none⟩ = some v2 ∧ w.cell? ⟨b, 3, none⟩ = some v3 ∧ w.cell? ⟨b, 4, none⟩ = some v4 ∧ w.cell? ⟨b, 5, none⟩ = some v5 :=
  ⟨h.cell rfl, h.cell rfl, h.cell rfl, h.cell rfl, h.cell rfl, h.cell rfl⟩
set_option maxRecDepth 100000 in
set_option maxHeartbeats 4000000 in
theorem byLast_any {w0 w : World} {L : List Thing} (x y : OvM) (h : Sep w0 L w) (hx : VsO x) (hy : VsO y) :
    Calls Tryd.prog 36 #[ovV x, ovV y] w fun e w' => e = .returned (.int .i64 (cmpI y.la x.la)) ∧ Sep w0 L w' := by
  obtain ⟨xf, xl, xb, xc, xv, xp⟩ := x
  obtain ⟨yf, yl, yb, yc, yv, yp⟩ := y
  obtain ⟨xa, xk, hx⟩ := hx
  obtain ⟨ya, yk, hy⟩ := hy
  dsimp only at hx hy
  subst hx hy
  have h1 := (h.alloc (.cells (ovC ⟨xf, xl, xb, xc, .slice xa xp.length xk, xp⟩) 68)).alloc (.cells (ovC ⟨yf, yl, yb, yc, .slice ya yp.length yk, yp⟩) 68)
  unfold ovC at h1
  dsimp only at h1
  rw [show (w.alloc (.cells #[.int .i64 xf, .int .i64 xl, .int .i64 xb, .slice none 0 0, .slice xa xp.length xk, .int .i64 xc] 68)).heap.size = w.heap.size + 1 by simp] at h1
  have d1 := h1.cell (o := 1) rfl
  have c1 := h1.sw2.cell (o := 1) rfl
  have HC := Lib.hid (cmp_any yl xl)
  have H := Lib.hid h1.drop.drop
  clear h h1
  unfold ovV ovC
  dsimp only
  go_enter Tryd.func36, Tryd.ntmps36
  (try dsimp only); repeat' (first | go_values | go_skip | go_guarded | go_step | go_upon | go_back)
  refine (HC.out _).mono ?_
  rintro r0 w2 ⟨rfl, rfl⟩
  (try dsimp only); repeat' (first | go_values | go_skip | go_guarded | go_step | go_upon | go_back)
  go_ret
  exact ⟨rfl, H.out⟩
set_option maxRecDepth 100000 in
set_option maxHeartbeats 4000000 in
theorem byFrom_any {w0 w : World} {L : List Thing} (x y : OvM) (h : Sep w0 L w) (hx : VsO x) (hy : VsO y) :
    Calls Tryd.prog 38 #[ovV x, ovV y] w fun e w' => e = .returned (.int .i64 (cmpI x.fr y.fr)) ∧ Sep w0 L w' := by
  obtain ⟨xf, xl, xb, xc, xv, xp⟩ := x
  obtain ⟨yf, yl, yb, yc, yv, yp⟩ := y
  obtain ⟨xa, xk, hx⟩ := hx
  obtain ⟨ya, yk, hy⟩ := hy
  dsimp only at hx hy
  subst hx hy
  have h1 := (h.alloc (.cells (ovC ⟨xf, xl, xb, xc, .slice xa xp.length xk, xp⟩) 68)).alloc (.cells (ovC ⟨yf, yl, yb, yc, .slice ya yp.length yk, yp⟩) 68)
  unfold ovC at h1
  dsimp only at h1
  rw [show (w.alloc (.cells #[.int .i64 xf, .int .i64 xl, .int .i64 xb, .slice none 0 0, .slice xa xp.length xk, .int .i64 xc] 68)).heap.size = w.heap.size + 1 by simp] at h1
  have d1 := h1.cell (o := 0) rfl
  have c1 := h1.sw2.cell (o := 0) rfl
  have HC := Lib.hid (cmp_any xf yf)
  have H := Lib.hid h1.drop.drop
  clear h h1
  unfold ovV ovC
  dsimp only
  go_enter Tryd.func38, Tryd.ntmps38
  (try dsimp only); repeat' (first | go_values | go_skip | go_guarded | go_step | go_upon | go_back)
  refine (HC.out _).mono ?_
  rintro r0 w2 ⟨rfl, rfl⟩
  (try dsimp only); repeat' (first | go_values | go_skip | go_guarded | go_step | go_upon | go_back)
  go_ret
  exact ⟨rfl, H.out⟩
/-- Its numbers are small. -/
def BdO (x : OvM) : Prop := 0 ≤ x.ba ∧ x.ba ≤ 9007199254740991 ∧ x.ps.length ≤ 1000000
set_option maxRecDepth 100000 in
set_option maxHeartbeats 4000000 in
theorem byTop_any {w0 w : World} {L : List Thing} (x y : OvM) (h : Sep w0 L w) (hx : VsO x) (hy : VsO y) (bx : BdO x) (bd : BdO y) :
    Calls Tryd.prog 37 #[ovV x, ovV y] w fun e w' => e = .returned (.int .i64 (cmpI y.top x.top)) ∧ Sep w0 L w' := by
  obtain ⟨xf, xl, xb, xc, xv, xp⟩ := x
  obtain ⟨yf, yl, yb, yc, yv, yp⟩ := y
  obtain ⟨xa, xk, hx⟩ := hx
  obtain ⟨ya, yk, hy⟩ := hy
  dsimp only at hx hy
  subst hx hy
  obtain ⟨i0, i1, i2⟩ := bx
  obtain ⟨j0, j1, j2⟩ := bd
  dsimp only at i0 i1 i2 j0 j1 j2
  have h1 := (h.alloc (.cells #[.int .i64 xf, .int .i64 xl, .int .i64 xb, .slice none 0 0, .slice xa xp.length xk, .int .i64 xc] 68)).alloc (.cells #[.int .i64 yf, .int .i64 yl, .int .i64 yb, .slice none 0 0, .slice ya yp.length yk, .int .i64 yc] 68)
  rw [show (w.alloc (.cells #[.int .i64 xf, .int .i64 xl, .int .i64 xb, .slice none 0 0, .slice xa xp.length xk, .int .i64 xc] 68)).heap.size = w.heap.size + 1 by simp] at h1
  obtain ⟨b1, hb1⟩ : ∃ q, q = w.heap.size := ⟨_, rfl⟩
  obtain ⟨b2, hb2⟩ : ∃ q, q = w.heap.size + 1 := ⟨_, rfl⟩
  obtain ⟨v1, hw1⟩ : ∃ q, q = (w.alloc (.cells #[.int .i64 xf, .int .i64 xl, .int .i64 xb, .slice none 0 0, .slice xa xp.length xk, .int .i64 xc] 68)).alloc (.cells #[.int .i64 yf, .int .i64 yl, .int .i64 yb, .slice none 0 0, .slice ya yp.length yk, .int .i64 yc] 68) := ⟨_, rfl⟩
  rw [← hw1, ← hb2, ← hb1] at h1
  have h0 := h1.drew
  have g0 : v1.drew.cell? ⟨b2, 2, none⟩ = some (.int .i64 yb) ∧ v1.drew.cell? ⟨b2, 3, none⟩ = some (.slice none 0 0) ∧ v1.drew.cell? ⟨b2, 4, none⟩ = some (.slice ya yp.length yk) ∧ v1.drew.cell? ⟨b2, 5, none⟩ = some (.int .i64 yc) ∧ v1.drew.cell? ⟨b1, 2, none⟩ = some (.int .i64 xb) ∧ v1.drew.cell? ⟨b1, 3, none⟩ = some (.slice none 0 0) ∧ v1.drew.cell? ⟨b1, 4, none⟩ = some (.slice xa xp.length xk) ∧ v1.drew.cell? ⟨b1, 5, none⟩ = some (.int .i64 xc) := by obtain ⟨_, _, p2, p3, p4, p5⟩ := cells6 h0; obtain ⟨_, _, q2, q3, q4, q5⟩ := cells6 h0.sw2; exact ⟨p2, p3, p4, p5, q2, q3, q4, q5⟩
  have HT1 : Hid (∀ w, Sep w0 (Cl b2 #[.int .i64 yf, .int .i64 yl, .int .i64 yb, .slice none 0 0, .slice ya yp.length yk, .int .i64 yc] 68 :: Cl b1 #[.int .i64 xf, .int .i64 xl, .int .i64 xb, .slice none 0 0, .slice xa xp.length xk, .int .i64 xc] 68 :: L) w → Calls Tryd.prog 28 #[.agg #[.int .i64 yb, .slice none 0 0, .slice ya yp.length yk, .int .i64 yc]] w fun e w' => e = .returned (.int .i64 (yb + yp.length)) ∧ Sep w0 (Cl b2 #[.int .i64 yf, .int .i64 yl, .int .i64 yb, .slice none 0 0, .slice ya yp.length yk, .int .i64 yc] 68 :: Cl b1 #[.int .i64 xf, .int .i64 xl, .int .i64 xb, .slice none 0 0, .slice xa xp.length xk, .int .i64 xc] 68 :: L) w') := Lib.hid fun w h => top_any yb yc (.slice none 0 0) ya yp.length yk h j0 j1 j2
  have HT2 : Hid (∀ w, Sep w0 (Cl b2 #[.int .i64 yf, .int .i64 yl, .int .i64 yb, .slice none 0 0, .slice ya yp.length yk, .int .i64 yc] 68 :: Cl b1 #[.int .i64 xf, .int .i64 xl, .int .i64 xb, .slice none 0 0, .slice xa xp.length xk, .int .i64 xc] 68 :: L) w → Calls Tryd.prog 28 #[.agg #[.int .i64 xb, .slice none 0 0, .slice xa xp.length xk, .int .i64 xc]] w fun e w' => e = .returned (.int .i64 (xb + xp.length)) ∧ Sep w0 (Cl b2 #[.int .i64 yf, .int .i64 yl, .int .i64 yb, .slice none 0 0, .slice ya yp.length yk, .int .i64 yc] 68 :: Cl b1 #[.int .i64 xf, .int .i64 xl, .int .i64 xb, .slice none 0 0, .slice xa xp.length xk, .int .i64 xc] 68 :: L) w') := Lib.hid fun w h => top_any xb xc (.slice none 0 0) xa xp.length xk h i0 i1 i2
  have HC := Lib.hid (cmp_any (yb + yp.length) (xb + xp.length))
  clear h h1 i0 i1 i2 j0 j1 j2
  unfold ovV ovC OvM.top
  dsimp only
  go_enter Tryd.func37, Tryd.ntmps37
  (try dsimp only); repeat' (first | go_values | go_skip | go_guarded | go_step | go_upon | go_back)
  rw [← hw1, ← hb2, ← hb1]
  clear hw1 hb1 hb2
  (try dsimp only); repeat' (first | go_values | go_skip | go_guarded | go_step | go_upon | go_back)
  refine wp_region_G (fun w' => w'.cell? ⟨b2, 2, none⟩ = some (.int .i64 yb) ∧ w'.cell? ⟨b2, 3, none⟩ = some (.slice none 0 0) ∧ w'.cell? ⟨b2, 4, none⟩ = some (.slice ya yp.length yk) ∧ w'.cell? ⟨b2, 5, none⟩ = some (.int .i64 yc) ∧ w'.cell? ⟨b1, 2, none⟩ = some (.int .i64 xb) ∧ w'.cell? ⟨b1, 3, none⟩ = some (.slice none 0 0) ∧ w'.cell? ⟨b1, 4, none⟩ = some (.slice xa xp.length xk) ∧ w'.cell? ⟨b1, 5, none⟩ = some (.int .i64 xc)) [] (by kernel_rfl) g0 (fun hS => ?_)
  try dsimp only at hS
  refine wpAnyG_take' (i := 0) (v := ?v0_1t) rfl (by kernel_rfl) (by kernel_rfl) (by kernel_rfl) (by kernel_rfl) (fun _ _ _ h => h) (Or.inl ⟨by rfl, ?hy0_1t⟩) hS ?rest0_1t
  case hy0_1t => intro w hSw; (try dsimp only at hSw); go_simp; (try with_reducible rfl)
  case rest0_1t =>
  try simp only [List.getElem_toArray, List.getElem_cons_succ, List.getElem_cons_zero, Act.put, List.setIfInBounds_toArray, List.set_cons_zero, List.set_cons_succ]
  refine wpAnyG_take' (i := 1) (v := ?v1_2t) rfl (by kernel_rfl) (by kernel_rfl) (by kernel_rfl) (by kernel_rfl) (fun _ _ _ h => h) (Or.inl ⟨by rfl, ?hy1_2t⟩) hS ?rest1_2t
  case hy1_2t => intro w hSw; (try dsimp only at hSw); go_simp; (try with_reducible rfl)
  case rest1_2t =>
  try simp only [List.getElem_toArray, List.getElem_cons_succ, List.getElem_cons_zero, Act.put, List.setIfInBounds_toArray, List.set_cons_zero, List.set_cons_succ]
  refine wpAnyG_take' (i := 3) (v := ?v3_3t) rfl (by kernel_rfl) (by kernel_rfl) (by kernel_rfl) (by kernel_rfl) (fun _ _ _ h => h) (Or.inl ⟨by rfl, ?hy3_3t⟩) hS ?rest3_3t
  case hy3_3t => intro w hSw; (try dsimp only at hSw); go_simp; (try with_reducible rfl)
  case rest3_3t =>
  try simp only [List.getElem_toArray, List.getElem_cons_succ, List.getElem_cons_zero, Act.put, List.setIfInBounds_toArray, List.set_cons_zero, List.set_cons_succ]
  refine wpAnyG_take' (i := 4) (v := ?v4_4t) rfl (by kernel_rfl) (by kernel_rfl) (by kernel_rfl) (by kernel_rfl) (fun _ _ _ h => h) (Or.inl ⟨by rfl, ?hy4_4t⟩) hS ?rest4_4t
  case hy4_4t => intro w hSw; (try dsimp only at hSw); go_simp; (try with_reducible rfl)
  case rest4_4t =>
  try simp only [List.getElem_toArray, List.getElem_cons_succ, List.getElem_cons_zero, Act.put, List.setIfInBounds_toArray, List.set_cons_zero, List.set_cons_succ]
  refine wpAnyG_one (i := 2) (by kernel_rfl) rfl (fun K hK => ?_)
  go_simp
  refine Calls.mono (HT1.out _ h0) ?_
  rintro r9 w5 ⟨rfl, h5⟩
  have g5 : w5.cell? ⟨b2, 2, none⟩ = some (.int .i64 yb) ∧ w5.cell? ⟨b2, 3, none⟩ = some (.slice none 0 0) ∧ w5.cell? ⟨b2, 4, none⟩ = some (.slice ya yp.length yk) ∧ w5.cell? ⟨b2, 5, none⟩ = some (.int .i64 yc) ∧ w5.cell? ⟨b1, 2, none⟩ = some (.int .i64 xb) ∧ w5.cell? ⟨b1, 3, none⟩ = some (.slice none 0 0) ∧ w5.cell? ⟨b1, 4, none⟩ = some (.slice xa xp.length xk) ∧ w5.cell? ⟨b1, 5, none⟩ = some (.int .i64 xc) := (by obtain ⟨_, _, p2, p3, p4, p5⟩ := cells6 h5; obtain ⟨_, _, q2, q3, q4, q5⟩ := cells6 h5.sw2; exact ⟨p2, p3, p4, p5, q2, q3, q4, q5⟩)
  refine hK.out _ _ (fun _ => ?hS5t) ?rest5t
  case hS5t => exact g5
  clear K hK
  try simp only [List.getElem_toArray, List.getElem_cons_succ, List.getElem_cons_zero, Act.put, List.setIfInBounds_toArray, List.set_cons_zero, List.set_cons_succ]
  refine wpAnyG_one (i := 5) (by kernel_rfl) rfl (fun K hK => ?_)
  go_simp
  refine Calls.mono (HT2.out _ h5) ?_
  rintro r9 w6 ⟨rfl, h6⟩
  have g6 : w6.cell? ⟨b2, 2, none⟩ = some (.int .i64 yb) ∧ w6.cell? ⟨b2, 3, none⟩ = some (.slice none 0 0) ∧ w6.cell? ⟨b2, 4, none⟩ = some (.slice ya yp.length yk) ∧ w6.cell? ⟨b2, 5, none⟩ = some (.int .i64 yc) ∧ w6.cell? ⟨b1, 2, none⟩ = some (.int .i64 xb) ∧ w6.cell? ⟨b1, 3, none⟩ = some (.slice none 0 0) ∧ w6.cell? ⟨b1, 4, none⟩ = some (.slice xa xp.length xk) ∧ w6.cell? ⟨b1, 5, none⟩ = some (.int .i64 xc) := (by obtain ⟨_, _, p2, p3, p4, p5⟩ := cells6 h6; obtain ⟨_, _, q2, q3, q4, q5⟩ := cells6 h6.sw2; exact ⟨p2, p3, p4, p5, q2, q3, q4, q5⟩)
  clear g5 h5 g0 h0
  refine hK.out _ _ (fun _ => ?hS6t) ?rest6t
  case hS6t => exact g6
  clear K hK
  try simp only [List.getElem_toArray, List.getElem_cons_succ, List.getElem_cons_zero, Act.put, List.setIfInBounds_toArray, List.set_cons_zero, List.set_cons_succ]
  refine wpAnyG_one (i := 6) (by kernel_rfl) rfl (fun K hK => ?_)
  go_simp
  refine Calls.mono (HC.out _) ?_
  rintro r9 w7 ⟨rfl, rfl⟩
  refine hK.out _ _ (fun _ => ?hS7t) ?rest7t
  case hS7t => exact g6
  clear K hK
  try simp only [List.getElem_toArray, List.getElem_cons_succ, List.getElem_cons_zero, Act.put, List.setIfInBounds_toArray, List.set_cons_zero, List.set_cons_succ]
  refine wpAnyG_take' (i := 7) (v := ?v7_8t) rfl (by kernel_rfl) (by kernel_rfl) (by kernel_rfl) (by kernel_rfl) (fun _ _ _ h => h) (Or.inl ⟨by rfl, ?hy7_8t⟩) g6 ?rest7_8t
  case hy7_8t => intro w hSw; (try dsimp only at hSw); go_simp; (try with_reducible rfl)
  case rest7_8t =>
  try simp only [List.getElem_toArray, List.getElem_cons_succ, List.getElem_cons_zero, Act.put, List.setIfInBounds_toArray, List.set_cons_zero, List.set_cons_succ]
  refine wpAnyG_done (by kernel_rfl) ?_ _
  try simp only [List.getElem_toArray, List.getElem_cons_succ, List.getElem_cons_zero, Act.put, List.setIfInBounds_toArray, List.set_cons_zero, List.set_cons_succ]
  have H6 := Lib.hid h6.drop.drop
  clear h6 g6
  (try dsimp only); repeat' (first | go_values | go_skip | go_guarded | go_step | go_upon | go_back)
  go_ret
  exact ⟨rfl, H6.out⟩
end Go.Proofs.YthgndegjiodopaaDoor
