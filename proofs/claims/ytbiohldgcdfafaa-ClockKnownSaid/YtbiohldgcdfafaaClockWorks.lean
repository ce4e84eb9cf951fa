/- The closed example of the clock's layer, and ClockLate. -/
import Derived.Test.YtbiohldgcdfafaaClock
import Derived.Test.YtbiohldgcdfafaaBring
namespace Go.Proofs.Ytbiohldgcdfafaa
open Go.RowKit
set_option linter.unusedVariables false

theorem tick_at (g : Nat) (l p q : Int) (b : Bool) (w : World) (h : Ck w g l p) (hl : 1 ≤ l) (hl2 : l ≤ 1000) (hp : 0 ≤ p) (hp2 : p ≤ l) (hb : decide (l ≤ p + 1) = b) (hq : min (p + 1) l = q) :
    Calls Try.prog 10 #[.pointer (some ⟨g, 0, none⟩)] w fun e w' => e = .returned (.bool b) ∧ Ck w' g l q ∧ Upd g w w' := by
  subst hb; subst hq; exact ctick_ok g l p w h hl hl2 hp hp2
theorem left_at (g : Nat) (l p r : Int) (w : World) (h : Ck w g l p) (hl : 1 ≤ l) (hl2 : l ≤ 1000) (hp : 0 ≤ p) (hp2 : p ≤ l) (hr : l - p = r) :
    Calls Try.prog 14 #[.pointer (some ⟨g, 0, none⟩)] w fun e w' => e = .returned (.int .i64 r) ∧ Ck w' g l p ∧ Upd g w w' := by
  subst hr
  refine (left_ok g l p w h hl hl2 hp hp2).mono ?_
  rintro e w' ⟨rfl, n, rfl⟩
  exact ⟨rfl, h, (Upd.refl g w).drewN n⟩

theorem works_any (w : World) : Calls Try.prog 18 #[] w fun e w' => e = .returned (.bool true) ∧ Below w.heap.size w w' := by
  go_enter Try.func18, Try.ntmps18
  go_wp2_with fail
  refine (cnew_ok 3 _ (by omega) (by omega)).mono ?_
  rintro r0 w1 ⟨⟨g, rfl, hg, hk⟩, hb1⟩
  have Hk := Lib.hid hk
  clear hk
  go_wp2_with fail
  refine (cnew_no 0 _ (by omega)).mono ?_
  rintro r0 w2 ⟨rfl, rfl⟩
  go_wp2_with fail
  refine (cnew_no 1001 _ (by omega)).mono ?_
  rintro r0 w2 ⟨rfl, rfl⟩
  go_wp2_with fail
  refine (tick_at g 3 0 1 false _ Hk.out (by omega) (by omega) (by omega) (by omega) rfl rfl).mono ?_
  rintro r0 w2 ⟨rfl, hk2, hu2⟩
  have Hk2 := Lib.hid hk2
  have hb2 : Below w.heap.size w w2 := hb1.trans (hu2.below hg hb1.size)
  clear hk2 hu2 hb1 Hk
  go_wp2_with fail
  refine (tick_at g 3 1 2 false _ Hk2.out (by omega) (by omega) (by omega) (by omega) rfl rfl).mono ?_
  rintro r0 w3 ⟨rfl, hk3, hu3⟩
  have Hk3 := Lib.hid hk3
  have hb3 : Below w.heap.size w w3 := hb2.trans (hu3.below hg hb2.size)
  clear hk3 hu3 hb2 Hk2
  go_wp2_with fail
  refine (left_at g 3 2 1 _ Hk3.out (by omega) (by omega) (by omega) (by omega) rfl).mono ?_
  rintro r0 w4 ⟨rfl, hk4, hu4⟩
  have Hk4 := Lib.hid hk4
  have hb4 : Below w.heap.size w w4 := hb3.trans (hu4.below hg hb3.size)
  clear hk4 hu4 hb3 Hk3
  go_wp2_with fail
  refine (tick_at g 3 2 3 true _ Hk4.out (by omega) (by omega) (by omega) (by omega) rfl rfl).mono ?_
  rintro r0 w5 ⟨rfl, hk5, hu5⟩
  have Hk5 := Lib.hid hk5
  have hb5 : Below w.heap.size w w5 := hb4.trans (hu5.below hg hb4.size)
  clear hk5 hu5 hb4 Hk4
  go_wp2_with fail
  refine (tick_at g 3 3 3 true _ Hk5.out (by omega) (by omega) (by omega) (by omega) rfl rfl).mono ?_
  rintro r0 w6 ⟨rfl, hk6, hu6⟩
  have Hk6 := Lib.hid hk6
  have hb6 : Below w.heap.size w w6 := hb5.trans (hu6.below hg hb5.size)
  clear hk6 hu6 hb5 Hk5
  go_wp2_with fail
  refine (left_at g 3 3 0 _ Hk6.out (by omega) (by omega) (by omega) (by omega) rfl).mono ?_
  rintro r0 w7 ⟨rfl, hk7, hu7⟩
  have Hk7 := Lib.hid hk7
  have hb7 : Below w.heap.size w w7 := hb6.trans (hu7.below hg hb6.size)
  clear hk7 hu7 hb6 Hk6
  go_wp2_with fail
  refine (creset_ok g 3 3 _ Hk7.out (by omega)).mono ?_
  rintro r0 w8 ⟨⟨x, rfl⟩, hk8, hu8⟩
  have Hk8 := Lib.hid hk8
  have hb8 : Below w.heap.size w w8 := hb7.trans (hu8.below hg hb7.size)
  clear hk8 hu8 hb7 Hk7
  go_wp2_with fail
  refine (left_at g 3 0 3 _ Hk8.out (by omega) (by omega) (by omega) (by omega) rfl).mono ?_
  rintro r0 w9 ⟨rfl, hk9, hu9⟩
  have hb9 : Below w.heap.size w w9 := hb8.trans (hu9.below hg hb8.size)
  clear hk9 hu9
  go_wp2
  go_ret
  exact ⟨rfl, hb9⟩
end Go.Proofs.Ytbiohldgcdfafaa
