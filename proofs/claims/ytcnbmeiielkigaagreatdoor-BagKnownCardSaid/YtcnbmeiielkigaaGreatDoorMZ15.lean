/- Package item: ParseRes. -/
import Derived.Test.YtcnbmeiielkigaaGreatDoorMItem9
import Derived.Test.YtcnbmeiielkigaaGreatDoorMZ03
import Derived.Test.YtcnbmeiielkigaaGreatDoorMZ12
import Derived.Test.YtcnbmeiielkigaaGreatDoorMZ09
import Derived.Test.YtcnbmeiielkigaaGreatDoorMZ01
namespace Go.Proofs.YtcnbmeiielkigaaGreatDoor
open Go.RowKit
set_option linter.unusedVariables false
set_option linter.unusedSimpArgs false
theorem cells3 {w0 w : World} {b : Nat} {v0 v1 v2 : Value} {t : TypeId} {L : List Thing} (h : Sep w0 (Cl b #[v0, v1, v2] t :: L) w) :
  w.cell? ⟨b, 0, none⟩ = some v0 ∧ w.cell? ⟨b, 1, none⟩ = some v1 ∧ w.cell? ⟨b, 2, none⟩ = some v2 := ⟨h.cell rfl, h.cell rfl, h.cell rfl⟩
end Go.Proofs.YtcnbmeiielkigaaGreatDoor
/- The document's own item: Copy, CheckRes. -/
namespace Go.Proofs.YtcnbmeiielkigaaGreatDoor
open Go.RowKit
set_option linter.unusedVariables false
set_option linter.unusedSimpArgs false
theorem resB_eq (k a b : Int) : resB k a b = (wthB k 0 6 && wthB a 0 2147483647 && wthB b 0 2147483647) := by
 unfold resB wthB
 rw [Bool.eq_iff_iff]
 simp only [decide_eq_true_eq, Bool.and_eq_true]
 omega
set_option maxHeartbeats 4000000 in
theorem rres_any {w0 w : World} {L : List Thing} (k a b : Int) (h : Sep w0 L w) :
  Calls Tryz.prog 75 #[.agg #[.int .i64 k, .int .i64 a, .int .i64 b]] w fun e w' => e = .returned (.int .i64 (okE (resB k a b))) ∧ Sep w0 L w' := by
 have H1 := Lib.hid (h.alloc0 (.cells #[.int .i64 k, .int .i64 a, .int .i64 b] 34))
 have HK := Lib.hid (fun wx => within_any k 0 6 wx)
 have HA := Lib.hid (fun wx => within_any a 0 2147483647 wx)
 have HB := Lib.hid (fun wx => within_any b 0 2147483647 wx)
 rw [resB_eq]
 clear h
 cases e1 : wthB k 0 6 with
 | false =>
  rw [e1] at HK
  clear e1
  go_enter Tryz.func75, Tryz.ntmps75
  go_wp2_with ((with_reducible refine (HK.out _).mono ?_); rintro r9 w9 ⟨rfl, rfl⟩)
  go_ret
  exact ⟨rfl, H1.out⟩
 | true =>
  rw [e1] at HK
  clear e1
  cases e2 : wthB a 0 2147483647 with
  | false =>
   rw [e2] at HA
   clear e2
   go_enter Tryz.func75, Tryz.ntmps75
   go_wp2_with (first | ((with_reducible refine (HK.out _).mono ?_); rintro r9 w9 ⟨rfl, rfl⟩) | ((with_reducible refine (HA.out _).mono ?_); rintro r9 w9 ⟨rfl, rfl⟩))
   go_ret
   exact ⟨rfl, H1.out⟩
  | true =>
   rw [e2] at HA
   clear e2
   cases e3 : wthB b 0 2147483647 with
   | false =>
    rw [e3] at HB
    clear e3
    go_enter Tryz.func75, Tryz.ntmps75
    go_wp2_with (first | ((with_reducible refine (HK.out _).mono ?_); rintro r9 w9 ⟨rfl, rfl⟩) | ((with_reducible refine (HA.out _).mono ?_); rintro r9 w9 ⟨rfl, rfl⟩) | ((with_reducible refine (HB.out _).mono ?_); rintro r9 w9 ⟨rfl, rfl⟩))
    go_ret
    exact ⟨rfl, H1.out⟩
   | true =>
    rw [e3] at HB
    clear e3
    go_enter Tryz.func75, Tryz.ntmps75
    go_wp2_with (first | ((with_reducible refine (HK.out _).mono ?_); rintro r9 w9 ⟨rfl, rfl⟩) | ((with_reducible refine (HA.out _).mono ?_); rintro r9 w9 ⟨rfl, rfl⟩) | ((with_reducible refine (HB.out _).mono ?_); rintro r9 w9 ⟨rfl, rfl⟩))
    go_ret
    exact ⟨rfl, H1.out⟩
end Go.Proofs.YtcnbmeiielkigaaGreatDoor
/- Contract of bits.Put. -/
namespace Go.Proofs.YtcnbmeiielkigaaGreatDoor
open Go.RowKit
set_option linter.unusedVariables false

end Go.Proofs.YtcnbmeiielkigaaGreatDoor
/- Rotations and reversals, bit by bit: plain mathematics. -/
namespace Go.Proofs.YtcnbmeiielkigaaGreatDoor
open Go.RowKit

end Go.Proofs.YtcnbmeiielkigaaGreatDoor
/- Contracts of the document's answer for layer 1: the functions that write. -/
namespace Go.Proofs.YtcnbmeiielkigaaGreatDoor
open Go.RowKit
set_option linter.unusedVariables false

end Go.Proofs.YtcnbmeiielkigaaGreatDoor
