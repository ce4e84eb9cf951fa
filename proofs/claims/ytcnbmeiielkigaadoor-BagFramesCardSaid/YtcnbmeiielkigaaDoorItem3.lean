/- Package item: fields, Check, CheckRes. -/
import Derived.Test.YtcnbmeiielkigaaDoorItem2
namespace Go.Proofs.YtcnbmeiielkigaaDoor
open Go.RowKit
set_option linter.unusedVariables false
set_option linter.unusedSimpArgs false
def kindsL : List Int := [0, 5, 9, 22, 2, 2, 2, 4, 1, 2]
/-- The table of kinds lies where start-up laid it. -/
def KindsAt (w : World) : Prop := 1 < w.heap.size ∧ ∀ k (hk : k < kindsL.length), w.cell? ⟨1, k, none⟩ = some (.int .i64 kindsL[k])
theorem KindsAt.below {w w' : World} (h : KindsAt w) (hb : Below w.heap.size w w') : KindsAt w' :=
  ⟨by have := hb.size; have := h.1; omega, fun k hk => by rw [hb.cell (p := ⟨1, k, none⟩) h.1]; exact h.2 k hk⟩
def fieldsOf (k : Int) : Int := if 0 ≤ k ∧ k ≤ 9 then kindsL.getD k.toNat 0 else 0
theorem fields_any (k : Int) (w : World) (h : KindsAt w) : Calls Tryd.prog 57 #[.int .i64 k] w fun e w' => e = .returned (.int .i64 (fieldsOf k)) ∧ w = w' := by
  by_cases h0 : 0 ≤ k
  · by_cases h9 : k ≤ 9
    · obtain ⟨j, rfl⟩ : ∃ j : Nat, k = j := ⟨k.toNat, by omega⟩
      have hj : j < kindsL.length := by simp [kindsL]; omega
      have hf : fieldsOf j = kindsL[j] := by
        unfold fieldsOf
        rw [if_pos ⟨h0, h9⟩, Int.toNat_natCast, List.getD_eq_getElem?_getD, List.getElem?_eq_getElem hj]
        rfl
      rw [hf]
      have c0 := h.2 j hj
      have d1 : ¬ (j : Int) < 0 := by omega
      have d2 : ¬ (9 : Int) < (j : Int) := by omega
      have d3 : (j : Int) < 10 := by omega
      generalize kindsL[j] = z at *
      clear h hj hf
      go_enter Tryd.func57, Tryd.ntmps57
      go_wp2
      go_ret
      exact ⟨rfl, rfl⟩
    · have hf : fieldsOf k = 0 := by unfold fieldsOf; rw [if_neg (by omega)]
      rw [hf]
      clear h
      go_enter Tryd.func57, Tryd.ntmps57
      go_wp2
      go_ret
      exact ⟨rfl, rfl⟩
  · have hf : fieldsOf k = 0 := by unfold fieldsOf; rw [if_neg (by omega)]
    rw [hf]
    clear h
    go_enter Tryd.func57, Tryd.ntmps57
    go_wp2
    go_ret
    exact ⟨rfl, rfl⟩
/-- The classes of kinds by what they have. -/
def Cls (h : Int) : Prop := h = 5 ∨ h = 9 ∨ h = 22 ∨ h = 2 ∨ h = 4 ∨ h = 1
def cntB (h n : Int) : Bool := if h = 5 ∨ h = 22 ∨ h = 4 then qtyB n else if h = 9 then chgB n else decide (n = 0)
theorem isCount_any (h n : Int) (w : World) (hc : Cls h) : Calls Tryd.prog 61 #[.int .i64 h, .int .i64 n] w fun e w' => e = .returned (.bool (cntB h n)) ∧ w = w' := by
  have HQ := Lib.hid (isQty_any n w)
  have HC := Lib.hid (isChange_any n w)
  rcases hc with rfl | rfl | rfl | rfl | rfl | rfl
  · rw [show cntB 5 n = qtyB n from rfl]
    go_enter Tryd.func61, Tryd.ntmps61
    go_wp2_with fail
    refine HQ.out.mono ?_
    rintro r0 w1 ⟨rfl, rfl⟩
    go_wp2_with fail
    go_ret
    exact ⟨rfl, rfl⟩
  · rw [show cntB 9 n = chgB n from rfl]
    go_enter Tryd.func61, Tryd.ntmps61
    go_wp2_with fail
    refine HC.out.mono ?_
    rintro r0 w1 ⟨rfl, rfl⟩
    go_wp2_with fail
    go_ret
    exact ⟨rfl, rfl⟩
  · rw [show cntB 22 n = qtyB n from rfl]
    go_enter Tryd.func61, Tryd.ntmps61
    go_wp2_with fail
    refine HQ.out.mono ?_
    rintro r0 w1 ⟨rfl, rfl⟩
    go_wp2_with fail
    go_ret
    exact ⟨rfl, rfl⟩
  · have hz : cntB 2 n = (n == 0) := by simp [cntB]; rfl
    rw [hz]
    go_enter Tryd.func61, Tryd.ntmps61
    go_wp2_with fail
    go_ret
    exact ⟨rfl, rfl⟩
  · rw [show cntB 4 n = qtyB n from rfl]
    go_enter Tryd.func61, Tryd.ntmps61
    go_wp2_with fail
    refine HQ.out.mono ?_
    rintro r0 w1 ⟨rfl, rfl⟩
    go_wp2_with fail
    go_ret
    exact ⟨rfl, rfl⟩
  · have hz : cntB 1 n = (n == 0) := by simp [cntB]; rfl
    rw [hz]
    go_enter Tryd.func61, Tryd.ntmps61
    go_wp2_with fail
    go_ret
    exact ⟨rfl, rfl⟩
end Go.Proofs.YtcnbmeiielkigaaDoor
