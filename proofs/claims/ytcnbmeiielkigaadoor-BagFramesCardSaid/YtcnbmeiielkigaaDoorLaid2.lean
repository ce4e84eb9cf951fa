/- What the row's condition says of the table of kinds. -/
import Derived.Test.YtcnbmeiielkigaaDoorRows
import Derived.Test.YtcnbmeiielkigaaDoorPx1
import Derived.LaidMore
import Derived.ProofKit
import Derived.OpenShut
import Derived.Stop.Joined
namespace Go.Proofs.YtcnbmeiielkigaaDoor
open Go.ChangeShapes Go.WideShapes Go.ChangeAt Go.RowKit
set_option linter.unusedVariables false
abbrev laidK {H : Type} : List (String × DataW H) := [("gimbal/item.kinds", Rows.laid_gimbal_item_kinds), ("gimbal/msg.kinds", Rows.laid_gimbal_msg_kinds)]
theorem gKinds : Tryd.prog.globalNamed "gimbal/item.kinds" = some 1 := by kernel_rfl
theorem tKinds : (Tryd.prog.globals[1]?).map (·.type) = some 97 := by kernel_rfl
theorem door_met (os : Os) (args : Array Value) : laidMetH Tryd.prog laidK ((World.doorLaid Tryd.prog 400 os).forCall (fun _ _ => 0) ⟨#[], args, []⟩).memory :=
  laidMetH_of_parts3 (fuel := 8) (laidMet_of_run' 8 (by kernel_rfl) (by kernel_rfl)) (by kernel_rfl) (by kernel_rfl)
theorem gMKinds : Tryd.prog.globalNamed "gimbal/msg.kinds" = some 0 := by kernel_rfl
theorem tMKinds : (Tryd.prog.globals[0]?).map (·.type) = some 77 := by kernel_rfl
theorem kinds_of_laid {W : World} (h : laidMetH Tryd.prog laidK W) : KindsAt W ∧ MKindsAt W := by
  rw [MakeChecks.laidMetH_plain _ _ _ (by kernel_rfl)] at h
  obtain ⟨ps, ⟨g0, t0, cs0, f0, p0, q0, hg0, ht0, hv0, hd0, ⟨g1, t1, cs1, f1, p1, q1, hg1, ht1, hv1, hd1, _, _⟩, _⟩, hr, hs⟩ := h
  obtain rfl := Option.some.inj (gKinds.symm.trans hg0)
  obtain rfl := Option.some.inj (tKinds.symm.trans ht0)
  obtain rfl := Option.some.inj (gMKinds.symm.trans hg1)
  obtain rfl := Option.some.inj (tMKinds.symm.trans ht1)
  have hcA : ∀ i (hi : i < kindsL.length), W.cell? ⟨1, i, none⟩ = some (.int .i64 kindsL[i]) := by
    obtain ⟨xs, m1, rfl, hx1, hlen, hn3, hel⟩ := DataW.trod_array Tryd.underlying97 hd0
    have c3 : Tryd.prog.cellsOf 3 = 1 := by kernel_rfl
    have c24 : Tryd.prog.cellsOf 97 = 10 := by kernel_rfl
    simp only [Prod.mk.injEq] at hx1
    have hk : xs.map (·.1) = kindsL.map (fun n => DataW.lit (.int .i64 n)) := (DataW.agg.inj hx1.1).symm
    intro i hi
    have hi10 : i < 10 := by simpa [kindsL] using hi
    have h0 := hel i hi10
    rw [List.getElem?_eq_getElem (by omega)] at h0
    obtain ⟨k, e1, e2, _⟩ := DataW.trod_int Tryd.underlying3 h0
    have hx : (xs.map (·.1))[i]? = some (DataW.lit (.int .i64 kindsL[i])) := by
      rw [hk, List.getElem?_map, List.getElem?_eq_getElem hi]; rfl
    rw [List.getElem?_map, List.getElem?_eq_getElem (by omega), e2] at hx
    have hkk : k = kindsL[i] := by simpa using hx
    subst hkk
    rw [c3, Nat.mul_one] at e1
    have hlt : i < cs0.toList.length := by rw [hlen, c24]; exact hi10
    rw [List.drop_eq_getElem_cons hlt] at e1
    simp only [List.take_succ_cons, List.take_zero, List.cons.injEq, and_true] at e1
    have hv := World.var?_cell hg0 hv0 i
    have hs : i < cs0.size := by simpa using hlt
    have e3 : cs0[i] = Value.int .i64 kindsL[i] := by simpa using e1
    rw [hv, Array.getElem?_eq_getElem hs]
    exact congrArg some e3
  have hcB : ∀ i (hi : i < mkindsL.length), W.cell? ⟨0, i, none⟩ = some (.int .i64 mkindsL[i]) := by
    obtain ⟨xs, m1, rfl, hx1, hlen, hn3, hel⟩ := DataW.trod_array Tryd.underlying77 hd1
    have c3 : Tryd.prog.cellsOf 3 = 1 := by kernel_rfl
    have c24 : Tryd.prog.cellsOf 77 = 11 := by kernel_rfl
    simp only [Prod.mk.injEq] at hx1
    have hk : xs.map (·.1) = mkindsL.map (fun n => DataW.lit (.int .i64 n)) := (DataW.agg.inj hx1.1).symm
    intro i hi
    have hi10 : i < 11 := by simpa [mkindsL] using hi
    have h0 := hel i hi10
    rw [List.getElem?_eq_getElem (by omega)] at h0
    obtain ⟨k, e1, e2, _⟩ := DataW.trod_int Tryd.underlying3 h0
    have hx : (xs.map (·.1))[i]? = some (DataW.lit (.int .i64 mkindsL[i])) := by
      rw [hk, List.getElem?_map, List.getElem?_eq_getElem hi]; rfl
    rw [List.getElem?_map, List.getElem?_eq_getElem (by omega), e2] at hx
    have hkk : k = mkindsL[i] := by simpa using hx
    subst hkk
    rw [c3, Nat.mul_one] at e1
    have hlt : i < cs1.toList.length := by rw [hlen, c24]; exact hi10
    rw [List.drop_eq_getElem_cons hlt] at e1
    simp only [List.take_succ_cons, List.take_zero, List.cons.injEq, and_true] at e1
    have hv := World.var?_cell hg1 hv1 i
    have hs : i < cs1.size := by simpa using hlt
    have e3 : cs1[i] = Value.int .i64 mkindsL[i] := by simpa using e1
    rw [hv, Array.getElem?_eq_getElem hs]
    exact congrArg some e3
  have hA := World.block_lt_of_cell? W ⟨1, 0, none⟩ (by have := hcA 0 (by decide); exact this)
  have hB := World.block_lt_of_cell? W ⟨0, 0, none⟩ (by have := hcB 0 (by decide); exact this)
  exact ⟨⟨hA, hcA⟩, ⟨hB, hcB⟩⟩
end Go.Proofs.YtcnbmeiielkigaaDoor
