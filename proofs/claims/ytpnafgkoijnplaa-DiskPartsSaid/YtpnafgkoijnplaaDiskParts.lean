/- The walk of DiskParts. -/
import Derived.Test.YtpnafgkoijnplaaDisk4
import Derived.Test.YtpnafgkoijnplaaBring
import Derived.Test.YtpnafgkoijnplaaSlPart2
namespace Go.Proofs.Ytpnafgkoijnplaa
open Go.RowKit
set_option linter.unusedVariables false
def ptr (g : Nat) : Value := .pointer (some ⟨g, 0, none⟩)
/-- Four pointers, the newest first in gs. -/
def arr4 (gs : List Nat) : Array Value := (gs.reverse.map ptr ++ List.replicate (4 - gs.length) (Value.pointer none)).toArray
theorem arr4_size (gs : List Nat) (h : gs.length ≤ 4) : (arr4 gs).size = 4 := by simp [arr4]; omega
theorem arr4_set (gs : List Nat) (g : Nat) (h : gs.length < 4) : (arr4 gs).setIfInBounds gs.length (ptr g) = arr4 (g :: gs) := by
  unfold arr4
  rw [List.setIfInBounds_toArray]
  congr 1
  rw [List.set_append, if_neg (by simp)]
  simp only [List.length_map, List.length_reverse, Nat.sub_self, List.length_cons, List.reverse_cons, List.map_append, List.map_cons, List.map_nil, List.append_assoc]
  rw [show 4 - gs.length = (4 - (gs.length + 1)) + 1 by omega]
  rfl
theorem arr4_get (gs : List Nat) (g : Nat) (h : gs.length < 4) : (arr4 (g :: gs))[gs.length]? = some (ptr g) := by
  rw [← arr4_set gs g h]
  have := arr4_size gs (by omega)
  simp [this, h]
theorem arr4_old (gs : List Nat) (h : gs.length < 4) : (arr4 gs)[gs.length]? = some (.pointer none) := by
  unfold arr4
  rw [List.getElem?_toArray, List.getElem?_append_right (by simp), List.length_map, List.length_reverse, Nat.sub_self, List.getElem?_replicate, if_pos (by omega)]
theorem br_nat (i : Int) (k : Nat) : ∃ x : Nat, i % ((k : Int) + 1) = (x : Int) ∧ x ≤ k := by
  have h1 := Int.emod_nonneg i (show ((k : Int) + 1) ≠ 0 by omega)
  have h2 := Int.emod_lt_of_pos i (show 0 < ((k : Int) + 1) by omega)
  exact ⟨(i % ((k : Int) + 1)).toNat, by omega, by omega⟩
abbrev dk (l : List UInt8) (g : Nat) : Thing := DiskT g ⟨l, [], [], false, none⟩
set_option maxRecDepth 8000 in
set_option maxHeartbeats 12000000 in
theorem parts_any (a : Option Addr) (c : Nat) (l : List UInt8) (n0 n1 : Int) (w : World) (h : Sl w (.slice a l.length c) (bv l)) (hlc : l.length ≤ c) (hcm : c ≤ maxLen) :
    Calls Try.prog 6 #[.slice a l.length c, .agg #[.int .i64 n0, .int .i64 n1]] w fun e w' => e = .returned (.bool true) ∧ Below w.heap.size w w' := by
  obtain ⟨m, hm, hmin, hm300⟩ : ∃ m : Nat, m ≤ l.length ∧ (if (300 : Int) < (l.length : Int) then (300 : Int) else (l.length : Int)) = (m : Int) ∧ m ≤ 300 := by
    by_cases hl : l.length ≤ 300
    · exact ⟨l.length, Nat.le_refl _, by rw [if_neg (by omega)], hl⟩
    · exact ⟨300, by omega, by rw [if_pos (by omega)]; rfl, Nat.le_refl _⟩
  have hp := sl_pre h hm
  obtain ⟨b, hb⟩ : ∃ b, b = l.take m := ⟨_, rfl⟩
  have hbl : b.length = m := by rw [hb, List.length_take]; omega
  rw [← hb] at hp
  obtain ⟨x, hx, hxm⟩ := br_nat n0 m
  obtain ⟨y, hy, hym⟩ := br_nat n1 (m - x)
  rw [show ((m - x : Nat) : Int) = (m : Int) - (x : Int) by omega] at hy
  have hB1 : ∀ wx : World, Calls Try.prog 16 #[.int .i64 n0, .int .i64 ((m : Int) + 1)] wx fun e w' => e = .returned (.int .i64 (x : Int)) ∧ wx = w' := fun wx => by
    have := bring_any n0 ((m : Int) + 1) wx (by unfold Sm; omega)
    rwa [hx] at this
  have hB2 : ∀ wx : World, Calls Try.prog 16 #[.int .i64 n1, .int .i64 ((m : Int) - (x : Int) + 1)] wx fun e w' => e = .returned (.int .i64 (y : Int)) ∧ wx = w' := fun wx => by
    have := bring_any n1 ((m : Int) - (x : Int) + 1) wx (by unfold Sm; omega)
    rwa [hy] at this
  have HB1 := Lib.hid hB1
  have HB2 := Lib.hid hB2
  have HP := Lib.hid hp
  have HL := Lib.hid hbl
  have hmc : m ≤ c := by omega
  unfold maxLen at hcm
  clear hB1 hB2 hp hx hy h hb hbl hm hlc
  go_enter Try.func6, Try.ntmps6
  go_wp2_with fail
  refine (HB1.out _).mono ?_
  rintro r0 w1 ⟨rfl, rfl⟩
  go_wp2_with fail
  refine (HB2.out _).mono ?_
  rintro r0 w1 ⟨rfl, rfl⟩
  go_wp2_with fail
  have hs0 := ((Sep.start w).alloc0 (.cells #[.int .i64 n0, .int .i64 n1] 44)).alloc (.cells (arr4 []) 47)
  rw [show (w.alloc (.cells #[.int .i64 n0, .int .i64 n1] 44)).heap.size = w.heap.size + 1 by simp] at hs0
  obtain ⟨p, hp⟩ : ∃ p, p = w.heap.size + 1 := ⟨_, rfl⟩
  rw [← hp] at hs0 ⊢
  have hpl : w.heap.size ≤ p := by omega
  clear hp HB1 HB2
  have HS0 := Lib.hid hs0
  clear hs0
  go_loopw [8] (fun i wr => ∃ gs : List Nat, gs.length ≤ 4 ∧ i = .int .i64 gs.length ∧ Sep w (Cl p (arr4 gs) 47 :: gs.map (dk b)) wr) (fun i _ => 4 - (intOf i).toNat)
  case atStart => exact ⟨[], by simp, rfl, HS0.out⟩
  case round =>
    obtain ⟨gs, hg, rfl, hs⟩ := hrel
    clear HS0
    by_cases hg4 : gs.length < 4
    · have hd4 : decide ((gs.length : Int) < 4) = true := decide_eq_true (by omega)
      have hi0 : (0 : Int) ≤ (gs.length : Int) := by omega
      have hi4 : (gs.length : Int) < 4 := by omega
      go_wp2_with fail
      refine (new_any hs).mono ?_
      rintro r0 w1 ⟨g, rfl, h1⟩
      clear hs
      have k0 := h1.sw2.cell (arr4_old gs hg4)
      have k1 := h1.sw2.frozen gs.length
      have h2 := h1.sw2.setCell gs.length (ptr g)
      rw [arr4_set gs g hg4] at h2
      have k2 := h2.cell (arr4_get gs g hg4)
      have H2 := Lib.hid h2.sw2
      have HP2 := Lib.hid (HP.out.below h2.low)
      clear h1 h2
      go_wp2_with fail
      refine (append_none [] [] [] _ b H2.out HP2.out (by have := HL.out; simp; omega)).mono ?_
      rintro r0 w2 ⟨rfl, h3⟩
      have H3 := Lib.hid h3.sw2
      clear h3 H2 HP2 k0 k1 k2
      go_wp2_with fail
      go_roundw
      case rel => exact ⟨g :: gs, by simp; omega, by simp, H3.out⟩
      case measure => simp [intOf]; omega
    · have hd4 : decide ((gs.length : Int) < 4) = false := decide_eq_false (by omega)
      obtain ⟨g3, g2, g1, g0, rfl⟩ : ∃ g3 g2 g1 g0, gs = [g3, g2, g1, g0] := by
        match gs, hg, hg4 with
        | [g3, g2, g1, g0], _, _ => exact ⟨_, _, _, _, rfl⟩
        | _ :: _ :: _ :: _ :: _ :: _, h, _ => simp at h
        | [], _, h | [_], _, h | [_, _], _, h | [_, _, _], _, h => simp at h
      have k0 : wr.cell? ⟨p, 0, none⟩ = some (ptr g0) := hs.cell rfl
      have hs1 := hs.sw5
      unfold ptr at k0
      have HS := Lib.hid hs1
      clear hs hg hg4
      have e1 : (x : Int) + (y : Int) = ((x + y : Nat) : Int) := by omega
      have hle := HL.out
      have hxb : x ≤ b.length := by omega
      have hyb : y ≤ b.length - x := by omega
      have hxy : x + y ≤ b.length := by omega
      have h3h : b.length ≤ 300 := by omega
      have HX : Hid (x ≤ b.length ∧ y ≤ b.length - x ∧ x + y ≤ b.length ∧ b.length ≤ 300) := Lib.hid ⟨hxb, hyb, hxy, h3h⟩
      have HE := Lib.hid e1
      clear hle hxb hyb hxy h3h e1
      go_wp2_with fail
      refine (trim_ok b [] [] none x _ rfl HS.out (by have := HX.out; omega) (by have := HX.out; omega)).mono ?_
      rintro r0 w1 ⟨rfl, h1⟩
      have k1 : w1.cell? ⟨p, 0, none⟩ = some (.pointer (some ⟨g0, 0, none⟩)) := h1.sw2.cell rfl
      have H1 := Lib.hid h1
      clear h1 HS k0
      go_wp2_with fail
      refine (trim_ok _ [] [] none y _ rfl H1.out (by have := HX.out; simp; omega) (by have := HX.out; simp; omega)).mono ?_
      rintro r0 w2 ⟨rfl, h2⟩
      rw [List.drop_drop] at h2
      have k2 : w2.cell? ⟨p, 1, none⟩ = some (.pointer (some ⟨g1, 0, none⟩)) := h2.sw2.cell rfl
      have H2 := Lib.hid h2.sw5
      clear h2 H1 k1
      go_wp2_with fail
      refine (trim_ok _ [] [] none (x + y) _ HE.out H2.out (by have := HX.out; omega) (by have := HX.out; omega)).mono ?_
      rintro r0 w3 ⟨rfl, h3⟩
      have k3 : w3.cell? ⟨p, 2, none⟩ = some (.pointer (some ⟨g2, 0, none⟩)) := h3.sw3.cell rfl
      have H3 := Lib.hid h3.sw5
      clear h3 H2 k2
      go_wp2_with fail
      refine (trim_ok _ [] [] none x _ rfl H3.out (by have := HX.out; omega) (by have := HX.out; omega)).mono ?_
      rintro r0 w4 ⟨rfl, h4⟩
      have k4 : w4.cell? ⟨p, 2, none⟩ = some (.pointer (some ⟨g2, 0, none⟩)) := h4.sw4.cell rfl
      have H4 := Lib.hid h4
      clear h4 H3 k3
      go_wp2_with fail
      refine (cut_ok _ [] [] none y _ rfl H4.out (by have := HX.out; simp; omega) (by have := HX.out; simp; omega)).mono ?_
      rintro r0 w5 ⟨rfl, h5⟩
      have k5 : w5.cell? ⟨p, 3, none⟩ = some (.pointer (some ⟨g3, 0, none⟩)) := h5.sw4.cell rfl
      have H5 := Lib.hid h5.sw5
      clear h5 H4 k4
      go_wp2_with fail
      refine (cut_ok _ [] [] none (x + y) _ HE.out H5.out (by have := HX.out; omega) (by have := HX.out; omega)).mono ?_
      rintro r0 w6 ⟨rfl, h6⟩
      have k6 : w6.cell? ⟨p, 3, none⟩ = some (.pointer (some ⟨g3, 0, none⟩)) := h6.sw5.cell rfl
      have H6 := Lib.hid h6
      clear h6 H5 k5
      go_wp2_with fail
      refine (trim_ok _ [] [] none x _ rfl H6.out (by have := HX.out; simp; omega) (by have := HX.out; simp; omega)).mono ?_
      rintro r0 w7 ⟨rfl, h7⟩
      rw [List.drop_take, Nat.add_sub_cancel_left] at h7
      have K0 : w7.drew.cell? ⟨p, 0, none⟩ = some (.pointer (some ⟨g0, 0, none⟩)) := h7.drew.sw5.cell rfl
      have K1 : w7.drew.cell? ⟨p, 1, none⟩ = some (.pointer (some ⟨g1, 0, none⟩)) := h7.drew.sw5.cell rfl
      have K2 : w7.drew.cell? ⟨p, 2, none⟩ = some (.pointer (some ⟨g2, 0, none⟩)) := h7.drew.sw5.cell rfl
      have K3 : w7.drew.cell? ⟨p, 3, none⟩ = some (.pointer (some ⟨g3, 0, none⟩)) := h7.drew.sw5.cell rfl
      have H7 := Lib.hid h7.drew.sw4
      clear h7 H6 k6
      have hxy := HX.out
      have hle := HL.out
      have b0 : (0 : Int) ≤ (x : Int) := by omega
      have b1 : (0 : Int) ≤ (y : Int) := by omega
      have b2 : (x : Int) + (y : Int) ≤ (m : Int) := by omega
      have b3 : (m : Int) ≤ (c : Int) := by omega
      have b4 : (x : Int) ≤ (m : Int) := by omega
      obtain ⟨z, hz⟩ : ∃ z, z = x + y := ⟨_, rfl⟩
      have b5 : IntKind.i64.wrap ((x : Int) + (y : Int)) = (z : Int) := by rw [IntWalk.i64_in _ (by omega)]; omega
      have b6 : (0 : Int) ≤ (z : Int) := by omega
      have b7 : (z : Int) ≤ (m : Int) := by omega
      have b8 : (x : Int) ≤ (z : Int) := by omega
      have b9 : (z : Int) ≤ (c : Int) := by omega
      have HQ0 := Lib.hid (sl_part HP.out hle z m (by omega) (Nat.le_refl _))
      have HQ1 := Lib.hid (sl_part HP.out hle x z (by omega) (by omega))
      rw [List.take_of_length_le (by omega), hz] at HQ0
      rw [show (b.take z).drop x = (b.drop x).take y by rw [List.drop_take, show z - x = y by omega]] at HQ1
      rw [← hz] at HQ0
      rw [← hz] at H7
      clear hxy hle hz
      obtain ⟨q0, hq0⟩ : ∃ q, (if c = z then a else Option.map (fun q => q.add z) a) = q := ⟨_, rfl⟩
      obtain ⟨q1, hq1⟩ : ∃ q, (if c = x then a else Option.map (fun q => q.add x) a) = q := ⟨_, rfl⟩
      rw [hq0] at HQ0
      rw [hq1] at HQ1
      go_wp2_with fail
      go_region_held3 (fun w' => w'.cell? ⟨p, 0, none⟩ = some (.pointer (some ⟨g0, 0, none⟩)) ∧ w'.cell? ⟨p, 1, none⟩ = some (.pointer (some ⟨g1, 0, none⟩)) ∧ w'.cell? ⟨p, 2, none⟩ = some (.pointer (some ⟨g2, 0, none⟩)) ∧ w'.cell? ⟨p, 3, none⟩ = some (.pointer (some ⟨g3, 0, none⟩))) (go_keep) (first | (go_at_call_of 14 (Value.pointer (some ⟨g0, 0, none⟩)); refine Calls.mono (log_any _ H7.out (by have := HX.out; simp; omega)) ?_; rintro r0 w80 ⟨v0, rfl, h8⟩; have K00 : w80.cell? ⟨p, 0, none⟩ = some (.pointer (some ⟨g0, 0, none⟩)) := h8.sw6.cell rfl; have K10 : w80.cell? ⟨p, 1, none⟩ = some (.pointer (some ⟨g1, 0, none⟩)) := h8.sw6.cell rfl; have K20 : w80.cell? ⟨p, 2, none⟩ = some (.pointer (some ⟨g2, 0, none⟩)) := h8.sw6.cell rfl; have K30 : w80.cell? ⟨p, 3, none⟩ = some (.pointer (some ⟨g3, 0, none⟩)) := h8.sw6.cell rfl; have HE0 := Lib.hid (eqSame_any v0 _ _ w80 h8.sl (HQ0.out.below h8.low)); have H70 := Lib.hid h8.drop.sw4; clear h8) | (go_at_call_of 19 v0; refine Calls.mono HE0.out ?_; rintro r0 w9 ⟨rfl, rfl⟩) | (go_at_call_of 14 (Value.pointer (some ⟨g1, 0, none⟩)); refine Calls.mono (log_any _ H70.out (by have := HX.out; simp; omega)) ?_; rintro r0 w81 ⟨v1, rfl, h8⟩; have K01 : w81.cell? ⟨p, 0, none⟩ = some (.pointer (some ⟨g0, 0, none⟩)) := h8.sw6.cell rfl; have K11 : w81.cell? ⟨p, 1, none⟩ = some (.pointer (some ⟨g1, 0, none⟩)) := h8.sw6.cell rfl; have K21 : w81.cell? ⟨p, 2, none⟩ = some (.pointer (some ⟨g2, 0, none⟩)) := h8.sw6.cell rfl; have K31 : w81.cell? ⟨p, 3, none⟩ = some (.pointer (some ⟨g3, 0, none⟩)) := h8.sw6.cell rfl; have HE1 := Lib.hid (eqSame_any v1 _ _ w81 h8.sl (HQ0.out.below h8.low)); have H71 := Lib.hid h8.drop.sw4; clear h8) | (go_at_call_of 19 v1; refine Calls.mono HE1.out ?_; rintro r0 w9 ⟨rfl, rfl⟩) | (go_at_call_of 14 (Value.pointer (some ⟨g2, 0, none⟩)); refine Calls.mono (log_any _ H71.out (by have := HX.out; simp; omega)) ?_; rintro r0 w82 ⟨v2, rfl, h8⟩; have K02 : w82.cell? ⟨p, 0, none⟩ = some (.pointer (some ⟨g0, 0, none⟩)) := h8.sw6.cell rfl; have K12 : w82.cell? ⟨p, 1, none⟩ = some (.pointer (some ⟨g1, 0, none⟩)) := h8.sw6.cell rfl; have K22 : w82.cell? ⟨p, 2, none⟩ = some (.pointer (some ⟨g2, 0, none⟩)) := h8.sw6.cell rfl; have K32 : w82.cell? ⟨p, 3, none⟩ = some (.pointer (some ⟨g3, 0, none⟩)) := h8.sw6.cell rfl; have HE2 := Lib.hid (eqSame_any v2 _ _ w82 h8.sl (HQ1.out.below h8.low)); have H72 := Lib.hid h8.drop.sw4; clear h8) | (go_at_call_of 19 v2; refine Calls.mono HE2.out ?_; rintro r0 w9 ⟨rfl, rfl⟩) | (go_at_call_of 14 (Value.pointer (some ⟨g3, 0, none⟩)); refine Calls.mono (log_any _ H72.out (by have := HX.out; simp; omega)) ?_; rintro r0 w83 ⟨v3, rfl, h8⟩; have K03 : w83.cell? ⟨p, 0, none⟩ = some (.pointer (some ⟨g0, 0, none⟩)) := h8.sw6.cell rfl; have K13 : w83.cell? ⟨p, 1, none⟩ = some (.pointer (some ⟨g1, 0, none⟩)) := h8.sw6.cell rfl; have K23 : w83.cell? ⟨p, 2, none⟩ = some (.pointer (some ⟨g2, 0, none⟩)) := h8.sw6.cell rfl; have K33 : w83.cell? ⟨p, 3, none⟩ = some (.pointer (some ⟨g3, 0, none⟩)) := h8.sw6.cell rfl; have HE3 := Lib.hid (eqSame_any v3 _ _ w83 h8.sl (HQ1.out.below h8.low)); have H73 := Lib.hid h8.drop; clear h8) | (go_at_call_of 19 v3; refine Calls.mono HE3.out ?_; rintro r0 w9 ⟨rfl, rfl⟩) | (go_at_call 13; refine Calls.mono (works_any _) ?_; rintro r0 wa ⟨rfl, hba⟩; have HF := Lib.hid (H73.out.low.trans (hba.mono H73.out.size)); have K04 := (hba.cell (p := ⟨p, 0, none⟩) (World.block_lt_of_cell? _ _ K03)).trans K03; have K14 := (hba.cell (p := ⟨p, 1, none⟩) (World.block_lt_of_cell? _ _ K13)).trans K13; have K24 := (hba.cell (p := ⟨p, 2, none⟩) (World.block_lt_of_cell? _ _ K23)).trans K23; have K34 := (hba.cell (p := ⟨p, 3, none⟩) (World.block_lt_of_cell? _ _ K33)).trans K33; clear hba))
      clear HQ0 HQ1 HE0 HE1 HE2 HE3 H7 H70 H71 H72 H73 K00 K10 K20 K30 K01 K11 K21 K31 K02 K12 K22 K32 K03 K13 K23 K33 K04 K14 K24 K34 hq0 hq1 hmin
      go_wp2_with fail
      go_ret
      exact ⟨rfl, HF.out⟩
end Go.Proofs.Ytpnafgkoijnplaa
