/- Stage 22, BagPlays: the walk. -/
import Derived.Test.YtcnbmeiielkigaaGreatDoorRows
import Derived.LaidMore
import Derived.ProofKit
import Derived.OpenShut
import Derived.Stop.Joined
import Derived.Test.YtcnbmeiielkigaaGreatDoorMZ41
import Derived.Test.YtcnbmeiielkigaaGreatDoorMZ33
import Derived.Test.YtcnbmeiielkigaaGreatDoorMZ42
import Derived.Test.YtcnbmeiielkigaaGreatDoorMZ03
namespace Go.Proofs.YtcnbmeiielkigaaGreatDoor
open Go Go.RowKit
set_option linter.unusedVariables false
set_option linter.unusedSimpArgs false
theorem msgsG_refl (qs : List MgM) (hq : ∀ g ∈ qs, (mgC g).all (·.oneCell') = true) : MsgsG (qs.map mgC) (qs.map mgC) := ⟨rfl, fun j h1 h2 => ⟨rfl, by rw [List.getElem_map]; rfl, by
 rw [List.getElem_map]
 have := hq _ (List.getElem_mem (by rw [List.length_map] at h1; exact h1))
 rw [Array.all_eq_true_iff_forall_mem] at this
 exact fun u hu => this u (by simpa using hu)⟩⟩
theorem Sep.rowMsg22 {w0 w : World} {a : Option Addr} {n c : Nat} {rs : List MgM} {L : List Thing} (h : Sep w0 (Rn 22 40 (.slice a n c) n (msCs (rs.map mgC)) :: L) w) (hq : ∀ g ∈ rs, (mgC g).all (·.oneCell') = true) (hn : rs.length = n) (j : Nat) (hj : j < rs.length) :
  ∃ bb oo, a = some ⟨bb, oo, none⟩ ∧ (Instr.loadAt 40 (.pointer (some ⟨bb, oo + j * 22, none⟩))).run Tryz.prog w = .ok (.agg (mgC rs[j])) w := by
 have h2 : Sep w0 (Ro 22 40 (.slice a n c) n (msCs (rs.map mgC)) :: L) w := h.roOf
 obtain ⟨b1, o1, e, -, hl1, -⟩ := h2.roMsgG (msgsG_refl rs hq) j (by rw [List.length_map]; exact hj) (by rw [List.length_map]; exact hn)
 rw [List.getElem_map] at hl1
 exact ⟨b1, o1, e, hl1⟩
set_option maxRecDepth 100000 in
set_option maxHeartbeats 16000000 in
theorem bplays_core {a : Option Addr} {len cap : Nat} {w : World} (hd : DosAt w a len) (hK : KindsAt w ∧ MKindsAt w) :
  Calls Tryz.prog 3 #[.slice a len cap] w fun e w' => e = .returned (.bool true) ∧ Below w.heap.size w w' := by
 have HD := Lib.hid hd
 have HK := Lib.hid hK
 have l0 : (0 : Int) ≤ (len : Int) := by omega
 have HP := Lib.hid (pnew_any (Sep.start w))
 clear hd hK
 go_enter Tryz.func3, Tryz.ntmps3
 (try dsimp only); repeat' (first | go_values | go_skip | go_guarded | go_step | go_upon | go_back)
 refine HP.out.mono ?_
 rintro r0 w1 ⟨b, rfl, h1⟩
 have HR := Lib.hid (dnew_any h1)
 clear HP h1
 (try dsimp only); repeat' (first | go_values | go_skip | go_guarded | go_step | go_upon | go_back)
 refine HR.out.mono ?_
 rintro r0 w2 ⟨b', rfl, h2⟩
 have H2 := Lib.hid (h2.sw2)
 clear HR h2
 (try dsimp only); repeat' (first | go_values | go_skip | go_guarded | go_step | go_upon | go_back)
 go_loopw [5] (fun i wr => ∃ (k : Nat) (gs hs : List MgM), k ≤ len ∧ k ≤ 100 ∧ i = .int .i64 k ∧ gs.length ≤ k ∧ SameL gs hs ∧ (∀ g ∈ gs, MOk g) ∧ (∀ g ∈ hs, MOk g) ∧ Sep w [PB b gs, DB b' hs] wr) (fun i _ => 100 - (intOf i).toNat)
 case atStart => exact ⟨0, [], [], Nat.zero_le _, by omega, rfl, Nat.le_refl _, SameL.nil, by simp, by simp, H2.out⟩
 case round =>
  obtain ⟨k, gs, hs, hkl, hk100, rfl, hgl, hsl, hog, hoh, hS⟩ := hrel
  clear H2
  have k0 : (0 : Int) ≤ (k : Int) := by omega
  have k100 : (k : Int) ≤ 100 := by omega
  have HQ := Lib.hid (And.intro hgl (And.intro hsl (And.intro hog hoh)))
  have H := Lib.hid hS
  clear hgl hsl hog hoh hS
  by_cases hgo : k < len ∧ k < 100
  ·have d0 : decide (k < len) = true := decide_eq_true hgo.1
   have d1 : decide ((k : Int) < 100) = true := decide_eq_true (by omega)
   have k1 : (k : Int) < (len : Int) := by omega
   obtain ⟨bb, off, rfl, hb, dc, kd, n, g, r, hd, hm, hcell⟩ := HD.out k hgo.1
   have hld := run_loadAt_mid (P := Tryz.prog) wr bb (off + k * 25) 42 dc.toList _ (fun j u hj => (H.out.low.cell (p := ⟨bb, off + k * 25 + j, none⟩) hb).trans (hcell j u (by simpa using hj))) Tryz.underlying42 rfl (by rw [Array.length_toList, hd.1]; kernel_rfl)
   have HL : Hid ((Instr.loadAt 42 (.pointer (some ⟨bb, off + k * 25, none⟩))).run Tryz.prog wr = .ok (.agg dc) wr) := Lib.hid (by simpa using hld)
   have HST := Lib.hid (step22_any H.out HK.out HQ.out.2.1 HQ.out.2.2.1 HQ.out.2.2.2 (by have := HQ.out.1; omega) hd hm)
   have HG := Lib.hid (And.intro hgo HQ.out.1)
   clear hld hd hm hcell hb hgo hkl hk100 H
   (try dsimp only); repeat' (first | (with_reducible show wpList _ _ _ (Oper.mk _ (Op.load 42 _) _ _ _ _ :: _) _ _; refine stopP ?_) | go_values | go_skip | go_guarded | go_step | go_upon | go_back)
   unfold StopP
   have hq_ := HL.out
   refine wpList_load_run rfl 42 _ rfl _ _ rfl hq_ ?_
   clear hq_ HL
   (try dsimp only); repeat' (first | go_values | go_skip | go_guarded | go_step | go_upon | go_back)
   refine HST.out.mono ?_
   rintro r0 w3 ⟨rfl, gs', hs', hl', hsl', hog', hoh', h3⟩
   obtain ⟨m, hm⟩ : ∃ z, z = gs'.length := ⟨_, rfl⟩
   have hmh : hs'.length = m := by rw [hm, hsl'.1]
   have hm100 : m ≤ 100 := by have := HG.out.1.2; have := HG.out.2; omega
   have m0 : (0 : Int) ≤ (m : Int) := by omega
   have m1 : (m : Int) ≤ 100 := by omega
   have HQ' : Hid (gs'.length ≤ k + 1 ∧ SameL gs' hs' ∧ (∀ g ∈ gs', MOk g) ∧ ∀ g ∈ hs', MOk g) := Lib.hid ⟨by have := HG.out.2; omega, hsl', hog', hoh'⟩
   have HL1 := plen_any h3
   have HL2 := dlen_any (h3.sw2)
   rw [hmh] at HL2
   rw [← hm] at HL1
   have HL1 := Lib.hid HL1
   have HL2 := Lib.hid HL2
   have H3 := Lib.hid h3
   have HM := Lib.hid (And.intro hm.symm (And.intro hmh hm100))
   clear HST HQ hl' hsl' hog' hoh' h3 hm hmh hm100
   (try dsimp only); repeat' (first | go_values | go_skip | go_guarded | go_step | go_upon | go_back)
   refine HL1.out.mono ?_
   rintro r0 w4 ⟨rfl, rfl⟩
   (try dsimp only); repeat' (first | go_values | go_skip | go_guarded | go_step | go_upon | go_back)
   refine HL2.out.mono ?_
   rintro r0 w5 ⟨rfl, rfl⟩
   clear HL1 HL2
   have ht10 : (k : Int).tmod 10 = (k : Int) % 10 := Int.tmod_eq_emod_of_nonneg k0
   cases hq9 : ((k : Int) % 10 == 9) with
   | false =>
    (try dsimp only); repeat' (first | go_values | go_skip | go_guarded | go_step | go_upon | go_back)
    go_roundw
    case rel => exact ⟨k + 1, gs', hs', by have := HG.out.1.1; omega, by have := HG.out.1.2; omega, by go_num, HQ'.out.1, HQ'.out.2.1, HQ'.out.2.2.1, HQ'.out.2.2.2, H3.out⟩
    case measure => have := HG.out.1.2; simp [intOf]; omega
   | true =>
    have HA := Lib.hid (plist_any H3.out (by rw [HM.out.1]; have := HM.out.2.2; omega) HQ'.out.2.2.1)
    rw [HM.out.1] at HA
    (try dsimp only); repeat' (first | go_values | go_skip | go_guarded | go_step | go_upon | go_back)
    refine HA.out.mono ?_
    rintro r0 w6 ⟨a6, c6, rs, rfl, hrs, h6⟩
    have HB := Lib.hid (dlist_any (gs := hs') (h6.sw3) (by rw [HM.out.2.1]; have := HM.out.2.2; omega) HQ'.out.2.2.2)
    rw [HM.out.2.1] at HB
    have HRS := Lib.hid hrs
    clear HA H3 h6 hrs
    (try dsimp only); repeat' (first | go_values | go_skip | go_guarded | go_step | go_upon | go_back)
    refine HB.out.mono ?_
    rintro r0 w7 ⟨a7, c7, qs, rfl, hqs, h7⟩
    have hrq : SameL rs qs := HRS.out.trans (HQ'.out.2.1.trans hqs.symm)
    have hqo : ∀ g ∈ qs, MOk g := fun g hg => by
     obtain ⟨i, hi, rfl⟩ := List.getElem_of_mem hg
     have hi2 : i < hs'.length := by rw [← hqs.1]; exact hi
     exact (HQ'.out.2.2.2 _ (List.getElem_mem hi2)).of (hqs.2 i hi hi2)
    have hro : ∀ g ∈ rs, MOk g := fun g hg => by
     obtain ⟨i, hi, rfl⟩ := List.getElem_of_mem hg
     have hi2 : i < gs'.length := by rw [← HRS.out.1]; exact hi
     exact (HQ'.out.2.2.1 _ (List.getElem_mem hi2)).of (HRS.out.2 i hi hi2)
    have hrl : rs.length = m := by rw [HRS.out.1]; exact HM.out.1
    have hql : qs.length = m := by rw [hqs.1]; exact HM.out.2.1
    have HC := Lib.hid (dsameL_any (L := [PB b gs', DB b' hs']) (h7.pickL (M := [_, _, _, _]) [2, 0, 3, 1] rfl) hql (by have := HM.out.2.2; omega) hrq hqo)
    have HR := Lib.hid (And.intro hro hrl)
    clear HB HRS h7 hqs hrq hqo hro hrl hql
    (try dsimp only); repeat' (first | go_values | go_skip | go_guarded | go_step | go_upon | go_back)
    refine HC.out.mono ?_
    rintro r0 w8 ⟨rfl, h8⟩
    have h9 := h8.rowOpen
    have hone : ∀ g ∈ rs, (mgC g).all (·.oneCell') = true := fun g hg => by
     obtain ⟨j, hj, rfl⟩ := List.getElem_of_mem hg
     exact gms_one (h9.sw2.mtsAt j hj)
    rw [HR.out.2] at h9
    have H9 := Lib.hid h9
    have HO := Lib.hid hone
    clear HC h8 h9 hone
    (try dsimp only); repeat' (first | go_values | go_skip | go_guarded | go_step | go_upon | go_back)
    go_loopw [7] (fun i wz => ∃ j : Nat, j ≤ m ∧ i = .int .i64 j ∧ Sep w [Rn 22 40 (.slice a6 m c6) m (msCs (rs.map mgC)), MTs (rs.drop j), RowT (.slice a7 m c7) qs, PB b gs', DB b' hs'] wz) (fun i _ => 100 - (intOf i).toNat)
    case atStart => exact ⟨0, Nat.zero_le _, rfl, H9.out⟩
    case round =>
     obtain ⟨j, hjm, rfl, hz⟩ := hrel
     clear H9
     have j0 : (0 : Int) ≤ (j : Int) := by omega
     have j100 : (j : Int) ≤ 100 := by omega
     by_cases hlt : j < m
     ·have e0 : decide (j < m) = true := decide_eq_true hlt
      have j1 : (j : Int) < (m : Int) := by omega
      have hjr : j < rs.length := by rw [HR.out.2]; exact hlt
      obtain ⟨b9, o9, rfl, hld⟩ := hz.rowMsg22 HO.out HR.out.2 j hjr
      have hdr : rs.drop j = rs[j] :: rs.drop (j + 1) := List.drop_eq_getElem_cons hjr
      have hok := HR.out.1 _ (List.getElem_mem hjr)
      rw [hdr] at hz
      have h10 := Sep.mtsTake (gs := rs[j] :: rs.drop (j + 1)) (hz.sw2) 0 (Nat.zero_lt_succ _)
      have h11 : Sep w (MT rs[j] :: MTs (rs.drop (j + 1)) :: [Rn 22 40 (.slice (some ⟨b9, o9, none⟩) m c6) m (msCs (rs.map mgC)), RowT (.slice a7 m c7) qs, PB b gs', DB b' hs']) wr := h10
      have HS := spoil22_any h11 ⟨hok.2.1, hok.2.2.1, hok.2.2.2.1⟩
      obtain ⟨u, hu⟩ : ∃ z, z = mgC rs[j] := ⟨_, rfl⟩
      rw [← hu] at hld HS
      have HL := Lib.hid hld
      have HS := Lib.hid HS
      have HJ := Lib.hid hlt
      clear hz h10 h11 hld hdr hok hu hjr hlt hjm
      (try dsimp only); repeat' (first | (with_reducible show wpList _ _ _ (Oper.mk _ (Op.load 40 _) _ _ _ _ :: _) _ _; refine stopP ?_) | go_values | go_skip | go_guarded | go_step | go_upon | go_back)
      unfold StopP
      have hq_ := HL.out
      refine wpList_load_run rfl 40 _ rfl _ _ rfl hq_ ?_
      clear hq_
      (try dsimp only); repeat' (first | go_values | go_skip | go_guarded | go_step | go_upon | go_back)
      refine HS.out.mono ?_
      rintro r0 w10 ⟨rfl, h12⟩
      have H12 := Lib.hid (h12.sw2)
      clear HL HS h12
      (try dsimp only); repeat' (first | go_values | go_skip | go_guarded | go_step | go_upon | go_back)
      go_roundw
      case rel => exact ⟨j + 1, by have := HJ.out; omega, by go_num, H12.out⟩
      case measure => have := HJ.out; have := HM.out.2.2; simp [intOf]; omega
     ·have e0 : decide (j < m) = false := decide_eq_false hlt
      obtain rfl : j = m := by omega
      have HZ := Lib.hid (hz.pick [3, 4] rfl : Sep w [PB b gs', DB b' hs'] _)
      clear hz hlt hjm
      (try dsimp only); repeat' (first | go_values | go_skip | go_guarded | go_step | go_upon | go_back)
      go_roundw
      case rel => exact ⟨k + 1, gs', hs', by have := HG.out.1.1; omega, by have := HG.out.1.2; omega, by go_num, HQ'.out.1, HQ'.out.2.1, HQ'.out.2.2.1, HQ'.out.2.2.2, HZ.out⟩
      case measure => have := HG.out.1.2; simp [intOf]; omega
  ·obtain ⟨m, hm⟩ : ∃ z, z = gs.length := ⟨_, rfl⟩
   have hmh : hs.length = m := by rw [hm, HQ.out.2.1.1]
   have hm100 : m ≤ 100 := by have := HQ.out.1; omega
   have HM := Lib.hid (And.intro hm.symm (And.intro hmh hm100))
   have HA := plist_any H.out (by omega) HQ.out.2.2.1
   rw [← hm] at HA
   have HA := Lib.hid HA
   have HN := Lib.hid hgo
   clear H hm hmh hm100
   by_cases hk1 : k < len
   ·have d0 : decide (k < len) = true := decide_eq_true hk1
    have d1 : decide ((k : Int) < 100) = false := decide_eq_false (by have := HN.out; omega)
    clear hgo hk1
    (try dsimp only); repeat' (first | go_values | go_skip | go_guarded | go_step | go_upon | go_back)
    refine HA.out.mono ?_
    rintro r0 w6 ⟨a6, c6, rs, rfl, hrs, h6⟩
    have HB := dlist_any (gs := hs) (h6.sw3) (by rw [HM.out.2.1]; have := HM.out.2.2; omega) HQ.out.2.2.2
    rw [HM.out.2.1] at HB
    have HB := Lib.hid HB
    have HRS := Lib.hid hrs
    clear HA h6 hrs
    (try dsimp only); repeat' (first | go_values | go_skip | go_guarded | go_step | go_upon | go_back)
    refine HB.out.mono ?_
    rintro r0 w7 ⟨a7, c7, qs, rfl, hqs, h7⟩
    have hrq : SameL rs qs := HRS.out.trans (HQ.out.2.1.trans hqs.symm)
    have hqo : ∀ g ∈ qs, MOk g := fun g hg => by
     obtain ⟨i, hi, rfl⟩ := List.getElem_of_mem hg
     have hi2 : i < hs.length := by rw [← hqs.1]; exact hi
     exact (HQ.out.2.2.2 _ (List.getElem_mem hi2)).of (hqs.2 i hi hi2)
    have hql : qs.length = m := by rw [hqs.1]; exact HM.out.2.1
    have HC := Lib.hid (dsameL_any (L := [PB b gs, DB b' hs]) (h7.pickL (M := [_, _, _, _]) [2, 0, 3, 1] rfl) hql (by have := HM.out.2.2; omega) hrq hqo)
    clear HB HRS h7 hqs hrq hqo hql
    (try dsimp only); repeat' (first | go_values | go_skip | go_guarded | go_step | go_upon | go_back)
    refine HC.out.mono ?_
    rintro r0 w8 ⟨rfl, h8⟩
    have HW := Lib.hid (works22_any h8 HK.out.2)
    clear HC h8
    (try dsimp only); repeat' (first | go_values | go_skip | go_guarded | go_step | go_upon | go_back)
    refine HW.out.mono ?_
    rintro r0 w9 ⟨rfl, h9⟩
    have HF := Lib.hid h9.low
    clear HW h9
    (try dsimp only); repeat' (first | go_values | go_skip | go_guarded | go_step | go_upon | go_back)
    go_ret
    exact ⟨rfl, HF.out⟩
   ·have d0 : decide (k < len) = false := decide_eq_false hk1
    clear hgo hk1
    (try dsimp only); repeat' (first | go_values | go_skip | go_guarded | go_step | go_upon | go_back)
    refine HA.out.mono ?_
    rintro r0 w6 ⟨a6, c6, rs, rfl, hrs, h6⟩
    have HB := dlist_any (gs := hs) (h6.sw3) (by rw [HM.out.2.1]; have := HM.out.2.2; omega) HQ.out.2.2.2
    rw [HM.out.2.1] at HB
    have HB := Lib.hid HB
    have HRS := Lib.hid hrs
    clear HA h6 hrs
    (try dsimp only); repeat' (first | go_values | go_skip | go_guarded | go_step | go_upon | go_back)
    refine HB.out.mono ?_
    rintro r0 w7 ⟨a7, c7, qs, rfl, hqs, h7⟩
    have hrq : SameL rs qs := HRS.out.trans (HQ.out.2.1.trans hqs.symm)
    have hqo : ∀ g ∈ qs, MOk g := fun g hg => by
     obtain ⟨i, hi, rfl⟩ := List.getElem_of_mem hg
     have hi2 : i < hs.length := by rw [← hqs.1]; exact hi
     exact (HQ.out.2.2.2 _ (List.getElem_mem hi2)).of (hqs.2 i hi hi2)
    have hql : qs.length = m := by rw [hqs.1]; exact HM.out.2.1
    have HC := Lib.hid (dsameL_any (L := [PB b gs, DB b' hs]) (h7.pickL (M := [_, _, _, _]) [2, 0, 3, 1] rfl) hql (by have := HM.out.2.2; omega) hrq hqo)
    clear HB HRS h7 hqs hrq hqo hql
    (try dsimp only); repeat' (first | go_values | go_skip | go_guarded | go_step | go_upon | go_back)
    refine HC.out.mono ?_
    rintro r0 w8 ⟨rfl, h8⟩
    have HW := Lib.hid (works22_any h8 HK.out.2)
    clear HC h8
    (try dsimp only); repeat' (first | go_values | go_skip | go_guarded | go_step | go_upon | go_back)
    refine HW.out.mono ?_
    rintro r0 w9 ⟨rfl, h9⟩
    have HF := Lib.hid h9.low
    clear HW h9
    (try dsimp only); repeat' (first | go_values | go_skip | go_guarded | go_step | go_upon | go_back)
    go_ret
    exact ⟨rfl, HF.out⟩
end Go.Proofs.YtcnbmeiielkigaaGreatDoor
/- What the row's condition says of the table of kinds. -/
namespace Go.Proofs.YtcnbmeiielkigaaGreatDoor
open Go.ChangeShapes Go.WideShapes Go.ChangeAt Go.RowKit
set_option linter.unusedVariables false
abbrev laidK {H : Type} : List (String × DataW H) := [("gimbal/item.kinds", Rows.laid_gimbal_item_kinds), ("gimbal/msg.kinds", Rows.laid_gimbal_msg_kinds)]
theorem gKinds : Tryz.prog.globalNamed "gimbal/item.kinds" = some 1 := by kernel_rfl
theorem tKinds : (Tryz.prog.globals[1]?).map (·.type) = some 105 := by kernel_rfl
theorem door_met (os : Os) (args : Array Value) : laidMetH Tryz.prog laidK ((World.doorLaid Tryz.prog 400 os).forCall (fun _ _ => 0) ⟨#[], args, []⟩).memory :=
 laidMetH_of_parts3 (fuel := 8) (laidMet_of_run' 8 (by kernel_rfl) (by kernel_rfl)) (by kernel_rfl) (by kernel_rfl)
theorem gMKinds : Tryz.prog.globalNamed "gimbal/msg.kinds" = some 0 := by kernel_rfl
theorem tMKinds : (Tryz.prog.globals[0]?).map (·.type) = some 93 := by kernel_rfl
theorem kinds_of_laid {W : World} (h : laidMetH Tryz.prog laidK W) : KindsAt W ∧ MKindsAt W := by
 rw [MakeChecks.laidMetH_plain _ _ _ (by kernel_rfl)] at h
 obtain ⟨ps, ⟨g0, t0, cs0, f0, p0, q0, hg0, ht0, hv0, hd0, ⟨g1, t1, cs1, f1, p1, q1, hg1, ht1, hv1, hd1, _, _⟩, _⟩, hr, hs⟩ := h
 obtain rfl := Option.some.inj (gKinds.symm.trans hg0)
 obtain rfl := Option.some.inj (tKinds.symm.trans ht0)
 obtain rfl := Option.some.inj (gMKinds.symm.trans hg1)
 obtain rfl := Option.some.inj (tMKinds.symm.trans ht1)
 have hcA : ∀ i (hi : i < kindsL.length), W.cell? ⟨1, i, none⟩ = some (.int .i64 kindsL[i]) := by
  obtain ⟨xs, m1, rfl, hx1, hlen, hn3, hel⟩ := DataW.trod_array Tryz.underlying105 hd0
  have c3 : Tryz.prog.cellsOf 3 = 1 := by kernel_rfl
  have c24 : Tryz.prog.cellsOf 105 = 10 := by kernel_rfl
  simp only [Prod.mk.injEq] at hx1
  have hk : xs.map (·.1) = kindsL.map (fun n => DataW.lit (.int .i64 n)) := (DataW.agg.inj hx1.1).symm
  intro i hi
  have hi10 : i < 10 := by simpa [kindsL] using hi
  have h0 := hel i hi10
  rw [List.getElem?_eq_getElem (by omega)] at h0
  obtain ⟨k, e1, e2, _⟩ := DataW.trod_int Tryz.underlying3 h0
  have hx : (xs.map (·.1))[i]? = some (DataW.lit (.int .i64 kindsL[i])) := by
   rw [hk, List.getElem?_map, List.getElem?_eq_getElem hi]; rfl
  rw [List.getElem?_map, List.getElem?_eq_getElem (by omega), e2] at hx
  have hkk : k = kindsL[i] := by simpa using hx
  subst hkk
  rw [c3, Nat.mul_one] at e1
  have hlt : i < cs0.toList.length := by rw [hlen, c24]; exact hi10
  rw [List.drop_eq_getElem_cons hlt] at e1
  simp only [List.take_succ_cons, List.take_zero, List.cons.injEq, and_true] at e1
  have hv := World.var?_cell hg0 hv0 i
  have hs : i < cs0.size := by simpa using hlt
  have e3 : cs0[i] = Value.int .i64 kindsL[i] := by simpa using e1
  rw [hv, Array.getElem?_eq_getElem hs]
  exact congrArg some e3
 have hcB : ∀ i (hi : i < mkindsL.length), W.cell? ⟨0, i, none⟩ = some (.int .i64 mkindsL[i]) := by
  obtain ⟨xs, m1, rfl, hx1, hlen, hn3, hel⟩ := DataW.trod_array Tryz.underlying93 hd1
  have c3 : Tryz.prog.cellsOf 3 = 1 := by kernel_rfl
  have c24 : Tryz.prog.cellsOf 93 = 11 := by kernel_rfl
  simp only [Prod.mk.injEq] at hx1
  have hk : xs.map (·.1) = mkindsL.map (fun n => DataW.lit (.int .i64 n)) := (DataW.agg.inj hx1.1).symm
  intro i hi
  have hi10 : i < 11 := by simpa [mkindsL] using hi
  have h0 := hel i hi10
  rw [List.getElem?_eq_getElem (by omega)] at h0
  obtain ⟨k, e1, e2, _⟩ := DataW.trod_int Tryz.underlying3 h0
  have hx : (xs.map (·.1))[i]? = some (DataW.lit (.int .i64 mkindsL[i])) := by
   rw [hk, List.getElem?_map, List.getElem?_eq_getElem hi]; rfl
  rw [List.getElem?_map, List.getElem?_eq_getElem (by omega), e2] at hx
  have hkk : k = mkindsL[i] := by simpa using hx
  subst hkk
  rw [c3, Nat.mul_one] at e1
  have hlt : i < cs1.toList.length := by rw [hlen, c24]; exact hi10
  rw [List.drop_eq_getElem_cons hlt] at e1
  simp only [List.take_succ_cons, List.take_zero, List.cons.injEq, and_true] at e1
  have hv := World.var?_cell hg1 hv1 i
  have hs : i < cs1.size := by simpa using hlt
  have e3 : cs1[i] = Value.int .i64 mkindsL[i] := by simpa using e1
  rw [hv, Array.getElem?_eq_getElem hs]
  exact congrArg some e3
 have hA := World.block_lt_of_cell? W ⟨1, 0, none⟩ (by have := hcA 0 (by decide); exact this)
 have hB := World.block_lt_of_cell? W ⟨0, 0, none⟩ (by have := hcB 0 (by decide); exact this)
 exact ⟨⟨hA, hcA⟩, ⟨hB, hcB⟩⟩
end Go.Proofs.YtcnbmeiielkigaaGreatDoor
