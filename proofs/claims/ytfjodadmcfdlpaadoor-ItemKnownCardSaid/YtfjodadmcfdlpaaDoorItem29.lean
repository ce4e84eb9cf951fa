/- The statement ItemKnown. -/
import Derived.Test.YtfjodadmcfdlpaaDoorItem28
import Derived.Test.YtfjodadmcfdlpaaDoorBkF
namespace Go.Proofs.YtfjodadmcfdlpaaDoor
open Go.RowKit
set_option linter.unusedVariables false
set_option linter.unusedSimpArgs false
set_option maxRecDepth 100000 in
set_option maxHeartbeats 64000000 in
theorem known03 (w : World) (hk : KindsAt w) : Calls Tryd.prog 8 #[] w fun e w' => e = .returned (.bool true) ∧ Below w.heap.size w w' := by
  have HKA := Lib.hid hk
  clear hk
  go_enter Tryd.func8, Tryd.ntmps8
  go_wp2_with fail
  obtain ⟨ea, hea⟩ : ∃ x : Array Value, x = #[.int .i64 (-9223372036854775808), .int .i64 (-2147483648), .int .i64 (-2147483647), .int .i64 (-1), .int .i64 0, .int .i64 1, .int .i64 2147483647, .int .i64 2147483648, .int .i64 9223372036854775807] := ⟨_, rfl⟩
  obtain ⟨na, hna⟩ : ∃ x : Array Value, x = #[.string ⟨#[]⟩, .string ⟨#[97]⟩, .string ⟨#[65]⟩, .string ⟨#[97, 45]⟩, .string ⟨#[97, 98, 99, 100, 101, 102, 103, 104]⟩, .string ⟨#[97, 98, 99, 100, 101, 102, 103, 104, 105]⟩, .string ⟨#[57]⟩, .string ⟨#[195, 169]⟩] := ⟨_, rfl⟩
  have HEA : Hid (∀ i : Nat, i < 9 → ∃ z : Int, ea[i]? = some (.int .i64 z)) := Lib.hid fun i hi => get_int [-9223372036854775808, -2147483648, -2147483647, -1, 0, 1, 2147483647, 2147483648, 9223372036854775807] ea (by rw [hea]; rfl) i hi
  have HNA : Hid (∀ i : Nat, i < 8 → ∃ s : KS, na[i]? = some (.string s.1)) := Lib.hid fun i hi => get_str [⟨⟨#[]⟩, by decide⟩, ⟨⟨#[97]⟩, by decide⟩, ⟨⟨#[65]⟩, by decide⟩, ⟨⟨#[97, 45]⟩, by decide⟩, ⟨⟨#[97, 98, 99, 100, 101, 102, 103, 104]⟩, by decide⟩, ⟨⟨#[97, 98, 99, 100, 101, 102, 103, 104, 105]⟩, by decide⟩, ⟨⟨#[57]⟩, by decide⟩, ⟨⟨#[195, 169]⟩, by decide⟩] na (by rw [hna]; rfl) i hi
  have h1 := (((Sep.start w).alloc (.cells ea 3)).alloc (.cells na 9)).alloc (.cells #[.string ⟨#[97]⟩, .int .i64 1] 39)
  rw [show ((w.alloc (.cells ea 3)).alloc (.cells na 9)).heap.size = w.heap.size + 1 + 1 by simp, show (w.alloc (.cells ea 3)).heap.size = w.heap.size + 1 by simp] at h1
  rw [← hea, ← hna]
  obtain ⟨W, hW⟩ : ∃ z, z = ((w.alloc (.cells ea 3)).alloc (.cells na 9)).alloc (.cells #[.string ⟨#[97]⟩, .int .i64 1] 39) := ⟨_, rfl⟩
  obtain ⟨b1, hb1⟩ : ∃ z, z = w.heap.size := ⟨_, rfl⟩
  obtain ⟨b2, hb2⟩ : ∃ z, z = w.heap.size + 1 := ⟨_, rfl⟩
  obtain ⟨b3, hb3⟩ : ∃ z, z = w.heap.size + 1 + 1 := ⟨_, rfl⟩
  rw [← hW, ← hb3, ← hb2, ← hb1] at h1
  rw [← hW, ← hb3, ← hb2, ← hb1]
  have H1 := Lib.hid h1
  clear hea hna h1 hW hb1 hb2 hb3
  go_loopw [4] (fun i wr => ∃ q : Nat, q ≤ 11 ∧ i = .int .i64 q ∧ Sep w [Cl b3 #[.string ⟨#[97]⟩, .int .i64 1] 39, Cl b2 na 9, Cl b1 ea 3] wr) (fun i _ => 11 - (intOf i).toNat)
  case atStart => exact ⟨0, by omega, rfl, H1.out⟩
  case round =>
    obtain ⟨qn, hq, rfl, hs⟩ := hrel
    have HS := Lib.hid hs
    clear hs H1
    have q0 : (0 : Int) ≤ (qn : Int) := by omega
    by_cases hq11 : qn < 11
    · have hd : decide ((qn : Int) < 11) = true := decide_eq_true (by omega)
      as_aux_lemma =>
        go_wp2_with fail
        go_loopw [5] (fun i wr => ∃ q : Nat, q ≤ 9 ∧ i = .int .i64 q ∧ Sep w [Cl b3 #[.string ⟨#[97]⟩, .int .i64 1] 39, Cl b2 na 9, Cl b1 ea 3] wr) (fun i _ => 9 - (intOf i).toNat)
        case atStart => exact ⟨0, by omega, rfl, HS.out⟩
        case round =>
          obtain ⟨i, hi, rfl, hs⟩ := hrel
          clear HS
          have i0 : (0 : Int) ≤ (i : Int) := by omega
          by_cases hi9 : i < 9
          · have hd9 : decide ((i : Int) < 9) = true := decide_eq_true (by omega)
            have hi9' : (i : Int) < 9 := by omega
            obtain ⟨n, hn⟩ := HEA.out i hi9
            have e0 := hs.sw3.cell hn
            obtain ⟨bx, hbx⟩ : ∃ z, z = wr.heap.size := ⟨_, rfl⟩
            have h1 := hs.alloc (.cells #[.string ⟨#[97]⟩, .int .i64 n] 39)
            have h2 := h1.alloc (.cells (opLs (knOps (qn : Int) n b3 bx)).toArray 24)
            rw [show (wr.alloc (.cells #[.string ⟨#[97]⟩, .int .i64 n] 39)).heap.size = wr.heap.size + 1 by simp, ← hbx] at h2
            obtain ⟨b7, hb7⟩ : ∃ z, z = bx + 1 := ⟨_, rfl⟩
            obtain ⟨W3, hW3⟩ : ∃ z, z = (wr.alloc (.cells #[.string ⟨#[97]⟩, .int .i64 n] 39)).alloc (.cells (opLs (knOps (qn : Int) n b3 bx)).toArray 24) := ⟨_, rfl⟩
            rw [← hb7, ← hW3] at h2
            have H2 := Lib.hid h2
            clear hs h1 h2 hn hi hi9
            as_aux_lemma =>
              go_wp2_with (refine wpList_build8 (l := (opLs (knOps (qn : Int) n b3 wr.heap.size)).toArray) rfl _ _ _ _ _ _ _ _ rfl rfl rfl rfl rfl rfl rfl rfl rfl rfl ?_)
              rw [← hbx, ← hb7, ← hW3]
              clear hbx hb7 hW3 e0
              go_loopw [8] (fun i wz => ∃ k : Nat, k ≤ 8 ∧ i = .int .i64 k ∧ Sep w [Cl b7 (opLs (knOps (qn : Int) n b3 bx)).toArray 24, Cl bx #[.string ⟨#[97]⟩, .int .i64 n] 39, Cl b3 #[.string ⟨#[97]⟩, .int .i64 1] 39, Cl b2 na 9, Cl b1 ea 3] wz) (fun i _ => 8 - (intOf i).toNat)
              case atStart => exact ⟨0, by omega, rfl, H2.out⟩
              case round =>
                obtain ⟨k, hk, rfl, hs⟩ := hrel
                clear H2
                have kz : (0 : Int) ≤ (k : Int) := by omega
                by_cases hk8 : k < 8
                · have hd8 : decide ((k : Int) < 8) = true := decide_eq_true (by omega)
                  have hk8' : (k : Int) < 8 := by omega
                  have HKL : Hid (k < (knOps (qn : Int) n b3 bx).length) := Lib.hid hk8
                  have HK0 : Hid (0 < (knOps (qn : Int) n b3 bx).length) := Lib.hid (show 0 < 8 by omega)
                  have HLN : Hid (∀ wx, Sep w [Cl b7 (opLs (knOps (qn : Int) n b3 bx)).toArray 24, Cl bx #[.string ⟨#[97]⟩, .int .i64 n] 39, Cl b3 #[.string ⟨#[97]⟩, .int .i64 1] 39, Cl b2 na 9, Cl b1 ea 3] wx → ∀ j (hj : j < (knOps (qn : Int) n b3 bx).length), LnS wx (knOps (qn : Int) n b3 bx)[j].v (knOps (qn : Int) n b3 bx)[j].ls) := Lib.hid fun wx hx j hj => knOps_ln (hx.sw3.lnCl (ls := [(sA, 1)]) rfl rfl (by decide)) (hx.sw2.lnCl (ls := [(sA, n)]) rfl rfl (by decide)) j hj
                  obtain ⟨⟨pk, ps, po, pn, pv, pls⟩, hp⟩ : ∃ z, z = (knOps (qn : Int) n b3 bx)[k] := ⟨_, rfl⟩
                  obtain ⟨⟨qk, qs, qo, qm, qv, qls⟩, hq⟩ : ∃ z, z = (knOps (qn : Int) n b3 bx)[0]'HK0.out := ⟨_, rfl⟩
                  have HPE := Lib.hid hp.symm
                  have HQE := Lib.hid hq.symm
                  have HPLN : Hid (∀ wx, Sep w [Cl b7 (opLs (knOps (qn : Int) n b3 bx)).toArray 24, Cl bx #[.string ⟨#[97]⟩, .int .i64 n] 39, Cl b3 #[.string ⟨#[97]⟩, .int .i64 1] 39, Cl b2 na 9, Cl b1 ea 3] wx → LnS wx pv pls) := Lib.hid fun wx hx => kn_ln (HLN.out wx hx k HKL.out) HPE.out
                  have HQLN : Hid (∀ wx, Sep w [Cl b7 (opLs (knOps (qn : Int) n b3 bx)).toArray 24, Cl bx #[.string ⟨#[97]⟩, .int .i64 n] 39, Cl b3 #[.string ⟨#[97]⟩, .int .i64 1] 39, Cl b2 na 9, Cl b1 ea 3] wx → LnS wx qv qls) := Lib.hid fun wx hx => kn_ln (HLN.out wx hx 0 HK0.out) HQE.out
                  have HQ := Lib.hid hs.drew
                  have HSS := Lib.hid (And.intro (kn_cells HQ.out k HKL.out HPE.out) (kn_cells0 HQ.out HK0.out HQE.out))
                  have HC1 := Lib.hid (writes03 pk ps po pn pv pls qk qs qo qm qv qls n 1 0 _ (HPLN.out _ HQ.out) (HQLN.out _ HQ.out) (HKA.out.below HQ.out.low))
                  clear hs hp hq HLN hk hk8
                  go_wp2_with fail
                  refine wp_region_G (fun w' => (w'.cell? ⟨b7, k * 5, none⟩ = some (.int .i64 pk) ∧ w'.cell? ⟨b7, k * 5 + 1, none⟩ = some (.string ps.1) ∧ w'.cell? ⟨b7, k * 5 + 2, none⟩ = some (.int .i64 po) ∧ w'.cell? ⟨b7, k * 5 + 3, none⟩ = some (.int .i64 pn) ∧ w'.cell? ⟨b7, k * 5 + 4, none⟩ = some pv) ∧ (w'.cell? ⟨b7, 0, none⟩ = some (.int .i64 qk) ∧ w'.cell? ⟨b7, 1, none⟩ = some (.string qs.1) ∧ w'.cell? ⟨b7, 2, none⟩ = some (.int .i64 qo) ∧ w'.cell? ⟨b7, 3, none⟩ = some (.int .i64 qm) ∧ w'.cell? ⟨b7, 4, none⟩ = some qv)) [] (by kernel_rfl) HSS.out (fun hS => ?_)
                  try dsimp only at hS
                  refine wpAnyG_take' (i := 0) (v := ?v0_1r15) rfl (by kernel_rfl) (by kernel_rfl) (by kernel_rfl) (by kernel_rfl) (fun _ _ _ h => h) (Or.inl ⟨by rfl, ?hy0_1r15⟩) hS ?rest0_1r15
                  case hy0_1r15 => intro w hSw; (try dsimp only at hSw); go_simp; (try with_reducible rfl)
                  case rest0_1r15 =>
                  try simp only [List.getElem_toArray, List.getElem_cons_succ, List.getElem_cons_zero, Act.put, List.setIfInBounds_toArray, List.set_cons_zero, List.set_cons_succ]
                  refine wpAnyG_take' (i := 1) (v := ?v1_2r15) rfl (by kernel_rfl) (by kernel_rfl) (by kernel_rfl) (by kernel_rfl) (fun _ _ _ h => h) (Or.inl ⟨by rfl, ?hy1_2r15⟩) hS ?rest1_2r15
                  case hy1_2r15 => intro w hSw; (try dsimp only at hSw); go_simp; (try with_reducible rfl)
                  case rest1_2r15 =>
                  try simp only [List.getElem_toArray, List.getElem_cons_succ, List.getElem_cons_zero, Act.put, List.setIfInBounds_toArray, List.set_cons_zero, List.set_cons_succ]
                  refine wpAnyG_take' (i := 2) (v := ?v2_3r15) rfl (by kernel_rfl) (by kernel_rfl) (by kernel_rfl) (by kernel_rfl) (fun _ _ _ h => h) (Or.inl ⟨by rfl, ?hy2_3r15⟩) hS ?rest2_3r15
                  case hy2_3r15 => intro w hSw; (try dsimp only at hSw); go_simp; (try with_reducible rfl)
                  case rest2_3r15 =>
                  try simp only [List.getElem_toArray, List.getElem_cons_succ, List.getElem_cons_zero, Act.put, List.setIfInBounds_toArray, List.set_cons_zero, List.set_cons_succ]
                  refine wpAnyG_take' (i := 3) (v := ?v3_4r15) rfl (by kernel_rfl) (by kernel_rfl) (by kernel_rfl) (by kernel_rfl) (fun _ _ _ h => h) (Or.inl ⟨by rfl, ?hy3_4r15⟩) hS ?rest3_4r15
                  case hy3_4r15 => intro w hSw; (try dsimp only at hSw); go_simp; (try with_reducible rfl)
                  case rest3_4r15 =>
                  try simp only [List.getElem_toArray, List.getElem_cons_succ, List.getElem_cons_zero, Act.put, List.setIfInBounds_toArray, List.set_cons_zero, List.set_cons_succ]
                  refine wpAnyG_take' (i := 4) (v := ?v4_5r15) rfl (by kernel_rfl) (by kernel_rfl) (by kernel_rfl) (by kernel_rfl) (fun _ _ _ h => h) (Or.inl ⟨by rfl, ?hy4_5r15⟩) hS ?rest4_5r15
                  case hy4_5r15 => intro w hSw; (try dsimp only at hSw); go_simp; (try with_reducible rfl)
                  case rest4_5r15 =>
                  try simp only [List.getElem_toArray, List.getElem_cons_succ, List.getElem_cons_zero, Act.put, List.setIfInBounds_toArray, List.set_cons_zero, List.set_cons_succ]
                  refine wpAnyG_take' (i := 5) (v := ?v5_6r15) rfl (by kernel_rfl) (by kernel_rfl) (by kernel_rfl) (by kernel_rfl) (fun _ _ _ h => h) (Or.inl ⟨by rfl, ?hy5_6r15⟩) hS ?rest5_6r15
                  case hy5_6r15 => intro w hSw; (try dsimp only at hSw); go_simp; (try with_reducible rfl)
                  case rest5_6r15 =>
                  try simp only [List.getElem_toArray, List.getElem_cons_succ, List.getElem_cons_zero, Act.put, List.setIfInBounds_toArray, List.set_cons_zero, List.set_cons_succ]
                  refine wpAnyG_take' (i := 6) (v := ?v6_7r15) rfl (by kernel_rfl) (by kernel_rfl) (by kernel_rfl) (by kernel_rfl) (fun _ _ _ h => h) (Or.inl ⟨by rfl, ?hy6_7r15⟩) hS ?rest6_7r15
                  case hy6_7r15 => intro w hSw; (try dsimp only at hSw); go_simp; (try with_reducible rfl)
                  case rest6_7r15 =>
                  try simp only [List.getElem_toArray, List.getElem_cons_succ, List.getElem_cons_zero, Act.put, List.setIfInBounds_toArray, List.set_cons_zero, List.set_cons_succ]
                  refine wpAnyG_take' (i := 7) (v := ?v7_8r15) rfl (by kernel_rfl) (by kernel_rfl) (by kernel_rfl) (by kernel_rfl) (fun _ _ _ h => h) (Or.inl ⟨by rfl, ?hy7_8r15⟩) hS ?rest7_8r15
                  case hy7_8r15 => intro w hSw; (try dsimp only at hSw); go_simp; (try with_reducible rfl)
                  case rest7_8r15 =>
                  try simp only [List.getElem_toArray, List.getElem_cons_succ, List.getElem_cons_zero, Act.put, List.setIfInBounds_toArray, List.set_cons_zero, List.set_cons_succ]
                  refine wpAnyG_take' (i := 8) (v := ?v8_9r15) rfl (by kernel_rfl) (by kernel_rfl) (by kernel_rfl) (by kernel_rfl) (fun _ _ _ h => h) (Or.inl ⟨by rfl, ?hy8_9r15⟩) hS ?rest8_9r15
                  case hy8_9r15 => intro w hSw; (try dsimp only at hSw); go_simp; (try with_reducible rfl)
                  case rest8_9r15 =>
                  try simp only [List.getElem_toArray, List.getElem_cons_succ, List.getElem_cons_zero, Act.put, List.setIfInBounds_toArray, List.set_cons_zero, List.set_cons_succ]
                  refine wpAnyG_one (i := 9) (by kernel_rfl) rfl (fun K hK => ?_)
                  go_simp
                  refine Calls.mono HC1.out ?_
                  rintro r9 w2 ⟨rfl, hbb⟩
                  have HQ1 := Lib.hid (HQ.out.below hbb)
                  have HS1 := Lib.hid (And.intro (kn_cells HQ1.out k HKL.out HPE.out) (kn_cells0 HQ1.out HK0.out HQE.out))
                  have HC2 := Lib.hid (writes03 pk ps po pn pv pls pk ps po pn pv pls 0 n 0 _ (HPLN.out _ HQ1.out) (HPLN.out _ HQ1.out) (HKA.out.below HQ1.out.low))
                  clear hbb
                  go_wp2_with fail
                  refine hK.out _ _ (fun _ => ?hS10r15) ?rest10r15
                  case hS10r15 => exact HS1.out
                  clear K hK
                  try simp only [List.getElem_toArray, List.getElem_cons_succ, List.getElem_cons_zero, Act.put, List.setIfInBounds_toArray, List.set_cons_zero, List.set_cons_succ]
                  refine wpAnyG_take' (i := 10) (v := ?v10_11r15) rfl (by kernel_rfl) (by kernel_rfl) (by kernel_rfl) (by kernel_rfl) (fun _ _ _ h => h) (Or.inl ⟨by rfl, ?hy10_11r15⟩) HS1.out ?rest10_11r15
                  case hy10_11r15 => intro w hSw; (try dsimp only at hSw); go_simp; (try with_reducible rfl)
                  case rest10_11r15 =>
                  try simp only [List.getElem_toArray, List.getElem_cons_succ, List.getElem_cons_zero, Act.put, List.setIfInBounds_toArray, List.set_cons_zero, List.set_cons_succ]
                  refine wpAnyG_take' (i := 11) (v := ?v11_12r15) rfl (by kernel_rfl) (by kernel_rfl) (by kernel_rfl) (by kernel_rfl) (fun _ _ _ h => h) (Or.inl ⟨by rfl, ?hy11_12r15⟩) HS1.out ?rest11_12r15
                  case hy11_12r15 => intro w hSw; (try dsimp only at hSw); go_simp; (try with_reducible rfl)
                  case rest11_12r15 =>
                  try simp only [List.getElem_toArray, List.getElem_cons_succ, List.getElem_cons_zero, Act.put, List.setIfInBounds_toArray, List.set_cons_zero, List.set_cons_succ]
                  refine wpAnyG_take' (i := 12) (v := ?v12_13r15) rfl (by kernel_rfl) (by kernel_rfl) (by kernel_rfl) (by kernel_rfl) (fun _ _ _ h => h) (Or.inl ⟨by rfl, ?hy12_13r15⟩) HS1.out ?rest12_13r15
                  case hy12_13r15 => intro w hSw; (try dsimp only at hSw); go_simp; (try with_reducible rfl)
                  case rest12_13r15 =>
                  try simp only [List.getElem_toArray, List.getElem_cons_succ, List.getElem_cons_zero, Act.put, List.setIfInBounds_toArray, List.set_cons_zero, List.set_cons_succ]
                  refine wpAnyG_take' (i := 13) (v := ?v13_14r15) rfl (by kernel_rfl) (by kernel_rfl) (by kernel_rfl) (by kernel_rfl) (fun _ _ _ h => h) (Or.inl ⟨by rfl, ?hy13_14r15⟩) HS1.out ?rest13_14r15
                  case hy13_14r15 => intro w hSw; (try dsimp only at hSw); go_simp; (try with_reducible rfl)
                  case rest13_14r15 =>
                  try simp only [List.getElem_toArray, List.getElem_cons_succ, List.getElem_cons_zero, Act.put, List.setIfInBounds_toArray, List.set_cons_zero, List.set_cons_succ]
                  refine wpAnyG_take' (i := 14) (v := ?v14_15r15) rfl (by kernel_rfl) (by kernel_rfl) (by kernel_rfl) (by kernel_rfl) (fun _ _ _ h => h) (Or.inl ⟨by rfl, ?hy14_15r15⟩) HS1.out ?rest14_15r15
                  case hy14_15r15 => intro w hSw; (try dsimp only at hSw); go_simp; (try with_reducible rfl)
                  case rest14_15r15 =>
                  try simp only [List.getElem_toArray, List.getElem_cons_succ, List.getElem_cons_zero, Act.put, List.setIfInBounds_toArray, List.set_cons_zero, List.set_cons_succ]
                  refine wpAnyG_take' (i := 15) (v := ?v15_16r15) rfl (by kernel_rfl) (by kernel_rfl) (by kernel_rfl) (by kernel_rfl) (fun _ _ _ h => h) (Or.inl ⟨by rfl, ?hy15_16r15⟩) HS1.out ?rest15_16r15
                  case hy15_16r15 => intro w hSw; (try dsimp only at hSw); go_simp; (try with_reducible rfl)
                  case rest15_16r15 =>
                  try simp only [List.getElem_toArray, List.getElem_cons_succ, List.getElem_cons_zero, Act.put, List.setIfInBounds_toArray, List.set_cons_zero, List.set_cons_succ]
                  refine wpAnyG_take' (i := 16) (v := ?v16_17r15) rfl (by kernel_rfl) (by kernel_rfl) (by kernel_rfl) (by kernel_rfl) (fun _ _ _ h => h) (Or.inl ⟨by rfl, ?hy16_17r15⟩) HS1.out ?rest16_17r15
                  case hy16_17r15 => intro w hSw; (try dsimp only at hSw); go_simp; (try with_reducible rfl)
                  case rest16_17r15 =>
                  try simp only [List.getElem_toArray, List.getElem_cons_succ, List.getElem_cons_zero, Act.put, List.setIfInBounds_toArray, List.set_cons_zero, List.set_cons_succ]
                  refine wpAnyG_take' (i := 17) (v := ?v17_18r15) rfl (by kernel_rfl) (by kernel_rfl) (by kernel_rfl) (by kernel_rfl) (fun _ _ _ h => h) (Or.inl ⟨by rfl, ?hy17_18r15⟩) HS1.out ?rest17_18r15
                  case hy17_18r15 => intro w hSw; (try dsimp only at hSw); go_simp; (try with_reducible rfl)
                  case rest17_18r15 =>
                  try simp only [List.getElem_toArray, List.getElem_cons_succ, List.getElem_cons_zero, Act.put, List.setIfInBounds_toArray, List.set_cons_zero, List.set_cons_succ]
                  refine wpAnyG_take' (i := 18) (v := ?v18_19r15) rfl (by kernel_rfl) (by kernel_rfl) (by kernel_rfl) (by kernel_rfl) (fun _ _ _ h => h) (Or.inl ⟨by rfl, ?hy18_19r15⟩) HS1.out ?rest18_19r15
                  case hy18_19r15 => intro w hSw; (try dsimp only at hSw); go_simp; (try with_reducible rfl)
                  case rest18_19r15 =>
                  try simp only [List.getElem_toArray, List.getElem_cons_succ, List.getElem_cons_zero, Act.put, List.setIfInBounds_toArray, List.set_cons_zero, List.set_cons_succ]
                  refine wpAnyG_take' (i := 19) (v := ?v19_20r15) rfl (by kernel_rfl) (by kernel_rfl) (by kernel_rfl) (by kernel_rfl) (fun _ _ _ h => h) (Or.inl ⟨by rfl, ?hy19_20r15⟩) HS1.out ?rest19_20r15
                  case hy19_20r15 => intro w hSw; (try dsimp only at hSw); go_simp; (try with_reducible rfl)
                  case rest19_20r15 =>
                  try simp only [List.getElem_toArray, List.getElem_cons_succ, List.getElem_cons_zero, Act.put, List.setIfInBounds_toArray, List.set_cons_zero, List.set_cons_succ]
                  refine wpAnyG_take' (i := 20) (v := ?v20_21r15) rfl (by kernel_rfl) (by kernel_rfl) (by kernel_rfl) (by kernel_rfl) (fun _ _ _ h => h) (Or.inl ⟨by rfl, ?hy20_21r15⟩) HS1.out ?rest20_21r15
                  case hy20_21r15 => intro w hSw; (try dsimp only at hSw); go_simp; (try with_reducible rfl)
                  case rest20_21r15 =>
                  try simp only [List.getElem_toArray, List.getElem_cons_succ, List.getElem_cons_zero, Act.put, List.setIfInBounds_toArray, List.set_cons_zero, List.set_cons_succ]
                  refine wpAnyG_take' (i := 21) (v := ?v21_22r15) rfl (by kernel_rfl) (by kernel_rfl) (by kernel_rfl) (by kernel_rfl) (fun _ _ _ h => h) (Or.inl ⟨by rfl, ?hy21_22r15⟩) HS1.out ?rest21_22r15
                  case hy21_22r15 => intro w hSw; (try dsimp only at hSw); go_simp; (try with_reducible rfl)
                  case rest21_22r15 =>
                  try simp only [List.getElem_toArray, List.getElem_cons_succ, List.getElem_cons_zero, Act.put, List.setIfInBounds_toArray, List.set_cons_zero, List.set_cons_succ]
                  refine wpAnyG_one (i := 22) (by kernel_rfl) rfl (fun K hK => ?_)
                  go_simp
                  refine Calls.mono HC2.out ?_
                  rintro r9 w3 ⟨rfl, hbb⟩
                  have HQ2 := Lib.hid (HQ1.out.below hbb)
                  have HS2 := Lib.hid (And.intro (kn_cells HQ2.out k HKL.out HPE.out) (kn_cells0 HQ2.out HK0.out HQE.out))
                  have HC3 := Lib.hid (writes03 qk qs qo qm qv qls pk ps po pn pv pls 0 0 n _ (HQLN.out _ HQ2.out) (HPLN.out _ HQ2.out) (HKA.out.below HQ2.out.low))
                  clear hbb
                  go_wp2_with fail
                  refine hK.out _ _ (fun _ => ?hS23r15) ?rest23r15
                  case hS23r15 => exact HS2.out
                  clear K hK
                  try simp only [List.getElem_toArray, List.getElem_cons_succ, List.getElem_cons_zero, Act.put, List.setIfInBounds_toArray, List.set_cons_zero, List.set_cons_succ]
                  refine wpAnyG_take' (i := 23) (v := ?v23_24r15) rfl (by kernel_rfl) (by kernel_rfl) (by kernel_rfl) (by kernel_rfl) (fun _ _ _ h => h) (Or.inl ⟨by rfl, ?hy23_24r15⟩) HS2.out ?rest23_24r15
                  case hy23_24r15 => intro w hSw; (try dsimp only at hSw); go_simp; (try with_reducible rfl)
                  case rest23_24r15 =>
                  try simp only [List.getElem_toArray, List.getElem_cons_succ, List.getElem_cons_zero, Act.put, List.setIfInBounds_toArray, List.set_cons_zero, List.set_cons_succ]
                  refine wpAnyG_take' (i := 24) (v := ?v24_25r15) rfl (by kernel_rfl) (by kernel_rfl) (by kernel_rfl) (by kernel_rfl) (fun _ _ _ h => h) (Or.inl ⟨by rfl, ?hy24_25r15⟩) HS2.out ?rest24_25r15
                  case hy24_25r15 => intro w hSw; (try dsimp only at hSw); go_simp; (try with_reducible rfl)
                  case rest24_25r15 =>
                  try simp only [List.getElem_toArray, List.getElem_cons_succ, List.getElem_cons_zero, Act.put, List.setIfInBounds_toArray, List.set_cons_zero, List.set_cons_succ]
                  refine wpAnyG_take' (i := 25) (v := ?v25_26r15) rfl (by kernel_rfl) (by kernel_rfl) (by kernel_rfl) (by kernel_rfl) (fun _ _ _ h => h) (Or.inl ⟨by rfl, ?hy25_26r15⟩) HS2.out ?rest25_26r15
                  case hy25_26r15 => intro w hSw; (try dsimp only at hSw); go_simp; (try with_reducible rfl)
                  case rest25_26r15 =>
                  try simp only [List.getElem_toArray, List.getElem_cons_succ, List.getElem_cons_zero, Act.put, List.setIfInBounds_toArray, List.set_cons_zero, List.set_cons_succ]
                  refine wpAnyG_take' (i := 26) (v := ?v26_27r15) rfl (by kernel_rfl) (by kernel_rfl) (by kernel_rfl) (by kernel_rfl) (fun _ _ _ h => h) (Or.inl ⟨by rfl, ?hy26_27r15⟩) HS2.out ?rest26_27r15
                  case hy26_27r15 => intro w hSw; (try dsimp only at hSw); go_simp; (try with_reducible rfl)
                  case rest26_27r15 =>
                  try simp only [List.getElem_toArray, List.getElem_cons_succ, List.getElem_cons_zero, Act.put, List.setIfInBounds_toArray, List.set_cons_zero, List.set_cons_succ]
                  refine wpAnyG_take' (i := 27) (v := ?v27_28r15) rfl (by kernel_rfl) (by kernel_rfl) (by kernel_rfl) (by kernel_rfl) (fun _ _ _ h => h) (Or.inl ⟨by rfl, ?hy27_28r15⟩) HS2.out ?rest27_28r15
                  case hy27_28r15 => intro w hSw; (try dsimp only at hSw); go_simp; (try with_reducible rfl)
                  case rest27_28r15 =>
                  try simp only [List.getElem_toArray, List.getElem_cons_succ, List.getElem_cons_zero, Act.put, List.setIfInBounds_toArray, List.set_cons_zero, List.set_cons_succ]
                  refine wpAnyG_take' (i := 28) (v := ?v28_29r15) rfl (by kernel_rfl) (by kernel_rfl) (by kernel_rfl) (by kernel_rfl) (fun _ _ _ h => h) (Or.inl ⟨by rfl, ?hy28_29r15⟩) HS2.out ?rest28_29r15
                  case hy28_29r15 => intro w hSw; (try dsimp only at hSw); go_simp; (try with_reducible rfl)
                  case rest28_29r15 =>
                  try simp only [List.getElem_toArray, List.getElem_cons_succ, List.getElem_cons_zero, Act.put, List.setIfInBounds_toArray, List.set_cons_zero, List.set_cons_succ]
                  refine wpAnyG_take' (i := 29) (v := ?v29_30r15) rfl (by kernel_rfl) (by kernel_rfl) (by kernel_rfl) (by kernel_rfl) (fun _ _ _ h => h) (Or.inl ⟨by rfl, ?hy29_30r15⟩) HS2.out ?rest29_30r15
                  case hy29_30r15 => intro w hSw; (try dsimp only at hSw); go_simp; (try with_reducible rfl)
                  case rest29_30r15 =>
                  try simp only [List.getElem_toArray, List.getElem_cons_succ, List.getElem_cons_zero, Act.put, List.setIfInBounds_toArray, List.set_cons_zero, List.set_cons_succ]
                  refine wpAnyG_take' (i := 30) (v := ?v30_31r15) rfl (by kernel_rfl) (by kernel_rfl) (by kernel_rfl) (by kernel_rfl) (fun _ _ _ h => h) (Or.inl ⟨by rfl, ?hy30_31r15⟩) HS2.out ?rest30_31r15
                  case hy30_31r15 => intro w hSw; (try dsimp only at hSw); go_simp; (try with_reducible rfl)
                  case rest30_31r15 =>
                  try simp only [List.getElem_toArray, List.getElem_cons_succ, List.getElem_cons_zero, Act.put, List.setIfInBounds_toArray, List.set_cons_zero, List.set_cons_succ]
                  refine wpAnyG_take' (i := 31) (v := ?v31_32r15) rfl (by kernel_rfl) (by kernel_rfl) (by kernel_rfl) (by kernel_rfl) (fun _ _ _ h => h) (Or.inl ⟨by rfl, ?hy31_32r15⟩) HS2.out ?rest31_32r15
                  case hy31_32r15 => intro w hSw; (try dsimp only at hSw); go_simp; (try with_reducible rfl)
                  case rest31_32r15 =>
                  try simp only [List.getElem_toArray, List.getElem_cons_succ, List.getElem_cons_zero, Act.put, List.setIfInBounds_toArray, List.set_cons_zero, List.set_cons_succ]
                  refine wpAnyG_take' (i := 32) (v := ?v32_33r15) rfl (by kernel_rfl) (by kernel_rfl) (by kernel_rfl) (by kernel_rfl) (fun _ _ _ h => h) (Or.inl ⟨by rfl, ?hy32_33r15⟩) HS2.out ?rest32_33r15
                  case hy32_33r15 => intro w hSw; (try dsimp only at hSw); go_simp; (try with_reducible rfl)
                  case rest32_33r15 =>
                  try simp only [List.getElem_toArray, List.getElem_cons_succ, List.getElem_cons_zero, Act.put, List.setIfInBounds_toArray, List.set_cons_zero, List.set_cons_succ]
                  refine wpAnyG_take' (i := 33) (v := ?v33_34r15) rfl (by kernel_rfl) (by kernel_rfl) (by kernel_rfl) (by kernel_rfl) (fun _ _ _ h => h) (Or.inl ⟨by rfl, ?hy33_34r15⟩) HS2.out ?rest33_34r15
                  case hy33_34r15 => intro w hSw; (try dsimp only at hSw); go_simp; (try with_reducible rfl)
                  case rest33_34r15 =>
                  try simp only [List.getElem_toArray, List.getElem_cons_succ, List.getElem_cons_zero, Act.put, List.setIfInBounds_toArray, List.set_cons_zero, List.set_cons_succ]
                  refine wpAnyG_take' (i := 34) (v := ?v34_35r15) rfl (by kernel_rfl) (by kernel_rfl) (by kernel_rfl) (by kernel_rfl) (fun _ _ _ h => h) (Or.inl ⟨by rfl, ?hy34_35r15⟩) HS2.out ?rest34_35r15
                  case hy34_35r15 => intro w hSw; (try dsimp only at hSw); go_simp; (try with_reducible rfl)
                  case rest34_35r15 =>
                  try simp only [List.getElem_toArray, List.getElem_cons_succ, List.getElem_cons_zero, Act.put, List.setIfInBounds_toArray, List.set_cons_zero, List.set_cons_succ]
                  refine wpAnyG_one (i := 35) (by kernel_rfl) rfl (fun K hK => ?_)
                  go_simp
                  refine Calls.mono HC3.out ?_
                  rintro r9 w4 ⟨rfl, hbb⟩
                  have HQ3 := Lib.hid (HQ2.out.below hbb)
                  have HS3 := Lib.hid (And.intro (kn_cells HQ3.out k HKL.out HPE.out) (kn_cells0 HQ3.out HK0.out HQE.out))
                  clear hbb
                  go_wp2_with fail
                  refine hK.out _ _ (fun _ => ?hS36r15) ?rest36r15
                  case hS36r15 => exact HS3.out
                  clear K hK
                  try simp only [List.getElem_toArray, List.getElem_cons_succ, List.getElem_cons_zero, Act.put, List.setIfInBounds_toArray, List.set_cons_zero, List.set_cons_succ]
                  refine wpAnyG_take' (i := 36) (v := ?v36_37r15) rfl (by kernel_rfl) (by kernel_rfl) (by kernel_rfl) (by kernel_rfl) (fun _ _ _ h => h) (Or.inl ⟨by rfl, ?hy36_37r15⟩) HS3.out ?rest36_37r15
                  case hy36_37r15 => intro w hSw; (try dsimp only at hSw); go_simp; (try with_reducible rfl)
                  case rest36_37r15 =>
                  try simp only [List.getElem_toArray, List.getElem_cons_succ, List.getElem_cons_zero, Act.put, List.setIfInBounds_toArray, List.set_cons_zero, List.set_cons_succ]
                  refine wpAnyG_take' (i := 37) (v := ?v37_38r15) rfl (by kernel_rfl) (by kernel_rfl) (by kernel_rfl) (by kernel_rfl) (fun _ _ _ h => h) (Or.inl ⟨by rfl, ?hy37_38r15⟩) HS3.out ?rest37_38r15
                  case hy37_38r15 => intro w hSw; (try dsimp only at hSw); go_simp; (try with_reducible rfl)
                  case rest37_38r15 =>
                  try simp only [List.getElem_toArray, List.getElem_cons_succ, List.getElem_cons_zero, Act.put, List.setIfInBounds_toArray, List.set_cons_zero, List.set_cons_succ]
                  refine wpAnyG_done (by kernel_rfl) ?_ _
                  try simp only [List.getElem_toArray, List.getElem_cons_succ, List.getElem_cons_zero, Act.put, List.setIfInBounds_toArray, List.set_cons_zero, List.set_cons_succ]
                  clear HQ HQ1 HQ2 HS1 HS2 HS3 HSS HC1 HC2 HC3 hS
                  go_wp2_with fail
                  go_roundw
                  case rel => exact ⟨k + 1, by have := HKL.out; exact this, by go_num, HQ3.out⟩
                  case measure => have : k < 8 := HKL.out; simp [intOf]; omega
                · have hd8 : decide ((k : Int) < 8) = false := decide_eq_false (by omega)
                  have HF := Lib.hid hs.drop.drop
                  clear hs hk hk8
                  go_wp2_with fail
                  go_roundw
                  case rel => exact ⟨i + 1, by have := of_decide_eq_true hd9; omega, by go_num, HF.out⟩
                  case measure => have := of_decide_eq_true hd9; simp [intOf]; omega
          · have hd9 : decide ((i : Int) < 9) = false := decide_eq_false (by omega)
            have HF := Lib.hid hs
            clear hs hi hi9
            as_aux_lemma =>
              go_wp2_with fail
              go_loopw [9] (fun i wz => ∃ k : Nat, k ≤ 8 ∧ i = .int .i64 k ∧ Sep w [Cl b3 #[.string ⟨#[97]⟩, .int .i64 1] 39, Cl b2 na 9, Cl b1 ea 3] wz) (fun i _ => 8 - (intOf i).toNat)
              case atStart => exact ⟨0, by omega, rfl, HF.out⟩
              case round =>
                obtain ⟨k, hk, rfl, hs⟩ := hrel
                clear HF
                have kz : (0 : Int) ≤ (k : Int) := by omega
                by_cases hk8 : k < 8
                · have hd8 : decide ((k : Int) < 8) = true := decide_eq_true (by omega)
                  have hk8' : (k : Int) < 8 := by omega
                  obtain ⟨s, hn⟩ := HNA.out k hk8
                  have e1 := hs.sw2.cell hn
                  have HQ := Lib.hid hs
                  have HNN := Lib.hid hn
                  have HC1 := Lib.hid (writes03 (qn : Int) s 0 1 (.slice none 0 0) [] 0 sZ 0 0 (.slice none 0 0) [] 0 0 0 _ (lnS_nil _) (lnS_nil _) (HKA.out.below hs.low))
                  clear hs hk hk8 hn
                  go_wp2_with fail
                  refine HC1.out.mono ?_
                  rintro r0 w2 ⟨rfl, hb⟩
                  have HQ1 := Lib.hid (HQ.out.below hb)
                  clear HC1 e1 hb
                  have e1 := HQ1.out.sw2.cell HNN.out
                  have HC1 := Lib.hid (writes03 (qn : Int) s 0 0 (.slice none 0 0) [] 0 sZ 0 0 (.slice none 0 0) [] 0 0 0 _ (lnS_nil _) (lnS_nil _) (HKA.out.below HQ1.out.low))
                  go_wp2_with fail
                  refine HC1.out.mono ?_
                  rintro r0 w3 ⟨rfl, hb⟩
                  have HQ2 := Lib.hid (HQ1.out.below hb)
                  clear HC1 e1 hb
                  have e1 := HQ2.out.sw2.cell HNN.out
                  have h4 := HQ2.out.alloc (.cells #[.string s.1, .int .i64 1, .string ⟨#[97]⟩, .int .i64 2] 39)
                  have HC1 := Lib.hid (writes03 (qn : Int) sZ 1 1 (.slice (some ⟨w3.heap.size, 0, none⟩) 2 2) [(s, 1), (sA, 2)] 0 sZ 0 0 (.slice none 0 0) [] 0 0 0 _ (h4.lnCl (ls := [(s, 1), (sA, 2)]) rfl rfl (by decide)) (lnS_nil _) (HKA.out.below h4.low))
                  have H4 := Lib.hid h4
                  clear h4
                  go_wp2_with (refine wpList_build2 (l := #[.string s.1, .int .i64 1, .string ⟨#[97]⟩, .int .i64 2]) rfl _ _ rfl rfl rfl rfl ?_)
                  refine HC1.out.mono ?_
                  rintro r0 w5 ⟨rfl, hb⟩
                  have HF := Lib.hid (H4.out.below hb).drop
                  clear HC1 e1 hb H4
                  go_wp2_with fail
                  go_roundw
                  case rel => exact ⟨k + 1, by have := of_decide_eq_true hd8; omega, by go_num, HF.out⟩
                  case measure => have := of_decide_eq_true hd8; simp [intOf]; omega
                · have hd8 : decide ((k : Int) < 8) = false := decide_eq_false (by omega)
                  have HF := Lib.hid hs
                  clear hs hk hk8
                  go_wp2_with fail
                  go_roundw
                  case rel => exact ⟨qn + 1, by have := of_decide_eq_true hd; omega, by go_num, HF.out⟩
                  case measure => have := of_decide_eq_true hd; simp [intOf]; omega
    · have hd : decide ((qn : Int) < 11) = false := decide_eq_false (by omega)
      clear hq hq11 HEA HNA
      have h5 := HS.out.alloc (.cells #[.string ⟨#[97]⟩, .int .i64 1, .string ⟨#[98]⟩, .int .i64 1, .string ⟨#[99]⟩, .int .i64 1, .string ⟨#[100]⟩, .int .i64 1, .string ⟨#[101]⟩, .int .i64 1] 39)
      obtain ⟨b10, hb10⟩ : ∃ z, z = wr.heap.size := ⟨_, rfl⟩
      obtain ⟨W5, hW5⟩ : ∃ z, z = wr.alloc (.cells #[.string ⟨#[97]⟩, .int .i64 1, .string ⟨#[98]⟩, .int .i64 1, .string ⟨#[99]⟩, .int .i64 1, .string ⟨#[100]⟩, .int .i64 1, .string ⟨#[101]⟩, .int .i64 1] 39) := ⟨_, rfl⟩
      rw [← hb10, ← hW5] at h5
      have H5 : Hid (Sep w [Cl b10 #[.string ⟨#[97]⟩, .int .i64 1, .string ⟨#[98]⟩, .int .i64 1, .string ⟨#[99]⟩, .int .i64 1, .string ⟨#[100]⟩, .int .i64 1, .string ⟨#[101]⟩, .int .i64 1] 39] W5) := Lib.hid (h5.pick [0] rfl)
      clear h5 HS
      as_aux_lemma =>
        go_wp2_with (refine wpList_build5 (l := #[.string ⟨#[97]⟩, .int .i64 1, .string ⟨#[98]⟩, .int .i64 1, .string ⟨#[99]⟩, .int .i64 1, .string ⟨#[100]⟩, .int .i64 1, .string ⟨#[101]⟩, .int .i64 1]) rfl _ _ _ _ _ rfl rfl rfl rfl rfl rfl rfl ?_)
        rw [← hb10, ← hW5]
        clear hb10 hW5
        go_loopw [11] (fun i wz => ∃ k : Nat, k ≤ 256 ∧ i = .int .i64 k ∧ Sep w [Cl b10 #[.string ⟨#[97]⟩, .int .i64 1, .string ⟨#[98]⟩, .int .i64 1, .string ⟨#[99]⟩, .int .i64 1, .string ⟨#[100]⟩, .int .i64 1, .string ⟨#[101]⟩, .int .i64 1] 39] wz) (fun i _ => 256 - (intOf i).toNat)
        case atStart => exact ⟨0, by omega, rfl, H5.out⟩
        case round =>
          obtain ⟨c, hc, rfl, hs⟩ := hrel
          clear H5
          have HS := Lib.hid hs
          clear hs
          by_cases hc256 : c < 256
          · have hd5 : decide ((c : Int) < 256) = true := decide_eq_true (by omega)
            obtain ⟨b, rfl⟩ : ∃ b : UInt8, c = b.toNat := ⟨UInt8.ofNat c, by simp; omega⟩
            have h0 := HS.out.alloc (.cells #[.int .u8 b.toNat, .int .u8 1, .int .u8 97, .int .u8 2] 5)
            have HC := Lib.hid (reads03 (some ⟨wr.heap.size, 0, none⟩) 4 [b, 1, 97, 2] 4 _ (h0.litSl [b, 1, 97, 2] rfl rfl (by decide)) rfl (HKA.out.below h0.low) (by omega))
            have HX := Lib.hid h0
            clear h0 HS
            go_wp2_with fail
            refine HC.out.mono ?_
            rintro r0 v1 ⟨rfl, hb⟩
            have HS := Lib.hid (HX.out.below hb).drop
            clear HC hb HX
            have h1 := HS.out.alloc (.cells #[.int .u8 b.toNat, .int .u8 7, .int .u8 9, .int .u8 2, .int .u8 1, .int .u8 97, .int .u8 1, .int .u8 1, .int .u8 98, .int .u8 2] 5)
            have HC := Lib.hid (reads03 (some ⟨v1.heap.size, 0, none⟩) 10 [b, 7, 9, 2, 1, 97, 1, 1, 98, 2] 10 _ (h1.litSl [b, 7, 9, 2, 1, 97, 1, 1, 98, 2] rfl rfl (by decide)) rfl (HKA.out.below h1.low) (by omega))
            have HX := Lib.hid h1
            clear h1 HS
            try dsimp only
            repeat (first | (refine opwp_build10 _ _ _ _ _ _ _ _ _ _ rfl rfl rfl rfl rfl rfl rfl rfl rfl rfl rfl rfl ?_) | go_values | go_skip | go_guarded | go_step | go_upon | go_back)
            refine HC.out.mono ?_
            rintro r0 v2 ⟨rfl, hb⟩
            have HS := Lib.hid (HX.out.below hb).drop
            clear HC hb HX
            have h2 := HS.out.alloc (.cells #[.int .u8 3, .int .u8 7, .int .u8 9, .int .u8 b.toNat, .int .u8 1, .int .u8 97, .int .u8 1, .int .u8 1, .int .u8 98, .int .u8 2] 5)
            have HC := Lib.hid (reads03 (some ⟨v2.heap.size, 0, none⟩) 10 [3, 7, 9, b, 1, 97, 1, 1, 98, 2] 10 _ (h2.litSl [3, 7, 9, b, 1, 97, 1, 1, 98, 2] rfl rfl (by decide)) rfl (HKA.out.below h2.low) (by omega))
            have HX := Lib.hid h2
            clear h2 HS
            try dsimp only
            repeat (first | (refine opwp_build10 _ _ _ _ _ _ _ _ _ _ rfl rfl rfl rfl rfl rfl rfl rfl rfl rfl rfl rfl ?_) | go_values | go_skip | go_guarded | go_step | go_upon | go_back)
            refine HC.out.mono ?_
            rintro r0 v3 ⟨rfl, hb⟩
            have HS := Lib.hid (HX.out.below hb).drop
            clear HC hb HX
            have h3 := HS.out.alloc (.cells #[.int .u8 b.toNat] 5)
            have HC := Lib.hid (reads03 (some ⟨v3.heap.size, 0, none⟩) 1 [b] 1 _ (h3.litSl [b] rfl rfl (by decide)) rfl (HKA.out.below h3.low) (by omega))
            have HX := Lib.hid h3
            clear h3 HS
            go_wp2_with fail
            refine HC.out.mono ?_
            rintro r0 v4 ⟨rfl, hb⟩
            have HS := Lib.hid (HX.out.below hb).drop
            clear HC hb HX
            go_wp2_with fail
            go_roundw
            case rel => exact ⟨b.toNat + 1, by have := b.toNat_lt; omega, by go_num, HS.out⟩
            case measure => have := b.toNat_lt; simp [intOf]; omega
          · have hd5 : decide ((c : Int) < 256) = false := decide_eq_false (by omega)
            clear hc hc256
            have HW := Lib.hid (works_any HS.out (HKA.out.below HS.out.low))
            go_wp2_with fail
            refine HW.out.mono ?_
            rintro r0 w2 ⟨rfl, h2⟩
            have HR := Lib.hid (reads03 none 0 [] 0 w2 (sl_nil _) rfl (HKA.out.below h2.low) (by omega))
            have H2 := Lib.hid h2
            clear h2 HW HS
            go_wp2_with fail
            refine HR.out.mono ?_
            rintro r0 w3 ⟨rfl, hb⟩
            have H3 := Lib.hid (H2.out.below hb)
            have HC := Lib.hid (writes03 3 sZ 1 1 (.slice (some ⟨b10, 0, none⟩) 5 5) five 3 sZ 1 1 (.slice (some ⟨b10, 0, none⟩) 4 5) (five.take 4) 0 0 0 _ (H3.out.lnCl (ls := five) rfl rfl (by decide)) (lns_take (H3.out.lnCl (ls := five) rfl rfl (by decide)) 4 (by decide)) (HKA.out.below H3.out.low))
            clear hb HR H2
            go_wp2_with fail
            refine HC.out.mono ?_
            rintro r0 w4 ⟨rfl, hb⟩
            have H4 := Lib.hid (H3.out.below hb)
            clear HC hb H3
            have HC := Lib.hid (writes03 3 sZ 1 1 (.slice (some ⟨b10, 0, none⟩) 4 5) (five.take 4) 0 sZ 0 0 (.slice none 0 0) [] 0 0 0 _ (lns_take (H4.out.lnCl (ls := five) rfl rfl (by decide)) 4 (by decide)) (lnS_nil _) (HKA.out.below H4.out.low))
            go_wp2_with fail
            refine HC.out.mono ?_
            rintro r0 w5 ⟨rfl, hb⟩
            have HF := Lib.hid (H4.out.below hb)
            clear HC hb H4
            go_wp2_with fail
            go_ret
            exact ⟨rfl, HF.out.low⟩
end Go.Proofs.YtfjodadmcfdlpaaDoor
