/- TableOpens. -/
import Derived.Test.YtjjjkfdppleagaaTable36
namespace Go.Proofs.Ytjjjkfdppleagaa
open Go Go.RowKit
set_option linter.unusedVariables false
set_option linter.unusedSimpArgs false
set_option maxRecDepth 100000 in
set_option maxHeartbeats 0 in
theorem opens10_any (b : List UInt8) (bn bc : Nat) (ba : Option Addr) (w : World) (hbn : b.length = bn) (hb2 : Sl w (.slice ba bn bc) (bv b)) (hbnc : bn ≤ bc) :
    Calls Try.prog 4 #[.slice ba bn bc] w fun e w' => e = .returned (.bool true) ∧ Below w.heap.size w w' := by
  obtain ⟨m, hml, hm4, hm, hmo⟩ := min_len bn 400
  rw [show ((400 : Nat) : Int) = 400 from rfl] at hm
  have mc : (m : Int) ≤ (bc : Int) := by omega
  have m0 : (0 : Int) ≤ (m : Int) := by omega
  subst hbn
  have hsl := sl_pre hb2 hml
  have HTL : Hid ((b.take m).length = m ∧ m ≤ 400) := Lib.hid ⟨by rw [List.length_take]; omega, hm4⟩
  generalize b.take m = bt at *
  have HC1 := Lib.hid (copyBytes_any _ bt w hsl (by have := HTL.out; omega))
  clear hb2 hml hm4 hmo hbnc hsl
  generalize b.length = bn at *
  clear b
  go_enter Try.func4, Try.ntmps4
  (try dsimp only); repeat' (first | go_values | go_skip | go_guarded | go_step | go_upon | go_back)
  refine HC1.out.mono ?_
  rintro r0 w1 ⟨⟨v1, rfl, ho1⟩, hb1⟩
  have h1 : Sep w [By v1 bt] w1 := (Sep.start w).row hb1 ho1
  obtain ⟨a1, c1, rfl⟩ := h1.sl.len
  have HC2 := Lib.hid (copyBytes_any _ bt w1 h1.sl (by have := HTL.out; omega))
  have H1 := Lib.hid h1
  clear HC1 h1 ho1 hb1
  (try dsimp only); repeat' (first | go_values | go_skip | go_guarded | go_step | go_upon | go_back)
  refine HC2.out.mono ?_
  rintro r1 w2 ⟨⟨v2, rfl, ho2⟩, hb2⟩
  have h2 : Sep w [By v2 bt, By (.slice a1 (bv bt).length c1) bt] w2 := H1.out.row hb2 ho2
  obtain ⟨a2, c2, rfl⟩ := h2.sl.len
  have HT := Lib.hid (topen_any _ bt h2 h2.sw2.sl (by have := HTL.out; omega))
  clear HC2 h2 ho2 hb2 H1
  rcases opnT_none bt with ⟨T, hT⟩ | ⟨er, hE, hne⟩
  · have HA := Lib.hid (opnT_again bt T hT)
    have HO := Lib.hid (HT.out.mono (R' := fun e w' => ∃ t, e = .returned (.tuple #[.pointer (some ⟨t, 0, none⟩), .int .i64 0]) ∧ Sep w [TabT t T, By (.slice a2 (bv bt).length c2) bt, By (.slice a1 (bv bt).length c1) bt] w') (by
      rintro e w' (⟨T', t, h1, h2, h3⟩ | ⟨er, h1, h2, h3, h4⟩)
      · rw [hT] at h1; cases h1; exact ⟨t, h2, h3⟩
      · rw [hT] at h1; cases h1))
    have hD := docO_eq bt
    rw [hT] at hD
    have HD := Lib.hid hD
    clear HT hT hD
    (try dsimp only); repeat' (first | go_values | go_skip | go_guarded | go_step | go_upon | go_back)
    refine HO.out.mono ?_
    rintro r2 w3 ⟨t, rfl, h3⟩
    have HT2 := Lib.hid ((dopen_any _ bt h3 h3.sw2.sl (by have := HTL.out; omega)).mono (R' := fun e w' => ∃ m, e = .returned (.tuple #[.pointer (some ⟨m, 0, none⟩), .int .i64 0]) ∧ Sep w [DocT m (seatsOf T), TabT t T, By (.slice a2 (bv bt).length c2) bt, By (.slice a1 (bv bt).length c1) bt] w') (by
      rintro e w' (⟨F, g, h1, h2, h3⟩ | ⟨er, h1, h2, h3, h4⟩)
      · rw [HD.out] at h1; cases h1; exact ⟨g, h2, h3⟩
      · rw [HD.out] at h1; cases h1))
    clear HO HD h3
    (try dsimp only); repeat' (first | go_values | go_skip | go_guarded | go_step | go_upon | go_back)
    refine HT2.out.mono ?_
    rintro r3 w4 ⟨m, rfl, h4⟩
    obtain ⟨aM, cM, h5⟩ := h4.docOpen
    obtain ⟨nF, hnF⟩ : ∃ z, z = (seatsOf T).length := ⟨_, rfl⟩
    have hnF8 : nF ≤ 8 := by rw [hnF]; exact seats_len8 HA.out.1.len
    rw [← hnF] at h5
    have HNF := Lib.hid (And.intro hnF hnF8)
    have g0 := h5.cell (o := 0) rfl
    have H5 := Lib.hid h5
    clear HT2 h4 h5 hnF hnF8
    (try dsimp only); repeat' (first | go_values | go_skip | go_guarded | go_step | go_upon | go_back)
    refine wp_region_G (fun w' => w'.cell? ⟨m, 0, none⟩ = some (.slice aM nF cM)) [] (by kernel_rfl) g0 (fun hS => ?_)
    try dsimp only at hS
    refine wpAnyG_take' (i := 0) (v := ?v0_1pa) rfl (by kernel_rfl) (by kernel_rfl) (by kernel_rfl) (by kernel_rfl) (fun _ _ _ h => h) (Or.inl ⟨by rfl, ?hy0_1pa⟩) hS ?rest0_1pa
    case hy0_1pa => intro w hSw; (try dsimp only at hSw); go_simp; (try with_reducible rfl)
    case rest0_1pa =>
    try simp only [List.getElem_toArray, List.getElem_cons_succ, List.getElem_cons_zero, Act.put, List.setIfInBounds_toArray, List.set_cons_zero, List.set_cons_succ]
    refine wpAnyG_take' (i := 1) (v := ?v1_2pa) rfl (by kernel_rfl) (by kernel_rfl) (by kernel_rfl) (by kernel_rfl) (fun _ _ _ h => h) (Or.inl ⟨by rfl, ?hy1_2pa⟩) hS ?rest1_2pa
    case hy1_2pa => intro w hSw; (try dsimp only at hSw); go_simp; (try with_reducible rfl)
    case rest1_2pa =>
    try simp only [List.getElem_toArray, List.getElem_cons_succ, List.getElem_cons_zero, Act.put, List.setIfInBounds_toArray, List.set_cons_zero, List.set_cons_succ]
    refine wpAnyG_take' (i := 2) (v := ?v2_3pa) rfl (by kernel_rfl) (by kernel_rfl) (by kernel_rfl) (by kernel_rfl) (fun _ _ _ h => h) (Or.inl ⟨by rfl, ?hy2_3pa⟩) hS ?rest2_3pa
    case hy2_3pa => intro w hSw; (try dsimp only at hSw); go_simp; (try with_reducible rfl)
    case rest2_3pa =>
    try simp only [List.getElem_toArray, List.getElem_cons_succ, List.getElem_cons_zero, Act.put, List.setIfInBounds_toArray, List.set_cons_zero, List.set_cons_succ]
    refine wpAnyG_take' (i := 3) (v := ?v3_4pa) rfl (by kernel_rfl) (by kernel_rfl) (by kernel_rfl) (by kernel_rfl) (fun _ _ _ h => h) (Or.inl ⟨by rfl, ?hy3_4pa⟩) hS ?rest3_4pa
    case hy3_4pa => intro w hSw; (try dsimp only at hSw); go_simp; (try with_reducible rfl)
    case rest3_4pa =>
    try simp only [List.getElem_toArray, List.getElem_cons_succ, List.getElem_cons_zero, Act.put, List.setIfInBounds_toArray, List.set_cons_zero, List.set_cons_succ]
    refine wpAnyG_take' (i := 5) (v := ?v5_5pa) rfl (by kernel_rfl) (by kernel_rfl) (by kernel_rfl) (by kernel_rfl) (fun _ _ _ h => h) (Or.inl ⟨by rfl, ?hy5_5pa⟩) hS ?rest5_5pa
    case hy5_5pa => intro w hSw; (try dsimp only at hSw); go_simp; (try with_reducible rfl)
    case rest5_5pa =>
    try simp only [List.getElem_toArray, List.getElem_cons_succ, List.getElem_cons_zero, Act.put, List.setIfInBounds_toArray, List.set_cons_zero, List.set_cons_succ]
    refine wpAnyG_take' (i := 6) (v := ?v6_6pa) rfl (by kernel_rfl) (by kernel_rfl) (by kernel_rfl) (by kernel_rfl) (fun _ _ _ h => h) (Or.inl ⟨by rfl, ?hy6_6pa⟩) hS ?rest6_6pa
    case hy6_6pa => intro w hSw; (try dsimp only at hSw); go_simp; (try with_reducible rfl)
    case rest6_6pa =>
    try simp only [List.getElem_toArray, List.getElem_cons_succ, List.getElem_cons_zero, Act.put, List.setIfInBounds_toArray, List.set_cons_zero, List.set_cons_succ]
    refine wpAnyG_take' (i := 7) (v := ?v7_7pa) rfl (by kernel_rfl) (by kernel_rfl) (by kernel_rfl) (by kernel_rfl) (fun _ _ _ h => h) (Or.inl ⟨by rfl, ?hy7_7pa⟩) hS ?rest7_7pa
    case hy7_7pa => intro w hSw; (try dsimp only at hSw); go_simp; (try with_reducible rfl)
    case rest7_7pa =>
    try simp only [List.getElem_toArray, List.getElem_cons_succ, List.getElem_cons_zero, Act.put, List.setIfInBounds_toArray, List.set_cons_zero, List.set_cons_succ]
    refine wpAnyG_take' (i := 8) (v := ?v8_8pa) rfl (by kernel_rfl) (by kernel_rfl) (by kernel_rfl) (by kernel_rfl) (fun _ _ _ h => h) (Or.inl ⟨by rfl, ?hy8_8pa⟩) hS ?rest8_8pa
    case hy8_8pa => intro w hSw; (try dsimp only at hSw); go_simp; (try with_reducible rfl)
    case rest8_8pa =>
    try simp only [List.getElem_toArray, List.getElem_cons_succ, List.getElem_cons_zero, Act.put, List.setIfInBounds_toArray, List.set_cons_zero, List.set_cons_succ]
    refine wpAnyG_one (i := 4) (by kernel_rfl) rfl (fun K hK => ?_)
    go_simp
    have hl := tlist_any (H5.out.drew.pick [2, 0, 1, 3, 4] rfl : Sep w [TabT t T, Cl m #[.slice aM nF cM] 49, SsT (.slice aM nF cM) (seatsOf T), By (.slice a2 (bv bt).length c2) bt, By (.slice a1 (bv bt).length c1) bt] _) HA.out.1.len
    rw [← HNF.out.1] at hl
    refine Calls.mono hl ?_
    rintro r4 w5 ⟨aL, cL, rfl, hd2⟩
    have g1 := hd2.sw3.cell (o := 0) rfl
    have HD2 := Lib.hid hd2
    clear hd2 hl H5
    (try dsimp only); repeat' (first | go_values | go_skip | go_guarded | go_step | go_upon | go_back)
    refine hK.out _ _ (fun _ => ?hS9pa) ?rest9pa
    case hS9pa => exact g1
    clear K hK
    try simp only [List.getElem_toArray, List.getElem_cons_succ, List.getElem_cons_zero, Act.put, List.setIfInBounds_toArray, List.set_cons_zero, List.set_cons_succ]
    refine wpAnyG_one (i := 9) (by kernel_rfl) rfl (fun K hK => ?_)
    go_simp
    have hd3 : Sep w [SsT (.slice aL nF cL) (seatsOf T), SsT (.slice aM nF cM) (seatsOf T), Cl m #[.slice aM nF cM] 49, TabT t T, By (.slice a2 (bv bt).length c2) bt, By (.slice a1 (bv bt).length c1) bt] _ := HD2.out.pick [0, 3, 2, 1, 4, 5] rfl
    refine Calls.mono (dsame_any hd3 (by rw [← HNF.out.1]; have := HNF.out.2; omega)) ?_
    rintro r9 w6 ⟨rfl, hd4⟩
    have g2 := hd4.sw3.cell (o := 0) rfl
    have HD3 := Lib.hid hd4
    clear hd3 hd4 HD2
    (try dsimp only); repeat' (first | go_values | go_skip | go_guarded | go_step | go_upon | go_back)
    refine hK.out _ _ (fun _ => ?hS10pa) ?rest10pa
    case hS10pa => exact g2
    clear K hK
    try simp only [List.getElem_toArray, List.getElem_cons_succ, List.getElem_cons_zero, Act.put, List.setIfInBounds_toArray, List.set_cons_zero, List.set_cons_succ]
    refine wpAnyG_take' (i := 10) (v := ?v10_11pa) rfl (by kernel_rfl) (by kernel_rfl) (by kernel_rfl) (by kernel_rfl) (fun _ _ _ h => h) (Or.inl ⟨by rfl, ?hy10_11pa⟩) g2 ?rest10_11pa
    case hy10_11pa => intro w hSw; (try dsimp only at hSw); go_simp; (try with_reducible rfl)
    case rest10_11pa =>
    try simp only [List.getElem_toArray, List.getElem_cons_succ, List.getElem_cons_zero, Act.put, List.setIfInBounds_toArray, List.set_cons_zero, List.set_cons_succ]
    refine wpAnyG_take' (i := 11) (v := ?v11_12pa) rfl (by kernel_rfl) (by kernel_rfl) (by kernel_rfl) (by kernel_rfl) (fun _ _ _ h => h) (Or.inl ⟨by rfl, ?hy11_12pa⟩) g2 ?rest11_12pa
    case hy11_12pa => intro w hSw; (try dsimp only at hSw); go_simp; (try with_reducible rfl)
    case rest11_12pa =>
    try simp only [List.getElem_toArray, List.getElem_cons_succ, List.getElem_cons_zero, Act.put, List.setIfInBounds_toArray, List.set_cons_zero, List.set_cons_succ]
    refine wpAnyG_take' (i := 13) (v := ?v13_13pa) rfl (by kernel_rfl) (by kernel_rfl) (by kernel_rfl) (by kernel_rfl) (fun _ _ _ h => h) (Or.inl ⟨by rfl, ?hy13_13pa⟩) g2 ?rest13_13pa
    case hy13_13pa => intro w hSw; (try dsimp only at hSw); go_simp; (try with_reducible rfl)
    case rest13_13pa =>
    try simp only [List.getElem_toArray, List.getElem_cons_succ, List.getElem_cons_zero, Act.put, List.setIfInBounds_toArray, List.set_cons_zero, List.set_cons_succ]
    refine wpAnyG_one (i := 12) (by kernel_rfl) rfl (fun K hK => ?_)
    go_simp
    have hd5 : Sep w [TabT t T, Cl m #[.slice aM nF cM] 49, SsT (.slice aM nF cM) (seatsOf T), By (.slice a2 (bv bt).length c2) bt, By (.slice a1 (bv bt).length c1) bt] _ := HD3.out.pick [3, 2, 1, 4, 5] rfl
    refine Calls.mono (tbytes_any hd5 HA.out.1.len HA.out.1.oks) ?_
    rintro r12 w7 ⟨u7, rfl, hd6⟩
    obtain ⟨a7, c7, rfl⟩ := hd6.sl.len
    have g3 := hd6.sw3.cell (o := 0) rfl
    have HD4 := Lib.hid hd6
    clear hd5 hd6 HD3
    (try dsimp only); repeat' (first | go_values | go_skip | go_guarded | go_step | go_upon | go_back)
    refine hK.out _ _ (fun _ => ?hS14pa) ?rest14pa
    case hS14pa => exact g3
    clear K hK
    try simp only [List.getElem_toArray, List.getElem_cons_succ, List.getElem_cons_zero, Act.put, List.setIfInBounds_toArray, List.set_cons_zero, List.set_cons_succ]
    refine wpAnyG_one (i := 14) (by kernel_rfl) rfl (fun K hK => ?_)
    go_simp
    have hd7 : Sep w [Cl m #[.slice aM nF cM] 49, SsT (.slice aM nF cM) (seatsOf T), By (.slice a7 (bv (tabBs T)).length c7) (tabBs T), TabT t T, By (.slice a2 (bv bt).length c2) bt, By (.slice a1 (bv bt).length c1) bt] _ := HD4.out.pick [2, 3, 0, 1, 4, 5] rfl
    have hd8 := Sep.join hd7
    refine Calls.mono (dbytes_any hd8 HNF.out.1 (by rw [← HNF.out.1]; exact HNF.out.2) HA.out.1.oks) ?_
    rintro r14 w8 ⟨u8, rfl, hd9⟩
    obtain ⟨a8, c8, rfl⟩ := hd9.sl.len
    have hd10 := hd9.sw2.both (loc_blk _ _) (loc_ss _ _)
    have g4 := hd10.cell (o := 0) rfl
    have HD9 := Lib.hid hd10
    clear hd7 hd8 hd9 hd10 HD4
    (try dsimp only); repeat' (first | go_values | go_skip | go_guarded | go_step | go_upon | go_back)
    refine hK.out _ _ (fun _ => ?hS15pa) ?rest15pa
    case hS15pa => exact g4
    clear K hK
    try simp only [List.getElem_toArray, List.getElem_cons_succ, List.getElem_cons_zero, Act.put, List.setIfInBounds_toArray, List.set_cons_zero, List.set_cons_succ]
    refine wpAnyG_one (i := 15) (by kernel_rfl) rfl (fun K hK => ?_)
    go_simp
    have he := eqBytes_any _ _ _ _ _ HD9.out.sw4.sl HD9.out.sw3.sl
    rw [show (tabBs T == docBs (seatsOf T)) = true from beq_self_eq_true (tabBs T)] at he
    refine Calls.mono he ?_
    rintro r15 w9 ⟨rfl, rfl⟩
    clear he
    (try dsimp only); repeat' (first | go_values | go_skip | go_guarded | go_step | go_upon | go_back)
    refine hK.out _ _ (fun _ => ?hS16pa) ?rest16pa
    case hS16pa => exact g4
    clear K hK
    try simp only [List.getElem_toArray, List.getElem_cons_succ, List.getElem_cons_zero, Act.put, List.setIfInBounds_toArray, List.set_cons_zero, List.set_cons_succ]
    refine wpAnyG_take' (i := 16) (v := ?v16_17pa) rfl (by kernel_rfl) (by kernel_rfl) (by kernel_rfl) (by kernel_rfl) (fun _ _ _ h => h) (Or.inl ⟨by rfl, ?hy16_17pa⟩) g4 ?rest16_17pa
    case hy16_17pa => intro w hSw; (try dsimp only at hSw); go_simp; (try with_reducible rfl)
    case rest16_17pa =>
    try simp only [List.getElem_toArray, List.getElem_cons_succ, List.getElem_cons_zero, Act.put, List.setIfInBounds_toArray, List.set_cons_zero, List.set_cons_succ]
    refine wpAnyG_take' (i := 17) (v := ?v17_18pa) rfl (by kernel_rfl) (by kernel_rfl) (by kernel_rfl) (by kernel_rfl) (fun _ _ _ h => h) (Or.inl ⟨by rfl, ?hy17_18pa⟩) g4 ?rest17_18pa
    case hy17_18pa => intro w hSw; (try dsimp only at hSw); go_simp; (try with_reducible rfl)
    case rest17_18pa =>
    try simp only [List.getElem_toArray, List.getElem_cons_succ, List.getElem_cons_zero, Act.put, List.setIfInBounds_toArray, List.set_cons_zero, List.set_cons_succ]
    refine wpAnyG_take' (i := 18) (v := ?v18_19pa) rfl (by kernel_rfl) (by kernel_rfl) (by kernel_rfl) (by kernel_rfl) (fun _ _ _ h => h) (Or.inl ⟨by rfl, ?hy18_19pa⟩) g4 ?rest18_19pa
    case hy18_19pa => intro w hSw; (try dsimp only at hSw); go_simp; (try with_reducible rfl)
    case rest18_19pa =>
    try simp only [List.getElem_toArray, List.getElem_cons_succ, List.getElem_cons_zero, Act.put, List.setIfInBounds_toArray, List.set_cons_zero, List.set_cons_succ]
    refine wpAnyG_take' (i := 19) (v := ?v19_20pa) rfl (by kernel_rfl) (by kernel_rfl) (by kernel_rfl) (by kernel_rfl) (fun _ _ _ h => h) (Or.inl ⟨by rfl, ?hy19_20pa⟩) g4 ?rest19_20pa
    case hy19_20pa => intro w hSw; (try dsimp only at hSw); go_simp; (try with_reducible rfl)
    case rest19_20pa =>
    try simp only [List.getElem_toArray, List.getElem_cons_succ, List.getElem_cons_zero, Act.put, List.setIfInBounds_toArray, List.set_cons_zero, List.set_cons_succ]
    refine wpAnyG_take' (i := 20) (v := ?v20_21pa) rfl (by kernel_rfl) (by kernel_rfl) (by kernel_rfl) (by kernel_rfl) (fun _ _ _ h => h) (Or.inl ⟨by rfl, ?hy20_21pa⟩) g4 ?rest20_21pa
    case hy20_21pa => intro w hSw; (try dsimp only at hSw); go_simp; (try with_reducible rfl)
    case rest20_21pa =>
    try simp only [List.getElem_toArray, List.getElem_cons_succ, List.getElem_cons_zero, Act.put, List.setIfInBounds_toArray, List.set_cons_zero, List.set_cons_succ]
    refine wpAnyG_one (i := 21) (by kernel_rfl) rfl (fun K hK => ?_)
    go_simp
    have hz : Sep w [By (.slice a1 (bv bt).length c1) bt, By (.slice a2 (bv bt).length c2) bt, Cl m #[.slice aM nF cM] 49] _ := HD9.out.pick [6, 5, 0] rfl
    have he := eqBytes_any _ _ _ _ _ hz.sl hz.sw2.sl
    rw [show (bt == bt) = true from beq_self_eq_true bt] at he
    refine Calls.mono he ?_
    rintro r21 w10 ⟨rfl, rfl⟩
    clear he
    have HZ := Lib.hid hz
    clear hz HD9
    (try dsimp only); repeat' (first | go_values | go_skip | go_guarded | go_step | go_upon | go_back)
    refine hK.out _ _ (fun _ => ?hS22pa) ?rest22pa
    case hS22pa => exact g4
    clear K hK
    try simp only [List.getElem_toArray, List.getElem_cons_succ, List.getElem_cons_zero, Act.put, List.setIfInBounds_toArray, List.set_cons_zero, List.set_cons_succ]
    refine wpAnyG_take' (i := 22) (v := ?v22_23pa) rfl (by kernel_rfl) (by kernel_rfl) (by kernel_rfl) (by kernel_rfl) (fun _ _ _ h => h) (Or.inl ⟨by rfl, ?hy22_23pa⟩) g4 ?rest22_23pa
    case hy22_23pa => intro w hSw; (try dsimp only at hSw); go_simp; (try with_reducible rfl)
    case rest22_23pa =>
    try simp only [List.getElem_toArray, List.getElem_cons_succ, List.getElem_cons_zero, Act.put, List.setIfInBounds_toArray, List.set_cons_zero, List.set_cons_succ]
    refine wpAnyG_take' (i := 23) (v := ?v23_24pa) rfl (by kernel_rfl) (by kernel_rfl) (by kernel_rfl) (by kernel_rfl) (fun _ _ _ h => h) (Or.inl ⟨by rfl, ?hy23_24pa⟩) g4 ?rest23_24pa
    case hy23_24pa => intro w hSw; (try dsimp only at hSw); go_simp; (try with_reducible rfl)
    case rest23_24pa =>
    try simp only [List.getElem_toArray, List.getElem_cons_succ, List.getElem_cons_zero, Act.put, List.setIfInBounds_toArray, List.set_cons_zero, List.set_cons_succ]
    refine wpAnyG_one (i := 24) (by kernel_rfl) rfl (fun K hK => ?_)
    go_simp
    refine Calls.mono (works10_any HZ.out) ?_
    rintro r24 w11 ⟨rfl, hz⟩
    have g5 := hz.sw3.cell (o := 0) rfl
    have HY := Lib.hid hz
    clear hz HZ
    have HZ := HY
    clear HY
    (try dsimp only); repeat' (first | go_values | go_skip | go_guarded | go_step | go_upon | go_back)
    refine hK.out _ _ (fun _ => ?hS25pa) ?rest25pa
    case hS25pa => exact g5
    clear K hK
    try simp only [List.getElem_toArray, List.getElem_cons_succ, List.getElem_cons_zero, Act.put, List.setIfInBounds_toArray, List.set_cons_zero, List.set_cons_succ]
    refine wpAnyG_take' (i := 25) (v := ?v25_26pa) rfl (by kernel_rfl) (by kernel_rfl) (by kernel_rfl) (by kernel_rfl) (fun _ _ _ h => h) (Or.inl ⟨by rfl, ?hy25_26pa⟩) g5 ?rest25_26pa
    case hy25_26pa => intro w hSw; (try dsimp only at hSw); go_simp; (try with_reducible rfl)
    case rest25_26pa =>
    try simp only [List.getElem_toArray, List.getElem_cons_succ, List.getElem_cons_zero, Act.put, List.setIfInBounds_toArray, List.set_cons_zero, List.set_cons_succ]
    refine wpAnyG_take' (i := 26) (v := ?v26_27pa) rfl (by kernel_rfl) (by kernel_rfl) (by kernel_rfl) (by kernel_rfl) (fun _ _ _ h => h) (Or.inl ⟨by rfl, ?hy26_27pa⟩) g5 ?rest26_27pa
    case hy26_27pa => intro w hSw; (try dsimp only at hSw); go_simp; (try with_reducible rfl)
    case rest26_27pa =>
    try simp only [List.getElem_toArray, List.getElem_cons_succ, List.getElem_cons_zero, Act.put, List.setIfInBounds_toArray, List.set_cons_zero, List.set_cons_succ]
    refine wpAnyG_done (by kernel_rfl) ?_ _
    try simp only [List.getElem_toArray, List.getElem_cons_succ, List.getElem_cons_zero, Act.put, List.setIfInBounds_toArray, List.set_cons_zero, List.set_cons_succ]
    clear hS
    (try dsimp only); repeat' (first | go_values | go_skip | go_guarded | go_step | go_upon | go_back)
    go_ret
    exact ⟨rfl, HZ.out.low⟩
  · have HO := Lib.hid (HT.out.mono (R' := fun e w' => e = .returned (.tuple #[.pointer none, .int .i64 er]) ∧ Sep w [By (.slice a2 (bv bt).length c2) bt, By (.slice a1 (bv bt).length c1) bt] w') (by
      rintro e w' (⟨T', t, h1, h2, h3⟩ | ⟨er', h1, h2, h3, h4⟩)
      · rw [hE] at h1; cases h1
      · rw [hE] at h1; cases h1; exact ⟨h3, h4⟩))
    have hD := docO_eq bt
    rw [hE] at hD
    have HD := Lib.hid hD
    have d1 : (er != 0) = true := by rw [bne_iff_ne]; exact hne
    have d2 : (er != er) = false := by simp
    have HNE := Lib.hid hne
    clear HT hE hD hne
    (try dsimp only); repeat' (first | go_values | go_skip | go_guarded | go_step | go_upon | go_back)
    refine HO.out.mono ?_
    rintro r2 w3 ⟨rfl, h3⟩
    have HT2 := Lib.hid ((dopen_any _ bt h3 h3.sl (by have := HTL.out; omega)).mono (R' := fun e w' => e = .returned (.tuple #[.pointer none, .int .i64 er]) ∧ Sep w [By (.slice a2 (bv bt).length c2) bt, By (.slice a1 (bv bt).length c1) bt] w') (by
      rintro e w' (⟨F, g, h1, h2, h3⟩ | ⟨er', h1, h2, h3, h4⟩)
      · rw [HD.out] at h1; cases h1
      · rw [HD.out] at h1; cases h1; exact ⟨h3, h4⟩))
    clear HO HD h3
    (try dsimp only); repeat' (first | go_values | go_skip | go_guarded | go_step | go_upon | go_back)
    refine HT2.out.mono ?_
    rintro r3 w4 ⟨rfl, h4⟩
    have H5 := Lib.hid h4
    clear HT2 h4
    (try dsimp only); repeat' (first | go_values | go_skip | go_guarded | go_step | go_upon | go_back)
    refine wp_region_G (fun w' => True) [] (by kernel_rfl) trivial (fun hS => ?_)
    try dsimp only at hS
    refine wpAnyG_take' (i := 0) (v := ?v0_1pb) rfl (by kernel_rfl) (by kernel_rfl) (by kernel_rfl) (by kernel_rfl) (fun _ _ _ h => h) (Or.inl ⟨by rfl, ?hy0_1pb⟩) hS ?rest0_1pb
    case hy0_1pb => intro w hSw; (try dsimp only at hSw); go_simp; (try with_reducible rfl)
    case rest0_1pb =>
    try simp only [List.getElem_toArray, List.getElem_cons_succ, List.getElem_cons_zero, Act.put, List.setIfInBounds_toArray, List.set_cons_zero, List.set_cons_succ]
    refine wpAnyG_take' (i := 1) (v := ?v1_2pb) rfl (by kernel_rfl) (by kernel_rfl) (by kernel_rfl) (by kernel_rfl) (fun _ _ _ h => h) (Or.inl ⟨by rfl, ?hy1_2pb⟩) hS ?rest1_2pb
    case hy1_2pb => intro w hSw; (try dsimp only at hSw); go_simp; (try with_reducible rfl)
    case rest1_2pb =>
    try simp only [List.getElem_toArray, List.getElem_cons_succ, List.getElem_cons_zero, Act.put, List.setIfInBounds_toArray, List.set_cons_zero, List.set_cons_succ]
    refine wpAnyG_take' (i := 2) (v := ?v2_3pb) rfl (by kernel_rfl) (by kernel_rfl) (by kernel_rfl) (by kernel_rfl) (fun _ _ _ h => h) (Or.inl ⟨by rfl, ?hy2_3pb⟩) hS ?rest2_3pb
    case hy2_3pb => intro w hSw; (try dsimp only at hSw); go_simp; (try with_reducible rfl)
    case rest2_3pb =>
    try simp only [List.getElem_toArray, List.getElem_cons_succ, List.getElem_cons_zero, Act.put, List.setIfInBounds_toArray, List.set_cons_zero, List.set_cons_succ]
    refine wpAnyG_take' (i := 3) (v := undef) rfl (by kernel_rfl) (by kernel_rfl) (by kernel_rfl) (by kernel_rfl) (fun _ _ _ h => h) (Or.inr ⟨by rfl, rfl⟩) hS ?rest3_4pb
    case rest3_4pb =>
    try simp only [List.getElem_toArray, List.getElem_cons_succ, List.getElem_cons_zero, Act.put, List.setIfInBounds_toArray, List.set_cons_zero, List.set_cons_succ]
    refine wpAnyG_take' (i := 4) (v := undef) rfl (by kernel_rfl) (by kernel_rfl) (by kernel_rfl) (by kernel_rfl) (fun _ _ _ h => h) (Or.inr ⟨by rfl, rfl⟩) hS ?rest4_5pb
    case rest4_5pb =>
    try simp only [List.getElem_toArray, List.getElem_cons_succ, List.getElem_cons_zero, Act.put, List.setIfInBounds_toArray, List.set_cons_zero, List.set_cons_succ]
    refine wpAnyG_take' (i := 5) (v := undef) rfl (by kernel_rfl) (by kernel_rfl) (by kernel_rfl) (by kernel_rfl) (fun _ _ _ h => h) (Or.inr ⟨by rfl, rfl⟩) hS ?rest5_6pb
    case rest5_6pb =>
    try simp only [List.getElem_toArray, List.getElem_cons_succ, List.getElem_cons_zero, Act.put, List.setIfInBounds_toArray, List.set_cons_zero, List.set_cons_succ]
    refine wpAnyG_take' (i := 6) (v := undef) rfl (by kernel_rfl) (by kernel_rfl) (by kernel_rfl) (by kernel_rfl) (fun _ _ _ h => h) (Or.inr ⟨by rfl, rfl⟩) hS ?rest6_7pb
    case rest6_7pb =>
    try simp only [List.getElem_toArray, List.getElem_cons_succ, List.getElem_cons_zero, Act.put, List.setIfInBounds_toArray, List.set_cons_zero, List.set_cons_succ]
    refine wpAnyG_take' (i := 7) (v := undef) rfl (by kernel_rfl) (by kernel_rfl) (by kernel_rfl) (by kernel_rfl) (fun _ _ _ h => h) (Or.inr ⟨by rfl, rfl⟩) hS ?rest7_8pb
    case rest7_8pb =>
    try simp only [List.getElem_toArray, List.getElem_cons_succ, List.getElem_cons_zero, Act.put, List.setIfInBounds_toArray, List.set_cons_zero, List.set_cons_succ]
    refine wpAnyG_take' (i := 8) (v := undef) rfl (by kernel_rfl) (by kernel_rfl) (by kernel_rfl) (by kernel_rfl) (fun _ _ _ h => h) (Or.inr ⟨by rfl, rfl⟩) hS ?rest8_9pb
    case rest8_9pb =>
    try simp only [List.getElem_toArray, List.getElem_cons_succ, List.getElem_cons_zero, Act.put, List.setIfInBounds_toArray, List.set_cons_zero, List.set_cons_succ]
    refine wpAnyG_take' (i := 9) (v := undef) rfl (by kernel_rfl) (by kernel_rfl) (by kernel_rfl) (by kernel_rfl) (fun _ _ _ h => h) (Or.inr ⟨by rfl, rfl⟩) hS ?rest9_10pb
    case rest9_10pb =>
    try simp only [List.getElem_toArray, List.getElem_cons_succ, List.getElem_cons_zero, Act.put, List.setIfInBounds_toArray, List.set_cons_zero, List.set_cons_succ]
    refine wpAnyG_take' (i := 10) (v := undef) rfl (by kernel_rfl) (by kernel_rfl) (by kernel_rfl) (by kernel_rfl) (fun _ _ _ h => h) (Or.inr ⟨by rfl, rfl⟩) hS ?rest10_11pb
    case rest10_11pb =>
    try simp only [List.getElem_toArray, List.getElem_cons_succ, List.getElem_cons_zero, Act.put, List.setIfInBounds_toArray, List.set_cons_zero, List.set_cons_succ]
    refine wpAnyG_take' (i := 11) (v := undef) rfl (by kernel_rfl) (by kernel_rfl) (by kernel_rfl) (by kernel_rfl) (fun _ _ _ h => h) (Or.inr ⟨by rfl, rfl⟩) hS ?rest11_12pb
    case rest11_12pb =>
    try simp only [List.getElem_toArray, List.getElem_cons_succ, List.getElem_cons_zero, Act.put, List.setIfInBounds_toArray, List.set_cons_zero, List.set_cons_succ]
    refine wpAnyG_take' (i := 12) (v := undef) rfl (by kernel_rfl) (by kernel_rfl) (by kernel_rfl) (by kernel_rfl) (fun _ _ _ h => h) (Or.inr ⟨by rfl, rfl⟩) hS ?rest12_13pb
    case rest12_13pb =>
    try simp only [List.getElem_toArray, List.getElem_cons_succ, List.getElem_cons_zero, Act.put, List.setIfInBounds_toArray, List.set_cons_zero, List.set_cons_succ]
    refine wpAnyG_take' (i := 13) (v := undef) rfl (by kernel_rfl) (by kernel_rfl) (by kernel_rfl) (by kernel_rfl) (fun _ _ _ h => h) (Or.inr ⟨by rfl, rfl⟩) hS ?rest13_14pb
    case rest13_14pb =>
    try simp only [List.getElem_toArray, List.getElem_cons_succ, List.getElem_cons_zero, Act.put, List.setIfInBounds_toArray, List.set_cons_zero, List.set_cons_succ]
    refine wpAnyG_take' (i := 14) (v := undef) rfl (by kernel_rfl) (by kernel_rfl) (by kernel_rfl) (by kernel_rfl) (fun _ _ _ h => h) (Or.inr ⟨by rfl, rfl⟩) hS ?rest14_15pb
    case rest14_15pb =>
    try simp only [List.getElem_toArray, List.getElem_cons_succ, List.getElem_cons_zero, Act.put, List.setIfInBounds_toArray, List.set_cons_zero, List.set_cons_succ]
    refine wpAnyG_take' (i := 15) (v := undef) rfl (by kernel_rfl) (by kernel_rfl) (by kernel_rfl) (by kernel_rfl) (fun _ _ _ h => h) (Or.inr ⟨by rfl, rfl⟩) hS ?rest15_16pb
    case rest15_16pb =>
    try simp only [List.getElem_toArray, List.getElem_cons_succ, List.getElem_cons_zero, Act.put, List.setIfInBounds_toArray, List.set_cons_zero, List.set_cons_succ]
    refine wpAnyG_take' (i := 16) (v := undef) rfl (by kernel_rfl) (by kernel_rfl) (by kernel_rfl) (by kernel_rfl) (fun _ _ _ h => h) (Or.inr ⟨by rfl, rfl⟩) hS ?rest16_17pb
    case rest16_17pb =>
    try simp only [List.getElem_toArray, List.getElem_cons_succ, List.getElem_cons_zero, Act.put, List.setIfInBounds_toArray, List.set_cons_zero, List.set_cons_succ]
    refine wpAnyG_take' (i := 17) (v := ?v17_18pb) rfl (by kernel_rfl) (by kernel_rfl) (by kernel_rfl) (by kernel_rfl) (fun _ _ _ h => h) (Or.inl ⟨by rfl, ?hy17_18pb⟩) hS ?rest17_18pb
    case hy17_18pb => intro w hSw; (try dsimp only at hSw); go_simp; (try with_reducible rfl)
    case rest17_18pb =>
    try simp only [List.getElem_toArray, List.getElem_cons_succ, List.getElem_cons_zero, Act.put, List.setIfInBounds_toArray, List.set_cons_zero, List.set_cons_succ]
    refine wpAnyG_take' (i := 18) (v := ?v18_19pb) rfl (by kernel_rfl) (by kernel_rfl) (by kernel_rfl) (by kernel_rfl) (fun _ _ _ h => h) (Or.inl ⟨by rfl, ?hy18_19pb⟩) hS ?rest18_19pb
    case hy18_19pb => intro w hSw; (try dsimp only at hSw); go_simp; (try with_reducible rfl)
    case rest18_19pb =>
    try simp only [List.getElem_toArray, List.getElem_cons_succ, List.getElem_cons_zero, Act.put, List.setIfInBounds_toArray, List.set_cons_zero, List.set_cons_succ]
    refine wpAnyG_take' (i := 19) (v := ?v19_20pb) rfl (by kernel_rfl) (by kernel_rfl) (by kernel_rfl) (by kernel_rfl) (fun _ _ _ h => h) (Or.inl ⟨by rfl, ?hy19_20pb⟩) hS ?rest19_20pb
    case hy19_20pb => intro w hSw; (try dsimp only at hSw); go_simp; (try with_reducible rfl)
    case rest19_20pb =>
    try simp only [List.getElem_toArray, List.getElem_cons_succ, List.getElem_cons_zero, Act.put, List.setIfInBounds_toArray, List.set_cons_zero, List.set_cons_succ]
    refine wpAnyG_take' (i := 20) (v := ?v20_21pb) rfl (by kernel_rfl) (by kernel_rfl) (by kernel_rfl) (by kernel_rfl) (fun _ _ _ h => h) (Or.inl ⟨by rfl, ?hy20_21pb⟩) hS ?rest20_21pb
    case hy20_21pb => intro w hSw; (try dsimp only at hSw); go_simp; (try with_reducible rfl)
    case rest20_21pb =>
    try simp only [List.getElem_toArray, List.getElem_cons_succ, List.getElem_cons_zero, Act.put, List.setIfInBounds_toArray, List.set_cons_zero, List.set_cons_succ]
    refine wpAnyG_one (i := 21) (by kernel_rfl) rfl (fun K hK => ?_)
    go_simp
    have hz : Sep w [By (.slice a1 (bv bt).length c1) bt, By (.slice a2 (bv bt).length c2) bt] _ := H5.out.drew.pick [1, 0] rfl
    have he := eqBytes_any _ _ _ _ _ hz.sl hz.sw2.sl
    rw [show (bt == bt) = true from beq_self_eq_true bt] at he
    refine Calls.mono he ?_
    rintro r21 w10 ⟨rfl, rfl⟩
    clear he
    have HZ := Lib.hid hz
    clear hz H5
    (try dsimp only); repeat' (first | go_values | go_skip | go_guarded | go_step | go_upon | go_back)
    refine hK.out _ _ (fun _ => ?hS22pb) ?rest22pb
    case hS22pb => exact trivial
    clear K hK
    try simp only [List.getElem_toArray, List.getElem_cons_succ, List.getElem_cons_zero, Act.put, List.setIfInBounds_toArray, List.set_cons_zero, List.set_cons_succ]
    refine wpAnyG_take' (i := 22) (v := ?v22_23pb) rfl (by kernel_rfl) (by kernel_rfl) (by kernel_rfl) (by kernel_rfl) (fun _ _ _ h => h) (Or.inl ⟨by rfl, ?hy22_23pb⟩) trivial ?rest22_23pb
    case hy22_23pb => intro w hSw; (try dsimp only at hSw); go_simp; (try with_reducible rfl)
    case rest22_23pb =>
    try simp only [List.getElem_toArray, List.getElem_cons_succ, List.getElem_cons_zero, Act.put, List.setIfInBounds_toArray, List.set_cons_zero, List.set_cons_succ]
    refine wpAnyG_take' (i := 23) (v := ?v23_24pb) rfl (by kernel_rfl) (by kernel_rfl) (by kernel_rfl) (by kernel_rfl) (fun _ _ _ h => h) (Or.inl ⟨by rfl, ?hy23_24pb⟩) trivial ?rest23_24pb
    case hy23_24pb => intro w hSw; (try dsimp only at hSw); go_simp; (try with_reducible rfl)
    case rest23_24pb =>
    try simp only [List.getElem_toArray, List.getElem_cons_succ, List.getElem_cons_zero, Act.put, List.setIfInBounds_toArray, List.set_cons_zero, List.set_cons_succ]
    refine wpAnyG_one (i := 24) (by kernel_rfl) rfl (fun K hK => ?_)
    go_simp
    refine Calls.mono (works10_any HZ.out) ?_
    rintro r24 w11 ⟨rfl, hz⟩
    have HY := Lib.hid hz
    clear hz HZ
    have HZ := HY
    clear HY
    (try dsimp only); repeat' (first | go_values | go_skip | go_guarded | go_step | go_upon | go_back)
    refine hK.out _ _ (fun _ => ?hS25pb) ?rest25pb
    case hS25pb => exact trivial
    clear K hK
    try simp only [List.getElem_toArray, List.getElem_cons_succ, List.getElem_cons_zero, Act.put, List.setIfInBounds_toArray, List.set_cons_zero, List.set_cons_succ]
    refine wpAnyG_take' (i := 25) (v := ?v25_26pb) rfl (by kernel_rfl) (by kernel_rfl) (by kernel_rfl) (by kernel_rfl) (fun _ _ _ h => h) (Or.inl ⟨by rfl, ?hy25_26pb⟩) trivial ?rest25_26pb
    case hy25_26pb => intro w hSw; (try dsimp only at hSw); go_simp; (try with_reducible rfl)
    case rest25_26pb =>
    try simp only [List.getElem_toArray, List.getElem_cons_succ, List.getElem_cons_zero, Act.put, List.setIfInBounds_toArray, List.set_cons_zero, List.set_cons_succ]
    refine wpAnyG_take' (i := 26) (v := ?v26_27pb) rfl (by kernel_rfl) (by kernel_rfl) (by kernel_rfl) (by kernel_rfl) (fun _ _ _ h => h) (Or.inl ⟨by rfl, ?hy26_27pb⟩) trivial ?rest26_27pb
    case hy26_27pb => intro w hSw; (try dsimp only at hSw); go_simp; (try with_reducible rfl)
    case rest26_27pb =>
    try simp only [List.getElem_toArray, List.getElem_cons_succ, List.getElem_cons_zero, Act.put, List.setIfInBounds_toArray, List.set_cons_zero, List.set_cons_succ]
    refine wpAnyG_done (by kernel_rfl) ?_ _
    try simp only [List.getElem_toArray, List.getElem_cons_succ, List.getElem_cons_zero, Act.put, List.setIfInBounds_toArray, List.set_cons_zero, List.set_cons_succ]
    clear hS
    (try dsimp only); repeat' (first | go_values | go_skip | go_guarded | go_step | go_upon | go_back)
    go_ret
    exact ⟨rfl, HZ.out.low⟩
end Go.Proofs.Ytjjjkfdppleagaa
